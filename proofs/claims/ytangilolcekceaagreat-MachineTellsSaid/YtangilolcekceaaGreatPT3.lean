import Derived.Test.YtangilolcekceaaGreatPT2
import Derived.BigQuiet
import Derived.Laws.CopyRow
import Derived.Laws.CopyOwn
import Derived.Laws.MakeOwn
import Derived.RangeFuncNested
import Derived.RangeFuncBound
import Derived.RangeFuncCalls
import Derived.RangeFuncLeaves
import Derived.Shelf.Abstract
import Derived.Shelf.RegionOpen
import Derived.WalkKit
import Derived.OwnWalkIn
import Derived.TacticsInMore
import Derived.LoopNIn
import Derived.LoopIn
namespace Go.Proofs.YtangilolcekceaaGreat
set_option maxRecDepth 100000
set_option maxHeartbeats 4000000
variable{B0 B1 b base' hi i id j:Nat} {L:List Int} {Q Q':Exit->Act->World->Prop} {T:List (Nat->En)} {V:MaV} {e t:TypeId} {m:Ma} {o oi oj:Oper} {ops:Array Oper} {vl vt:Sli} {w w' w0:World} {xs:List Value} {z:Int}
open Go.Proofs.Tryz
section
open Go.RowKit
theorem zcd (v:Value) (fs:List Fr) (w:World) (hv:qy w v fs):
  Calls prog 102 #[v] w fun e w'=>∃v',e= .returned v'/\zF w.heap.size w' v' fs/\zc w w':=by
 have HV:Hid (qy w v fs):=hv;obtain⟨⟨a,c,rfl,hnone,hcells⟩,hbytes⟩:=hv;have q22:∀(w:World) (a:Option Addr) (n c n' c':Nat),(binOp .eql 25 (.slice a n c) (.slice none n' c')).run prog w= .ok (.bool a.isNone) w:=fun w a n c n' c'=>Lib.run_eql_slice_nil w _ _ a n c n' c' underlying25
 cases a with
 | none=>
  have hps:=hnone rfl;subst hps;clear hcells hnone hbytes
  go_enter func102,ntmps102
  go_wp2;go_ret;exact⟨_,rfl,zF.nil _ _,zc.refl w⟩
 | some x=>
  have HB:Hid (fs.length*40<=140737488355328):=hbytes;clear hcells hnone hbytes
  go_enter func102,ntmps102
  go_wp2_with (at_builtin;refine zag rfl (.tmp 5) (.tmp 6) rfl w.heap.size _ [] rfl (zF.made w) _ fs rfl (HV.grew (za _ _)) ?qb (by simp) ?_)
  case qb=>rw[List.length_nil,zA];exact HB.out
  intro v' w1 hown hgrow;go_wp2;go_ret;exact⟨v',rfl,by simpa using hown,((bR _ w).alloc (nR _) _).grown hgrow (by simp) (by intro k hk;simp[Value.ownBlock]at hk;omega)⟩
theorem zgT (a:Option Addr) (c:Nat) (fs:List Fr) (h:Int) (w:World) (hv:qy w (.slice a fs.length c) fs):
  Calls prog 51 #[.agg #[.slice a fs.length c,I6 h]] w fun e w'=>∃b,e= .returned (.agg #[b,I6 h])/\zF w.heap.size w' b fs/\zc w w':=by
 have HV:Hid (qy w (.slice a fs.length c) fs):=hv;clear hv;obtain⟨n,HN⟩:∃n,Hid (fs.length=n):=⟨_,rfl⟩;rw[HN.out]at HV⊢
 go_enter func51,ntmps51
 go_wp2;obtain⟨W1,hW⟩:∃W1,(w.alloc (.cells #[.slice a n c,I6 h] 27)).alloc (.cells #[eS,I6 0] 27)=W1:=⟨_,rfl⟩;have hg1:=gD2 hW
 have hsz:Hid (W1.heap.size=w.heap.size+2):=dD<|by rw[<-hW];simp
 have X0:=x2a hW
 have X1:=x2b hW
 rw[hW];clear hW;have hx0:∀x:zR W1,x.world.cell? ⟨w.heap.size,0,none⟩=some (.slice a n c):=fun x=>(X0.grew x.grew).c 0 rfl
 have hx1:∀x:zR W1,x.world.cell? ⟨w.heap.size,1,none⟩=some (I6 h):=fun x=>(X0.grew x.grew).c 1 rfl
 have hne:Nonempty (zR W1):=⟨⟨_,zc.refl _⟩⟩;refine J3 6 [(2,⟨fun v=>∃a n c,v= .slice a n c,fun v w'=>zF (w.heap.size+2) w' v fs⟩)] qu (by kernel_rfl) rfl rfl (by decide) ?_ ?_ ?_
 ·intro x hx
  simp at hx
  subst hx;exact⟨_,none,0,0,rfl⟩
 ·intro x hx
  simp at hx
  subst hx;intro v w1 w2 hg h;exact h.grew hg
 simp only[List.take,List.drop];iterate 2 (refine zp rfl rfl rfl (fun K hK=>?_);go_big_quiet_op;refine hK _ ?_;clear hK)
 refine zV rfl rfl (fun w' hg hF=>?_) (fun v1 hv=>?_)
 ·refine zP.call [.slice a n c] rfl func102 rfl rfl rfl ?_;refine(zcd _ fs w' (HV.grew (hg1.out.trans hg))).mono ?_;rintro e w'' ⟨v2,rfl,hb,hg2⟩;obtain⟨a2,c2,rfl⟩:=hb.form;exact⟨_,rfl,hg2,⟨_,_,_,rfl⟩,hb.base (by have:=bS hg;rw[hsz.out]at this;exact this)⟩
 obtain⟨a1,n1,c1,rfl⟩:=hv;simp only[Act.put,sB,sS,sZ];iterate 3 (refine zp rfl rfl rfl (fun K hK=>?_);go_big_quiet_op;refine hK _ ?_;clear hK)
 refine je fun w' hg hF=>?_
 have ow1:Hid (zF (w.heap.size+2) w' (.slice a1 n1 c1) fs):=hF 2;have X2:=X1.grew hg;have m2:=X2.c 0 rfl;have m3:=X2.c 1 rfl;have g2:=X2.f;have HG:=dD (hg1.out.trans hg);clear hF hx0 hx1 hg hne;go_wp2;refine bodyPost_ret (v:= .agg #[.slice a1 n1 c1,I6 h]) (by simp[results,Tryz.results51,go_sem, *]) rfl ⟨_,rfl,((ow1.out.setCell (by simp) _).setCell (by simp) _).base (by omega),?_⟩
 exact Below.setCell (Below.setCell HG (p:=⟨w.heap.size+1,0,none⟩) (by simp) _) (p:=⟨w.heap.size+1,1,none⟩) (by simp) _
theorem zhh (v:Value) (fs:List Int) (w:World) (hv:zr slE w v fs):
  Calls prog 52 #[v] w fun e w'=>∃v',e= .returned v'/\zb slE w.heap.size w' v' fs/\zc w w':=by
 have HV:Hid (zr slE w v fs):=hv;obtain⟨⟨a,c,rfl,hnone,hcells⟩,hbytes⟩:=hv;have q22:∀(w:World) (a:Option Addr) (n c n' c':Nat),(binOp .eql 29 (.slice a n c) (.slice none n' c')).run prog w= .ok (.bool a.isNone) w:=fun w a n c n' c'=>Lib.run_eql_slice_nil w _ _ a n c n' c' underlying29
 cases a with
 | none=>
  have hps:=hnone rfl;subst hps;clear hcells hnone hbytes
  go_enter func52,ntmps52
  go_wp2;go_ret;exact⟨_,rfl,zb.nil _ _ _,zc.refl w⟩
 | some x=>
  have HB:Hid (fs.length*8<=140737488355328):=hbytes;clear hcells hnone hbytes
  go_enter func52,ntmps52
  go_wp2_with (at_builtin;refine zw (E:=slE) rfl (.tmp 5) (.tmp 6) rfl w.heap.size _ [] rfl (zb.made slE w) _ fs rfl (HV.grew (za _ _)) ?qb (by simp) ?_)
  case qb=>rw[List.length_nil,zA];exact HB.out
  intro v' w1 hown hgrow;go_wp2;go_ret;exact⟨v',rfl,by simpa using hown,((bR _ w).alloc (nR _) _).grown hgrow (by simp) (by intro k hk;simp[Value.ownBlock]at hk;omega)⟩
section
variable(I:World->Prop) (P:Program) (ops:Array Oper) (S:Nat->Option (Value->Prop))
def jL (i:Nat) (F:Nat->World->Prop) (a:Act) (K:(Nat->World->Prop)->Act->Prop):Prop:=
 match ops[i]? with
 | none=>False
 | some o=>
  if Region.wanted o (yielded ops a.tmps)then
   match S i with
   | none=>∃v,(∀w,I w->(∀m,anc ops 9 m i=true->F m w)->(execOp a.eval o).run P w= .ok (.value v) w)/\K F (a.put o.dst v)
   | some s=>∃p:Value->World->Prop,(∀v w w',zc w w'->p v w->p v w')/\(∀w,I w->(∀m,anc ops 9 m i=true->F m w)->zP P o a w fun v w'=>I w'/\zc w w'/\s v/\p v w')/\∀v,s v->K (Za F i (p v)) (a.put o.dst v)
  else K F (a.put o.dst undef)
def ziY (Q:Act->World->Prop):List Nat->(Nat->World->Prop)->Act->Prop
 | [],F,a=>∀w,I w->(∀i,F i w)->Q a w
 | i :: l,F,a=>jL I P ops S i F a (ziY Q l)
end
section
variable{I:World->Prop} {P:Program} {ops:Array Oper} {S:Nat->Option (Value->Prop)} {T:Nat}
theorem jL.mono {F:Nat->World->Prop} {a:Act} {K K':(Nat->World->Prop)->Act->Prop}
  (h:∀F' a',(∀m,m≠i->F' m=F m)->K F' a'->K' F' a') (hc:jL I P ops S i F a K):jL I P ops S i F a K':=by
 unfold jL at*
 split
 ·rename_i ho;simp only[ho]at hc
 rename_i o ho
 simp only[ho]at hc
 split
 ·rename_i hw
  simp only[hw,if_true]at hc
  split
  ·rename_i hs
   simp only[hs]at hc;obtain⟨v,h1,h2⟩:=hc;exact⟨v,h1,h _ _ (fun _ _=>rfl) h2⟩
  rename_i s hs
  simp only[hs]at hc;obtain⟨p,hp,hd,hc⟩:=hc;exact⟨p,hp,hd,fun v hv=>h _ _ (fun m hm=>zQ hm) (hc v hv)⟩
 rename_i hw
 simp only[hw]at hc;exact h _ _ (fun _ _=>rfl) hc
theorem jL.swap {F:Nat->World->Prop} {a:Act} {K:(Nat->World->Prop)->Act->Prop}
  (hi:ops[i]? =some oi) (hj:ops[j]? =some oj) (hne:i≠j) (hap:oi.apart ops oj=true)
  (hsi:∀cs b,oi.op≠.select cs b) (hsj:∀cs b,oj.op≠.select cs b)
  (hij:anc ops 9 i j=false) (hji:anc ops 9 j i=false) (hS:∀s,S i=some s->∃v,s v) (hch:S i≠none->S j≠none->anc ops 9 i j=true\/anc ops 9 j i=true)
  (hw0:I w) (hF:∀m,anc ops 9 m j=true->F m w)
  (h:jL I P ops S i F a fun F' a'=>jL I P ops S j F' a' K):jL I P ops S j F a fun F' a'=>jL I P ops S i F' a' K:=by
 obtain⟨h1,h2,h3⟩:=Oper.apart_spec hap;have ei:∀v,execOp (a.put oj.dst v).eval oi=execOp a.eval oi:=fun v=>execOp_put oi hsi a oj.dst v h3
 have ej:∀v,execOp (a.put oi.dst v).eval oj=execOp a.eval oj:=fun v=>execOp_put oj hsj a oi.dst v h1
 have wi:∀v,Region.wanted oi (yielded ops (a.put oj.dst v).tmps)=Region.wanted oi (yielded ops a.tmps):=fun v=>wanted_put oi a oj.dst v h3
 have wj:∀v,Region.wanted oj (yielded ops (a.put oi.dst v).tmps)=Region.wanted oj (yielded ops a.tmps):=fun v=>wanted_put oj a oi.dst v h1
 have di:∀v w K,zP P oi (a.put oj.dst v) w K=zP P oi a w K:=fun v w K=>by unfold zP;rw[ei]
 have dj:∀v w K,zP P oj (a.put oi.dst v) w K=zP P oj a w K:=fun v w K=>by unfold zP;rw[ej]
 have pc:∀v u,(a.put oi.dst v).put oj.dst u=(a.put oj.dst u).put oi.dst v:=fun v u=>Act.put_comm a v u h2
 have fi:∀p,(fun m=>anc ops 9 m i=true->Za F j p m w=F m w)=fun _=>True:=fun p=>by
  funext m
  simp only[eq_iff_iff,iff_true];intro hm;rw[zQ (fun e=>by subst e;rw[hji]at hm;cases hm)]
 have faci:∀p w',(∀m,anc ops 9 m i=true->Za F j p m w')↔(∀m,anc ops 9 m i=true->F m w'):=fun p w'=>by
  constructor <;> intro hh m hm <;> have:=hh m hm
  ·rwa [zQ (fun e=>by subst e;rw[hji]at hm;cases hm)]at this
  rwa [zQ (fun e=>by subst e;rw[hji]at hm;cases hm)]
 have facj:∀p w',(∀m,anc ops 9 m j=true->Za F i p m w')↔(∀m,anc ops 9 m j=true->F m w'):=fun p w'=>by
  constructor <;> intro hh m hm <;> have:=hh m hm
  ·rwa [zQ (fun e=>by subst e;rw[hij]at hm;cases hm)]at this
  rwa [zQ (fun e=>by subst e;rw[hij]at hm;cases hm)]
 clear fi;unfold jL at h⊢;simp only[hi,hj,ei,ej,wi,wj,di,dj,pc]at h⊢
 cases hwi:Region.wanted oi (yielded ops a.tmps) <;> cases hwj:Region.wanted oj (yielded ops a.tmps) <;>
  simp only[hwi,hwj,if_true,if_false,Bool.false_eq_true]at h⊢
 ·exact h
 ·cases hsj':S j with
  | none=>simp only[hsj']at h⊢;exact h
  | some s=>simp only[hsj']at h⊢;exact h
 ·cases hsi':S i with
  | none=>simp only[hsi']at h⊢;exact h
  | some s=>simp only[hsi']at h⊢;exact h
 cases hsi':S i with
 | none=>
  simp only[hsi']at h;obtain⟨vi,hri,h⟩:=h
  cases hsj':S j with
  | none=>
   simp only[hsj']at h⊢;obtain⟨vj,hrj,h⟩:=h;exact⟨vj,hrj,vi,hri,h⟩
  | some s=>
   simp only[hsj']at h⊢;obtain⟨p,hp,hd,hk⟩:=h;exact⟨p,hp,hd,fun vj hvj=>⟨vi,fun w' hw' hf=>hri w' hw' ((faci _ _).1 hf),hk vj hvj⟩⟩
 | some si=>
  simp only[hsi']at h;obtain⟨p,hp,hdi,h⟩:=h;obtain⟨v1,hv1⟩:=hS si hsi'
  cases hsj':S j with
  | none=>
   simp only[hsj']at h⊢;obtain⟨vj,hrj,_⟩:=h v1 hv1;refine⟨vj,fun w' hw' hf=>hrj w' hw' ((facj _ _).2 hf),p,hp,hdi,fun vi hvi=>?_⟩
   obtain⟨vj',hrj',hl⟩:=h vi hvi;have e1:=hrj w hw0 ((facj _ _).2 hF);have e2:=hrj' w hw0 ((facj _ _).2 hF);rw[e1]at e2;simp only[Result.ok.injEq,Next.value.injEq,and_true]at e2;subst e2;exact hl
  | some sj=>
   exfalso
   rcases hch (by rw[hsi'];simp) (by rw[hsj'];simp)with h1|h1
   ·rw[hij]at h1;cases h1
   rw[hji]at h1;cases h1
theorem ziY.commute {Q:Act->World->Prop} {j:Nat} {oj:Oper} {w:World} (hj:ops[j]? =some oj) (hw0:I w)
  (hsel:∀(k:Nat) (o:Oper) cs b,ops[k]? =some o->o.op≠.select cs b) (hS:∀k s,S k=some s->∃v,s v) (hch:∀i k,i<k->S i≠none->S k≠none->anc ops 9 i k=true):
  ∀(l:List Nat) (F:Nat->World->Prop) (a:Act),l.Nodup->j∈l->
   (∀i∈l,i≠j->∃oi,ops[i]? =some oi/\(i<j->oi.apart ops oj=true)/\anc ops 9 i j=false/\(i<j->anc ops 9 j i=false))->
   (l.Pairwise (·< ·))->(∀m,anc ops 9 m j=true->F m w)->ziY I P ops S Q l F a->ziY I P ops S Q (j :: l.filter (· != j)) F a
 | [],_,_,_,hm,_,_,_,_=>by cases hm
 | i :: l,F,a,hnd,hm,hall,hsorted,hF,h=>by
  by_cases hij:i=j
  ·subst hij;have:(i :: l).filter (· != i)=l:=by
    rw[List.filter_cons];simp only[bne_self_eq_false,Bool.false_eq_true,if_false];refine List.filter_eq_self.2 fun x hx=>?_
    have:x≠i:=fun e=>(List.nodup_cons.1 hnd).1 (e ▸ hx)
    simpa using this
   rw[this];exact h
  have hjl:j∈l:=by
   rcases mC.1 hm with e|e
   ·exact absurd e.symm hij
   exact e
  have hlt:i<j:=(List.pairwise_cons.1 hsorted).1 j hjl;obtain⟨oi,hoi,hap,haij,haji⟩:=hall i (by simp) hij
  have hf:(i :: l).filter (· != j)=i :: l.filter (· != j):=by
   rw[List.filter_cons];have:(i != j)=true:=by simpa using hij
   simp[this]
  rw[hf];refine jL.swap hoi hj hij (hap hlt) (fun cs b=>hsel i oi cs b hoi) (fun cs b=>hsel j oj cs b hj) haij (haji hlt) (hS i) (fun q1 q2=> .inl (hch i j hlt q1 q2)) hw0 hF ?_
  refine jL.mono (fun F' a' hF' hl=>?_) h
  refine ziY.commute hj hw0 hsel hS hch l F' a' (List.nodup_cons.1 hnd).2 hjl (fun k hk=>hall k (by simp[hk])) (List.pairwise_cons.1 hsorted).2 (fun m hma=>?_) hl
  rw[hF' m (fun e=>by subst e;rw[haij]at hma;cases hma)]
  exact hF m hma
theorem zdd {Q:Act->World->Prop} {l:List Oper} {m:Nat} (hB:Zi ops T=true) (hTl:T+m=ops.size) (hll:l.length=m) (hops:∀j,l[j]? =ops[T+j]?) (hS:∀k s,S k=some s->∃v,s v)
  (hch:∀i k,i<k->S i≠none->S k≠none->anc ops 9 i k=true) (hQ:∀a w,Q a w->wpList P ops Q' l a w):
  ∀(fuel:Nat) (listed:Array Bool) (F:Nat->World->Prop) (a:Act) (w:World),listed.size=ops.size->(∀i,T<=i->i<ops.size->listed.getD i true=false)->(zd listed T).length=fuel->Zr ops listed->I w->
   (∀i,F i w)->(∀i w w',zc w w'->F i w->F i w')->ziY I P ops S Q (zd listed T) F a->wpAny P .any ops Q' (fuel+m) listed a w:=by
 have hsel:=Region.noSelect_spec (ops:=ops) (by simp only[Zi,Bool.and_eq_true]at hB;exact hB.1.1)
 intro fuel
 induction fuel with
 | zero=>
  intro listed F a w hsz hout hl hc hw hF hFp h;have hnil:zd listed T=[]:=eN hl;rw[hnil]at h;rw[zA];refine ZD hB m l T listed a w (nR _) hsz hTl hll hops (fun i hi=>?_) hout (hQ _ _ (h w hw hF))
  cases hg:listed.getD i true with
  | true=>rfl
  | false=>
   have:i∈zd listed T:=List.mem_filter.2 ⟨List.mem_range.2 hi,by simp only[hg,beq_self_eq_true]⟩
   rw[hnil]at this;cases this
 | succ fuel ih=>
  intro listed F a w hsz hout hl hc hw hF hFp h;rw[Nat.add_right_comm];refine⟨fun hr=>?_,fun j hj=>?_⟩
  ·exfalso
   cases hu:zd listed T with
   | nil=>simp[hu]at hl
   | cons x xs=>
    have hx:x∈zd listed T:=by rw[hu];simp
    have hx':=List.mem_filter.1 hx;have hxT:x<T:=List.mem_range.1 hx'.1;have hxs:x<ops.size:=by omega
    have ho:ops[x]? =some ops[x]:=Array.getElem?_eq_getElem hxs;have hsorted:(zd listed T).Pairwise (·< ·):=List.Pairwise.filter _ List.pairwise_lt_range;have:x∈Region.ready .any ops listed:=by
     refine mem_ready.2 ⟨by simpa using hx'.2,ops[x],ho,fun e he hb=>?_⟩
     have hed:zaL ops e.on x=true:=(jr ho).2 ⟨e,he,hb,rfl⟩;have hlt:=jy hB ho _ hed
     cases hg:listed.getD e.on true with
     | true=>exact Jt (by omega) hg
     | false=>
      have hmem:e.on∈zd listed T:=List.mem_filter.2 ⟨List.mem_range.2 (by omega),by simp only[hg,beq_self_eq_true]⟩
      rw[hu]at hmem hsorted
      rcases mC.1 hmem with e1|e1
      ·omega
      have:=(List.pairwise_cons.1 hsorted).1 _ e1;omega
    rw[hr]at this;cases this
  obtain⟨h0,oj,hoj,hall⟩:=mem_ready.1 hj;have hjs:j<ops.size:=(aS.1 hoj).1;have hdir:∀k,zaL ops k j=true->listed.getD k false=true:=fun k hk=>by
   obtain⟨e,he,hb,rfl⟩:=(jr hoj).1 hk;exact hall e he hb
  have hjT:j<T:=by
   rcases Nat.lt_or_ge j T with h1|h1
   ·exact h1
   exfalso
   cases hu:zd listed T with
   | nil=>simp[hu]at hl
   | cons x xs=>
    have hx:x∈zd listed T:=by rw[hu];simp
    have hx':=List.mem_filter.1 hx;have hxT:x<T:=List.mem_range.1 hx'.1;have:=qg hc j x j hdir (j7 hB hoj h1 x (by omega))
    rw[qw (by simpa using hx'.2)]at this
    cases this
  have hju:j∈zd listed T:=List.mem_filter.2 ⟨List.mem_range.2 hjT,by simp only[h0,beq_self_eq_true]⟩
  have hnd:(zd listed T).Nodup:=List.Pairwise.filter _ List.nodup_range;have hsorted:(zd listed T).Pairwise (·< ·):=List.Pairwise.filter _ List.pairwise_lt_range;have hcm:=ziY.commute hoj hw hsel hS hch (zd listed T) F a hnd hju (fun i hi hij=>by
   have hi':=List.mem_filter.1 hi;have hun:listed.getD i false=false:=qw (by simpa using hi'.2)
   have his:i<ops.size:=by have:=List.mem_range.1 hi'.1;omega
   have hoi:ops[i]? =some ops[i]:=Array.getElem?_eq_getElem his;refine⟨ops[i],hoi,fun hlt=>?_,?_,fun hlt=>?_⟩
   ·rcases j8 hB hoj hjT i hlt with he|⟨oi,hoi',hap⟩
    ·have:=hdir i he;rw[hun]at this;cases this
    rw[hoi]at hoi';cases hoi';exact hap
   ·cases ha:anc ops 9 i j with
    | false=>rfl
    | true=>
     have:=qg hc 9 i j hdir ha;rw[hun]at this;cases this
   cases ha:anc ops 9 j i with
   | false=>rfl
   | true=>
    have:=zai hB 9 j i ha
    omega) hsorted (fun m _=>hF m) h
  have hsz':(listed.setIfInBounds j true).size=ops.size:=by simp[hsz]
  have hout':∀i,T<=i->i<ops.size->(listed.setIfInBounds j true).getD i true=false:=fun i hi hi'=>by rw[getD_set_ne true (by omega)];exact hout i hi hi'
  have hlen':(zd (listed.setIfInBounds j true) T).length=fuel:=by
   rw[qh (by omega)]
   have he:(zd listed T).filter (· != j)=(zd listed T).erase j:=by
    rw[List.Nodup.erase_eq_filter hnd]
   rw[he,List.length_erase_of_mem hju];omega
  have hc':Zr ops (listed.setIfInBounds j true):=fun i k hk hik=>by
   by_cases hkj:j=k
   ·subst hkj;exact getD_set_true (hdir i hik)
   rw[getD_set_ne false hkj]at hk;exact getD_set_true (hc i k hk hik)
  unfold wpOp;simp only[hoj];simp only[ziY,jL,hoj]at hcm;rw[<-qh (by omega)]at hcm
  split
  ·rename_i hwant
   simp only[hwant,if_true]at hcm;refine .inl ?_
   cases hs:S j with
   | none=>
    simp only[hs]at hcm;obtain⟨v,hrun,hk⟩:=hcm;have hr:=hrun w hw (fun m _=>hF m)
    unfold Oper.wp;rw[hr];exact ih _ F _ w hsz' hout' hlen' hc' hw hF hFp hk
   | some s=>
    simp only[hs]at hcm;obtain⟨p,hp,hd,hk⟩:=hcm;refine(hd w hw (fun m _=>hF m)).wp fun v w' ⟨hi',hstep,hpv,hpost⟩=>?_
    refine ih _ (Za F j (p v)) _ w' hsz' hout' hlen' hc' hi' (fun i=>?_) (fun i u u' hu h1=>?_) (hk v hpv)
    ·unfold Za
     split
     ·exact hpost
     exact hFp i w w' hstep (hF i)
    unfold Za at h1⊢
    split at h1
    ·rename_i e
     rw[if_pos e];exact hp v u u' hu h1
    rename_i e
    rw[if_neg e];exact hFp i u u' hu h1
  rename_i hwant
  simp only[hwant]at hcm;exact ih _ F _ w hsz' hout' hlen' hc' hw hF hFp hcm
end
section
variable{I:World->Prop} {P:Program} {ops:Array Oper} {S:Nat->Option (Value->Prop)} {Q:Act->World->Prop}
variable(I P ops S Q)in
def zap:List Oper->Nat->(Nat->World->Prop)->Act->Prop
 | [],_,F,a=>∀w,I w->(∀i,F i w)->Q a w
 | o :: rest,k,F,a=>
  if Region.wanted o (yielded ops a.tmps)then
   match S k with
   | none=>∃v,(∀w,I w->(∀m,anc ops 9 m k=true->F m w)->(execOp a.eval o).run P w= .ok (.value v) w)/\zap rest (k+1) F (a.put o.dst v)
   | some s=>∃p:Value->World->Prop,(∀v w w',zc w w'->p v w->p v w')/\(∀w,I w->(∀m,anc ops 9 m k=true->F m w)->zP P o a w fun v w'=>I w'/\zc w w'/\s v/\p v w')/\∀v,s v->zap rest (k+1) (Za F k (p v)) (a.put o.dst v)
  else zap rest (k+1) F (a.put o.dst undef)
theorem QR:∀(l:List Oper) (k:Nat) (F:Nat->World->Prop) (a:Act),(∀j,l[j]? =ops[k+j]?\/l.length<=j)->zap I P ops S Q l k F a->ziY I P ops S Q (List.range' k l.length) F a
 | [],_,_,_,_,h=>h
 | o :: l,k,F,a,hl,h=>by
  have h0:ops[k]? =some o:=by
   rcases hl 0 with e|e
   ·simpa using e.symm
   simp at e
  have hnext:∀j,l[j]? =ops[k+1+j]?\/l.length<=j:=fun j=>by
   rcases hl (j+1)with e|e
   ·left;rw[List.getElem?_cons_succ]at e;rw[e];congr 1;omega
   right;simpa using e
  simp only[List.length_cons,List.range'_succ,ziY,jL,h0];unfold zap at h
  split
  ·rename_i hw
   simp only[hw,if_true]at h
   cases hs:S k with
   | none=>
    simp only[hs]at h;obtain⟨v,h1,h2⟩:=h;exact⟨v,h1,QR l (k+1) _ _ hnext h2⟩
   | some s=>
    simp only[hs]at h;obtain⟨p,hp,hd,hk⟩:=h;exact⟨p,hp,hd,fun v hv=>QR l (k+1) _ _ hnext (hk v hv)⟩
  rename_i hw
  simp only[hw]at h;exact QR l (k+1) _ _ hnext h
variable(I P ops S Q)in
structure zeV (l:List Oper) (k:Nat) (F:Nat->World->Prop) (a:Act):Prop where
 out:zap I P ops S Q l k F a
theorem Qb {Q:Exit->Act->World->Prop} {a:Act} {L l r:List Oper} (T:Nat) (S:List (Nat ×(Value->Prop))) (hI:I w.drew) (hm:P.follows .mixedOrders=true) (hB:Zi L.toArray T=true) (hl:L.take T=l) (hr:L.drop T=r) (hT:T<=L.length)
  (hS:∀x∈S,∃v,x.2 v) (hch:((S.map (·.1)).all fun i=>(S.map (·.1)).all fun k=>!decide (i<k) || anc L.toArray 9 i k)=true)
  (h:zeV I P L.toArray (fun k=>S.lookup k) (fun a w=>wpList P L.toArray Q r a w) l 0 (fun _ _=>True) a):(Code.region id L.toArray true).wp P Q a w:=by
 have hlook:∀(S:List (Nat ×(Value->Prop))) k s,S.lookup k=some s->∃x∈S,x.2=s/\x.1=k:=by
  intro S
  induction S with
  | nil=>intro k s h;simp at h
  | cons x S ih=>
   intro k s h;rw[List.lookup_cons]at h
   split at h
   ·rename_i he
    exact⟨x,by simp,by simpa using h,by simpa using(by simpa using he:k=x.1).symm⟩
   obtain⟨y,hy,he⟩:=ih k s h;exact⟨y,by simp[hy],he⟩
 have hlT:l.length=T:=by rw[<-hl,List.length_take];omega
 have hrT:r.length=L.length - T:=by rw[<-hr,List.length_drop]
 refine wp_region_any hm ?_;have hu:zd (Array.replicate L.toArray.size false) T=List.range T:=by
  unfold zd;refine List.filter_eq_self.2 fun i hi=>?_
  have:i<T:=by simpa using hi
  simp[show i<L.length by omega]
 have h':=QR (ops:=L.toArray) l 0 _ a (fun j=>by
  rcases Nat.lt_or_ge j T with hj|hj
  ·left;rw[<-hl,List.getElem?_take_of_lt hj];simp
  right;omega) h.out
 rw[hlT,<-List.range_eq_range']at h';have hfin:=zdd (I:=I) (P:=P) (S:=fun k=>S.lookup k) (F:=fun _ _=>True) (ops:=L.toArray) (T:=T) (l:=r) (m:=L.length - T) (Q:=fun a w=>wpList P L.toArray Q r a w) (Q':=Q) hB (by simp;omega) hrT (fun j=>by rw[<-hr,List.getElem?_drop];simp) (fun k s hs=>by obtain⟨x,hx,rfl,_⟩:=hlook S k s hs;exact hS x hx) (fun i k hik hi hk=>by
   obtain⟨si,hsi⟩:=Option.ne_none_iff_exists'.1 hi;obtain⟨sk,hsk⟩:=Option.ne_none_iff_exists'.1 hk;obtain⟨x,hx,_,rfl⟩:=hlook S i si hsi;obtain⟨y,hy,_,rfl⟩:=hlook S k sk hsk;have h1:=List.all_eq_true.1 (List.all_eq_true.1 hch x.1 (List.mem_map.2 ⟨x,hx,rfl⟩)) y.1 (List.mem_map.2 ⟨y,hy,rfl⟩)
   simpa [hik]using h1) (fun _ _ h=>h)
  T (Array.replicate L.toArray.size false) a w.drew (by simp) (fun i hi hi'=>by simp at hi';simp[hi']) (by rw[hu];simp) (fun i j hj _=>by
   exfalso;rw[Array.getD_eq_getD_getElem?,Array.getElem?_replicate]at hj
   split at hj <;> simp at hj)
  hI (fun _=>trivial) (fun _ _ _ _ _=>trivial) (by rw[hu];exact h')
 have hsz:T+(L.length - T)=L.toArray.size:=by simp;omega
 rw[hsz]at hfin;exact hfin
variable{o:Oper} {rest:List Oper} {k:Nat} {F:Nat->World->Prop} {a:Act}
theorem qG (ht:zkm o=true) (hw:Region.wanted o (yielded ops a.tmps)=true) (hS:S k=none)
  (h:∀K:Act->Prop,(∀a,zeV I P ops S Q rest (k+1) F a->K a)->o.quiet P a (fun w'=>∃x:zk I,w'=x.world) K):zeV I P ops S Q (o :: rest) k F a:=by
 obtain⟨v,h1,h2⟩:=h _ fun _ h=>h
 constructor;unfold zap;rw[if_pos hw];simp only[hS];refine⟨v,fun w hg _=>?_,h2.out⟩
 have h3:=h1 w ⟨⟨w,hg⟩,rfl⟩;unfold Oper.quietAt at h3;have hne:=fun n w'=>@Qm P o ht a.eval w w' n
 generalize(execOp a.eval o).run P w=r at*
 cases r with
 | ok n w'=>
  cases n <;> simp only[Oper.quietUpon]at h3
  case value u=>rw[h3.1,h3.2]
  case skip=>obtain⟨_,he⟩:=hne _ _ rfl;cases he
  case enter f args=>obtain⟨_,he⟩:=hne _ _ rfl;cases he
 | halt x w'=>simp only[Oper.quietUpon]at h3
theorem ZT {s:Value->Prop} (hw:Region.wanted o (yielded ops a.tmps)=true) (hS:S k=some s) (p:Value->World->Prop) (hp:∀v w w',zc w w'->p v w->p v w')
  (h:∀w,I w->(∀m,anc ops 9 m k=true->F m w)->zP P o a w fun v w'=>I w'/\zc w w'/\s v/\p v w')
  (hn:∀v,s v->zeV I P ops S Q rest (k+1) (Za F k (p v)) (a.put o.dst v)):zeV I P ops S Q (o :: rest) k F a:=by
 constructor;unfold zap;rw[if_pos hw];simp only[hS];exact⟨p,hp,h,fun v hv=>(hn v hv).out⟩
theorem zbu (h:∀w,I w->(∀i,F i w)->Q a w):zeV I P ops S Q [] k F a:=⟨h⟩
end
structure zkg (base:Nat) (w:World) (V:MaV) (m:Ma):Prop where
 fs:zb zaf base w (V.f.x) m.fs
 sl:zb slE base w (V.s.x) m.sl
 sb:zu base w (V.sb.x) m.sb
 sq:z8 base w (V.sq.x) m.sq
 db:zu base w (V.db.x) m.db
 dq:z8 base w (V.dq.x) m.dq
 fl:∃lo,jo lo w (V.fl.x) m.fl/\base<=lo/\∀g,(V.s.x).ownBlock=some g->g<lo
 ca:zb qX base w (V.ca.x) m.ca
 sp:Zt base w (V.sp.x) m.sp
 ap:∀g,(V.sb.x).ownBlock=some g->(V.db.x).ownBlock≠some g
theorem JF.now0 {v:Value} {fs:List Fl} (h:JF B0 B1 w v fs):qL w v fs:=by
 obtain⟨hc,xs,k1,k2,k3⟩:=h;exact⟨hc,xs,k1.now.s0,k2,fun i x f hx hf=>⟨(k3 i x f hx hf).1,(k3 i x f hx hf).2.now.s0⟩⟩
theorem zkg.at {base:Nat} (h:zkg base w V m):zH w V m:=by
 obtain⟨lo,hf,_⟩:=h.fl;exact⟨h.fs.at,h.sl.at,h.sb.at,h.sq.at,h.db.at,h.dq.at,hf.new.now0,h.ca.at,h.sp.at⟩
theorem zgf {base:Nat} {v:Value} {l:List (List Int)} (h:zu base w v l):∀g,v.ownBlock=some g->base<=g/\g<w.heap.size:=h.1.lt
theorem ZM {base size n g:Nat} {v:Value} (h:w.ownsRow base e size v n xs) (hg:w.grownBy w' (some g)) (hlt:g<base):w'.ownsRow base e size v n xs:=by
 refine⟨h.1,?_⟩
 rcases h.2 with h1|⟨b,cap,cur,rfl,h2,h3,h4⟩
 ·exact .inl h1
 exact .inr ⟨b,cap,cur,rfl,h2,by rw[hg.block b (aS.1 h3).1 (fun e=>by cases e;omega)];exact h3,h4⟩
theorem zb.low {α:Type} {E:Elt α} {base g:Nat} {v:Value} {l:List α} (h:zb E base w v l) (hg:w.grownBy w' (some g)) (hlt:g<base):zb E base w' v l:=⟨ZM h.1 hg hlt,h.2⟩
theorem JE.low {lo g:Nat} {x:SpV} {s:Sp} (h:JE lo hi w x s) (hg:w.grownBy w' (some g)) (hlt:g<lo):JE lo hi w' x s:=
 ⟨h.live,h.ar.low hg hlt,⟨h.tb.len,h.tb.tlen,fun i v y hv hy=>(h.tb.row i v y hv hy).low hg hlt,h.tb.two⟩,h.arh,h.tbh⟩
theorem zkg.below {base g:Nat} (h:zkg base w V m) (hg:w.grownBy w' (some g)) (hlt:g<base) (hb:base'<=base):zkg base' w' V m:=by
 obtain⟨lo,⟨ys,f1,f2,f3,f4⟩,l1,l2⟩:=h.fl;obtain⟨xs,B,s1,s2,s3,s4,s5⟩:=h.sp;refine⟨(h.fs.low hg hlt).base hb,(h.sl.low hg hlt).base hb,⟨qM (ZM h.sb.1 hg hlt) hb,h.sb.2⟩,⟨qM (ZM h.sq.1 hg hlt) hb,h.sq.2⟩,⟨qM (ZM h.db.1 hg hlt) hb,h.db.2⟩,⟨qM (ZM h.dq.1 hg hlt) hb,h.dq.2⟩,⟨lo,⟨ys,f1.low hg (by omega),f2,fun i x f hx hf=>⟨(f3 i x f hx hf).1,(f3 i x f hx hf).2.low hg (by omega)⟩,f4⟩,by omega,l2⟩,(h.ca.low hg hlt).base hb,⟨xs,B,(s1.low hg hlt).base hb,s2,by omega,s4,fun i x s hx hs=>(s5 i x s hx hs).low hg ?_⟩,h.ap⟩
 have:=zfw s4 (nZ i);omega
theorem zjh (V:MaV) (m:Ma) (w:World) (hm:zH w V m):
  Calls prog 12 #[.agg (mL V m).toArray] w fun e w'=>∃V':MaV,e= .returned (.agg (mL V' m).toArray)/\zkg w.heap.size w' V' m/\zc w w':=by
 obtain⟨n1,n2,-⟩:=hm.ns;have HM:Hid (zH w V m):=hm;have HC1:Hid (∀W,zc w W->Calls prog 51 #[.agg #[V.f.x,I6 m.hand]] W fun e w'=>∃b,e= .returned (.agg #[b,I6 m.hand])/\zb zaf W.heap.size w' b m.fs/\zc W w'):=show∀W,_ from fun W hW=>by
  have h:=(hm.grew hW).fs;(try simp only[Sli.x]at h⊢);rw[n1]at h⊢;exact zgT _ _ m.fs m.hand W h
 have HC2:Hid (∀W,zc w W->Calls prog 52 #[V.s.x] W fun e w'=>∃v',e= .returned v'/\zb slE W.heap.size w' v' m.sl/\zc W w'):=dD<|fun W hW=>zhh _ m.sl W (hm.grew hW).sl
 have HC3:Hid (∀W,zc w W->Calls prog 53 #[.agg #[V.sb.x,V.sq.x]] W fun e w'=>∃d',e= .returned d'/\zfY W.heap.size w' d' m.sb m.sq/\zc W w'):=dD<|fun W hW=>zhQ _ m.sb m.sq W ⟨_,_,rfl,(hm.grew hW).sb,(hm.grew hW).sq⟩
 have HC4:Hid (∀W,zc w W->Calls prog 53 #[.agg #[V.db.x,V.dq.x]] W fun e w'=>∃d',e= .returned d'/\zfY W.heap.size w' d' m.db m.dq/\zc W w'):=dD<|fun W hW=>zhQ _ m.db m.dq W ⟨_,_,rfl,(hm.grew hW).db,(hm.grew hW).dq⟩
 have HC5:Hid (∀W,zc w W->Calls prog 54 #[.agg #[V.fl.x,I6 m.cnt]] W fun e w'=>∃b,e= .returned (.agg #[b,I6 m.cnt])/\jo (W.heap.size+2) w' b m.fl/\zc W w'/\W.heap.size+2<=w'.heap.size):=dD<|fun W hW=>zhS _ m.fl m.cnt W (hm.grew hW).fl
 have HC6:Hid (∀W,zc w W->Calls prog 55 #[V.ca.x] W fun e w'=>∃v',e= .returned v'/\zb qX W.heap.size w' v' m.ca/\zc W w'):=dD<|fun W hW=>zfP _ m.ca W (hm.grew hW).ca
 have HC7:Hid (∀W,zc w W->Calls prog 56 #[V.sp.x] W fun e w'=>∃v',e= .returned v'/\Zt W.heap.size w' v' m.sp/\zc W w'):=dD<|fun W hW=>zdn _ m.sp W (hm.grew hW).sp
 clear hm n1 n2;obtain⟨W0,hW0⟩:∃W0,(w.alloc (.cells (mL V m).toArray 40)).alloc (.cells zM.toArray 40)=W0:=⟨_,rfl⟩;have HG0:=gD2 hW0
 have X0:=x2a hW0
 have Y0:=x2b hW0
 have HS0:Hid (W0.heap.size=(w.heap.size+1+1)):=dD<|by rw[<-hW0];simp
 have HW0:Hid (_=W0):=hW0;clear hW0
 go_enter func12,ntmps12
 go_upto_region 1 with fail;rw[HW0.out];obtain⟨I,hI⟩:∃I:World->Prop,I=fun u=>zc W0 u:=⟨_,rfl⟩
 have HI:Hid (∀u,I u↔zc W0 u):=dD<|fun u=>by rw[hI]
 clear hI;have hI0:I W0.drew:=(HI _).2 (gW _)
 have hx0:=X0.h HI 0 rfl
 have hx1:=X0.h HI 1 rfl
 have hx2:=X0.h HI 2 rfl
 have hx3:=X0.h HI 3 rfl
 have hx4:=X0.h HI 4 rfl
 have hx5:=X0.h HI 5 rfl
 have hx6:=X0.h HI 6 rfl
 have hx7:=X0.h HI 7 rfl
 have hx8:=X0.h HI 8 rfl
 have hx9:=X0.h HI 9 rfl
 have hx10:=X0.h HI 10 rfl
 have hne:Nonempty (zk I):=⟨⟨_,hI0⟩⟩;have HSZ:Hid (∀u,I u->(w.heap.size+1+1)<=u.heap.size):=dD<|fun u hu=>by rw[<-HS0.out];exact bS ((HI _).1 hu)
 refine Qb (I:=I) 22 [(2,fun v=>∃s:Sli,v= .agg #[s.x,I6 m.hand]),(5,fun v=>∃s:Sli,v=s.x),(8,fun v=>∃b q:Sli,v= .agg #[b.x,q.x]),(11,fun v=>∃b q:Sli,v= .agg #[b.x,q.x]),(14,fun v=>∃s:Sli,v= .agg #[s.x,I6 m.cnt]),(17,fun v=>∃s:Sli,v=s.x),(20,fun v=>∃s:Sli,v=s.x)] hI0 qu (by kernel_rfl) rfl rfl (by decide) ?hS (by kernel_rfl) ?_
 case hS=>
  intro x hx;simp only[mC,nM,or_false]at hx
  rcases hx with rfl|rfl|rfl|rfl|rfl|rfl|rfl
  ·exact⟨_,zj,rfl⟩
  ·exact⟨_,zj,rfl⟩
  ·exact⟨_,zj,zj,rfl⟩
  ·exact⟨_,zj,zj,rfl⟩
  ·exact⟨_,zj,rfl⟩
  ·exact⟨_,zj,rfl⟩
  exact⟨_,zj,rfl⟩
 simp only[List.take,List.drop];iterate 2 (refine qG rfl rfl rfl (fun K hK=>?_);go_big_quiet_op;refine hK _ ?_;clear hK)
 refine ZT rfl rfl (fun v w'=>∃s:Sli,v= .agg #[s.x,I6 m.hand]/\zb zaf (w.heap.size+1+1) w' (s.x) m.fs) (fun v u u' hu h=>by obtain⟨s,h1,h2⟩:=h;exact⟨s,h1,h2.grew hu⟩) (fun w' hI' hF=>?_) (fun v1 hv=>?_)
 ·have hg':zc w w':=HG0.trans ((HI _).1 hI');have hsz:=HSZ.out w' hI';refine zP.call [.agg #[V.f.x,I6 m.hand]] rfl func51 rfl rfl rfl ?_;refine(HC1 w' hg').mono ?_;rintro e w'' ⟨b,rfl,ow,hg2⟩;obtain⟨a2,c2,rfl⟩:=ow.form;exact⟨_,rfl,(HI _).2 (((HI _).1 hI').trans hg2),hg2,⟨⟨a2,_,c2⟩,rfl⟩,⟨a2,_,c2⟩,rfl,ow.base hsz⟩
 obtain⟨sf,rfl⟩:=hv;simp only[Act.put,sB,sS,sZ];iterate 2 (refine qG rfl rfl rfl (fun K hK=>?_);go_big_quiet_op;refine hK _ ?_;clear hK)
 refine ZT rfl rfl (fun v w'=>zb slE (w.heap.size+1+1) w' v m.sl) (fun v u u' hu h=>zb.grew h hu) (fun w' hI' hF=>?_) (fun v1 hv=>?_)
 ·have hg':zc w w':=HG0.trans ((HI _).1 hI');have hsz:=HSZ.out w' hI';refine zP.call [V.s.x] rfl func52 rfl rfl rfl ?_;refine(HC2 w' hg').mono ?_;rintro e w'' ⟨b,rfl,ow,hg2⟩;obtain⟨a2,c2,rfl⟩:=ow.form;exact⟨_,rfl,(HI _).2 (((HI _).1 hI').trans hg2),hg2,⟨⟨a2,_,c2⟩,rfl⟩,ow.base hsz⟩
 obtain⟨ss,rfl⟩:=hv;simp only[Act.put,sB,sS,sZ];iterate 2 (refine qG rfl rfl rfl (fun K hK=>?_);go_big_quiet_op;refine hK _ ?_;clear hK)
 refine ZT rfl rfl (fun v w'=>∃b q:Sli,v= .agg #[b.x,q.x]/\zu (w.heap.size+1+1) w' (b.x) m.sb/\z8 (w.heap.size+1+1) w' (q.x) m.sq) (fun v u u' hu h=>by obtain⟨b,q,h1,h2,h3⟩:=h;exact⟨b,q,h1,h2.grew hu,h3.grew hu⟩) (fun w' hI' hF=>?_) (fun v1 hv=>?_)
 ·have hg':zc w w':=HG0.trans ((HI _).1 hI');have hsz:=HSZ.out w' hI';refine zP.call [.agg #[V.sb.x,V.sq.x]] rfl func53 rfl rfl rfl ?_;refine(HC3 w' hg').mono ?_;rintro e w'' ⟨d,rfl,⟨b,q,rfl,ob,oq⟩,hg2⟩;obtain⟨a2,n2,c2,rfl⟩:=ob.slice;obtain⟨a3,n3,c3,rfl⟩:=oq.slice;exact⟨_,rfl,(HI _).2 (((HI _).1 hI').trans hg2),hg2,⟨⟨a2,n2,c2⟩,⟨a3,n3,c3⟩,rfl⟩,⟨a2,n2,c2⟩,⟨a3,n3,c3⟩,rfl,ob.base hsz,oq.base hsz⟩
 obtain⟨sb,sq,rfl⟩:=hv;simp only[Act.put,sB,sS,sZ];iterate 2 (refine qG rfl rfl rfl (fun K hK=>?_);go_big_quiet_op;refine hK _ ?_;clear hK)
 refine ZT rfl rfl (fun v w'=>∃b q:Sli,v= .agg #[b.x,q.x]/\zu (w.heap.size+1+1) w' (b.x) m.db/\z8 (w.heap.size+1+1) w' (q.x) m.dq/\∀g,(sb.x).ownBlock=some g->(b.x).ownBlock≠some g) (fun v u u' hu h=>by obtain⟨b,q,h1,h2,h3,h4⟩:=h;exact⟨b,q,h1,h2.grew hu,h3.grew hu,h4⟩) (fun w' hI' hF=>?_) (fun v1 hv=>?_)
 ·have hg':zc w w':=HG0.trans ((HI _).1 hI');have hsz:=HSZ.out w' hI';refine zP.call [.agg #[V.db.x,V.dq.x]] rfl func53 rfl rfl rfl ?_;refine(HC4 w' hg').mono ?_;rintro e w'' ⟨d,rfl,⟨b,q,rfl,ob,oq⟩,hg2⟩;obtain⟨a2,n2,c2,rfl⟩:=ob.slice;obtain⟨a3,n3,c3,rfl⟩:=oq.slice;obtain⟨b8,q8,e8,o8,_⟩:∃b q:Sli,(Value.agg #[sb.x,sq.x])= .agg #[b.x,q.x]/\zu (w.heap.size+1+1) w' (b.x) m.sb/\z8 (w.heap.size+1+1) w' (q.x) m.sq:=hF 8 (by kernel_rfl)
  refine⟨_,rfl,(HI _).2 (((HI _).1 hI').trans hg2),hg2,⟨⟨a2,n2,c2⟩,⟨a3,n3,c3⟩,rfl⟩,⟨a2,n2,c2⟩,⟨a3,n3,c3⟩,rfl,ob.base hsz,oq.base hsz,fun g h1 h2=>?_⟩
  simp only[Value.agg.injEq,Array.mk.injEq,List.cons.injEq]at e8;rw[e8.1]at h1;have q1:=(zgf o8 g h1).2;have q2:=(zgf ob g h2).1;omega
 obtain⟨db,dq,rfl⟩:=hv;simp only[Act.put,sB,sS,sZ];iterate 2 (refine qG rfl rfl rfl (fun K hK=>?_);go_big_quiet_op;refine hK _ ?_;clear hK)
 refine ZT rfl rfl (fun v w'=>∃s:Sli,v= .agg #[s.x,I6 m.cnt]/\∃lo,jo lo w' (s.x) m.fl/\(w.heap.size+1+1)<=lo/\∀g,(ss.x).ownBlock=some g->g<lo) (fun v u u' hu h=>by obtain⟨s,h1,lo,h2,h3,h4⟩:=h;exact⟨s,h1,lo,h2.grew hu,h3,h4⟩) (fun w' hI' hF=>?_) (fun v1 hv=>?_)
 ·have hg':zc w w':=HG0.trans ((HI _).1 hI');have hsz:=HSZ.out w' hI';refine zP.call [.agg #[V.fl.x,I6 m.cnt]] rfl func54 rfl rfl rfl ?_;refine(HC5 w' hg').mono ?_;rintro e w'' ⟨b,rfl,of,hg2,_⟩;have hof:=of;obtain⟨ys,oy,_⟩:=of;obtain⟨a2,c2,rfl⟩:=oy.form;have o5:zb slE (w.heap.size+1+1) w' (ss.x) m.sl:=hF 5 (by kernel_rfl)
  exact⟨_,rfl,(HI _).2 (((HI _).1 hI').trans hg2),hg2,⟨⟨a2,_,c2⟩,rfl⟩,⟨a2,_,c2⟩,rfl,w'.heap.size+2,hof,by omega,fun g h1=>by have:=(o5.lt g h1).2;omega⟩
 obtain⟨sl,rfl⟩:=hv;simp only[Act.put,sB,sS,sZ];iterate 2 (refine qG rfl rfl rfl (fun K hK=>?_);go_big_quiet_op;refine hK _ ?_;clear hK)
 refine ZT rfl rfl (fun v w'=>zb qX (w.heap.size+1+1) w' v m.ca) (fun v u u' hu h=>zb.grew h hu) (fun w' hI' hF=>?_) (fun v1 hv=>?_)
 ·have hg':zc w w':=HG0.trans ((HI _).1 hI');have hsz:=HSZ.out w' hI';refine zP.call [V.ca.x] rfl func55 rfl rfl rfl ?_;refine(HC6 w' hg').mono ?_;rintro e w'' ⟨b,rfl,ow,hg2⟩;obtain⟨a2,c2,rfl⟩:=ow.form;exact⟨_,rfl,(HI _).2 (((HI _).1 hI').trans hg2),hg2,⟨⟨a2,_,c2⟩,rfl⟩,ow.base hsz⟩
 obtain⟨sc,rfl⟩:=hv;simp only[Act.put,sB,sS,sZ];iterate 2 (refine qG rfl rfl rfl (fun K hK=>?_);go_big_quiet_op;refine hK _ ?_;clear hK)
 refine ZT rfl rfl (fun v w'=>Zt (w.heap.size+1+1) w' v m.sp) (fun v u u' hu h=>Zt.grew h hu) (fun w' hI' hF=>?_) (fun v1 hv=>?_)
 ·have hg':zc w w':=HG0.trans ((HI _).1 hI');have hsz:=HSZ.out w' hI';refine zP.call [V.sp.x] rfl func56 rfl rfl rfl ?_;refine(HC7 w' hg').mono ?_;rintro e w'' ⟨b,rfl,os,hg2⟩;have hos:=os;obtain⟨ys,B,oy,_⟩:=os;obtain⟨a2,c2,rfl⟩:=oy.form;exact⟨_,rfl,(HI _).2 (((HI _).1 hI').trans hg2),hg2,⟨⟨a2,_,c2⟩,rfl⟩,hos.base hsz⟩
 obtain⟨sp,rfl⟩:=hv;simp only[Act.put,sB,sS,sZ];iterate 1 (refine qG rfl rfl rfl (fun K hK=>?_);go_big_quiet_op;refine hK _ ?_;clear hK)
 refine zbu fun W3 hI3 hF=>?_
 have hg3:=(HI _).1 hI3;have F2:∃s:Sli,(Value.agg #[sf.x,I6 m.hand])= .agg #[s.x,I6 m.hand]/\zb zaf (w.heap.size+1+1) W3 (s.x) m.fs:=hF 2;have F5:zb slE (w.heap.size+1+1) W3 (ss.x) m.sl:=hF 5;have F8:∃b q:Sli,(Value.agg #[sb.x,sq.x])= .agg #[b.x,q.x]/\zu (w.heap.size+1+1) W3 (b.x) m.sb/\z8 (w.heap.size+1+1) W3 (q.x) m.sq:=hF 8;have F11:∃b q:Sli,(Value.agg #[db.x,dq.x])= .agg #[b.x,q.x]/\zu (w.heap.size+1+1) W3 (b.x) m.db/\z8 (w.heap.size+1+1) W3 (q.x) m.dq/\∀g,(sb.x).ownBlock=some g->(b.x).ownBlock≠some g:=hF 11;have F14:∃s:Sli,(Value.agg #[sl.x,I6 m.cnt])= .agg #[s.x,I6 m.cnt]/\∃lo,jo lo W3 (s.x) m.fl/\(w.heap.size+1+1)<=lo/\∀g,(ss.x).ownBlock=some g->g<lo:=hF 14;have F17:zb qX (w.heap.size+1+1) W3 (sc.x) m.ca:=hF 17;have F20:Zt (w.heap.size+1+1) W3 (sp.x) m.sp:=hF 20;have HOM:Hid (zkg (w.heap.size+1+1) W3 ⟨sf,ss,sb,sq,db,dq,sl,sc,sp⟩ m):=dD<|by
  obtain⟨s2,e2,o2⟩:=F2;obtain⟨b8,q8,e8,o8,p8⟩:=F8;obtain⟨b11,q11,e11,o11,p11,a11⟩:=F11;obtain⟨s14,e14,lo,o14,l14,a14⟩:=F14;simp only[Value.agg.injEq,Array.mk.injEq,List.cons.injEq]at e2 e8 e11 e14;rw[<-e2.1]at o2;rw[<-e8.1]at o8;rw[<-e8.2.1]at p8;rw[<-e11.1]at o11 a11;rw[<-e11.2.1]at p11;rw[<-e14.1]at o14;exact⟨o2,F5,o8,p8,o11,p11,⟨lo,o14,l14,a14⟩,F17,F20,a11⟩
 have Y3:=dD (Y0.grew hg3);have HG3:=dD (HG0.trans hg3);clear hF hI3 hg3 hx0 hx1 hx2 hx3 hx4 hx5 hx6 hx7 hx8 hx9 hx10 hne hI0
 go_wp2_with (refine zn rfl 40 (.tmp 2) (.tmp 24) rfl (w.heap.size+1) rfl [sf.x,I6 m.hand,ss.x,sb.x,sq.x,db.x,dq.x,sl.x,I6 m.cnt,sc.x,sp.x] rfl Y3 rfl (by kernel_rfl) (fun v hv=>by
    simp only[mC,nM,or_false]at hv
    rcases hv with rfl|rfl|rfl|rfl|rfl|rfl|rfl|rfl|rfl|rfl|rfl <;> rfl) ?_)
 intro W4 hb4 hg4 sz4;have HG4:Hid (zc w W4):=dD<|ze HG3 hg4 (by omega)
 have HO4:Hid (zkg w.heap.size W4 ⟨sf,ss,sb,sq,db,dq,sl,sc,sp⟩ m):=dD<|HOM.below hg4 (by omega) (by omega)
 go_wp2;refine bodyPost_ret (zT rfl _ rfl hb4 underlying40 rfl (by kernel_rfl)) rfl ⟨⟨sf,ss,sb,sq,db,dq,sl,sc,sp⟩,rfl,HO4,HG4⟩
theorem zlZ:(Tryz.prog.info? 93).map (·.size)=some 192:=by kernel_rfl
def qk (l:List En):List Value:=l.flatMap env
theorem ZE (l:List En):(qk l).length=l.length*3:=qV l (fun _ _=>rfl)
theorem zcW (l:List En):∀v∈qk l,v.oneCell'=true:=qU enE.one l
theorem zce {l:List En} {e:En} (h:l[j]? =some e):(qk l)[j*3]? =some (I6 e.kind)/\(qk l)[j*3+1]? =some (I6 e.n)/\(qk l)[j*3+2]? =some (.bool e.wr):=
 ⟨qE (enc:=env) (k:=3) l j e (fun _ _=>rfl) h 0 _ rfl,qE (enc:=env) (k:=3) l j e (fun _ _=>rfl) h 1 _ rfl,qE (enc:=env) (k:=3) l j e (fun _ _=>rfl) h 2 _ rfl⟩
theorem zhI {cs:List Value} (a b c:Value) (h:j+3<=cs.length):((cs.set j a).set (j+1) b).set (j+2) c=splice cs j [a,b,c]:=by
 apply List.ext_getElem?
 intro i;unfold splice
 by_cases h1:i<j
 ·rw[sN (by omega),sN (by omega),sN (by omega),List.getElem?_append_left (by simp;omega),List.getElem?_take_of_lt h1]
 have hl:(cs.take j).length=j:=by simp;omega
 rw[aR (by omega),hl]
 by_cases h2:i=j
 ·subst h2;rw[sN (by omega),sN (by omega),sF (by omega),Nat.sub_self]
  rfl
 by_cases h3:i=j+1
 ·subst h3;rw[sN (by omega),sF (by simp;omega),show j+1 - j=1 by omega]
  rfl
 by_cases h4:i=j+2
 ·subst h4;rw[sF (by simp;omega),show j+2 - j=2 by omega]
  rfl
 rw[sN (by omega),sN (by omega),sN (by omega),aR (by simp;omega),List.getElem?_drop]
 congr 1
 simp;omega
theorem zhk {l:List En} (e:En) (h:j<l.length):(((qk l).set (j*3) (I6 e.kind)).set (j*3+1) (I6 e.n)).set (j*3+2) (.bool e.wr)=qk (l.set j e):=by
 rw[zhI _ _ _ (by rw[ZE];omega)]
 exact Qn (enc:=env) (k:=3) e rfl l j (fun _ _=>rfl) h
def zeD:List En:=List.replicate 64 en0
theorem zhb:(Tryz.prog.info? 93).map (·.zero)=some (some (.agg (qk zeD).toArray)):=by kernel_rfl
theorem zd4 (w:World):(zeroValue 93).run prog w= .ok (.agg (qk zeD).toArray) w:=by
 have h:=zhb
 cases hq:Tryz.prog.info? 93 with
 | none=>simp[hq]at h
 | some i=>
  simp[hq]at h
  simp[zeroValue,typeInfo,hq,h]
def zfZ (t:List (List En)) (i k:Nat) (l:List En):Prop:=l.length=64/\∀a b,a<8->b<8->l[8*a+b]? =some (if a<i\/(a=i/\b<k)then zcn t a b else en0)
theorem zfZ.zero (t:List (List En)):zfZ t 0 0 zeD:=⟨by simp[zeD],fun a b ha hb=>by
 rw[if_neg (by omega),zeD,List.getElem?_replicate,if_pos (by omega)]⟩
theorem zfZ.step {t:List (List En)} {k:Nat} {l:List En} (h:zfZ t i k l) (hi:i<8) (hk:k<8):zfZ t i (k+1) (l.set (8*i+k) (zcn t i k)):=by
 refine⟨by simp[h.1],fun a b ha hb=>?_⟩
 by_cases e:a=i/\b=k
 ·obtain⟨rfl,rfl⟩:=e;rw[sF (by rw[h.1];omega),if_pos (by omega)]
 rw[sN (by omega),h.2 a b ha hb]
 by_cases h1:a<i\/(a=i/\b<k)
 ·rw[if_pos h1,if_pos (by omega)]
 rw[if_neg h1,if_neg (by omega)]
theorem zfZ.next {t:List (List En)} {l:List En} {n:Nat} (h:zfZ t i n l) (hn:∀b,n<=b->zcn t i b=en0):zfZ t (i+1) 0 l:=by
 refine⟨h.1,fun a b ha hb=>?_⟩
 rw[h.2 a b ha hb]
 by_cases h1:a<i\/(a=i/\b<n)
 ·rw[if_pos h1,if_pos (by omega)]
 rw[if_neg h1]
 by_cases h2:a=i
 ·subst h2;rw[if_pos (by omega),hn b (by omega)]
 rw[if_neg (by omega)]
theorem zfZ.all {t:List (List En)} {l:List En} (h:zfZ t 8 0 l):l=QT t:=by
 apply List.ext_getElem?
 intro j
 by_cases hj:j<64
 ·have:=h.2 (j / 8) (j % 8) (by omega) (by omega)
  rw[if_pos (by omega),show 8*(j / 8)+j % 8=j by omega]at this
  rw[this,zbw t hj]
 rw[gN (by rw[h.1];omega),gN (by rw[zeC];omega)]
theorem za0 (vs:List Value) (t:List (List En)) (w:World) (hv:Zc w vs t) (hok:∀h∈t,h.length<=8):
  Calls prog 42 #[.agg vs.toArray] w fun e w'=>e= .returned (.agg (qk (QT t)).toArray)/\zc w w':=by
 have HV:Hid (Zc w vs t):=hv;have HL:Hid (vs.length=8):=hv.len;have HOK:Hid (∀h∈t,h.length<=8):=hok;clear hv hok;have hz:=zd4;obtain⟨Z0,HZ0⟩:∃Z0,Hid (qk zeD=Z0):=⟨_,rfl⟩;rw[HZ0.out]at hz;have HZL:Hid (Z0.length=192):=show _=_ by rw[<-HZ0.out,ZE];rfl
 obtain⟨C,HC⟩:∃C,Hid (qk (QT t)=C):=⟨_,rfl⟩;rw[HC.out];obtain⟨W0,hW0⟩:∃W0,((w.alloc (.cells vs.toArray 63)).alloc (.cells Z0.toArray 93)).alloc (.cells Z0.toArray 93)=W0:=⟨_,rfl⟩;have HG0:Hid (zc w W0):=dD<|by rw[<-hW0];exact((za _ _).trans (za _ _)).trans (za _ _)
 have X0:Hid (Box W0 w.heap.size vs):=dD<|by rw[<-hW0];exact((Box.top w _ _ rfl).alloc _).alloc _
 have Y0:Hid (Box W0 (w.heap.size+1) Z0):=dD<|by rw[<-hW0];exact(Box.top _ _ _ (by simp)).alloc _
 have L0:Hid (Box W0 (w.heap.size+2) (qk zeD)):=dD<|by rw[<-hW0,HZ0.out];exact Box.top _ _ _ (by simp)
 have HW0:Hid (_=W0):=hW0;clear hW0
 go_enter func42,ntmps42
 go_upto_region 2 with fail;rw[HW0.out];clear hz
 go_wp2_with (refine jN rfl (.tmp 1) rfl w.heap.size rfl X0 HL.out ?_)
 go_loopg [9] 8 (fun gg s9 wr=>∃(kk:Nat) (l:List En),kk<=8/\8 - kk<=gg/\s9=I6 kk/\Hid (zc w wr)/\Hid (Box wr (w.heap.size+1) Z0)/\Hid (Box wr (w.heap.size+2) (qk l))/\Hid (zfZ t kk 0 l))
 case atStart=>exact⟨0,zeD,nZ _,by omega,rfl,HG0,Y0,L0,zfZ.zero t⟩
 obtain⟨kk,l,hkk,hg,rfl,BW,YW,LW,DW⟩:=hrel
 by_cases hlt:kk<8
 ·have hltz:(kk:Int)<8:=by omega
  obtain⟨xa,xc,q,hq,hvk,hr⟩:=HV.half hlt;have hq8:=HOK.out q (mG hq);have HGN:Hid (∀b,zcn t kk b=q[b]?.getD en0):=dD<|fun b=>by unfold zcn;rw[hq];rfl
  obtain⟨_,_,heq,hens⟩:=hr.ens;cases heq;have HE:Hid (zbg w xa q):=hens;obtain⟨nq,HNQ⟩:∃nq,Hid (q.length=nq):=⟨_,rfl⟩;rw[HNQ.out]at hvk hq8;have HVK:Hid (vs[kk]? =some (.slice xa nq xc)):=hvk;clear hens hr hq hvk
  go_wp2_with (refine J4 rfl (.tmp 8) (.tmp 9) rfl vs rfl kk rfl hlt HVK.out ?_)
  go_loopg [15] nq (fun g2 s15 wr2=>∃(k2:Nat) (l2:List En),k2<=nq/\nq - k2<=g2/\s15=I6 k2/\Hid (zc w wr2)/\Hid (Box wr2 (w.heap.size+1) Z0)/\Hid (Box wr2 (w.heap.size+2) (qk l2))/\Hid (zfZ t kk k2 l2))
  case atStart=>exact⟨0,l,nZ _,by omega,rfl,BW,YW,LW,DW⟩
  obtain⟨k2,l2,hk2,hg2,rfl,BW2,YW2,LW2,DW2⟩:=hrel
  by_cases hlt2:k2<nq
  ·have hltz2:(k2:Int)< (nq:Int):=by omega
   obtain⟨z,HZ⟩:∃z,Hid (q[k2]? =some z):=⟨_,gE (by rw[HNQ.out];exact hlt2)⟩
   obtain⟨ad,rfl,hl2⟩:=HE.out k2 z HZ.out;obtain⟨d0,d1,d2⟩:=hl2 wr BW2.out;clear hl2;go_upto_region 8 with fail;obtain⟨px,hpx⟩:∃px,wr.heap.size=px:=⟨_,rfl⟩;obtain⟨W3,hW3⟩:∃W3,wr.alloc (.cells #[I6 z.kind,I6 z.n,.bool z.wr] 67)=W3:=⟨_,rfl⟩;have G3:=gT hW3 BW2
   have P3:Hid (Box W3 px [I6 z.kind,I6 z.n,.bool z.wr]):=dD<|by rw[<-hW3];exact Box.top _ _ _ hpx.symm
   have Y3:=yA hW3 YW2
   have L3:=yA hW3 LW2
   rw[hW3];rw[hpx];clear hW3 hpx d0 d1 d2;obtain⟨p0,p1,p2⟩:=P3.c3;have hidx:(8:Int)*(kk:Int)+(k2:Int)=((8*kk+k2:Nat):Int):=by omega
   have hi64:8*kk+k2<64:=by omega
   obtain⟨ix,HIX⟩:∃ix,Hid (8*kk+k2=ix):=⟨_,rfl⟩;rw[HIX.out]at hidx hi64;have hi64z:(ix:Int)<64:=by omega
   obtain⟨z0,hz0⟩:∃z0,l2[ix]? =some z0:=⟨_,gE (by rw[DW2.1];exact hi64)⟩
   obtain⟨c0,c1,c2⟩:=zce hz0;have l0:=L3.c _ c0;have l1:=L3.c _ c1;have l2':=L3.c _ c2;have lf:=L3.f;clear c0 c1 c2 hz0;go_upto_region 9 with fail;obtain⟨W4,hW4⟩:∃W4,((W3.setCell ⟨w.heap.size+2,ix*3,none⟩ (I6 z.kind)).setCell ⟨w.heap.size+2,ix*3+1,none⟩ (I6 z.n)).setCell ⟨w.heap.size+2,ix*3+2,none⟩ (.bool z.wr)=W4:=⟨_,rfl⟩;have L4:Hid (Box W4 (w.heap.size+2) (qk (l2.set ix z))):=dD<|by
    rw[<-hW4,<-zhk z (by rw[DW2.1];exact hi64)]
    exact((L3.set _ _).set _ _).set _ _
   have Y4:Hid (Box W4 (w.heap.size+1) Z0):=dD<|by
    rw[<-hW4];exact((Y3.other (by simp) _).other (by simp) _).other (by simp) _
   have G4:Hid (zc w W4):=dD<|by
    rw[<-hW4];exact Below.setCell (Below.setCell (Below.setCell G3 (p:=⟨w.heap.size+2,ix*3,none⟩) (by simp) _) (p:=⟨w.heap.size+2,ix*3+1,none⟩) (by simp) _) (p:=⟨w.heap.size+2,ix*3+2,none⟩) (by simp) _
   have D4:Hid (zfZ t kk (k2+1) (l2.set ix z)):=dD<|by
    have h1:=DW2.step hlt (show k2<8 by omega)
    rw[HGN.out,HZ.out,HIX.out]at h1;exact h1
   rw[hW4];clear hW4 l0 l1 l2' lf p0 p1 p2 hidx;go_wp2
   go_roundg (nq -(k2+1))
   case measure=>omega
   exact⟨k2+1,_,by omega,by omega,by go_num,G4,Y4,L4,D4⟩
  have hltz2:¬(k2:Int)< (nq:Int):=by omega
  have:k2=nq:=by omega
  subst this;have D4:Hid (zfZ t (kk+1) 0 l2):=DW2.next (fun b hb=>by rw[HGN.out,gN (by rw[HNQ.out];exact hb)];rfl)
  go_wp2
  go_roundg (8 -(kk+1))
  case measure=>omega
  exact⟨kk+1,l2,by omega,by omega,by go_num,BW2,YW2,LW2,D4⟩
 have hltz:¬(kk:Int)<8:=by omega
 have:kk=8:=by omega
 subst this;have LE:Hid (Box wr (w.heap.size+2) C):=dD<|by rw[<-HC.out,<-DW.all];exact LW.out
 have HFL:Hid (C.length=192):=dD<|by rw[<-HC.out,ZE,zeC]
 have HFO:Hid (∀v∈C,v.oneCell'=true):=dD<|by rw[<-HC.out];exact zcW _
 go_wp2_with (first | refine zK rfl 93 (.tmp 3) rfl (w.heap.size+2) rfl LE underlying93 rfl (by rw[HFL.out];exact zlZ) ?_ | refine zn rfl 93 (.tmp 2) (.tmp 28) rfl (w.heap.size+1) rfl C rfl YW (by rw[HFL.out,HZL.out]) (by rw[HZL.out];exact zlZ) HFO.out ?_)
 intro W3 b3 g3 s3;have G3:Hid (zc w W3):=dD<|ze BW g3 (by simp)
 have B3:Hid (Box W3 (w.heap.size+1) C):=b3;clear b3 g3 s3;go_wp2;refine bodyPost_ret (zT rfl _ rfl B3 underlying93 rfl (by rw[HFL.out];exact zlZ)) rfl ⟨rfl,G3⟩
theorem zgO {l:List En} (i:Nat) (hi:i<64) {e:En} (he:l[i]? =some e):(Instr.index 93 (.agg (qk l).toArray) (I6 (i:Int))).run prog w= .ok (.agg #[I6 e.kind,I6 e.n,.bool e.wr]) w:=by
 have ha:(isAgg 67).run prog w= .ok true w:=by
  unfold isAgg;rw[Sem.run_bind,run_underlying underlying67 w];rfl
 have hs:(Go.sizeOf 67).run prog w= .ok 3 w:=by
  obtain⟨i0,h1,h2⟩:∃i0,Tryz.prog.info? 67=some i0/\i0.size=3:=by
   have:(Tryz.prog.info? 67).map (·.size)=some 3:=by kernel_rfl
   cases hq:Tryz.prog.info? 67 with
   | none=>rw[hq]at this;cases this
   | some i0=>rw[hq]at this;exact⟨i0,rfl,by simpa using this⟩
  simp[Go.sizeOf,typeInfo,h1,h2]
 have hlt:(0:Int)<=(i:Int)/\(i:Int)< ((64:Nat):Int):=by omega
 obtain⟨c0,c1,c2⟩:=zce he;have hx:(qk l).toArray.extract (i*3) (i*3+3)=#[I6 e.kind,I6 e.n,.bool e.wr]:=by
  apply Array.ext_getElem?
  intro j;rw[Array.getElem?_extract];have hlen:i*3+3<=(qk l).toArray.size:=by
   have:=(gS.1 c2).1;simp;omega
  by_cases hj:j<3
  ·rw[if_pos (by omega)]
   obtain rfl|rfl|rfl:j=0\/j=1\/j=2:=by omega
   ·simpa using c0
   ·simpa using c1
   simpa using c2
  rw[if_neg (by omega)]
  simp;omega
 simp only[Instr.index,asIntOf,Sem.run_bind,Sem.run_pure,rA,run_underlying underlying93];rw[if_pos hlt];simp only[Sem.run_bind,hs,rA,part,ha,if_true,tN,Sem.run_pure,hx]
theorem zao {rest:List Oper} {a:Act} (hgd:o.guard=none) (x ix:Operand) (ho:o.op= .index 93 x ix) (l:List En) (hx:a.eval x= .agg (qk l).toArray) (i:Nat) (hix:a.eval ix=I6 (i:Int)) (hi:i<64) {e:En} (he:l[i]? =some e)
  (h:wpList prog ops Q rest (a.put o.dst (.agg #[I6 e.kind,I6 e.n,.bool e.wr])) w):wpList prog ops Q (o :: rest) a w:=by
 refine wpList_plain hgd fun K hK=>?_
 unfold Oper.wp execOp;simp only[ho,hx,hix,Sem.run_bind,Sem.run_pure,rA,zgO i hi he];exact hK _ _ h
theorem zl0:(Tryz.prog.info? 5).map (fun i=>(i.zero,i.size,i.bytes))=some (some (U8 0),1,1):=by kernel_rfl
def byE:Elt Int where
 enc:=fun z=>[U8 z]
 k:=1
 ty:=5
 st:=24
 bytes:=1
 zv:=U8 0
 zero:=0
 len:=fun _=>rfl
 one:=fun a u hu=>by
  simp only[mC,nM,or_false]at hu;rw[hu];rfl
 und:=underlying24
 info:=zl0
 zok:=rfl
 few:=by decide
 pos:=by decide
theorem zl1:(Tryz.prog.info? 93).map (fun i=>(i.zero,i.size,i.bytes))=some (some (.agg (qk (tab fun _=>en0)).toArray),192,1536):=by kernel_rfl
def QC:Elt (Nat->En) where
 enc:=fun f=>qk (tab f)
 k:=192
 ty:=93
 st:=85
 bytes:=1536
 zv:= .agg (qk (tab fun _=>en0)).toArray
 zero:=fun _=>en0
 len:=fun f=>by rw[ZE,Qj]
 one:=fun f=>zcW _
 und:=underlying85
 info:=zl1
 zok:=rfl
 few:=by decide
 pos:=by decide
structure MkR (base hi:Nat) (w:World) (V:MaV) (m:Ma) (vt:Sli) (T:List (Nat->En)):Prop where
 hw:hi<=w.heap.size
 bh:base<=hi
 fs:zb zaf base w (V.f.x) m.fs
 sl:zb slE base w (V.s.x) m.sl
 slh:∀g,(V.s.x).ownBlock=some g->g<hi
 sb:zu base w (V.sb.x) m.sb
 sbh:∀g,(V.sb.x).ownBlock=some g->g<hi
 sq:V.sq=zj/\m.sq=[]
 db:zu base w (V.db.x) m.db
 dbh:∀g,(V.db.x).ownBlock=some g->g<hi
 dq:z8 base w (V.dq.x) m.dq
 fl:∃xs:List FlV,zb fvE base w (V.fl.x) xs/\xs.length=m.fl.length/\∀(i:Nat) x f,xs[i]? =some x->m.fl[i]? =some f->x.size=f.size/\zb blE hi w x.v f.bl
 ca:zb qX base w (V.ca.x) m.ca
 sp:∃xs:List SpV,zb jQ base w (V.sp.x) xs/\xs.length=m.sp.length/\∀(i:Nat) x s,xs[i]? =some x->m.sp[i]? =some s->x.live=s.live/\zb arE base w x.ar.v s.ars/\x.tab=zav/\s.tb=qY
 tt:zb QC base w (vt.x) T
 ap:∀g,(V.sb.x).ownBlock=some g->(V.db.x).ownBlock≠some g
section
variable{base hi:Nat} {w w':World} {V:MaV} {m:Ma} {vt:Sli} {T:List (Nat->En)}
theorem MkR.grew (h:MkR base hi w V m vt T) (k:zc w w'):MkR base hi w' V m vt T:=by
 obtain⟨xs,f1,f2,f3⟩:=h.fl;obtain⟨ys,s1,s2,s3⟩:=h.sp;exact⟨nT h.hw (bS k),h.bh,h.fs.grew k,h.sl.grew k,h.slh,h.sb.grew k,h.sbh,h.sq,h.db.grew k,h.dbh,h.dq.grew k,⟨xs,f1.grew k,f2,fun i x f hx hf=>⟨(f3 i x f hx hf).1,(f3 i x f hx hf).2.grew k⟩⟩,h.ca.grew k,⟨ys,s1.grew k,s2,fun i x s hx hs=>⟨(s3 i x s hx hs).1,(s3 i x s hx hs).2.1.grew k,(s3 i x s hx hs).2.2⟩⟩,h.tt.grew k,h.ap⟩
theorem zb.kind {α:Type} {E:Elt α} {g:Nat} {v:Value} {l:List α} {cs:Array Value} (h:zb E b w v l) (hg:w.grownBy w' (some g)) (ho:w.heap[g]? =some (.cells cs t (0,0))) (ht:t≠E.ty):zb E b w' v l:=h.grown hg fun k hk e=>by
 cases e;obtain⟨ds,h3⟩:=h.obj hk;rw[ho]at h3;cases h3;exact ht rfl
theorem Qq {size n g:Nat} {v:Value} (h:w.ownsRow b e size v n xs) (hg:w.grownBy w' (some g)) (hne:v.ownBlock≠some g):w'.ownsRow b e size v n xs:=by
 refine⟨h.1,?_⟩
 rcases h.2 with h1|⟨k,cap,cur,rfl,h2,h3,h4⟩
 ·exact .inl h1
 exact .inr ⟨k,cap,cur,rfl,h2,by rw[hg.block k (aS.1 h3).1 (fun e=>by cases e;exact hne rfl)];exact h3,h4⟩
theorem zx {size n g:Nat} {cs:Array Value} {v:Value} (h:w.ownsRow b e size v n xs) (hg:w.grownBy w' (some g)) (ho:w.heap[g]? =some (.cells cs t (0,0))) (ht:t≠e):w'.ownsRow b e size v n xs:=by
 refine Qq h hg fun hv=>?_
 rcases h.2 with⟨rfl,_⟩|⟨k,cap,cur,rfl,h2,h3,h4⟩
 ·cases hv
 simp only[Value.ownBlock,Option.some.injEq]at hv;subst hv;rw[ho]at h3;cases h3;exact ht rfl
theorem MkR.kept (h:MkR base hi w V m vt T) {g:Nat} {cs:Array Value} (hg:w.grownBy w' (some g)) (ho:w.heap[g]? =some (.cells cs t (0,0))):
  (t≠59->zb zaf base w' (V.f.x) m.fs)/\(t≠3\/hi<=g->zb slE base w' (V.s.x) m.sl)/\
  (t≠50\/hi<=g\/(V.sb.x).ownBlock≠some g->zu base w' (V.sb.x) m.sb)/\(t≠50\/hi<=g\/(V.db.x).ownBlock≠some g->zu base w' (V.db.x) m.db)/\
  (t≠91->z8 base w' (V.dq.x) m.dq)/\
  (t≠71->(t≠3\/g<hi)->∃xs:List FlV,zb fvE base w' (V.fl.x) xs/\xs.length=m.fl.length/\∀(i:Nat) x f,xs[i]? =some x->m.fl[i]? =some f->x.size=f.size/\zb blE hi w' x.v f.bl)/\
  (t≠83->zb qX base w' (V.ca.x) m.ca)/\
  (t≠65->t≠69->∃xs:List SpV,zb jQ base w' (V.sp.x) xs/\xs.length=m.sp.length/\∀(i:Nat) x s,xs[i]? =some x->m.sp[i]? =some s->x.live=s.live/\zb arE base w' x.ar.v s.ars/\x.tab=zav/\s.tb=qY)/\
  (t≠93->zb QC base w' (vt.x) T):=by
 obtain⟨xs,f1,f2,f3⟩:=h.fl;obtain⟨ys,s1,s2,s3⟩:=h.sp;refine⟨fun ht=>h.fs.kind hg ho ht,fun ht=>?_,fun ht=>?_,fun ht=>?_,fun ht=>⟨zx h.dq.1 hg ho ht,h.dq.2⟩,fun ht ht2=>⟨xs,f1.kind hg ho ht,f2,fun i x f hx hf=>⟨(f3 i x f hx hf).1,?_⟩⟩,fun ht=>h.ca.kind hg ho ht,fun ht ht2=>⟨ys,s1.kind hg ho ht,s2,fun i x s hx hs=>⟨(s3 i x s hx hs).1,(s3 i x s hx hs).2.1.kind hg ho ht2,(s3 i x s hx hs).2.2⟩⟩,fun ht=>h.tt.kind hg ho ht⟩
 ·rcases ht with ht|ht
  ·exact h.sl.kind hg ho ht
  exact h.sl.grown hg fun k hk e=>by cases e;have:=h.slh _ hk;omega
 ·rcases ht with ht|ht|ht
  ·exact⟨zx h.sb.1 hg ho ht,h.sb.2⟩
  ·exact⟨Qq h.sb.1 hg fun e=>by have:=h.sbh _ e;omega,h.sb.2⟩
  exact⟨Qq h.sb.1 hg ht,h.sb.2⟩
 ·rcases ht with ht|ht|ht
  ·exact⟨zx h.db.1 hg ho ht,h.db.2⟩
  ·exact⟨Qq h.db.1 hg fun e=>by have:=h.dbh _ e;omega,h.db.2⟩
  exact⟨Qq h.db.1 hg ht,h.db.2⟩
 rcases ht2 with ht2|ht2
 ·exact(f3 i x f hx hf).2.kind hg ho ht2
 exact(f3 i x f hx hf).2.grown hg fun k hk e=>by cases e;have:=((f3 i x f hx hf).2.lt _ hk).1;omega
theorem MkR.var (h:MkR base hi w V m vt T) {g:Nat} {cs:Array Value} (hg:w.grownBy w' (some g)) (ho:w.heap[g]? =some (.cells cs t (0,0))) (hs:w.heap.size<=w'.heap.size) (h1:t=87\/(t=50/\hi<=g)):MkR base hi w' V m vt T:=by
 obtain⟨k1,k2,k3,k4,k5,k6,k7,k8,k9⟩:=h.kept hg ho
 rcases h1 with rfl|⟨rfl,h1⟩
 ·exact⟨nT h.hw hs,h.bh,k1 (by decide),k2 (.inl (by decide)),h.slh,k3 (.inl (by decide)),h.sbh,h.sq,k4 (.inl (by decide)),h.dbh,k5 (by decide),k6 (by decide) (.inl (by decide)),k7 (by decide),k8 (by decide) (by decide),k9 (by decide),h.ap⟩
 exact⟨nT h.hw hs,h.bh,k1 (by decide),k2 (.inl (by decide)),h.slh,k3 (.inr (.inl h1)),h.sbh,h.sq,k4 (.inr (.inl h1)),h.dbh,k5 (by decide),k6 (by decide) (.inl (by decide)),k7 (by decide),k8 (by decide) (by decide),k9 (by decide),h.ap⟩
theorem MkR.setF (h:MkR base hi w V m vt T) {g:Nat} (hv:(V.f.x).ownBlock=some g) (hg:w.grownBy w' (some g)) (hs:w'.heap.size=w.heap.size) {fs:List Fr} (ho:zb zaf base w' (V.f.x) fs):MkR base hi w' V { m with fs:=fs } vt T:=by
 obtain⟨cs,hc⟩:=h.fs.obj hv;obtain⟨k1,k2,k3,k4,k5,k6,k7,k8,k9⟩:=h.kept hg hc;exact⟨by rw[hs];exact h.hw,h.bh,ho,k2 (.inl (by decide)),h.slh,k3 (.inl (by decide)),h.sbh,h.sq,k4 (.inl (by decide)),h.dbh,k5 (by decide),k6 (by decide) (.inl (by decide)),k7 (by decide),k8 (by decide) (by decide),k9 (by decide),h.ap⟩
theorem MkR.setS (h:MkR base hi w V m vt T) {g:Nat} (hv:(V.s.x).ownBlock=some g) (hg:w.grownBy w' (some g)) (hs:w'.heap.size=w.heap.size) {ls:List Int} (ho:zb slE base w' (V.s.x) ls):MkR base hi w' V { m with sl:=ls } vt T:=by
 obtain⟨cs,hc⟩:=h.sl.obj hv;obtain⟨k1,k2,k3,k4,k5,k6,k7,k8,k9⟩:=h.kept hg hc;exact⟨by rw[hs];exact h.hw,h.bh,k1 (by decide),ho,h.slh,k3 (.inl (by decide)),h.sbh,h.sq,k4 (.inl (by decide)),h.dbh,k5 (by decide),k6 (by decide) (.inr (h.slh g hv)),k7 (by decide),k8 (by decide) (by decide),k9 (by decide),h.ap⟩
theorem MkR.setSb (h:MkR base hi w V m vt T) {g:Nat} {cs:Array Value} (hc:w.heap[g]? =some (.cells cs 50 (0,0))) (hv:(V.sb.x).ownBlock=some g) (hg:w.grownBy w' (some g)) (hs:w'.heap.size=w.heap.size) {ls:List (List Int)} (ho:zu base w' (V.sb.x) ls):MkR base hi w' V { m with sb:=ls } vt T:=by
 obtain⟨k1,k2,k3,k4,k5,k6,k7,k8,k9⟩:=h.kept hg hc;exact⟨by rw[hs];exact h.hw,h.bh,k1 (by decide),k2 (.inl (by decide)),h.slh,ho,h.sbh,h.sq,k4 (.inr (.inr (h.ap g hv))),h.dbh,k5 (by decide),k6 (by decide) (.inl (by decide)),k7 (by decide),k8 (by decide) (by decide),k9 (by decide),h.ap⟩
theorem MkR.setDb (h:MkR base hi w V m vt T) {g:Nat} {cs:Array Value} (hc:w.heap[g]? =some (.cells cs 50 (0,0))) (hv:(V.db.x).ownBlock=some g) (hg:w.grownBy w' (some g)) (hs:w'.heap.size=w.heap.size) {ls:List (List Int)} (ho:zu base w' (V.db.x) ls):MkR base hi w' V { m with db:=ls } vt T:=by
 obtain⟨k1,k2,k3,k4,k5,k6,k7,k8,k9⟩:=h.kept hg hc;exact⟨by rw[hs];exact h.hw,h.bh,k1 (by decide),k2 (.inl (by decide)),h.slh,k3 (.inr (.inr (fun e=>h.ap g e hv))),h.sbh,h.sq,ho,h.dbh,k5 (by decide),k6 (by decide) (.inl (by decide)),k7 (by decide),k8 (by decide) (by decide),k9 (by decide),h.ap⟩
theorem MkR.setT (h:MkR base hi w V m vt T) {g:Nat} (hv:(vt.x).ownBlock=some g) (hg:w.grownBy w' (some g)) (hs:w'.heap.size=w.heap.size) {T':List (Nat->En)} (ho:zb QC base w' (vt.x) T'):MkR base hi w' V m vt T':=by
 obtain⟨cs,hc⟩:=h.tt.obj hv;obtain⟨k1,k2,k3,k4,k5,k6,k7,k8,k9⟩:=h.kept hg hc;exact⟨by rw[hs];exact h.hw,h.bh,k1 (by decide),k2 (.inl (by decide)),h.slh,k3 (.inl (by decide)),h.sbh,h.sq,k4 (.inl (by decide)),h.dbh,k5 (by decide),k6 (by decide) (.inl (by decide)),k7 (by decide),k8 (by decide) (by decide),ho,h.ap⟩
end
structure Mk (w0:World) (hi:Nat) (w:World) (b:Nat) (vl:Sli) (L:List Int) (V:MaV) (m:Ma) (vt:Sli) (T:List (Nat->En)):Prop where
 gr:zc w0 w
 hb:w0.heap.size<=b
 box:zD w b 87 [vl.x,V.f.x,I6 m.hand,V.s.x,V.sb.x,V.sq.x,V.db.x,V.dq.x,V.fl.x,I6 m.cnt,V.ca.x,V.sp.x,vt.x]
 lr:zr byE w0 (vl.x) L
 lc:vl.n<=vl.c
 lb:∀z∈L,0<=z/\z<256
 rows:MkR w0.heap.size hi w V m vt T
theorem Mk.grew (h:Mk w0 hi w b vl L V m vt T) (k:zc w w'):Mk w0 hi w' b vl L V m vt T:=⟨h.gr.trans k,h.hb,h.box.grew k,h.lr,h.lc,h.lb,h.rows.grew k⟩
theorem MkR.at {base:Nat} (h:MkR base hi w V m vt T):zH w V m:=by
 obtain⟨xs,f1,f2,f3⟩:=h.fl;obtain⟨ys,s1,s2,s3⟩:=h.sp;obtain⟨q1,q2⟩:=h.sq;refine⟨h.fs.at,h.sl.at,h.sb.at,?_,h.db.at,h.dq.at,⟨f1.cap,xs,f1.at.s0,f2,fun i x f hx hf=>⟨(f3 i x f hx hf).1,(f3 i x f hx hf).2.at.s0⟩⟩,h.ca.at,⟨ys,s1.at,s2,fun i x s hx hs=>?_⟩⟩
 ·rw[q1,q2];exact⟨⟨none,0,rfl,fun _=>rfl,fun x hx=>by cases hx⟩,by simp,by simp⟩
 obtain⟨a1,a2,a3,a4⟩:=s3 i x s hx hs;exact⟨a1,a2.at,a2.cap,by rw[a3,a4];exact Jg.nil 0 0 w⟩
def ZX (L L':List Int):Prop:=L=[]->L'=[]
theorem ZX.refl (L:List Int):ZX L L:=fun h=>h
theorem ZX.trans {A B C:List Int} (h:ZX A B) (k:ZX B C):ZX A C:=fun e=>k (h e)
theorem zl2:(Tryz.prog.info? 5).map (·.size)=some 1:=by kernel_rfl
theorem zga {ad:Addr} {n c:Nat}:(Instr.sliceAt 24 (.slice (some ad) (n+1) c) (some (I6 1)) none none).run prog w= .ok (.slice (some (if c=1 then ad else ad.add 1)) n (c - 1)) w:=by
 have hs:(Go.sizeOf 5).run prog w= .ok 1 w:=by
  obtain⟨i0,h1,h2⟩:∃i0,Tryz.prog.info? 5=some i0/\i0.size=1:=by
   have:=zl2
   cases hq:Tryz.prog.info? 5 with
   | none=>rw[hq]at this;cases this
   | some i0=>rw[hq]at this;exact⟨i0,rfl,by simpa using this⟩
  simp[Go.sizeOf,typeInfo,h1,h2]
 have h1:(0:Int)<=1/\(1:Int)<=((n+1:Nat):Int):=by omega
 simp only[Instr.sliceAt,Instr.slice,Instr.sliceBounds,Instr.sliceBound,asIntOf,Sem.run_bind,Sem.run_pure,rA,run_underlying underlying24];rw[if_pos h1];simp only[Sem.run_pure,rA,hs]
 by_cases hc:c=1
 ·simp[hc]
 simp[hc]
theorem qB (n:Int) (h:Mk w0 hi w b vl L V m vt T):
  Calls prog 27 #[.pointer (some ⟨b,0,none⟩),I6 n] w fun e w'=>∃vl' L' x,e= .returned (I6 x)/\Mk w0 hi w' b vl' L' V m vt T/\w.grownBy w' (some b)/\w'.heap.size=w.heap.size/\0<=x/\(x=0\/x<n)/\(L=[]->x=0)/\ZX L L':=by
 have HM:Hid (Mk w0 hi w b vl L V m vt T):=h;have hbx:=h.box.box;have x0:=hbx.c 0 rfl;have xf:=hbx.f;have hln:=h.lr.n;clear hbx;obtain⟨⟨la,ln,lc⟩,hvl⟩:∃s:Sli,vl=s:=⟨_,rfl⟩;subst hvl;dsimp only[Sli.x]at x0 hln HM;clear h
 by_cases h0:ln=0
 ·subst h0;clear hln
  go_enter func27,ntmps27
  go_wp2;go_ret;exact⟨_,L,0,rfl,HM,World.grownBy.rfl' _ _,rfl,Int.le_refl _,.inl rfl,fun _=>rfl,ZX.refl L⟩
 have h0e:((ln:Int) == 0)=false:=by simp;omega
 have h0f:(ln == 0)=false:=by simp[h0]
 by_cases h1:n<1
 ·clear h0 hln
  go_enter func27,ntmps27
  go_wp2;go_ret;exact⟨_,L,0,rfl,HM,World.grownBy.rfl' _ _,rfl,Int.le_refl _,.inl rfl,fun _=>rfl,ZX.refl L⟩
 obtain⟨z,L',rfl⟩:∃z L',L=z :: L':=by
  cases L with
  | nil=>simp at hln;omega
  | cons z L'=>exact⟨z,L',rfl⟩
 have hz:=HM.lb z (by simp)
 obtain⟨hz0,hz1⟩:=hz;obtain⟨ad,rfl,hl⟩:=HM.lr.rowsAt 0 z rfl;have d0:w.cell? ad=some (U8 z):=by
  have:=hl w HM.gr 0 _ rfl;rw[zI]at this
  simpa [byE,Addr.add]using this
 obtain⟨k,rfl⟩:∃k,ln=k+1:=⟨ln - 1,by omega⟩
 have hcap:k+1<=lc:=HM.lc;have hrun:=zga (w:=w) (ad:=ad) (n:=k) (c:=lc);clear h0 hl;have hlt:(0:Int)< ((k+1:Nat):Int):=by omega
 obtain⟨ad',had⟩:∃ad',(if lc=1 then ad else ad.add 1)=ad':=⟨_,rfl⟩;rw[had]at hrun;have HL':Hid (zr byE w0 (.slice (some ad') k (lc - 1)) L'):=dD<|by
  obtain⟨⟨xa,xc,q1,q2,q3⟩,q4⟩:=HM.lr;dsimp only[Sli.x]at q1;cases q1;have q5:=q3 ad rfl;refine⟨⟨some ad',lc - 1,rfl,fun h=>(by cases h),fun y hy=>?_⟩,?_⟩
  ·cases hy
   by_cases hc:lc=1
   ·have:L'=[]:=by
     have:L'.length=0:=by omega
     exact eN this
    subst this;intro j u hj
    simp at hj
   rw[if_neg hc]at had;subst had;intro j u hj;rw[zI,Nat.add_comm 1 j];exact q5 (j+1) u (by simpa [byE]using hj)
  have:byE.bytes=1:=rfl;rw[this]at q4⊢
  simp at q4⊢
  omega
 have HBX:Hid (zD (w.setCell ⟨b,0,none⟩ (.slice (some ad') k (lc - 1))) b 87 [.slice (some ad') k (lc - 1),V.f.x,I6 m.hand,V.s.x,V.sb.x,V.sq.x,V.db.x,V.dq.x,V.fl.x,I6 m.cnt,V.ca.x,V.sp.x,vt.x]):=HM.box.set 0 _;have HGR:Hid (w.grownBy (w.setCell ⟨b,0,none⟩ (.slice (some ad') k (lc - 1))) (some b)):=⟨rfl,rfl,rfl,by simp[World.setCell],fun j _ hj=>Below.heap_setCell _ _ _ _ (fun e=>hj (by rw[e]))⟩
 have HSZ:Hid ((w.setCell ⟨b,0,none⟩ (.slice (some ad') k (lc - 1))).heap.size=w.heap.size):=dD<|by simp[World.setCell]
 have HMK:Hid (Mk w0 hi (w.setCell ⟨b,0,none⟩ (.slice (some ad') k (lc - 1))) b ⟨some ad',k,lc - 1⟩ L' V m vt T):=show Mk _ _ _ _ _ _ _ _ _ _ from
  ⟨ze HM.gr HGR HM.hb,HM.hb,HBX,HL',(show k<=lc - 1 by omega),fun y hy=>HM.lb y (by simp[hy]),HM.rows.var HGR HM.box (Nat.le_of_eq HSZ.symm) (.inl rfl)⟩
 have HX:Hid (0<=z % n/\z % n<n):=dD<|⟨Int.emod_nonneg _ (by omega),Int.emod_lt_of_pos _ (by omega)⟩
 clear hln hcap had
 go_enter func27,ntmps27
 go_wp2;go_ret;exact⟨_,L',z % n,rfl,HMK,HGR,HSZ,HX.1,.inr HX.2,fun h=>(by cases h)⟩
theorem zbN (q:List Int) (i:Nat) (z:Int):pgc (q.set i z)=(pgc q).set i (U8 z):=by
 unfold pgc;rw[List.map_set]
theorem zcL {q:List Int} (h:q[i]? =some z):(pgc q)[i]? =some (U8 z):=by
 unfold pgc;rw[List.getElem?_map,h];rfl
theorem zl3:(Tryz.prog.info? 50).map (·.size)=some 8:=by kernel_rfl
theorem zbt (h:Mk w0 hi w b vl L V m vt T):
  Calls prog 30 #[.pointer (some ⟨b,0,none⟩)] w fun e w'=>∃vl' L' q,e= .returned (.agg (pgc q).toArray)/\q.length=8/\Mk w0 hi w' b vl' L' V m vt T/\w.grownBy w' (some b)/\ZX L L':=by
 have HM:Hid (Mk w0 hi w b vl L V m vt T):=h;obtain⟨W0,hW0⟩:∃W0,(w.alloc (.cells #[U8 0,U8 0,U8 0,U8 0,U8 0,U8 0,U8 0,U8 0] 50)).alloc (.cells #[U8 0,U8 0,U8 0,U8 0,U8 0,U8 0,U8 0,U8 0] 50)=W0:=⟨_,rfl⟩;have HG0:=gD2 hW0
 have X0:Hid (zD W0 w.heap.size 50 (pgc zm)):=dD<|by rw[<-hW0];exact(zD.top _ (pgc zm) _ rfl).grew (za _ _)
 have Y0:Hid (zD W0 (w.heap.size+1) 50 (pgc zm)):=dD<|by rw[<-hW0];exact zD.top _ (pgc zm) _ (by simp)
 have HB:Hid (b<w.heap.size):=dD<|h.box.box.lt
 have HH:Hid (hi<=w.heap.size):=dD<|h.rows.hw
 have HW0:Hid (_=W0):=hW0;clear hW0 h
 go_enter func30,ntmps30
 go_upto_region 2 with fail;rw[HW0.out];go_wp2
 go_loopg [5] 8 (fun gg s5 wr=>∃(kk:Nat) (vl':Sli) (L' q:List Int),kk<=8/\8 - kk<=gg/\s5=I6 kk/\Hid (w.grownBy wr (some b))/\Hid (Mk w0 hi wr b vl' L' V m vt T)/\Hid (zD wr w.heap.size 50 (pgc zm))/\Hid (zD wr (w.heap.size+1) 50 (pgc q))/\Hid (q.length=8)/\Hid (ZX L L'))
 case atStart=>exact⟨0,vl,L,zm,nZ _,by omega,rfl,zkF HG0 _,HM.grew HG0,X0,Y0,(show zm.length=8 from rfl),ZX.refl L⟩
 obtain⟨kk,vl',L',q,hkk,hgg,rfl,BW,MW,XW,YW,QL,LL⟩:=hrel
 by_cases hlt:kk<8
 ·have hltz:(kk:Int)<8:=by omega
  have hpk:=qB 4 MW.out;go_wp2_with fail;refine hpk.mono ?_;clear hpk;rintro e W1 ⟨vl2,L2,x,rfl,mk1,gr1,sz1,x0,x1,xn,ll⟩;have hx4:x<4:=by rcases x1 with h|h <;> omega
  have M1:Hid (Mk w0 hi W1 b vl2 L2 V m vt T):=mk1;have B1:Hid (w.grownBy W1 (some b)):=zad BW gr1;have X1:Hid (zD W1 w.heap.size 50 (pgc zm)):=XW.beside gr1 (fun g e=>by cases e;have:=HB.out;omega)
  have Y1:Hid (zD W1 (w.heap.size+1) 50 (pgc q)):=YW.beside gr1 (fun g e=>by cases e;have:=HB.out;omega)
  have LL1:=dD (LL.trans ll);clear mk1 gr1 sz1 x1 xn ll;obtain⟨z,hz⟩:∃z,q[kk]? =some z:=⟨_,gE (by rw[QL.out];exact hlt)⟩
  have y0:=Y1.box.c kk (zcL hz);have yf:=Y1.box.f;have GS:Hid (W1.grownBy (W1.setCell ⟨w.heap.size+1,kk,none⟩ (U8 x)) (some (w.heap.size+1))):=⟨rfl,rfl,rfl,by simp[World.setCell],fun j _ hj=>Below.heap_setCell _ _ _ _ (fun e=>hj (by rw[e]))⟩
  have Y2:Hid (zD (W1.setCell ⟨w.heap.size+1,kk,none⟩ (U8 x)) (w.heap.size+1) 50 (pgc (q.set kk x))):=dD<|by rw[zbN];exact Y1.set kk _
  have X2:Hid (zD (W1.setCell ⟨w.heap.size+1,kk,none⟩ (U8 x)) w.heap.size 50 (pgc zm)):=X1.beside GS (fun g e=>by cases e;omega)
  have M2:Hid (Mk w0 hi (W1.setCell ⟨w.heap.size+1,kk,none⟩ (U8 x)) b vl2 L2 V m vt T):=show Mk _ _ _ _ _ _ _ _ _ _ from
   ⟨ze M1.gr GS (by have:=bS HM.gr;omega),M1.hb,M1.box.beside GS (fun g e=>by cases e;have:=HB.out;omega),M1.lr,M1.lc,M1.lb,M1.rows.var GS Y1 (by simp[World.setCell]) (.inr ⟨rfl,by have:=HH.out;omega⟩)⟩
  have B2:Hid (w.grownBy (W1.setCell ⟨w.heap.size+1,kk,none⟩ (U8 x)) (some b)):=dD<|⟨B1.os,B1.tape,B1.output,by simp[World.setCell];exact B1.size,fun j hj hn=>by
   rw[Below.heap_setCell _ _ _ _ (by simp;omega)]
   exact B1.block j hj hn⟩
  clear hz;go_wp2
  go_roundg (8 -(kk+1))
  case measure=>omega
  exact⟨kk+1,vl2,L2,q.set kk x,by omega,by omega,by go_num,B2,M2,X2,Y2,(show _=_ by rw[List.length_set];exact QL),LL1⟩
 have hltz:¬(kk:Int)<8:=by omega
 have:kk=8:=by omega
 subst this;have HP:Hid ((pgc q).length=8):=dD<|by rw[jU];exact QL.out
 go_wp2_with (first | (refine zK rfl 50 (.tmp 3) rfl (w.heap.size+1) rfl YW.box underlying50 rfl (by rw[HP.out];exact zl3) ?_) | (refine zn rfl 50 (.tmp 2) (.tmp 14) rfl w.heap.size rfl (pgc q) rfl XW.box (by rw[HP.out];rfl) zl3 (z6 q) ?_))
 intro W5 hb5 hg5 sz5;have M5:Hid (Mk w0 hi W5 b vl' L' V m vt T):=show Mk _ _ _ _ _ _ _ _ _ _ from
  ⟨ze MW.gr hg5 (bS HM.gr),MW.hb,MW.box.beside hg5 (fun g e=>by cases e;have:=HB.out;omega),MW.lr,MW.lc,MW.lb,MW.rows.var hg5 XW (Nat.le_of_eq sz5.symm) (.inr ⟨rfl,HH⟩)⟩
 have B5:Hid (w.grownBy W5 (some b)):=dD<|⟨hg5.os.trans BW.os,hg5.tape.trans BW.tape,hg5.output.trans BW.output,nT BW.size hg5.size,fun j hj hn=>by
  rw[hg5.block j (Nat.lt_of_lt_of_le hj BW.size) (fun e=>by cases e;omega)]
  exact BW.block j hj hn⟩
 go_wp2;refine bodyPost_ret (zT rfl _ rfl hb5 underlying50 rfl (by rw[HP.out];exact zl3)) rfl ⟨vl',L',q,rfl,QL,M5,B5,LL⟩
theorem zdj {P:Program} {a:Act} (x:Operand) (p:Addr) (ho:o.op= .nilCheck x) (hx:a.eval x= .pointer (some p)):(execOp a.eval o).run P w= .ok (.value (.pointer (some p))) w:=by
 simp[execOp,ho,hx]
section
variable{I:World->Prop} {P:Program} {ops:Array Oper} {o:Oper} {rest:List Oper} {k:Nat} {F:Nat->World->Prop} {a:Act} {Q:Act->World->Prop}
theorem zbY {S:Nat->Option (Value->Prop)} (x:Operand) (p:Addr) (ho:o.op= .nilCheck x) (hx:a.eval x= .pointer (some p)) (hw:Region.wanted o (yielded ops a.tmps)=true) (hS:S k=none) (h:zeV I P ops S Q rest (k+1) F (a.put o.dst (.pointer (some p)))):zeV I P ops S Q (o :: rest) k F a:=by
 constructor;unfold zap;rw[if_pos hw];simp only[hS];exact⟨_,fun w _ _=>zdj x p ho hx,h.out⟩
theorem jE {S:Nat->Option zcE} (x:Operand) (p:Addr) (ho:o.op= .nilCheck x) (hx:a.eval x= .pointer (some p)) (hw:Region.wanted o (yielded ops a.tmps)=true) (hS:S k=none) (h:zci I P ops S Q rest (k+1) F (a.put o.dst (.pointer (some p)))):zci I P ops S Q (o :: rest) k F a:=by
 constructor;unfold JS;rw[if_pos hw];simp only[hS];exact⟨_,fun w _ _=>zdj x p ho hx,h.out⟩
end
def Loc (hi p:Nat) (t:TypeId):Prop:=t≠87/\t≠59/\t≠3/\t≠91/\t≠71/\t≠83/\t≠65/\t≠93/\(t=50->hi<=p)
def zo (hi:Nat) (w w':World):Prop:=(∀p t cs,zD w p t cs->Loc hi p t->zD w' p t cs)/\w.heap.size<=w'.heap.size
theorem zo.trans {a b c:World} (h:zo hi a b) (k:zo hi b c):zo hi a c:=⟨fun p t cs h1 h2=>k.1 p t cs (h.1 p t cs h1 h2) h2,nT h.2 k.2⟩
theorem zo.grew {a b:World} (h:zc a b):zo hi a b:=⟨fun _ _ _ h1 _=>h1.grew h,bS h⟩
theorem zo.kind {g:Nat} {cs:Array Value} (hg:w.grownBy w' (some g)) (ho:w.heap[g]? =some (.cells cs t (0,0))) (hn:∀p,Loc hi p t->p≠g):zo hi w w':=⟨fun p u ds h1 h2=>h1.beside hg (fun k e=>by
 cases e;intro he;subst he;have h3:w.heap[p]? =some (.cells ds.toArray u (0,0)):=h1;rw[ho]at h3;simp only[Option.some.injEq,Obj.cells.injEq]at h3;obtain⟨_,rfl,_⟩:=h3;exact hn p h2 rfl),hg.size⟩
theorem Mk.keeps (h:Mk w0 hi w b vl L V m vt T) (hg:w.grownBy w' (some b)):zo hi w w':=zo.kind hg h.box (fun _ hl=>absurd rfl hl.1)
def MkE (w0:World) (hi b:Nat) (w:World) (L:List Int) (V:MaV) (m:Ma) (vt:Sli) (T:List (Nat->En)) (w':World):Prop:=∃vl' L',Mk w0 hi w' b vl' L' V m vt T/\ZX L L'/\zo hi w w'
theorem zkO {a n:Nat} (h:0<n):((a:Int) %(n:Int))=((a % n:Nat):Int)/\a % n<n:=⟨by omega,Nat.mod_lt _ h⟩
theorem zew (f:Fr) (h:Mk w0 hi w b vl L V m vt T):
  Calls prog 128 #[.pointer (some ⟨b,0,none⟩),.agg (frv f).toArray] w fun e w'=>(e= .returned (I6 (-1))/\MkE w0 hi b w L V m vt T w')\/∃(j:Nat) (q:Fr),e= .returned (I6 (j:Int))/\m.fs[j]? =some q/\q.r=0/\MkE w0 hi b w L V { m with fs:=m.fs.set j f } vt T w':=by
 have HM:Hid (Mk w0 hi w b vl L V m vt T):=h;obtain⟨W0,hW0⟩:∃W0,w.alloc (.cells #[U8 f.p.b0,U8 f.p.b1,U8 f.p.b2,U8 f.p.b3,U8 f.p.b4,U8 f.p.b5,U8 f.p.b6,U8 f.p.b7,I6 f.r,.bool f.u,.bool f.d,I6 f.f,I6 f.x] 59)=W0:=⟨_,rfl⟩;have HG0:=gA hW0
 have X0:Hid (zD W0 w.heap.size 59 (frv f)):=dD<|by rw[<-hW0];exact zD.top _ (frv f) _ rfl
 have M0:Hid (Mk w0 hi W0 b vl L V m vt T):=h.grew HG0.out;have HNF:Hid (V.f.n=m.fs.length):=h.rows.fs.n;have hbig:V.f.n<=140737488355328:=by
  have h1:=h.rows.fs.2;have h40:zaf.bytes=40:=rfl;rw[h40]at h1;have:=h.rows.fs.n;omega
 have HB:Hid (b<w.heap.size):=dD<|h.box.box.lt
 have HFG:Hid (∀g,(V.f.x).ownBlock=some g->g<w.heap.size):=dD<|fun g hg=>(h.rows.fs.lt g hg).2
 have HW0:Hid (_=W0):=hW0;clear hW0 h
 go_enter func128,ntmps128
 go_upto_region 1 with fail;have hw:w.alloc (.cells (frv f).toArray 59)=W0:=HW0.out;try rw[hw]
 try rw[HW0.out]
 clear hw;have x1:=M0.box.box.c 1 rfl;go_upto_region 2 with fail;clear x1;obtain⟨n,HN⟩:∃n,Hid (V.f.n=n):=⟨_,rfl⟩;rw[HN.out]at hbig⊢;have hpk:=qB (n:Int) M0.out;go_wp2_with fail;refine hpk.mono ?_;clear hpk;rintro e W1 ⟨vl1,L1,x,rfl,mk1,gr1,sz1,x0,x1,xn,ll⟩;obtain⟨fr,rfl⟩:∃fr:Nat,x=(fr:Int):=⟨x.toNat,by omega⟩
 have hfr:fr<=n:=by rcases x1 with h | h <;> omega
 have M1:Hid (Mk w0 hi W1 b vl1 L1 V m vt T):=mk1;have K1:Hid (zo hi w W1):=(zo.grew HG0).trans (M0.keeps gr1);have X1:Hid (zD W1 w.heap.size 59 (frv f)):=X0.beside gr1 (fun g e=>by cases e;have:=HB.out;omega)
 have LL1:Hid (ZX L L1):=ll;clear mk1 gr1 sz1 x1 xn ll x0;go_wp2
 go_loopg [20] n (fun gg s20 wr=>∃i:Nat,i<=n/\n - i<=gg/\s20=I6 i/\wr=W1)
 case atStart=>exact⟨0,nZ _,by omega,rfl,rfl⟩
 obtain⟨i,hi',hgg,rfl,rfl⟩:=hrel
 by_cases hlt:i<n
 ·have hltz:(i:Int)< (n:Int):=by omega
  have hn0:¬(n:Int)=0:=by omega
  have hn1:((n:Int) == 0)=false:=by simp;omega
  obtain⟨j,hj⟩:∃j:Nat,(fr+i) % n=j:=⟨_,rfl⟩;have hjm:((fr:Int)+(i:Int)) %(n:Int)=(j:Int):=by
   rw[<-hj];have:=(zkO (a:=fr+i) (n:=n) (by omega)).1
   rw[<-this];rfl
  have hjn:j<n:=by rw[<-hj];exact Nat.mod_lt _ (by omega)
  have hjz:(j:Int)< (n:Int):=by omega
  clear hj;obtain⟨q,HQ⟩:∃q,Hid (m.fs[j]? =some q):=⟨_,gE (by rw[<-HNF.out,HN.out];exact hjn)⟩
  obtain⟨g,c',heq⟩:=M1.rows.fs.formS (by rw[<-HNF.out,HN.out];omega)
  have hfl:m.fs.length=n:=by rw[<-HNF.out,HN.out]
  rw[hfl]at heq;have HEQ:Hid (V.f.x= .slice (some ⟨g,0,none⟩) n c'):=heq;have x1:=M1.box.box.c 1 rfl;rw[HEQ.out]at x1;have hrw:=M1.rows.fs;rw[HEQ.out]at hrw;have HRW:Hid (zb zaf w0.heap.size wr (.slice (some ⟨g,0,none⟩) n c') m.fs):=hrw;have HGL:Hid (g<w.heap.size):=HFG.out g (by rw[HEQ.out];rfl)
  have hce:=hrw.one HQ.out;have d8:wr.cell? ⟨g,j*13+8,none⟩=some (I6 q.r):=by
   have:=hce 8 _ rfl;rw[zI,Addr.add_lit,zA]at this;exact this
  clear hce hrw heq hfl
  by_cases hr:q.r=0
  ·have hre:(q.r == 0)=true:=by simp[hr]
   have HR0:Hid (q.r=0):=hr;clear hr;go_upto_region 8 with fail;clear d8;obtain⟨I,hI⟩:∃I:World->Prop,I=fun u=>zc wr u:=⟨_,rfl⟩
   have HI:Hid (∀u,I u↔zc wr u):=dD<|fun u=>by rw[hI]
   clear hI;have hI0:I wr.drew:=(HI _).2 (gW _)
   have hx1:∀y:zk I,y.world.cell? ⟨b,1,none⟩=some (.slice (some ⟨g,0,none⟩) n c'):=fun y=>by rw[<-HEQ.out];exact(M1.box.box.grew ((HI _).1 y.holds)).c 1 rfl
   have hf0:∀y:zk I,y.world.cell? ⟨w.heap.size,0,none⟩=some (U8 f.p.b0):=fun y=>(X1.box.grew ((HI _).1 y.holds)).c 0 rfl
   have hf1:∀y:zk I,y.world.cell? ⟨w.heap.size,1,none⟩=some (U8 f.p.b1):=fun y=>(X1.box.grew ((HI _).1 y.holds)).c 1 rfl
   have hf2:∀y:zk I,y.world.cell? ⟨w.heap.size,2,none⟩=some (U8 f.p.b2):=fun y=>(X1.box.grew ((HI _).1 y.holds)).c 2 rfl
   have hf3:∀y:zk I,y.world.cell? ⟨w.heap.size,3,none⟩=some (U8 f.p.b3):=fun y=>(X1.box.grew ((HI _).1 y.holds)).c 3 rfl
   have hf4:∀y:zk I,y.world.cell? ⟨w.heap.size,4,none⟩=some (U8 f.p.b4):=fun y=>(X1.box.grew ((HI _).1 y.holds)).c 4 rfl
   have hf5:∀y:zk I,y.world.cell? ⟨w.heap.size,5,none⟩=some (U8 f.p.b5):=fun y=>(X1.box.grew ((HI _).1 y.holds)).c 5 rfl
   have hf6:∀y:zk I,y.world.cell? ⟨w.heap.size,6,none⟩=some (U8 f.p.b6):=fun y=>(X1.box.grew ((HI _).1 y.holds)).c 6 rfl
   have hf7:∀y:zk I,y.world.cell? ⟨w.heap.size,7,none⟩=some (U8 f.p.b7):=fun y=>(X1.box.grew ((HI _).1 y.holds)).c 7 rfl
   have hf8:∀y:zk I,y.world.cell? ⟨w.heap.size,8,none⟩=some (I6 f.r):=fun y=>(X1.box.grew ((HI _).1 y.holds)).c 8 rfl
   have hf9:∀y:zk I,y.world.cell? ⟨w.heap.size,9,none⟩=some (.bool f.u):=fun y=>(X1.box.grew ((HI _).1 y.holds)).c 9 rfl
   have hf10:∀y:zk I,y.world.cell? ⟨w.heap.size,10,none⟩=some (.bool f.d):=fun y=>(X1.box.grew ((HI _).1 y.holds)).c 10 rfl
   have hf11:∀y:zk I,y.world.cell? ⟨w.heap.size,11,none⟩=some (I6 f.f):=fun y=>(X1.box.grew ((HI _).1 y.holds)).c 11 rfl
   have hf12:∀y:zk I,y.world.cell? ⟨w.heap.size,12,none⟩=some (I6 f.x):=fun y=>(X1.box.grew ((HI _).1 y.holds)).c 12 rfl
   have hne:Nonempty (zk I):=⟨⟨_,hI0⟩⟩;refine Qb (I:=I) 9 [] hI0 qu (by kernel_rfl) rfl rfl (by decide) (by simp) (by kernel_rfl) ?_
   simp only[List.take,List.drop];iterate 1 (refine qG rfl rfl rfl (fun K hK=>?_);go_big_quiet_op;refine hK _ ?_;clear hK)
   refine zbY (.tmp 39) ⟨b,0,none⟩ rfl rfl rfl rfl ?_;simp only[Act.put,sB,sS,sZ];iterate 7 (refine qG rfl rfl rfl (fun K hK=>?_);go_big_quiet_op;refine hK _ ?_;clear hK)
   refine zbu fun W2 hI2 hF=>?_
   have hg2:=(HI _).1 hI2;have M2:=dD (M1.grew hg2);have R2:=dD (HRW.grew hg2);have K2:=dD (K1.trans (zo.grew hg2));clear hg2 hI2 hF hx1 hf0 hf1 hf2 hf3 hf4 hf5 hf6 hf7 hf8 hf9 hf10 hf11 hf12 hne hI0;refine QY (E:=zaf) rfl (.tmp 47) (.tmp 46) rfl w0.heap.size _ m.fs R2 g j rfl f (by rw[<-HNF.out,HN.out];exact hjn) ⟨g,j*13,none⟩ rfl rfl (.agg (frv f).toArray) rfl rfl ?_
   intro W3 ow3 gr3 sz3;have M3:Hid (Mk w0 hi W3 b vl1 L1 V { m with fs:=m.fs.set j f } vt T):=dD<|by
    have hob:(V.f.x).ownBlock=some g:=by rw[HEQ.out];rfl
    have h2:=M2.out;refine⟨ze h2.gr gr3 (R2.lt g rfl).1,h2.hb,h2.box.beside gr3 (fun k e=>?_),h2.lr,h2.lc,h2.lb,h2.rows.setF hob gr3 sz3 (by rw[HEQ.out];exact ow3)⟩
    cases e;exact R2.ne h2.box (by decide) g rfl
   have K3:Hid (zo hi w W3):=dD<|by
    obtain⟨cs,hcs⟩:=R2.obj (g:=g) rfl;exact K2.trans (zo.kind gr3 hcs (fun _ hl=>absurd rfl hl.2.1))
   clear ow3 gr3 sz3;go_wp2;go_ret;exact .inr ⟨j,q,rfl,HQ,HR0,vl1,L1,M3,LL1,K3⟩
  have hre:(q.r == 0)=false:=by simp[hr]
  clear hr;go_wp2
  go_roundg (n -(i+1))
  case measure=>omega
  exact⟨i+1,by omega,by omega,by go_num,rfl⟩
 have hltz:¬(i:Int)< (n:Int):=by omega
 go_wp2;go_ret;exact .inl ⟨rfl,vl1,L1,M1,LL1,K1⟩
theorem zfx {ps:List (List Int)} {l:List Int} (h:∀p∈ps,p.length=8) (hl:l.length=8):∀p∈ps.set i l,p.length=8:=fun p hp=>by
 rcases List.mem_or_eq_of_mem_set hp with h1|h1
 ·exact h p h1
 rw[h1];exact hl
theorem Ql {rest:List Oper} {a:Act} (hgd:o.guard=none) (p x:Operand) (ho:o.op= .store 50 p x)
  (base:Nat) (v:Value) (ps:List (List Int)) (hown:zu base w v ps) (g i:Nat) (hg:v.ownBlock=some g) (hi:i<ps.length) (l:List Int) (hl:l.length=8)
  (ad:Addr) (hp:a.eval p= .pointer (some ad)) (had:ad=⟨g,i*8,none⟩) (hx:a.eval x= .agg (pgc l).toArray)
  (h:∀w',zu base w' v (ps.set i l)->w.grownBy w' (some g)->w'.heap.size=w.heap.size->wpList prog ops Q rest (a.put o.dst undef) w'):wpList prog ops Q (o :: rest) a w:=by
 refine zbh hgd p x 50 ho 8 (by kernel_rfl) base v ps.length _ hown.1 g i hg hi (pgc l) (by rw[jU,hl]) (z6 l) ad hp had hx fun w' h1 h2 h3=>?_
 rw[Qn l (by rw[jU,hl]) ps i (fun b hb=>by rw[jU,hown.2.1 b hb]) hi]at h1
 refine h w' ⟨by rw[List.length_set];exact h1,zfx hown.2.1 hl,by rw[List.length_set];exact hown.2.2⟩ h2 h3
theorem zhV (base:Nat) (w:World):ziN base w (.agg #[eS,eS]) [] []:=
 ⟨_,_,rfl,⟨⟨none,0,rfl,fun _=>rfl,fun x hx=>by cases hx⟩,by simp,by simp⟩,⟨⟨none,0,rfl,fun _=>rfl,fun x hx=>by cases hx⟩,by simp,by simp⟩,Jv _,Jv _⟩
theorem zkw (w:World):jh w (eS) []:=⟨⟨none,0,rfl,fun _=>rfl,fun x hx=>by cases hx⟩,by simp,by simp⟩
def Qs (n:Int):Int:=if 0<=n/\n<=80 then 0 else 4
def zgi (n:Int):List (List Int):=if 0<=n/\n<=80 then List.replicate n.toNat zm else []
theorem zcO (n:Nat):(madeCells #[U8 0,U8 0,U8 0,U8 0,U8 0,U8 0,U8 0,U8 0] (n*8)).toList=(List.replicate n zm).flatMap pgc:=by
 have hl:((List.replicate n zm).flatMap pgc).length=n*8:=by rw[qV (k:=8) _ (fun a ha=>by rw[List.eq_of_mem_replicate ha];rfl)];simp
 apply List.ext_getElem?
 intro j
 rcases Nat.lt_or_ge j (n*8)with h|h
 ·have hj:j=j / 8*8+j % 8:=by omega
  have h8:j % 8<8:=Nat.mod_lt _ (by decide)
  have hq:j / 8<n:=by omega
  have hz:(pgc zm)[j % 8]? =some (U8 0):=by
   generalize j % 8=k at h8
   match k,h8 with
   | 0,_=>rfl
   | 1,_=>rfl
   | 2,_=>rfl
   | 3,_=>rfl
   | 4,_=>rfl
   | 5,_=>rfl
   | 6,_=>rfl
   | 7,_=>rfl
  have h1:=qE (enc:=pgc) (k:=8) (List.replicate n zm) (j / 8) zm (fun a ha=>by rw[List.eq_of_mem_replicate ha];rfl) (by simp[hq]) (j % 8) _ hz
  rw[<-hj]at h1;rw[h1];have:(#[U8 0,U8 0,U8 0,U8 0,U8 0,U8 0,U8 0,U8 0]:Array Value)[j % 8]! =U8 0:=by
   generalize j % 8=k at h8
   match k,h8 with
   | 0,_=>rfl
   | 1,_=>rfl
   | 2,_=>rfl
   | 3,_=>rfl
   | 4,_=>rfl
   | 5,_=>rfl
   | 6,_=>rfl
   | 7,_=>rfl
  simp[madeCells,h]
  simpa using this
 rw[gN (by simp[madeCells];exact h),gN (by rw[hl];exact h)]
theorem zaO {rest:List Oper} {a:Act} (hgd:o.guard=none) (l:Operand) (ho:o.op= .makeSlice 30 l l) (n:Nat) (hl:a.eval l=I6 n) (hn:n<=80)
  (h:∀C,zu w.heap.size (w.alloc (.cells C 50)) (.slice (some ⟨w.heap.size,0,none⟩) n n) (List.replicate n zm)->wpList prog ops Q rest (a.put o.dst (.slice (some ⟨w.heap.size,0,none⟩) n n)) (w.alloc (.cells C 50))):wpList prog ops Q (o :: rest) a w:=by
 refine wpList_plain hgd fun K hK=>?_
 obtain⟨i0,hi,hz0,hz1,hz2⟩:=info_parts zlK;have hrun:=run_make (P:=prog) w 30 50 i0 _ underlying30 hi hz0 .i64 .i64 n n (by omega) (Int.le_refl _) (by rw[hz2];omega) (by omega)
 rw[hz1,tN]at hrun;unfold Oper.wp;simp only[execOp,ho,hl,Sem.run_bind,hrun,Result.andThen,Sem.run_pure,Oper.upon];refine hK _ _ (h _ ⟨⟨?_,.inr ⟨w.heap.size,n,madeCells #[U8 0,U8 0,U8 0,U8 0,U8 0,U8 0,U8 0,U8 0] (n*8),by rw[lR],nR _,?_,?_,?_,?_,?_⟩⟩,fun p hp=>by rw[List.eq_of_mem_replicate hp];rfl,by rw[lR];omega⟩)
 ·rw[qV (k:=8) _ (fun a ha=>by rw[List.eq_of_mem_replicate ha];rfl)]
 ·show(w.heap.push _)[w.heap.size]? =_
  simp[Value.cells]
 ·rw[lR];exact nR _
 ·exact qH (by omega)
 ·rw[size_madeCells]
 rw[lR]
 show(madeCells #[U8 0,U8 0,U8 0,U8 0,U8 0,U8 0,U8 0,U8 0] (n*8)).toList.take (n*8)=_
 rw[List.take_of_length_le (by simp[madeCells]),zcO]
theorem zky (n:Int) (w:World):
  Calls prog 69 #[I6 n] w fun e w'=>∃d',e= .returned (.tuple #[d',I6 (Qs n)])/\ziN w.heap.size w' d' (zgi n) []/\zc w w':=by
 by_cases h:0<=n/\n<=80
 ·have HE:Hid (Qs n=0):=dD<|by unfold Qs;rw[if_pos h]
  have HD:Hid (zgi n=List.replicate n.toNat zm):=dD<|by unfold zgi;rw[if_pos h]
  obtain⟨k,rfl⟩:=Int.eq_ofNat_of_zero_le h.1;have h0:¬(k:Int)<0:=by omega
  have h1:¬(80:Int)< (k:Int):=by omega
  have hk:k<=80:=by omega
  have HG0:Hid (zc w (w.alloc (.cells #[eS,eS] 33))):=za _ _;rw[HE.out]
  go_enter func69,ntmps69
  go_wp2_with (refine zaO rfl (.tmp 11) rfl k rfl hk ?_;intro C ow;have OW:Hid (zu (w.alloc (.cells #[eS,eS] 33)).heap.size ((w.alloc (.cells #[eS,eS] 33)).alloc (.cells C 50)) (.slice (some ⟨(w.alloc (.cells #[eS,eS] 33)).heap.size,0,none⟩) k k) (List.replicate k zm)):=ow;clear ow)
  refine bodyPost_ret (v:= .tuple #[.agg #[.slice (some ⟨w.heap.size+1,0,none⟩) k k,eS],I6 0]) (by simp[results,Tryz.results69,go_sem, *]) rfl ⟨_,rfl,?_,?_⟩
  ·rw[HD.out];have ho:=OW.out;rw[World.size_alloc]at ho;exact⟨_,_,rfl,zu.at (base:=w.heap.size+1) ⟨zeg ho.1 (fun k hk=>zfX w _ _ _ k hk),ho.2⟩,zkw _,fun x n c e=>by cases e;simp,Jv _⟩
  exact(za _ _).trans (za _ _)
 have HE:Hid (Qs n=4):=dD<|by unfold Qs;rw[if_neg h]
 have HD:Hid (zgi n=[]):=dD<|by unfold zgi;rw[if_neg h]
 rw[HE.out,HD.out]
 by_cases h0:n<0
 ·clear h
  go_enter func69,ntmps69
  go_wp2;refine bodyPost_ret (v:= .tuple #[.agg #[eS,eS],I6 4]) (by simp[results,Tryz.results69,go_sem]) rfl ⟨_,rfl,zhV _ _,?_⟩
  exact za _ _
 have h1:(80:Int)<n:=by omega
 clear h
 go_enter func69,ntmps69
 go_wp2;refine bodyPost_ret (v:= .tuple #[.agg #[eS,eS],I6 4]) (by simp[results,Tryz.results69,go_sem]) rfl ⟨_,rfl,zhV _ _,?_⟩
 exact za _ _
end
section
open Go.RowKit Go.Shelf
section
attribute [local go_sem] Oper.semAt_some
structure P9 where
 (i m b0 b1 b2 b3 b4 b5 b6 b7:Int)
def P9.q (x:P9):Int × List Int:=(x.m,[x.b0,x.b1,x.b2,x.b3,x.b4,x.b5,x.b6,x.b7])
def P9.encs (x:P9):Array Value:=#[I6 x.i,.agg #[I6 x.m,U8 x.b0,U8 x.b1,U8 x.b2,U8 x.b3,U8 x.b4,U8 x.b5,U8 x.b6,U8 x.b7]]
theorem zgu {α:Type} (l:List α) (k:Nat) (q:α) (h:l[k]? =some q):(l.drop k).reverse=(l.drop (k+1)).reverse++ [q]:=by
 obtain⟨hlt,rfl⟩:=gS.1 h;rw[List.drop_eq_getElem_cons hlt,List.reverse_cons]
theorem zjQ {α:Type} (l:List α) (k:Nat):(l.drop k).reverse<+:l.reverse:=by
 refine⟨(l.take k).reverse,?_⟩;rw[<-List.reverse_append,List.take_append_drop]
theorem zjZ (F:Fence) (n:Nat) (hF:F.fn 161) (hro:F.round=none) (hn:1<=n) (l Bs n₀:Nat) (w:World) (a:Option Addr) (c:Nat) (qs:List (Int × List Int)) (hr:Ze w a qs) (hbig:qs.length<=9223372036854775807) (hw:w.heap.size<=n₀) (hBn:Bs<n₀) (J Jx:List P9->World->Prop)
  (hY:∀pre x W,J pre W->pre.length<qs.length->YieldAt F (n - 1) prog l (P9.encs x) W fun e W'=>
   (e= .returned (.bool true)/\J (pre++ [x]) W'/\Below n₀ W W')\/(e= .returned (.bool false)/\Jx (pre++ [x]) W'))
  (W:World) (hgW:zc w W) (hBs:W.cell? ⟨Bs,0,none⟩=some (.slice a qs.length c)) (h0:J [] W):
  CallsIn F n prog 161 #[.func (.yield l) #[] #[],.pointer (some ⟨Bs,0,none⟩)] W fun e W'=>(∃v,e= .returned v)/\
   ((∃ys,ys.map P9.q=qs.reverse/\J ys W')\/(∃pre,pre.map P9.q<+:qs.reverse/\Jx pre W')):=by
 have HR:Hid (Ze w a qs):=hr;have HY:Hid _:=hY;obtain⟨nq,HN⟩:∃nq,Hid (qs.length=nq):=⟨_,rfl⟩;rw[HN.out]at hbig hBs;have HBS:Hid (W.cell? ⟨Bs,0,none⟩=some (.slice a nq c)):=hBs;have HGW:Hid (zc w W):=hgW;clear hr hY hgW;refine callsIn_of_wp func161 rfl hF ?_ hro;simp only[ntmps161,List.size_toArray,List.length_cons,List.length_nil,Nat.reduceAdd,Nat.reduceSub,Array.replicate_succ,Array.replicate_zero,List.push_toArray,List.append_toArray,List.nil_append,List.cons_append]
 gi_wp2
 clear hBs
 gi_loopw [3] (fun p wr=>∃(r:Nat) (pre:List P9),r<=nq/\p=I6 ((r:Int) - 1)/\Hid (pre.map P9.q=(qs.drop r).reverse)/\Hid (J pre wr)/\Hid (Below n₀ W wr))
  (fun p _=>((intOf p)+1).toNat)
 case atStart=>exact⟨nq,[],nR _,by go_num,(show Hid _ from by rw[List.drop_of_length_le (by rw[HN.out];exact nR _)];rfl),h0,bR _ _⟩
 obtain⟨r,pre,hrn,rfl,HP,HJ,HB⟩:=hrel
 cases r with
 | zero=>
  gi_wp2
  go_end0
  exact⟨⟨_,rfl⟩,.inl ⟨pre,by rw[HP.out];rfl,HJ⟩⟩
 | succ k=>
  obtain⟨q,HQ⟩:∃q,Hid (qs[k]? =some q):=⟨_,gE (by rw[HN.out];omega)⟩
  obtain⟨x,m,b0,b1,b2,b3,b4,b5,b6,b7,rfl,rfl,hl⟩:=HR.out k q HQ.out;obtain⟨d0,d1,d2,d3,d4,d5,d6,d7,d8⟩:=hl wr (Below.trans HGW (HB.mono hw));have hbs:wr.cell? ⟨Bs,0,none⟩=some (.slice (some x) nq c):=(HB.cell (p:=⟨Bs,0,none⟩) hBn).trans HBS.out;have hlen:pre.length<qs.length:=by
   have:=congrArg List.length HP.out;rw[List.length_map,List.length_reverse,List.length_drop]at this;have:=HN.out;omega
  obtain⟨fn,tmps,assign,body,hy,hR⟩:=HY.out pre ⟨k,m,b0,b1,b2,b3,b4,b5,b6,b7⟩ wr HJ hlen;simp only[P9.encs]at hy;have hk1:((k+1:Nat):Int) - 1=(k:Int):=by omega
  have hkn:(k:Int)< (nq:Int):=by omega
  rw[hk1];clear hl
  gi_wp2
  refine hR.mono ?_;rintro e W3 (⟨rfl,hJ3,hk3⟩|⟨rfl,hJx3⟩)
  ·gi_wp2
   go_roundw
   case rel=>exact⟨k,_,by omega,by go_num,(show Hid _ from by rw[List.map_append,HP.out,zgu qs k _ HQ.out];rfl),hJ3,(show Hid _ from HB.trans hk3)⟩
   simp[intOf]
  gi_wp2
  refine bodyPost_ret (results_none rfl _ _ _) rfl ?_;refine⟨⟨_,rfl⟩,.inr ⟨_,?_,hJx3⟩⟩;rw[List.map_append,HP.out];have:=zjQ qs k;rw[zgu qs k _ HQ.out]at this;exact this
theorem zkY (F:Fence) (n:Nat) (hF:F.fn 149) (hro:F.round=none) (a:Option Addr) (len cap:Nat) (w:World):
  CallsIn F n prog 149 #[.slice a len cap] w fun e w'=>e= .returned (.func (.func 161) #[] #[.pointer (some ⟨w.heap.size,0,none⟩)])/\w'=w.alloc (.cells #[.slice a len cap] 31):=by
 refine callsIn_of_wp func149 rfl hF ?_ hro;simp only[ntmps149,List.size_toArray,List.length_cons,List.length_nil,Nat.reduceAdd,Nat.reduceSub,Array.replicate_succ,Array.replicate_zero,List.push_toArray,List.append_toArray,List.nil_append,List.cons_append]
 gi_wp2
 go_ret;exact⟨rfl,rfl⟩
theorem zhp (F:Fence) (n:Nat) (hF:F.fn 161) (hro:F.round=none) (hn:1<=n) (Bs n₀:Nat) (w0:World) (a:Option Addr) (c:Nat) (qs:List (Int × List Int)) (hr:Ze w0 a qs) (hbig:qs.length<=9223372036854775807) (w:World) (hg:zc w0 w) (hBs:Bs<n₀) (hn₀:n₀=w.heap.size)
  (hc:w.cell? ⟨Bs,0,none⟩=some (.slice a qs.length c)):
  SeqStopsK F n prog 161 #[.pointer (some ⟨Bs,0,none⟩)] P9.encs (Below n₀) (fun ys=>ys.map P9.q=qs.reverse) (fun pre=>pre.map P9.q<+:qs.reverse) qs.length w:=fun l J Jx W hW _ _ hY h0=>by
 subst hn₀;exact zjZ F n hF hro hn l Bs w.heap.size w0 a c qs hr hbig (bS hg) hBs J Jx hY W (hg.trans hW) ((hW.cell (p:=⟨Bs,0,none⟩) hBs).trans hc) h0
end
section
attribute [local go_sem] Oper.semAt_some
theorem zdJ {β : Type} (B : Nat) (f : β -> List Value) : Own (fun s W => Box W B (f s)) := fun s X Y row hs hg hrow => by
  have hlt := hs.lt
  obtain ⟨t, h⟩ := hs
  refine ⟨t, ?_⟩
  rw [hg.block B hlt (fun e => ?_)]
  · exact h
  · obtain ⟨o, ho, hc⟩ := hrow B e.symm
    rw [h] at ho
    cases ho
    cases hc
theorem Box.put {W : World} {b D : Nat} {cs : List Value} {o : Obj} (h : Box W b cs) (o' : Obj) (hD : W.heap[D]? = some o) (ho : o.isCells = false) : Box (W.putObj D o') b cs :=
  zdJ b (fun _ : Unit => cs) () W _ (some D) h (grownBy_putObj' W D o') (fun r e => by cases e; exact ⟨o, hD, ho⟩)
theorem jF {A B : World} (h : KeepsOthers A B) (a : Addr) (u : Value) : KeepsOthers A (B.setCell a u) := h.trans (KeepsOthers.setCell _ _ _)
theorem zir {qs : List (Int × List Int)} {ys : List P9} {m : Int} (h : ys.map P9.q = qs.reverse) (hne : ∀ x ∈ ys, x.m ≠ m) : qs.reverse.find? (fun q => q.1 == m) = none := by
  rw [<- h, List.find?_eq_none]
  intro q hq
  obtain ⟨x, hx, rfl⟩ := List.mem_map.1 hq
  simpa [P9.q] using hne x hx
theorem ziq {qs : List (Int × List Int)} {ini : List P9} {x : P9} {m : Int} (h : (ini ++ [x]).map P9.q <+: qs.reverse) (hne : ∀ y ∈ ini, y.m ≠ m) (hx : x.m = m) : qs.reverse.find? (fun q => q.1 == m) = some x.q := by
  obtain ⟨t, ht⟩ := h
  rw [<- ht, List.map_append, List.append_assoc, List.find?_append]
  have h1 : (ini.map P9.q).find? (fun q => q.1 == m) = none := by
    rw [List.find?_eq_none]
    intro q hq
    obtain ⟨y, hy, rfl⟩ := List.mem_map.1 hq
    simpa [P9.q] using hne y hy
  rw [h1]
  simp [P9.q, hx]
theorem QD {n : Nat} {qs : List (Int × List Int)} {m : Int} (h : zW n qs m = 0) : zL n qs = 0 /\ ∃ i : Nat, m = (i : Int) /\ i < n := by
  unfold zW at h
  by_cases h1 : zL n qs = 0
  · rw [if_pos h1] at h
    refine ⟨h1, ?_⟩
    cases hb : jO m n with
    | false => rw [hb] at h; simp at h
    | true =>
      unfold jO at hb
      simp at hb
      obtain ⟨i, hi⟩ := Int.eq_ofNat_of_zero_le hb.1
      exact ⟨i, hi, by omega⟩
  · rw [if_neg h1] at h; exact absurd h h1
theorem zgc (d : Value) (ps : List (List Int)) (qs : List (Int × List Int)) (m : Int) (w : World) (hd : zcl w d ps qs) :
    Calls Tryz.prog 113 #[d, .int .i64 m] w fun e w' => e = .returned (.tuple #[.agg (pgc (ju ps qs m)).toArray, .int .i64 (zW ps.length qs m)]) /\ zc w w' := by
  obtain ⟨b, q, rfl, hb, hq⟩ := hd
  have HB : Hid (ji w b ps) := hb
  have HQ : Hid (jh w q qs) := hq
  obtain ⟨ab, cb, rfl, hrb⟩ := hb.rows
  obtain ⟨aq, cq, rfl, hrq⟩ := hq.rows
  have HRB : Hid (QV w ab ps) := hrb
  have HRQ : Hid (Ze w aq qs) := hrq
  clear hb hq hrb hrq
  have HL : Hid (ju ps qs m = if zW ps.length qs m = 0 then (match qs.reverse.find? (fun q => q.1 == m) with | some q => q.2 | none => ps.getD m.toNat zm) else zm) := rfl
  obtain ⟨W0, hW0⟩ : ∃ W0, (((w.alloc (.cells #[.slice ab ps.length cb, .slice aq qs.length cq] 33)).alloc (.cells #[.int .i64 m] 3)).alloc (.cells #[.int .u8 0, .int .u8 0, .int .u8 0, .int .u8 0, .int .u8 0, .int .u8 0, .int .u8 0, .int .u8 0] 50)).alloc (.cells #[.int .i64 0] 43) = W0 := ⟨_, rfl⟩
  have HG0 : Hid (zc w W0) := show zc w W0 by rw [<- hW0]; exact (((za _ _).trans (za _ _)).trans (za _ _)).trans (za _ _)
  have X0 : Hid (Box W0 w.heap.size [.slice ab ps.length cb, .slice aq qs.length cq]) := show Box _ _ _ by rw [<- hW0]; exact (((Box.top w [.slice ab ps.length cb, .slice aq qs.length cq] _ rfl).alloc _).alloc _).alloc _
  have X1 : Hid (Box W0 (w.heap.size + 1) [.int .i64 m]) := show Box _ _ _ by rw [<- hW0]; exact ((Box.top _ [.int .i64 m] _ (by simp)).alloc _).alloc _
  have X2 : Hid (Box W0 (w.heap.size + 1 + 1) [.int .u8 0, .int .u8 0, .int .u8 0, .int .u8 0, .int .u8 0, .int .u8 0, .int .u8 0, .int .u8 0]) := show Box _ _ _ by rw [<- hW0]; exact (Box.top _ [.int .u8 0, .int .u8 0, .int .u8 0, .int .u8 0, .int .u8 0, .int .u8 0, .int .u8 0, .int .u8 0] _ (by simp)).alloc _
  have X3 : Hid (Box W0 (w.heap.size + 1 + 1 + 1) [.int .i64 0]) := show Box _ _ _ by rw [<- hW0]; exact Box.top _ [.int .i64 0] _ (by simp)
  have hcon := ze7 ab ps.length cb (.slice aq qs.length cq) qs m W0 (HQ.out.grew HG0.out)
  have hqbig : qs.length <= 9223372036854775807 := by have := HQ.2.2; omega
  obtain ⟨r, HW⟩ : ∃ r, Hid (zW ps.length qs m = r) := ⟨_, rfl⟩
  rw [HW.out] at hcon HL ⊢
  obtain ⟨nb, HNB⟩ : ∃ nb, Hid (ps.length = nb) := ⟨_, rfl⟩
  obtain ⟨nq, HNQ⟩ : ∃ nq, Hid (qs.length = nq) := ⟨_, rfl⟩
  rw [HNB.out, HNQ.out] at hcon hW0 X0 ⊢
  have HW0 : Hid (_ = W0) := hW0
  clear hW0
  by_cases hr : r = 0
  · subst hr
    rw [if_pos rfl] at HL
    refine (callsIn_wide (n := 5)).1 ?_
    refine callsIn_of_wp_marks Tryz.func113 rfl trivial ?_ rfl
    simp only [Tryz.ntmps113, List.size_toArray, List.length_cons, List.length_nil, Nat.reduceAdd, Nat.reduceSub, Array.replicate_succ, Array.replicate_zero, List.push_toArray, List.append_toArray, List.nil_append, List.cons_append]
    gi_wp2_with (first
      | (refine ⟨trivial, ?_⟩; gi_at_call 148; rw [HW0.out]; refine (callsIn_wide.2 hcon).mono ?_; rintro e W1 ⟨rfl, hg1⟩
         have HG1 : Hid (zc W0 W1) := hg1
         have e0 := (X0.out.grew hg1).c 0 rfl
         have e1 := (X0.out.grew hg1).c 1 rfl)
      | (refine ⟨trivial, ?_⟩; gi_at_call 149; refine (zkY Fence.wide _ trivial rfl _ _ _ _).mono ?_; rintro e W2 ⟨rfl, hW2⟩
         have HW2 : Hid (W2 = W1.alloc (.cells #[.slice aq nq cq] 31)) := hW2; clear hW2))
    have HG2 : Hid (zc w W2) := show zc w W2 by rw [HW2.out]; exact (HG0.out.trans HG1.out).trans (za _ _)
    have HGW2 : Hid (zc W0 W2) := show zc W0 W2 by rw [HW2.out]; exact HG1.out.trans (za _ _)
    have HSZ : Hid (w.heap.size + 4 <= W1.heap.size /\ W2.heap.size = W1.heap.size + 1) := show _ /\ _ from ⟨by have h1 := Below.size HG1.out; have h2 := X3.lt; omega, by rw [HW2.out]; simp⟩
    have bS : Box W2 W1.heap.size [.slice aq nq cq] := by rw [HW2.out]; exact Box.top _ [.slice aq nq cq] _ rfl
    have HC := bS.c 0 rfl
    obtain ⟨_, i, hmi, hib⟩ := QD HW.out
    have HI : Hid (m = (i : Int) /\ i < ps.length) := ⟨hmi, hib⟩
    clear e0 e1 hcon hg1 hmi hib bS
    refine wpIn_rangeFunc_ownH rfl (by decide) (gf := 161) (lb := #[.pointer (some ⟨W1.heap.size, 0, none⟩)]) rfl trivial (enters_of Tryz.func161 (by kernel_rfl) rfl)
      (zhp Fence.wide 4 trivial rfl (by decide) W1.heap.size W2.heap.size w aq cq qs HRQ.out hqbig W2 HG2.out (by have := HSZ.out.2; omega) rfl (by rw [HNQ.out]; exact HC)) belowK_t (belowK_b (Nat.le_refl _)) (Below.refl _ _) (fun _ => rfl)
      (fun pre W => (∀ x ∈ pre, x.m ≠ m) /\ Below W2.heap.size W2 W)
      (fun c pre W => (c = .ret /\ ∃ ini last, pre = ini ++ [last] /\ (∀ x ∈ ini, x.m ≠ m) /\ last.m = m /\ Box W (w.heap.size + 1 + 1) [.int .u8 last.b0, .int .u8 last.b1, .int .u8 last.b2, .int .u8 last.b3, .int .u8 last.b4, .int .u8 last.b5, .int .u8 last.b6, .int .u8 last.b7] /\ Box W (w.heap.size + 1 + 1 + 1) [.int .i64 0]) /\ Below w.heap.size w W)
      (OwnFrom.and (fun s X Y row hs hg hr => hs) (ownFrom_below (Nat.le_refl _) (Nat.le_refl _)))
      (fun c => OwnFrom.and (Own.from (fun s X Y row hs hg hr => by
        obtain ⟨hc, ini, last, e1, e2, e3, e4, e5⟩ := hs
        exact ⟨hc, ini, last, e1, e2, e3, zdJ _ (fun _ : Unit => _) () X Y row e4 hg hr, zdJ _ (fun _ : Unit => _) () X Y row e5 hg hr⟩) _) (ownFrom_below (Nat.le_refl _) (Below.size HG2.out)))
      ⟨by simp, Below.refl _ _⟩
      (fun x a' W => ∃ Bx, W2.heap.size <= Bx /\ Box W Bx [.int .i64 x.m, .int .u8 x.b0, .int .u8 x.b1, .int .u8 x.b2, .int .u8 x.b3, .int .u8 x.b4, .int .u8 x.b5, .int .u8 x.b6, .int .u8 x.b7] /\
        a' = { tmps := #[.agg #[.slice ab nb cb, .slice aq nq cq], .int .i64 m, .pointer (some ⟨w.heap.size, 0, none⟩), .pointer (some ⟨w.heap.size + 1, 0, none⟩), .pointer (some ⟨w.heap.size + 1 + 1, 0, none⟩), .pointer (some ⟨w.heap.size + 1 + 1 + 1, 0, none⟩), .int .i64 0, undef, .pointer (some ⟨Bx, 0, none⟩),
          .agg #[.slice ab nb cb, .slice aq nq cq], .int .i64 m, .int .i64 0, .int .i64 0, .bool false, undef, undef, .pointer (some ⟨w.heap.size, 1, none⟩), .slice aq nq cq, .func (.func 161) #[] #[.pointer (some ⟨W1.heap.size, 0, none⟩)], .int .i64 x.i,
          .agg #[.int .i64 x.m, .int .u8 x.b0, .int .u8 x.b1, .int .u8 x.b2, .int .u8 x.b3, .int .u8 x.b4, .int .u8 x.b5, .int .u8 x.b6, .int .u8 x.b7], undef, undef, undef, undef, undef, undef, undef, undef, undef, undef, undef], defers := [] })
      (fun x a' _ X Y row hs hg hr => by obtain ⟨Bx, h1, h2, h3⟩ := hs; exact ⟨Bx, h1, zdJ Bx (fun _ : Unit => _) () X Y row h2 hg (fun r e => (hr r e).2), h3⟩)
      ?assign ?body ?done ?stop
    case assign =>
      rintro l pre x W K ⟨hp, hB⟩ hK
      simp only [P9.encs]
      gi_wp2
      exact hK _ _ ((KeepsOthers.alloc _ _).from _) ((Below.refl _ W).alloc hB.size _) ⟨hp, hB.alloc hB.size _⟩ ⟨W.heap.size, hB.size, Box.top W [.int .i64 x.m, .int .u8 x.b0, .int .u8 x.b1, .int .u8 x.b2, .int .u8 x.b3, .int .u8 x.b4, .int .u8 x.b5, .int .u8 x.b6, .int .u8 x.b7] _ rfl, rfl⟩
    case body =>
      rintro l pre x a' W hl ⟨rr, hrr⟩ ⟨hp, hB⟩ ⟨Bx, hBx, bX, rfl⟩ hlt
      have Z1 := (X1.out.grew HGW2.out).below hB ((X1.out.grew HGW2.out).lt)
      have Z2 := (X2.out.grew HGW2.out).below hB ((X2.out.grew HGW2.out).lt)
      have Z3 := (X3.out.grew HGW2.out).below hB ((X3.out.grew HGW2.out).lt)
      have HZ2 : Hid (Box W _ _) := Z2
      have HZ3 : Hid (Box W _ _) := Z3
      have HBW : Hid (Below W2.heap.size W2 W) := hB
      have c0 := Z2.c 0 rfl
      have c1 := Z2.c 1 rfl
      have c2 := Z2.c 2 rfl
      have c3 := Z2.c 3 rfl
      have c4 := Z2.c 4 rfl
      have c5 := Z2.c 5 rfl
      have c6 := Z2.c 6 rfl
      have c7 := Z2.c 7 rfl
      have f0 := Z2.f
      have c8 := Z3.c 0 rfl
      have f1 := Z3.f 0
      have cm := Z1.c 0 rfl
      have x0 := bX.c 0 rfl
      have x1 := bX.c 1 rfl
      have x2 := bX.c 2 rfl
      have x3 := bX.c 3 rfl
      have x4 := bX.c 4 rfl
      have x5 := bX.c 5 rfl
      have x6 := bX.c 6 rfl
      have x7 := bX.c 7 rfl
      have x8 := bX.c 8 rfl
      have HP : Hid (∀ x ∈ pre, x.m ≠ m) := hp
      clear hp Z1 Z2 Z3 bX hB hrr
      by_cases hx : x.m = m
      · have hxb : (x.m == m) = true := by simpa using hx
        gi_wp2
        refine ⟨KeepsOthers.from ?_ _, ⟨rfl, pre, x, rfl, HP.out, hx, ?_, ?_⟩, ?_⟩
        · iterate 9 (refine jF ?_ _ _)
          exact KeepsOthers.refl _
        · exact ((((((((HZ2.out.set 0 _).set 1 _).set 2 _).set 3 _).set 4 _).set 5 _).set 6 _).set 7 _).other (by simp) _
        · refine Box.set (cs := [.int .i64 0]) ?_ 0 _
          iterate 8 (refine Box.other ?_ (by simp) _)
          exact HZ3.out
        · iterate 9 (refine zC ?_ (by simp; omega) _)
          exact Below.trans HG2.out (HBW.out.mono (Below.size HG2.out))
      · have hxb : (x.m == m) = false := by simpa using hx
        gi_wp2
        exact ⟨KeepsFrom.refl _ _, Below.refl _ _, fun y hy => (List.mem_append.1 hy).elim (HP.out y) (fun e => by simp at e; subst e; exact hx), HBW.out⟩
    case done =>
      rintro D ys W hD hS ⟨hp, hB⟩ hK
      have Z0 := (X0.out.grew HGW2.out).below hB ((X0.out.grew HGW2.out).lt)
      have Z1 := (X1.out.grew HGW2.out).below hB ((X1.out.grew HGW2.out).lt)
      have Z2 := (X2.out.grew HGW2.out).below hB ((X2.out.grew HGW2.out).lt)
      have Z3 := (X3.out.grew HGW2.out).below hB ((X3.out.grew HGW2.out).lt)
      have HZ2 : Hid (Box W _ _) := Z2
      have HZ3 : Hid (Box W _ _) := Z3
      have HGW : Hid (zc w W) := show zc w W from Below.trans HG2.out (hB.mono (Below.size HG2.out))
      have HF := zir hS hp
      obtain ⟨rfl, hib⟩ := HI.out
      obtain ⟨pg, hpg⟩ : ∃ pg, ps[i]? = some pg := ⟨_, List.getElem?_eq_getElem hib⟩
      obtain ⟨xa, b0, b1, b2, b3, b4, b5, b6, b7, rfl, rfl, hl⟩ := HRB.out i pg hpg
      obtain ⟨d0, d1, d2, d3, d4, d5, d6, d7⟩ := hl W HGW.out
      have hib' : (i : Int) < (nb : Int) := by rw [<- HNB.out]; omega
      rw [HF, show ps.getD (Int.toNat (i : Int)) zm = [b0, b1, b2, b3, b4, b5, b6, b7] from by simp [hpg]] at HL
      have z0 := Z0.c 0 rfl
      have z1 := Z1.c 0 rfl
      have c0 := Z2.c 0 rfl
      have c1 := Z2.c 1 rfl
      have c2 := Z2.c 2 rfl
      have c3 := Z2.c 3 rfl
      have c4 := Z2.c 4 rfl
      have c5 := Z2.c 5 rfl
      have c6 := Z2.c 6 rfl
      have c7 := Z2.c 7 rfl
      have f0 := Z2.f
      have c8 := Z3.c 0 rfl
      have f1 := Z3.f 0
      have HKD : Hid (W.heap[D]? = some (.deferred (some []))) := hK
      clear hl hpg hib HF hS hp Z0 Z1 Z2 Z3 hK hB
      gi_wp2
      clear c0 c1 c2 c3 c4 c5 c6 c7 c8 f0 f1 z0 z1 d0 d1 d2 d3 d4 d5 d6 d7
      have hK' := (show KeepsOthers W _ from jF (jF (jF (jF (jF (jF (jF (jF (jF (KeepsOthers.refl W) ⟨w.heap.size + 1 + 1, 0, none⟩ (.int .u8 b0)) ⟨w.heap.size + 1 + 1, 1, none⟩ (.int .u8 b1)) ⟨w.heap.size + 1 + 1, 2, none⟩ (.int .u8 b2)) ⟨w.heap.size + 1 + 1, 3, none⟩ (.int .u8 b3)) ⟨w.heap.size + 1 + 1, 4, none⟩ (.int .u8 b4)) ⟨w.heap.size + 1 + 1, 5, none⟩ (.int .u8 b5)) ⟨w.heap.size + 1 + 1, 6, none⟩ (.int .u8 b6)) ⟨w.heap.size + 1 + 1, 7, none⟩ (.int .u8 b7)) ⟨w.heap.size + 1 + 1 + 1, 0, none⟩ (.int .i64 0)).same D _ HKD.out rfl
      refine ⟨by simp, .inl ⟨_, _, rfl, run_takeDeferred hK', ?_⟩⟩
      have B2 := (((((((((HZ2.out.set 0 (.int .u8 b0)).set 1 (.int .u8 b1)).set 2 (.int .u8 b2)).set 3 (.int .u8 b3)).set 4 (.int .u8 b4)).set 5 (.int .u8 b5)).set 6 (.int .u8 b6)).set 7 (.int .u8 b7)).other (a := ⟨w.heap.size + 1 + 1 + 1, 0, none⟩) (by simp) (.int .i64 0)).put (.deferred none) hK' rfl
      have B3 := ((((((((((HZ3.out.other (a := ⟨w.heap.size + 1 + 1, 0, none⟩) (by simp) (.int .u8 b0)).other (a := ⟨w.heap.size + 1 + 1, 1, none⟩) (by simp) (.int .u8 b1)).other (a := ⟨w.heap.size + 1 + 1, 2, none⟩) (by simp) (.int .u8 b2)).other (a := ⟨w.heap.size + 1 + 1, 3, none⟩) (by simp) (.int .u8 b3)).other (a := ⟨w.heap.size + 1 + 1, 4, none⟩) (by simp) (.int .u8 b4)).other (a := ⟨w.heap.size + 1 + 1, 5, none⟩) (by simp) (.int .u8 b5)).other (a := ⟨w.heap.size + 1 + 1, 6, none⟩) (by simp) (.int .u8 b6)).other (a := ⟨w.heap.size + 1 + 1, 7, none⟩) (by simp) (.int .u8 b7)).set 0 (.int .i64 0)).put (.deferred none) hK' rfl)
      have r0 := B2.c 0 rfl
      have r1 := B2.c 1 rfl
      have r2 := B2.c 2 rfl
      have r3 := B2.c 3 rfl
      have r4 := B2.c 4 rfl
      have r5 := B2.c 5 rfl
      have r6 := B2.c 6 rfl
      have r7 := B2.c 7 rfl
      have r8 := B3.c 0 rfl
      refine ⟨.tuple #[.agg #[.int .u8 b0, .int .u8 b1, .int .u8 b2, .int .u8 b3, .int .u8 b4, .int .u8 b5, .int .u8 b6, .int .u8 b7], .int .i64 0], by simp [results, Tryz.f113, go_sem, r0, r1, r2, r3, r4, r5, r6, r7, r8], ?_, ?_⟩
      · rw [HL.out]; rfl
      · refine Below.trans ?_ (belowK_b (w := W2) (n₀ := w.heap.size) (Below.size HG2.out) _ D _ _ hD hK' rfl rfl)
        iterate 9 (refine zC ?_ (by simp; omega) _)
        exact HGW.out
    case stop =>
      rintro D c pre W hD hS ⟨⟨rfl, ini, last, e1, e2, e3, b2, b3⟩, hB⟩ hK
      gi_wp2
      have B2 := b2.put (.deferred none) hK rfl
      have B3 := b3.put (.deferred none) hK rfl
      have r0 := B2.c 0 rfl
      have r1 := B2.c 1 rfl
      have r2 := B2.c 2 rfl
      have r3 := B2.c 3 rfl
      have r4 := B2.c 4 rfl
      have r5 := B2.c 5 rfl
      have r6 := B2.c 6 rfl
      have r7 := B2.c 7 rfl
      have r8 := B3.c 0 rfl
      refine ⟨by simp, .inl ⟨_, _, rfl, run_takeDeferred hK, ?_⟩⟩
      refine ⟨.tuple #[.agg #[.int .u8 last.b0, .int .u8 last.b1, .int .u8 last.b2, .int .u8 last.b3, .int .u8 last.b4, .int .u8 last.b5, .int .u8 last.b6, .int .u8 last.b7], .int .i64 0], by simp [results, Tryz.f113, go_sem, r0, r1, r2, r3, r4, r5, r6, r7, r8], ?_, ?_⟩
      · subst e1
        rw [HL.out, ziq hS e2 e3]
        rfl
      · exact Below.trans hB (belowK_b (w := W2) (n₀ := w.heap.size) (Below.size HG2.out) W D _ _ hD hK rfl rfl)
  · have hne : (r != 0) = true := by simpa using hr
    rw [if_neg hr] at HL
    rw [HL.out]
    refine (callsIn_wide (n := 5)).1 ?_
    refine callsIn_of_wp_marks Tryz.func113 rfl trivial ?_ rfl
    simp only [Tryz.ntmps113, List.size_toArray, List.length_cons, List.length_nil, Nat.reduceAdd, Nat.reduceSub, Array.replicate_succ, Array.replicate_zero, List.push_toArray, List.append_toArray, List.nil_append, List.cons_append]
    gi_wp2_with (refine ⟨trivial, ?_⟩; gi_at_call 148; rw [HW0.out]; refine (callsIn_wide.2 hcon).mono ?_; rintro e W1 ⟨rfl, hg1⟩
                 have Y2 : Hid (Box W1 (w.heap.size + 1 + 1) [.int .u8 0, .int .u8 0, .int .u8 0, .int .u8 0, .int .u8 0, .int .u8 0, .int .u8 0, .int .u8 0]) := X2.out.grew hg1
                 have Y3 : Hid (Box W1 (w.heap.size + 1 + 1 + 1) [.int .i64 0]) := X3.out.grew hg1
                 have c0 := Y2.out.c 0 rfl
                 have c1 := Y2.out.c 1 rfl
                 have c2 := Y2.out.c 2 rfl
                 have c3 := Y2.out.c 3 rfl
                 have c4 := Y2.out.c 4 rfl
                 have c5 := Y2.out.c 5 rfl
                 have c6 := Y2.out.c 6 rfl
                 have c7 := Y2.out.c 7 rfl
                 have f0 := Y2.out.f
                 have c8 := Y3.out.c 0 rfl
                 have f1 := Y3.out.f 0)
    refine ⟨.tuple #[.agg #[.int .u8 0, .int .u8 0, .int .u8 0, .int .u8 0, .int .u8 0, .int .u8 0, .int .u8 0, .int .u8 0], .int .i64 r], by simp [results, Tryz.f113, go_sem, *], rfl, ?_⟩
    have HG1 : zc w W1 := HG0.out.trans hg1
    iterate 9 (refine zC ?_ (by simp; omega) _)
    exact HG1
end
end
section
open Go.RowKit
def zk6 (ps : List (List Int)) (qs : List (Int × List Int)) : List (List Int) := if qs.length = 400 then ps.set (qs.headD (0, [])).1.toNat (qs.headD (0, [])).2 else ps
def zkh (ps : List (List Int)) (qs : List (Int × List Int)) (m : Int) : List (List Int) := if zW ps.length qs m = 0 then zk6 ps qs else []
theorem al1:Qs 3=0:=by decide
theorem al2:zgi 3=[zm,zm,zm]:=by decide
theorem al3:zW [zm,zm,zm].length [] 1=0:=by decide
theorem al4:zkh [zm,zm,zm] [] 1=[zm,zm,zm]:=by decide
def zec:Option (Int × List Int)->List Int->List Int
 | some q,_=>q.2
 | none,d=>d
theorem zja {ps:List (List Int)} {qs:List (Int × List Int)} {m:Int} (h:zW ps.length qs m=0):ju ps qs m=zec (qs.reverse.find? (fun q=>q.1 == m)) (ps.getD m.toNat zm):=by
 unfold ju;rw[if_pos h]
 cases qs.reverse.find? (fun q=>q.1 == m) <;> rfl
theorem Qc (a:Option Addr) (n c:Nat) (qv:Value) (qs:List (Int × List Int)) (w:World) (hq:jh w qv qs):
  Calls prog 98 #[.agg #[.slice a n c,qv]] w fun e w'=>e= .returned (I6 (zL n qs))/\zc w w':=by
 have HL:Hid (zL n qs=if 80<n then 4 else if 400<qs.length then 4 else if qs.any (fun q=>!jO q.1 n)then 3 else 0):=rfl
 have hbig:qs.length<=9223372036854775807:=by have:=hq.2.2;omega
 obtain⟨a2,c2,rfl,hrow⟩:=hq.rows;have HRQ:Hid (Ze w a2 qs):=hrow;clear hq hrow;obtain⟨kq,HN⟩:∃kq,Hid (qs.length=kq):=⟨_,rfl⟩;rw[HN.out]at HL hbig⊢
 by_cases h1:80<n
 ·have h1':(80:Int)< (n:Int):=by omega
  rw[if_pos h1]at HL
  go_enter func98,ntmps98
  go_wp2;go_ret;exact⟨by rw[HL.out];rfl,za _ _⟩
 have h1':¬(80:Int)< (n:Int):=by omega
 rw[if_neg h1]at HL
 by_cases h2:400<kq
 ·have h2':(400:Int)< (kq:Int):=by omega
  rw[if_pos h2]at HL
  go_enter func98,ntmps98
  go_wp2;go_ret;exact⟨by rw[HL.out];rfl,za _ _⟩
 have h2':¬(400:Int)< (kq:Int):=by omega
 rw[if_neg h2]at HL;obtain⟨W0,hW0⟩:∃W0,w.alloc (.cells #[.slice a n c,.slice a2 kq c2] 33)=W0:=⟨_,rfl⟩;have HG0:=gA hW0
 have X0:=xA hW0
 have HW0:Hid (_=W0):=hW0;clear hW0
 go_enter func98,ntmps98
 go_wp2;rw[HW0.out]
 go_loopg [4,18] kq (fun gg _ s18 wr=>∃kk:Nat,kk<=kq/\kq - kk<=gg/\s18=I6 kk/\Hid (zc W0 wr)/\Hid (∀(j:Nat) q,j<kk->qs[j]? =some q->jO q.1 n=true))
 case atStart=>exact⟨0,nZ _,by omega,rfl,zc.refl _,fun j q hj=>absurd hj (nL _)⟩
 obtain⟨kk,hkk,hg,rfl,BW,A⟩:=hrel
 by_cases hlt:kk<kq
 ·have hltz:(kk:Int)< (kq:Int):=by omega
  obtain⟨q,HQ⟩:∃q,Hid (qs[kk]? =some q):=⟨_,gE (by rw[HN.out];exact hlt)⟩
  obtain⟨x,m,b0,b1,b2,b3,b4,b5,b6,b7,rfl,rfl,hl⟩:=HRQ.out kk q HQ.out;obtain⟨d0,d1,d2,d3,d4,d5,d6,d7,d8⟩:=hl wr (HG0.trans BW);have X:=X0.grew BW.out;have z0:=X.c 0 rfl;have zl:=X.lt;clear hl
  by_cases hb:jO m n=true
  ·have hb':=hb;unfold jO at hb'
   simp at hb'
   have hm0:¬m<0:=by omega
   have hmn:¬(n:Int)<=m:=by omega
   have HB:Hid (jO m n=true):=hb;clear hb hb';go_wp2
   go_roundg (kq -(kk+1))
   case measure=>omega
   refine⟨kk+1,by omega,by omega,by go_num,BW.trans (za _ _),(show Hid _ from fun j q' hj hq'=>?_)⟩
   by_cases e:j=kk
   ·subst e;rw[HQ.out]at hq';cases hq';exact HB.out
   exact A j q' (by omega) hq'
  have hany:(qs.any fun q=>!jO q.1 n)=true:=List.any_eq_true.2 ⟨_,mG HQ,by simpa using hb⟩
  rw[if_pos hany]at HL;unfold jO at hb
  simp at hb
  clear hany
  by_cases hm0:m<0
  ·clear hb;go_wp2;go_ret;exact⟨by rw[HL.out];rfl,(HG0.trans BW).trans (za _ _)⟩
  have hmn:(n:Int)<=m:=hb (by omega)
  clear hb;go_wp2;go_ret;exact⟨by rw[HL.out];rfl,(HG0.trans BW).trans (za _ _)⟩
 have hltz:¬(kk:Int)< (kq:Int):=by omega
 have:kk=kq:=by omega
 subst this;have hany:¬(qs.any fun q=>!jO q.1 n)=true:=fun h=>by
  obtain⟨q,hq,hb⟩:=List.any_eq_true.1 h;obtain⟨j,hj⟩:=List.getElem?_of_mem hq;have:=A.out j q (by rw[<-HN.out];exact(gS.1 hj).1) hj
  rw[this]at hb
  simp at hb
 rw[if_neg hany]at HL;clear hany;go_wp2;go_ret;exact⟨by rw[HL.out];rfl,HG0.trans BW⟩
theorem zeb {r : List (Int × List Int)} {q : Int × List Int} {m : Int} {d : List Int} : zec ((r ++ [q]).reverse.find? (fun q => q.1 == m)) d = if q.1 == m then q.2 else zec (r.reverse.find? (fun q => q.1 == m)) d := by
  rw [List.reverse_append]
  simp only [List.reverse_cons, List.reverse_nil, List.nil_append, List.cons_append, List.find?_cons]
  cases hq : (q.1 == m) <;> simp [zec]
theorem zfm (d : Value) (ps : List (List Int)) (qs : List (Int × List Int)) (m : Int) (w : World) (hd : zcl w d ps qs) (hr0 : ¬ zW ps.length qs m = 0) :
    Calls Tryz.prog 110 #[d, .int .i64 m] w fun e w' => e = .returned (.tuple #[.agg (pgc zm).toArray, .int .i64 (zW ps.length qs m)]) /\ zc w w' := by
  obtain ⟨b, q, rfl, hb, hq⟩ := hd
  have HQ : Hid (jh w q qs) := hq
  obtain ⟨ab, cb, rfl, _⟩ := hb.rows
  obtain ⟨aq, cq, rfl, _⟩ := hq.rows
  clear hb hq
  have HWA : Hid (zW ps.length qs m = if zL ps.length qs = 0 then (if jO m ps.length then 0 else 3) else zL ps.length qs) := rfl
  obtain ⟨W0, hW0⟩ : ∃ W0, (w.alloc (.cells #[.slice ab ps.length cb, .slice aq qs.length cq] 33)).alloc (.cells #[.int .u8 0, .int .u8 0, .int .u8 0, .int .u8 0, .int .u8 0, .int .u8 0, .int .u8 0, .int .u8 0] 50) = W0 := ⟨_, rfl⟩
  have HG0 : Hid (zc w W0) := show zc w W0 by rw [<- hW0]; exact (za _ _).trans (za _ _)
  have X0 : Hid (Box W0 w.heap.size [.slice ab ps.length cb, .slice aq qs.length cq]) := show Box _ _ _ by rw [<- hW0]; exact (Box.top w [.slice ab ps.length cb, .slice aq qs.length cq] _ rfl).alloc _
  have X1 : Hid (Box W0 (w.heap.size + 1) [.int .u8 0, .int .u8 0, .int .u8 0, .int .u8 0, .int .u8 0, .int .u8 0, .int .u8 0, .int .u8 0]) := show Box _ _ _ by rw [<- hW0]; exact Box.top _ [.int .u8 0, .int .u8 0, .int .u8 0, .int .u8 0, .int .u8 0, .int .u8 0, .int .u8 0, .int .u8 0] _ (by simp)
  have hcon := Qc ab ps.length cb (.slice aq qs.length cq) qs W0 (HQ.out.grew HG0.out)
  obtain ⟨r, HR⟩ : ∃ r, Hid (zL ps.length qs = r) := ⟨_, rfl⟩
  rw [HR.out] at hcon HWA
  obtain ⟨nb, HNB⟩ : ∃ nb, Hid (ps.length = nb) := ⟨_, rfl⟩
  obtain ⟨kq, HNQ⟩ : ∃ kq, Hid (qs.length = kq) := ⟨_, rfl⟩
  rw [HNB.out] at HWA hr0
  rw [HNB.out, HNQ.out] at hcon hW0 X0 ⊢
  have HW0 : Hid (_ = W0) := hW0
  clear hW0
  have hcases : (Hid (zW nb qs m = r) /\ (r != 0) = true) \/ (Hid (zW nb qs m = 3) /\ (r != 0) = false /\ Hid (r = 0) /\ m < 0) \/ (Hid (zW nb qs m = 3) /\ (r != 0) = false /\ Hid (r = 0) /\ ¬ m < 0 /\ (nb : Int) <= m) := by
    by_cases h1 : r = 0
    · subst h1
      rw [if_pos rfl] at HWA
      have hnb : ¬ jO m nb = true := fun e => by rw [HWA.out, if_pos e] at hr0; exact hr0 rfl
      rw [if_neg hnb] at HWA
      unfold jO at hnb
      simp at hnb
      by_cases h2 : m < 0
      · exact .inr (.inl ⟨HWA, rfl, rfl, h2⟩)
      · exact .inr (.inr ⟨HWA, rfl, rfl, h2, hnb (by omega)⟩)
    · rw [if_neg h1] at HWA
      exact .inl ⟨HWA, by simpa using h1⟩
  clear HWA hr0
  rcases hcases with ⟨HE, h1⟩ | ⟨HE, h1, h0, h2⟩ | ⟨HE, h1, h0, h2, h3⟩
  · rw [HE.out]
    go_enter Tryz.func110, Tryz.ntmps110
    go_wp2_with (go_at_call 98; rw [HW0.out]; refine hcon.mono ?_; clear hcon; rintro e W1 ⟨rfl, g1⟩
                 have e0 := (X0.out.grew g1).c 0 rfl
                 have Y := X1.out.grew g1
                 have c0 := Y.c 0 rfl
                 have c1 := Y.c 1 rfl
                 have c2 := Y.c 2 rfl
                 have c3 := Y.c 3 rfl
                 have c4 := Y.c 4 rfl
                 have c5 := Y.c 5 rfl
                 have c6 := Y.c 6 rfl
                 have c7 := Y.c 7 rfl
                 have f0 := Y.f
                 clear Y)
    refine bodyPost_ret (v := .tuple #[.agg #[.int .u8 0, .int .u8 0, .int .u8 0, .int .u8 0, .int .u8 0, .int .u8 0, .int .u8 0, .int .u8 0], .int .i64 r]) (by simp [results, Tryz.results110, go_sem, *]) rfl ⟨rfl, ?_⟩
    have HG1 : zc w W1 := HG0.out.trans g1
    iterate 8 (refine zC ?_ (by simp) _)
    exact HG1
  all_goals
    rw [HE.out]
    have hr := h0.out
    subst hr
    go_enter Tryz.func110, Tryz.ntmps110
    go_wp2_with (go_at_call 98; rw [HW0.out]; refine hcon.mono ?_; clear hcon; rintro e W1 ⟨rfl, g1⟩
                 have e0 := (X0.out.grew g1).c 0 rfl
                 have Y := X1.out.grew g1
                 have c0 := Y.c 0 rfl
                 have c1 := Y.c 1 rfl
                 have c2 := Y.c 2 rfl
                 have c3 := Y.c 3 rfl
                 have c4 := Y.c 4 rfl
                 have c5 := Y.c 5 rfl
                 have c6 := Y.c 6 rfl
                 have c7 := Y.c 7 rfl
                 have f0 := Y.f
                 clear Y)
    refine bodyPost_ret (v := .tuple #[.agg #[.int .u8 0, .int .u8 0, .int .u8 0, .int .u8 0, .int .u8 0, .int .u8 0, .int .u8 0, .int .u8 0], .int .i64 3]) (by simp [results, Tryz.results110, go_sem, *]) rfl ⟨rfl, ?_⟩
    have HG1 : zc w W1 := HG0.out.trans g1
    iterate 8 (refine zC ?_ (by simp) _)
    exact HG1
theorem zgP (d : Value) (ps : List (List Int)) (qs : List (Int × List Int)) (i : Nat) (w : World) (hd : zcl w d ps qs) (hr0 : zW ps.length qs (i : Int) = 0) :
    Calls Tryz.prog 110 #[d, .int .i64 (i : Int)] w fun e w' => e = .returned (.tuple #[.agg (pgc (ju ps qs (i : Int))).toArray, .int .i64 0]) /\ zc w w' := by
  obtain ⟨hw0, i', hii, hib⟩ := QD hr0
  have hi : i < ps.length := by omega
  have HRL := zja hr0
  simp only [Int.toNat_natCast] at HRL
  obtain ⟨b, q, rfl, hb, hq⟩ := hd
  have HQ : Hid (jh w q qs) := hq
  have hbig : qs.length <= 9223372036854775807 := by have := hq.2.2; omega
  obtain ⟨ab, cb, rfl, hrb⟩ := hb.rows
  obtain ⟨aq, cq, rfl, hrq⟩ := hq.rows
  have HRQ : Hid (Ze w aq qs) := hrq
  obtain ⟨pg, hpg⟩ : ∃ pg, ps[i]? = some pg := ⟨_, List.getElem?_eq_getElem hi⟩
  obtain ⟨xa, b0, b1, b2, b3, b4, b5, b6, b7, hxa, rfl, hrow⟩ := hrb i pg hpg
  subst hxa
  have HROW : Hid (∀ W, zc w W -> zcj W (xa.add (i * 8)) b0 b1 b2 b3 b4 b5 b6 b7) := hrow
  rw [show ps.getD i zm = [b0, b1, b2, b3, b4, b5, b6, b7] from by rw [List.getD_eq_getElem?_getD, hpg]; rfl] at HRL
  have HL : Hid (ju ps qs (i : Int) = zec (qs.reverse.find? (fun q => q.1 == (i : Int))) [b0, b1, b2, b3, b4, b5, b6, b7]) := HRL
  clear hb hq hrb hrq hrow hpg HRL
  obtain ⟨W0, hW0⟩ : ∃ W0, (w.alloc (.cells #[.slice (some xa) ps.length cb, .slice aq qs.length cq] 33)).alloc (.cells #[.int .u8 0, .int .u8 0, .int .u8 0, .int .u8 0, .int .u8 0, .int .u8 0, .int .u8 0, .int .u8 0] 50) = W0 := ⟨_, rfl⟩
  have HG0 : Hid (zc w W0) := show zc w W0 by rw [<- hW0]; exact (za _ _).trans (za _ _)
  have X0 : Hid (Box W0 w.heap.size [.slice (some xa) ps.length cb, .slice aq qs.length cq]) := show Box _ _ _ by rw [<- hW0]; exact (Box.top w [.slice (some xa) ps.length cb, .slice aq qs.length cq] _ rfl).alloc _
  have X1 : Hid (Box W0 (w.heap.size + 1) [.int .u8 0, .int .u8 0, .int .u8 0, .int .u8 0, .int .u8 0, .int .u8 0, .int .u8 0, .int .u8 0]) := show Box _ _ _ by rw [<- hW0]; exact Box.top _ [.int .u8 0, .int .u8 0, .int .u8 0, .int .u8 0, .int .u8 0, .int .u8 0, .int .u8 0, .int .u8 0] _ (by simp)
  have hcon := Qc (some xa) ps.length cb (.slice aq qs.length cq) qs W0 (HQ.out.grew HG0.out)
  rw [hw0] at hcon
  obtain ⟨nb, HNB⟩ : ∃ nb, Hid (ps.length = nb) := ⟨_, rfl⟩
  obtain ⟨kq, HNQ⟩ : ∃ kq, Hid (qs.length = kq) := ⟨_, rfl⟩
  rw [HNB.out] at hi
  rw [HNQ.out] at hbig
  rw [HNB.out, HNQ.out] at hcon hW0 X0 ⊢
  have HW0 : Hid (_ = W0) := hW0
  have h2 : ¬ (i : Int) < 0 := by omega
  have h3 : ¬ (nb : Int) <= (i : Int) := by omega
  have h4 : (i : Int) < (nb : Int) := by omega
  clear hW0 hw0 hii hib hr0
  go_enter Tryz.func110, Tryz.ntmps110
  go_wp2_with (go_at_call 98; rw [HW0.out]; refine hcon.mono ?_; clear hcon; rintro e W1 ⟨rfl, g1⟩
               have G1 : Hid (zc W0 W1) := g1
               have e0 := (X0.out.grew g1).c 0 rfl
               have e1 := (X0.out.grew g1).c 1 rfl
               have el := (X0.out.grew g1).lt
               obtain ⟨d0, d1, d2, d3, d4, d5, d6, d7⟩ := HROW.out W1 (HG0.out.trans g1))
  have HT : Hid (∀ (j : Nat) q, qs[j]? = some q -> qs.take (j + 1) = qs.take j ++ [q]) := show ∀ (j : Nat) q, _ from fun j q h => by
    obtain ⟨hlt, rfl⟩ := List.getElem?_eq_some_iff.1 h
    exact List.take_succ_eq_append_getElem hlt
  clear e0 e1 el d0 d1 d2 d3 d4 d5 d6 d7
  go_loopg [9, 34] kq (fun gg _ s34 wr => ∃ (kk : Nat) (c0 c1 c2 c3 c4 c5 c6 c7 : Int), kk <= kq /\ kq - kk <= gg /\ s34 = .int .i64 kk /\ Hid (zc w wr) /\ Hid (Box wr W1.heap.size [.int .u8 c0, .int .u8 c1, .int .u8 c2, .int .u8 c3, .int .u8 c4, .int .u8 c5, .int .u8 c6, .int .u8 c7]) /\ Hid (Box wr (w.heap.size + 1) [.int .u8 0, .int .u8 0, .int .u8 0, .int .u8 0, .int .u8 0, .int .u8 0, .int .u8 0, .int .u8 0]) /\ Hid (zec ((qs.take kk).reverse.find? (fun q => q.1 == (i : Int))) [b0, b1, b2, b3, b4, b5, b6, b7] = [c0, c1, c2, c3, c4, c5, c6, c7]))
  case atStart => exact ⟨0, b0, b1, b2, b3, b4, b5, b6, b7, Nat.zero_le _, by omega, rfl, (HG0.out.trans G1.out).trans (za _ _), Box.top W1 [.int .u8 b0, .int .u8 b1, .int .u8 b2, .int .u8 b3, .int .u8 b4, .int .u8 b5, .int .u8 b6, .int .u8 b7] _ rfl, (X1.out.grew G1.out).alloc _, rfl⟩
  case round =>
    obtain ⟨kk, c0, c1, c2, c3, c4, c5, c6, c7, hkk, hg, rfl, GW, BP, BR, HPK⟩ := hrel
    have hW1w : w.heap.size + 2 <= W1.heap.size := by have h1 := Below.size G1.out; have h2 := X1.lt; omega
    by_cases hlt : kk < kq
    · have hltz : (kk : Int) < (kq : Int) := by omega
      obtain ⟨q, HQK⟩ : ∃ q, Hid (qs[kk]? = some q) := ⟨_, List.getElem?_eq_getElem (by rw [HNQ.out]; exact hlt)⟩
      obtain ⟨x, m, a0, a1, a2, a3, a4, a5, a6, a7, rfl, rfl, hl⟩ := HRQ.out kk q HQK.out
      obtain ⟨d0, d1, d2, d3, d4, d5, d6, d7, d8⟩ := hl wr GW.out
      have HST := HT.out kk _ HQK.out
      clear hl
      by_cases hm : m = (i : Int)
      · subst hm
        have k0 := BP.out.c 0 rfl
        have k1 := BP.out.c 1 rfl
        have k2 := BP.out.c 2 rfl
        have k3 := BP.out.c 3 rfl
        have k4 := BP.out.c 4 rfl
        have k5 := BP.out.c 5 rfl
        have k6 := BP.out.c 6 rfl
        have k7 := BP.out.c 7 rfl
        have kf := BP.out.f
        have kl := BP.out.lt
        have HST' : Hid (zec ((qs.take (kk + 1)).reverse.find? (fun q => q.1 == (i : Int))) [b0, b1, b2, b3, b4, b5, b6, b7] = [a0, a1, a2, a3, a4, a5, a6, a7]) := show _ = _ by rw [HST, zeb]; simp
        clear HST
        go_wp2
        go_roundg (kq - (kk + 1))
        case measure => omega
        case rel =>
          refine ⟨kk + 1, a0, a1, a2, a3, a4, a5, a6, a7, by omega, by omega, by go_num, ?_, ?_, ?_, HST'.out⟩
          · show zc _ _
            refine zc.trans ?_ (za _ _)
            iterate 8 (refine zC ?_ (by simp; omega) _)
            exact GW.out
          · exact ((((((((BP.out.set 0 _).set 1 _).set 2 _).set 3 _).set 4 _).set 5 _).set 6 _).set 7 _).alloc _
          · show Box _ _ _
            refine Box.alloc ?_ _
            iterate 8 (refine Box.other ?_ (by simp; omega) _)
            exact BR.out
      · have hmb : (m == (i : Int)) = false := by simpa using hm
        have HST' : Hid (zec ((qs.take (kk + 1)).reverse.find? (fun q => q.1 == (i : Int))) [b0, b1, b2, b3, b4, b5, b6, b7] = [c0, c1, c2, c3, c4, c5, c6, c7]) := show _ = _ by rw [HST, zeb]; simp only [hmb]; exact HPK.out
        clear HST hm
        go_wp2
        go_roundg (kq - (kk + 1))
        case measure => omega
        case rel => exact ⟨kk + 1, c0, c1, c2, c3, c4, c5, c6, c7, by omega, by omega, by go_num, GW.out.trans (za _ _), BP.out.alloc _, BR.out.alloc _, HST'.out⟩
    · have hltz : ¬ (kk : Int) < (kq : Int) := by omega
      have : kk = kq := by omega
      subst this
      have k0 := BP.out.c 0 rfl
      have k1 := BP.out.c 1 rfl
      have k2 := BP.out.c 2 rfl
      have k3 := BP.out.c 3 rfl
      have k4 := BP.out.c 4 rfl
      have k5 := BP.out.c 5 rfl
      have k6 := BP.out.c 6 rfl
      have k7 := BP.out.c 7 rfl
      have r0 := BR.out.c 0 rfl
      have r1 := BR.out.c 1 rfl
      have r2 := BR.out.c 2 rfl
      have r3 := BR.out.c 3 rfl
      have r4 := BR.out.c 4 rfl
      have r5 := BR.out.c 5 rfl
      have r6 := BR.out.c 6 rfl
      have r7 := BR.out.c 7 rfl
      have rf := BR.out.f
      have HF : Hid (ju ps qs (i : Int) = [c0, c1, c2, c3, c4, c5, c6, c7]) := show _ = _ by rw [HL.out, <- HPK, List.take_of_length_le (by rw [HNQ.out]; exact Nat.le_refl _)]
      go_wp2
      refine bodyPost_ret (v := .tuple #[.agg #[.int .u8 c0, .int .u8 c1, .int .u8 c2, .int .u8 c3, .int .u8 c4, .int .u8 c5, .int .u8 c6, .int .u8 c7], .int .i64 0]) (by simp [results, Tryz.results110, go_sem, *]) rfl ⟨by rw [HF.out]; rfl, ?_⟩
      iterate 8 (refine zC ?_ (by simp) _)
      exact GW.out
theorem zbM (d : Value) (ps : List (List Int)) (qs : List (Int × List Int)) (m : Int) (w : World) (hd : zcl w d ps qs) :
    Calls Tryz.prog 110 #[d, .int .i64 m] w fun e w' => e = .returned (.tuple #[.agg (pgc (ju ps qs m)).toArray, .int .i64 (zW ps.length qs m)]) /\ zc w w' := by
  by_cases hr : zW ps.length qs m = 0
  · obtain ⟨_, i, rfl, _⟩ := QD hr
    rw [hr]
    exact zgP d ps qs i w hd hr
  · rw [show ju ps qs m = zm from if_neg hr]
    exact zfm d ps qs m w hd hr
def ZB (p:List Int) (idx size:Int) (k:Nat):List Int:=p.mapIdx fun i z=>if i<k/\size<=8*idx+(i:Int)then 0 else z
theorem zhg (p:List Int) (idx size:Int):ZB p idx size 0=p:=by
 unfold ZB
 apply List.ext_getElem?
 intro i;rw[List.getElem?_mapIdx]
 cases p[i]? <;> simp
theorem zeH (p:List Int) (idx size:Int) (k:Nat):(ZB p idx size k).length=p.length:=by unfold ZB;simp
theorem zeJ {p:List Int} {idx size:Int} {k:Nat} (h:p.length<=k):ZB p idx size k=zdQ p idx size:=by
 unfold ZB zdQ
 apply List.ext_getElem?
 intro i;rw[List.getElem?_mapIdx,List.getElem?_mapIdx]
 cases hp:p[i]? with
 | none=>rfl
 | some z=>
  have:=(gS.1 hp).1;have hk:i<k:=by omega
  simp[hk]
theorem zeI {p:List Int} {idx size:Int} {k:Nat} (hk:k<p.length) (h:size<=8*idx+(k:Int)):(ZB p idx size k).set k 0=ZB p idx size (k+1):=by
 unfold ZB
 apply List.ext_getElem?
 intro i
 by_cases e:i=k
 ·subst e;rw[sF (by simpa using hk),List.getElem?_mapIdx,gE hk]
  simp[h]
 rw[sN (fun h=>e h.symm),List.getElem?_mapIdx,List.getElem?_mapIdx]
 cases p[i]? with
 | none=>rfl
 | some z=>
  have:i<k↔i<k+1:=by omega
  simp[this]
theorem ziB {p:List Int} {idx size:Int} {k:Nat} (h:¬size<=8*idx+(k:Int)):ZB p idx size k=ZB p idx size (k+1):=by
 unfold ZB
 apply List.ext_getElem?
 intro i;rw[List.getElem?_mapIdx,List.getElem?_mapIdx]
 cases p[i]? with
 | none=>rfl
 | some z=>
  by_cases e:i=k
  ·subst e
   simp[h]
  have:i<k↔i<k+1:=by omega
  simp[this]
theorem zcJ {ps:List (List Int)} {qs:List (Int × List Int)} {b:Int} (h1:∀p∈ps,p.length=8) (h2:∀q∈qs,q.2.length=8):(ju ps qs b).length=8:=by
 unfold ju
 split
 ·cases h:qs.reverse.find? (fun q=>q.1 == b)with
  | some q=>exact h2 q (by have:=List.mem_of_find?_eq_some h;simpa using this)
  | none=>
   simp only;rw[gD]
   cases h3:ps[b.toNat]? with
   | none=>rfl
   | some p=>exact h1 p (mG h3)
 rfl
theorem zah (V:MaV) (m:Ma) (fi ix:Nat) (f:Fl) (bk:Int) (w:World) (hm:zH w V m) (hca:∀c∈m.ca,zcm fi ix c=true->0<=c.fr/\c.fr<m.fs.length) (hf:m.fl[fi]? =some f) (hbk:f.bl[ix]? =some bk) (hix:ix<=1000):
  Calls prog 62 #[.agg (mL V m).toArray,I6 (fi:Int),I6 (ix:Int)] w fun e w'=>e= .returned (.agg (pgc (qZ m fi ix)).toArray)/\(qZ m fi ix).length=8/\zc w w':=by
 have HRD:Hid (∀W,zc w W->Calls prog 110 #[.agg #[V.db.x,V.dq.x],I6 bk] W fun e w'=>e= .returned (.tuple #[.agg (pgc (ju m.db m.dq bk)).toArray,I6 (zW m.db.length m.dq bk)])/\zc W w'):=dD<|fun W hW=>zbM _ m.db m.dq bk W ⟨_,_,rfl,(hm.grew hW).db,(hm.grew hW).dq⟩
 have HRL:Hid ((ju m.db m.dq bk).length=8):=zcJ hm.db.2.1 hm.dq.2.1;obtain⟨⟨fa,fn,fc⟩,vs,vsb,vsq,vdb,vdq,⟨fla,fln,flc⟩,⟨caa,can,cac⟩,vsp⟩:=V;dsimp only[mL]at HRD⊢;obtain⟨n1,-,-,-,-,-,n7,n8,-⟩:=hm.ns;dsimp only at n1 n7 n8;have HFR:Hid (Zu w fa m.fs):=hm.frs;have HCA:Hid (J1 w caa m.ca):=hm.cas;have HN1:Hid (m.fs.length=fn):=n1.symm;have HN8:Hid (m.ca.length=can):=n8.symm;have hbc:can<=9223372036854775807:=by have:=hm.ca.short;omega
 obtain⟨_,_,hfe,_,hfr⟩:=qL.rows hm.fl;have HFL:Hid (jZ w fla m.fl):=dD<|by
  simp only[vJ]at hfe;rw[hfe.1];exact hfr
 have HIN:Hid (∀c∈m.ca,zcm fi ix c=true->0<=c.fr/\c.fr<m.fs.length):=hca;have hfn:fi<fln:=by rw[n7];exact(gS.1 hf).1
 obtain⟨ad,rfl,ba,bc,hbr,hfl⟩:=HFL.out fi f hf;have HBL:Hid (∀W,zc w W->zck W (ad.add (fi*2)) f.size (.slice ba f.bl.length bc)):=hfl;obtain⟨_,_,hbe,hbn⟩:=hbr.nums;have hbl:ix<f.bl.length:=(gS.1 hbk).1;obtain⟨ad2,had2,hb2⟩:=hbn ix bk hbk;have HB2:Hid (ba=some ad2/\∀W,zc w W->W.cell? (ad2.add ix)=some (I6 bk)):=show _/\_ from⟨by simp only[vJ]at hbe;rw[hbe.1];exact had2,hb2⟩
 obtain⟨bn,HBN⟩:∃bn,Hid (f.bl.length=bn):=⟨_,rfl⟩;rw[HBN.out]at hbl HBL;have HCO1:Hid (∀c,m.ca.find? (zcm fi ix)=some c->qZ m fi ix=pgL (qe m c.fr).p):=dD<|fun c hc=>by unfold qZ;rw[hc]
 have HCO2:Hid (m.ca.find? (zcm fi ix)=none->qZ m fi ix=if bk<0 then zm else zdQ (ju m.db m.dq bk) ix f.size):=dD<|fun hc=>by
  have hg:m.fl.getD ((fi:Int).toNat) ⟨0,[]⟩=f:=by rw[tN,gD,hf];rfl
  have e1:zkb m fi ix=bk:=by unfold zkb;rw[hg,tN,gD,hbk];rfl
  have e2:zhG m fi=f.size:=by unfold zhG;rw[hg]
  unfold qZ;rw[hc];simp only[e1,e2]
 obtain⟨C,HC⟩:∃C,Hid (qZ m fi ix=C):=⟨_,rfl⟩;rw[HC.out]at HCO1 HCO2⊢;clear hm n1 n7 n8 hfe hfr hca hf hbk hfl hbr hbe hbn had2 hb2;have hfz:(fi:Int)< (fln:Int):=by omega
 have hbz:(ix:Int)< (bn:Int):=by omega
 obtain⟨W0,hW0⟩:∃W0,(w.alloc (.cells #[.slice fa fn fc,I6 m.hand,vs.x,vsb.x,vsq.x,vdb.x,vdq.x,.slice (some ad) fln flc,I6 m.cnt,.slice caa can cac,vsp.x] 40)).alloc (.cells #[U8 0,U8 0,U8 0,U8 0,U8 0,U8 0,U8 0,U8 0] 50)=W0:=⟨_,rfl⟩;have HG0:=gD2 hW0
 have X0:=x2a hW0
 have Y0:Hid (Box W0 (w.heap.size+1) (pgc zm)):=dD<|by rw[<-hW0];exact Box.top _ (pgc zm) _ (by simp)
 have HW0:Hid (_=W0):=hW0;clear hW0
 go_enter func62,ntmps62
 go_upto_region 1 with fail;rw[HW0.out];have x9:=X0.c 9 rfl;go_wp2;clear x9
 go_loopg [16] can (fun gg s16 wr=>∃kk:Nat,kk<=can/\can - kk<=gg/\s16=I6 kk/\Hid (zc W0 wr)/\Hid (∀(j:Nat) c,j<kk->m.ca[j]? =some c->zcm fi ix c=false))
 case atStart=>exact⟨0,nZ _,by omega,rfl,zc.refl _,fun j c hj=>absurd hj (nL _)⟩
 obtain⟨kk,hkk,hgg,rfl,BW,OW⟩:=hrel
 by_cases hlt:kk<can
 ·have hltz:(kk:Int)< (can:Int):=by omega
  obtain⟨c,HC⟩:∃c,Hid (m.ca[kk]? =some c):=⟨_,gE (by rw[HN8.out];exact hlt)⟩
  obtain⟨adc,rfl,hl⟩:=HCA.out kk c HC.out;obtain⟨d0,d1,d2⟩:=hl wr (HG0.trans BW);clear hl;go_upto_region 4 with fail;obtain⟨W1,hW1⟩:∃W1,wr.alloc (.cells #[I6 c.file,I6 c.idx,I6 c.fr] 83)=W1:=⟨_,rfl⟩;have HG1:=gT hW1 BW
  have C1:=xA hW1
  rw[hW1];clear hW1 d0 d1 d2;obtain⟨c0,c1,c2⟩:=C1.c3;have HNX:Hid (zcm fi ix c=false->∀(j:Nat) c,j<kk+1->m.ca[j]? =some c->zcm fi ix c=false):=dD<|fun h0 j c' hj hc'=>by
   by_cases e:j=kk
   ·subst e;rw[HC.out]at hc';cases hc';exact h0
   exact OW j c' (by omega) hc'
  by_cases h1:c.file=(fi:Int)
  ·have h1e:(c.file ==(fi:Int))=true:=by simp[h1]
   by_cases h2:c.idx=(ix:Int)
   ·have h2e:(c.idx ==(ix:Int))=true:=by simp[h2]
    have HHT:Hid (zcm fi ix c=true):=dD<|by simp[zcm,h1,h2]
    have HFD:Hid (m.ca.find? (zcm fi ix)=some c):=dD<|by
     rw[List.find?_eq_some_iff_getElem];refine⟨HHT,kk,(gS.1 HC).1,(gS.1 HC).2,fun j hj=>?_⟩
     have:=OW.out j _ hj (gE (by have:=(gS.1 HC).1;omega))
     simp[this]
    obtain⟨r0,r1⟩:=HIN.out c (mG HC) HHT.out;obtain⟨k,hk⟩:∃k:Nat,c.fr=(k:Int):=⟨c.fr.toNat,by omega⟩
    have hkn:k<fn:=by rw[<-HN1.out];omega
    have hkz:(k:Int)< (fn:Int):=by omega
    obtain⟨q,HQ⟩:∃q,Hid (m.fs[k]? =some q):=⟨_,gE (by rw[HN1.out];exact hkn)⟩
    have HCE:Hid (C=pgL q.p):=dD<|by
     rw[HCO1.out c HFD.out,hk];unfold qe;rw[tN,gD,HQ.out];rfl
    rw[hk]at c2;clear h1 h2 r0 r1 hk;go_upto_region 5 with fail;obtain⟨adf,hva,hl⟩:=HFR.out k q HQ.out;obtain⟨d0,d1,d2,d3,d4,d5,d6,d7,-⟩:=hl W1 (HG0.trans HG1);have x0:=(X0.grew HG1).c 0 rfl;rw[hva]at x0;have Y1:=dD (Y0.grew HG1);clear hl hva
    go_wp2_with (refine zn rfl 50 (.tmp 6) (.tmp 37) rfl (w.heap.size+1) rfl (pgc (pgL q.p)) rfl Y1 rfl zl3 (z6 _) ?_)
    intro W2 hb2 hg2 _;have HG2:Hid (zc w W2):=dD<|ze (HG0.trans HG1) hg2 (by omega)
    go_wp2;refine bodyPost_ret (zT rfl _ rfl hb2 underlying50 rfl zl3) rfl ⟨by rw[HCE.out],by rw[HCE.out];rfl,HG2⟩
   have h2e:(c.idx ==(ix:Int))=false:=by simp[h2]
   have OW':Hid (∀(j:Nat) c,j<kk+1->m.ca[j]? =some c->zcm fi ix c=false):=HNX.out (by simp[zcm,h2])
   clear h1 h2;go_wp2
   go_roundg (can -(kk+1))
   case measure=>omega
   exact⟨kk+1,by omega,by omega,by go_num,HG1,OW'⟩
  have h1e:(c.file ==(fi:Int))=false:=by simp[h1]
  have OW':Hid (∀(j:Nat) c,j<kk+1->m.ca[j]? =some c->zcm fi ix c=false):=HNX.out (by simp[zcm,h1])
  clear h1;go_wp2
  go_roundg (can -(kk+1))
  case measure=>omega
  exact⟨kk+1,by omega,by omega,by go_num,HG1,OW'⟩
 have hltz:¬(kk:Int)< (can:Int):=by omega
 have hke:kk=can:=by omega
 have HNO:Hid (m.ca.find? (zcm fi ix)=none):=dD<|by
  rw[List.find?_eq_none];intro c hc;obtain⟨j,hj⟩:=List.getElem?_of_mem hc;have:=OW.out j c (by rw[hke,<-HN8.out];exact(gS.1 hj).1) hj
  simp[this]
 have HCE:Hid (C=if bk<0 then zm else zdQ (ju m.db m.dq bk) ix f.size):=HCO2.out HNO.out;clear hke;go_upto_region 7 with fail;have x7:=(X0.grew BW).c 7 rfl;obtain⟨d0,d1⟩:=HBL.out wr (HG0.trans BW);obtain⟨hba,hb2⟩:=HB2.out;rw[hba]at d1;have e0:=hb2 wr (HG0.trans BW);clear hba hb2 d0;have YW:=dD (Y0.grew BW)
 by_cases hb:bk<0
 ·rw[if_pos hb]at HCE
  go_wp2_with (refine zn rfl 50 (.tmp 6) (.tmp 51) rfl (w.heap.size+1) rfl (pgc zm) rfl YW rfl zl3 (z6 _) ?_)
  intro W2 hb2 hg2 _;have HG2:Hid (zc w W2):=dD<|ze (HG0.trans BW) hg2 (by omega)
  go_wp2;refine bodyPost_ret (zT rfl _ rfl hb2 underlying50 rfl zl3) rfl ⟨by rw[HCE.out],by rw[HCE.out];rfl,HG2⟩
 rw[if_neg hb]at HCE;have x5:=(X0.grew BW).c 5 rfl;have x6:=(X0.grew BW).c 6 rfl;have hrd:=HRD.out wr (HG0.trans BW);go_wp2_with fail;refine hrd.mono ?_;clear hrd x5 x6 x7 d1 e0;rintro e W2 ⟨rfl,g2⟩;obtain⟨p,HP⟩:∃p,Hid (ju m.db m.dq bk=p):=⟨_,rfl⟩;rw[HP.out]at HCE HRL⊢;have HG2:=dD (BW.trans g2);clear g2;obtain⟨p0,p1,p2,p3,p4,p5,p6,p7,rfl⟩:=zdP p HRL.out;simp only[pgc,mP,List.map_nil];go_upto_region 11 with fail;obtain⟨W3,hW3⟩:∃W3,W2.alloc (.cells #[U8 p0,U8 p1,U8 p2,U8 p3,U8 p4,U8 p5,U8 p6,U8 p7] 50)=W3:=⟨_,rfl⟩;have HG3:=gT hW3 HG2
 have P3:Hid (Box W3 W2.heap.size (pgc (ZB [p0,p1,p2,p3,p4,p5,p6,p7] ix f.size 0))):=dD<|by rw[<-hW3,zhg];exact Box.top _ (pgc [p0,p1,p2,p3,p4,p5,p6,p7]) _ rfl
 have HPL:Hid (w.heap.size+1<W2.heap.size):=dD<|(Y0.grew HG2).lt
 rw[hW3];clear hW3;obtain⟨pp,HPP⟩:∃pp,Hid (W2.heap.size=pp):=⟨_,rfl⟩;rw[HPP.out]at P3 HPL⊢;go_wp2
 go_loopg [59] 8 (fun gg s59 wr=>∃i:Nat,i<=8/\8 - i<=gg/\s59=I6 i/\Hid (zc w wr)/\Hid (Box wr w.heap.size [.slice fa fn fc,I6 m.hand,vs.x,vsb.x,vsq.x,vdb.x,vdq.x,.slice (some ad) fln flc,I6 m.cnt,.slice caa can cac,vsp.x])/\Hid (Box wr (w.heap.size+1) (pgc zm))/\Hid (Box wr pp (pgc (ZB [p0,p1,p2,p3,p4,p5,p6,p7] ix f.size i))))
 case atStart=>exact⟨0,nZ _,by omega,rfl,HG0.trans HG3,X0.grew HG3,Y0.grew HG3,P3⟩
 obtain⟨i,hi,hg3,rfl,BW2,XW,YW2,PW⟩:=hrel
 by_cases hlt2:i<8
 ·have hltz2:(i:Int)<8:=by omega
  obtain⟨d0,d1⟩:=HBL.out wr BW2.out;have x7:=XW.c 7 rfl;clear d1;obtain⟨z,hz⟩:∃z,(ZB [p0,p1,p2,p3,p4,p5,p6,p7] ix f.size i)[i]? =some z:=⟨_,gE (by rw[zeH];exact hlt2)⟩
  have z0:=PW.c i (zcL hz);have zf:=PW.f
  by_cases hc:f.size<=8*(ix:Int)+(i:Int)
  ·have hcd:decide (f.size<=8*(ix:Int)+(i:Int))=true:=by simpa using hc
   have P4:Hid (Box (wr.setCell ⟨pp,i,none⟩ (U8 0)) pp (pgc (ZB [p0,p1,p2,p3,p4,p5,p6,p7] ix f.size (i+1)))):=dD<|by rw[<-zeI (by exact hlt2) hc,zbN];exact PW.set i _
   have X4:Hid (Box (wr.setCell ⟨pp,i,none⟩ (U8 0)) w.heap.size [.slice fa fn fc,I6 m.hand,vs.x,vsb.x,vsq.x,vdb.x,vdq.x,.slice (some ad) fln flc,I6 m.cnt,.slice caa can cac,vsp.x]):=dD<|XW.other (by have:=HPL.out;simp;omega) _
   have Y4:Hid (Box (wr.setCell ⟨pp,i,none⟩ (U8 0)) (w.heap.size+1) (pgc zm)):=dD<|YW2.other (by have:=HPL.out;simp;omega) _
   have G4:Hid (zc w (wr.setCell ⟨pp,i,none⟩ (U8 0))):=dD<|zC BW2 (by have:=HPL.out;simp;omega) _
   clear hz;go_wp2
   go_roundg (8 -(i+1))
   case measure=>omega
   exact⟨i+1,by omega,by omega,by go_num,G4,X4,Y4,P4⟩
  have hcd:decide (f.size<=8*(ix:Int)+(i:Int))=false:=by simpa using hc
  have P4:Hid (Box wr pp (pgc (ZB [p0,p1,p2,p3,p4,p5,p6,p7] ix f.size (i+1)))):=dD<|by rw[<-ziB hc];exact PW.out
  clear hz;go_wp2
  go_roundg (8 -(i+1))
  case measure=>omega
  exact⟨i+1,by omega,by omega,by go_num,BW2,XW,YW2,P4⟩
 have hltz2:¬(i:Int)<8:=by omega
 have:i=8:=by omega
 subst this;have PE:Hid (Box wr pp (pgc C)):=dD<|by
  have:=PW.out;rw[zeJ (by exact nR 8),<-HCE.out]at this
  exact this
 have HCL:Hid (C.length=8):=dD<|by rw[HCE.out];unfold zdQ;simp
 have HCP:Hid ((pgc C).length=8):=dD<|by rw[jU];exact HCL.out
 go_wp2_with (first | (refine zK rfl 50 (.tmp 10) rfl pp rfl PE underlying50 rfl (by rw[HCP.out];exact zl3) ?_) | (refine zn rfl 50 (.tmp 6) (.tmp 77) rfl (w.heap.size+1) rfl (pgc C) rfl YW2 (by rw[HCP.out];rfl) zl3 (z6 _) ?_))
 intro W5 hb5 hg5 _;have HG5:Hid (zc w W5):=dD<|ze BW2 hg5 (by omega)
 go_wp2;refine bodyPost_ret (zT rfl _ rfl hb5 underlying50 rfl (by rw[HCP.out];exact zl3)) rfl ⟨rfl,HCL,HG5⟩
section
variable(I:World->Prop) (P:Program) (ops:Array Oper) (S:Nat->Option (Value->Prop))
def jK (i:Nat) (F:World->Prop) (a:Act) (K:(World->Prop)->Act->Prop):Prop:=
 match ops[i]? with
 | none=>False
 | some o=>
  if Region.wanted o (yielded ops a.tmps)then
   match S i with
   | none=>∃v,(∀w,I w->(execOp a.eval o).run P w= .ok (.value v) w)/\K F (a.put o.dst v)
   | some s=>∃p:Value->World->Prop,(∀w,I w->F w->zP P o a w fun v w'=>I w'/\s v/\p v w')/\∀v,s v->K (p v) (a.put o.dst v)
  else K F (a.put o.dst undef)
def ziX (Q:Act->World->Prop):List Nat->(World->Prop)->Act->Prop
 | [],F,a=>∀w,I w->F w->Q a w
 | i :: l,F,a=>jK I P ops S i F a (ziX Q l)
end
section
variable{I:World->Prop} {P:Program} {ops:Array Oper} {S:Nat->Option (Value->Prop)} {T:Nat}
theorem jK.mono {F:World->Prop} {a:Act} {K K':(World->Prop)->Act->Prop}
  (h:∀F' a',K F' a'->K' F' a') (hc:jK I P ops S i F a K):jK I P ops S i F a K':=by
 unfold jK at*
 split
 ·rename_i ho;simp only[ho]at hc
 rename_i o ho
 simp only[ho]at hc
 split
 ·rename_i hw
  simp only[hw,if_true]at hc
  split
  ·rename_i hs
   simp only[hs]at hc;obtain⟨v,h1,h2⟩:=hc;exact⟨v,h1,h _ _ h2⟩
  rename_i s hs
  simp only[hs]at hc;obtain⟨p,hd,hc⟩:=hc;exact⟨p,hd,fun v hv=>h _ _ (hc v hv)⟩
 rename_i hw
 simp only[hw]at hc;exact h _ _ hc
theorem jK.swap {F:World->Prop} {a:Act} {K:(World->Prop)->Act->Prop}
  (hi:ops[i]? =some oi) (hj:ops[j]? =some oj) (hap:oi.apart ops oj=true)
  (hsi:∀cs b,oi.op≠.select cs b) (hsj:∀cs b,oj.op≠.select cs b)
  (hij:anc ops 9 i j=false) (hji:anc ops 9 j i=false) (hS:∀s,S i=some s->∃v,s v) (hch:S i≠none->S j≠none->anc ops 9 i j=true\/anc ops 9 j i=true)
  (hw0:I w)
  (h:jK I P ops S i F a fun F' a'=>jK I P ops S j F' a' K):jK I P ops S j F a fun F' a'=>jK I P ops S i F' a' K:=by
 obtain⟨h1,h2,h3⟩:=Oper.apart_spec hap;have ei:∀v,execOp (a.put oj.dst v).eval oi=execOp a.eval oi:=fun v=>execOp_put oi hsi a oj.dst v h3
 have ej:∀v,execOp (a.put oi.dst v).eval oj=execOp a.eval oj:=fun v=>execOp_put oj hsj a oi.dst v h1
 have wi:∀v,Region.wanted oi (yielded ops (a.put oj.dst v).tmps)=Region.wanted oi (yielded ops a.tmps):=fun v=>wanted_put oi a oj.dst v h3
 have wj:∀v,Region.wanted oj (yielded ops (a.put oi.dst v).tmps)=Region.wanted oj (yielded ops a.tmps):=fun v=>wanted_put oj a oi.dst v h1
 have di:∀v w K,zP P oi (a.put oj.dst v) w K=zP P oi a w K:=fun v w K=>by unfold zP;rw[ei]
 have dj:∀v w K,zP P oj (a.put oi.dst v) w K=zP P oj a w K:=fun v w K=>by unfold zP;rw[ej]
 have pc:∀v u,(a.put oi.dst v).put oj.dst u=(a.put oj.dst u).put oi.dst v:=fun v u=>Act.put_comm a v u h2
 unfold jK at h⊢;simp only[hi,hj,ei,ej,wi,wj,di,dj,pc]at h⊢
 cases hwi:Region.wanted oi (yielded ops a.tmps) <;> cases hwj:Region.wanted oj (yielded ops a.tmps) <;>
  simp only[hwi,hwj,if_true,if_false,Bool.false_eq_true]at h⊢
 ·exact h
 ·cases hsj':S j with
  | none=>simp only[hsj']at h⊢;exact h
  | some s=>simp only[hsj']at h⊢;exact h
 ·cases hsi':S i with
  | none=>simp only[hsi']at h⊢;exact h
  | some s=>simp only[hsi']at h⊢;exact h
 cases hsi':S i with
 | none=>
  simp only[hsi']at h;obtain⟨vi,hri,h⟩:=h
  cases hsj':S j with
  | none=>
   simp only[hsj']at h⊢;obtain⟨vj,hrj,h⟩:=h;exact⟨vj,hrj,vi,hri,h⟩
  | some s=>
   simp only[hsj']at h⊢;obtain⟨p,hd,hk⟩:=h;exact⟨p,hd,fun vj hvj=>⟨vi,hri,hk vj hvj⟩⟩
 | some si=>
  simp only[hsi']at h;obtain⟨p,hdi,h⟩:=h;obtain⟨v1,hv1⟩:=hS si hsi'
  cases hsj':S j with
  | none=>
   simp only[hsj']at h⊢;obtain⟨vj,hrj,_⟩:=h v1 hv1;refine⟨vj,hrj,p,hdi,fun vi hvi=>?_⟩
   obtain⟨vj',hrj',hl⟩:=h vi hvi;have e1:=hrj w hw0;have e2:=hrj' w hw0;rw[e1]at e2;simp only[Result.ok.injEq,Next.value.injEq,and_true]at e2;subst e2;exact hl
  | some sj=>
   exfalso
   rcases hch (by rw[hsi'];simp) (by rw[hsj'];simp)with h1|h1
   ·rw[hij]at h1;cases h1
   rw[hji]at h1;cases h1
theorem ziX.commute {Q:Act->World->Prop} {j:Nat} {oj:Oper} {w:World} (hj:ops[j]? =some oj) (hw0:I w)
  (hsel:∀(k:Nat) (o:Oper) cs b,ops[k]? =some o->o.op≠.select cs b) (hS:∀k s,S k=some s->∃v,s v) (hch:∀i k,i<k->S i≠none->S k≠none->anc ops 9 i k=true):
  ∀(l:List Nat) (F:World->Prop) (a:Act),l.Nodup->j∈l->
   (∀i∈l,i≠j->∃oi,ops[i]? =some oi/\(i<j->oi.apart ops oj=true)/\anc ops 9 i j=false/\(i<j->anc ops 9 j i=false))->
   (l.Pairwise (·< ·))->ziX I P ops S Q l F a->ziX I P ops S Q (j :: l.filter (· != j)) F a
 | [],_,_,_,hm,_,_,_=>by cases hm
 | i :: l,F,a,hnd,hm,hall,hsorted,h=>by
  by_cases hij:i=j
  ·subst hij;have:(i :: l).filter (· != i)=l:=by
    rw[List.filter_cons];simp only[bne_self_eq_false,Bool.false_eq_true,if_false];refine List.filter_eq_self.2 fun x hx=>?_
    have:x≠i:=fun e=>(List.nodup_cons.1 hnd).1 (e ▸ hx)
    simpa using this
   rw[this];exact h
  have hjl:j∈l:=by
   rcases mC.1 hm with e|e
   ·exact absurd e.symm hij
   exact e
  have hlt:i<j:=(List.pairwise_cons.1 hsorted).1 j hjl;obtain⟨oi,hoi,hap,haij,haji⟩:=hall i (by simp) hij
  have hf:(i :: l).filter (· != j)=i :: l.filter (· != j):=by
   rw[List.filter_cons];have:(i != j)=true:=by simpa using hij
   simp[this]
  rw[hf];refine jK.swap hoi hj (hap hlt) (fun cs b=>hsel i oi cs b hoi) (fun cs b=>hsel j oj cs b hj) haij (haji hlt) (hS i) (fun q1 q2=> .inl (hch i j hlt q1 q2)) hw0 ?_
  refine jK.mono (fun F' a' hl=>?_) h
  exact ziX.commute hj hw0 hsel hS hch l F' a' (List.nodup_cons.1 hnd).2 hjl (fun k hk=>hall k (by simp[hk])) (List.pairwise_cons.1 hsorted).2 hl
theorem zdc {Q:Act->World->Prop} {l:List Oper} {m:Nat} (hB:Zi ops T=true) (hTl:T+m=ops.size) (hll:l.length=m) (hops:∀j,l[j]? =ops[T+j]?) (hS:∀k s,S k=some s->∃v,s v)
  (hch:∀i k,i<k->S i≠none->S k≠none->anc ops 9 i k=true) (hQ:∀a w,Q a w->wpList P ops Q' l a w):
  ∀(fuel:Nat) (listed:Array Bool) (F:World->Prop) (a:Act) (w:World),listed.size=ops.size->(∀i,T<=i->i<ops.size->listed.getD i true=false)->(zd listed T).length=fuel->Zr ops listed->I w->
   F w->ziX I P ops S Q (zd listed T) F a->wpAny P .any ops Q' (fuel+m) listed a w:=by
 have hsel:=Region.noSelect_spec (ops:=ops) (by simp only[Zi,Bool.and_eq_true]at hB;exact hB.1.1)
 intro fuel
 induction fuel with
 | zero=>
  intro listed F a w hsz hout hl hc hw hF h;have hnil:zd listed T=[]:=eN hl;rw[hnil]at h;rw[zA];refine ZD hB m l T listed a w (nR _) hsz hTl hll hops (fun i hi=>?_) hout (hQ _ _ (h w hw hF))
  cases hg:listed.getD i true with
  | true=>rfl
  | false=>
   have:i∈zd listed T:=List.mem_filter.2 ⟨List.mem_range.2 hi,by simp only[hg,beq_self_eq_true]⟩
   rw[hnil]at this;cases this
 | succ fuel ih=>
  intro listed F a w hsz hout hl hc hw hF h;rw[Nat.add_right_comm];refine⟨fun hr=>?_,fun j hj=>?_⟩
  ·exfalso
   cases hu:zd listed T with
   | nil=>simp[hu]at hl
   | cons x xs=>
    have hx:x∈zd listed T:=by rw[hu];simp
    have hx':=List.mem_filter.1 hx;have hxT:x<T:=List.mem_range.1 hx'.1;have hxs:x<ops.size:=by omega
    have ho:ops[x]? =some ops[x]:=Array.getElem?_eq_getElem hxs;have hsorted:(zd listed T).Pairwise (·< ·):=List.Pairwise.filter _ List.pairwise_lt_range;have:x∈Region.ready .any ops listed:=by
     refine mem_ready.2 ⟨by simpa using hx'.2,ops[x],ho,fun e he hb=>?_⟩
     have hed:zaL ops e.on x=true:=(jr ho).2 ⟨e,he,hb,rfl⟩;have hlt:=jy hB ho _ hed
     cases hg:listed.getD e.on true with
     | true=>exact Jt (by omega) hg
     | false=>
      have hmem:e.on∈zd listed T:=List.mem_filter.2 ⟨List.mem_range.2 (by omega),by simp only[hg,beq_self_eq_true]⟩
      rw[hu]at hmem hsorted
      rcases mC.1 hmem with e1|e1
      ·omega
      have:=(List.pairwise_cons.1 hsorted).1 _ e1;omega
    rw[hr]at this;cases this
  obtain⟨h0,oj,hoj,hall⟩:=mem_ready.1 hj;have hjs:j<ops.size:=(aS.1 hoj).1;have hdir:∀k,zaL ops k j=true->listed.getD k false=true:=fun k hk=>by
   obtain⟨e,he,hb,rfl⟩:=(jr hoj).1 hk;exact hall e he hb
  have hjT:j<T:=by
   rcases Nat.lt_or_ge j T with h1|h1
   ·exact h1
   exfalso
   cases hu:zd listed T with
   | nil=>simp[hu]at hl
   | cons x xs=>
    have hx:x∈zd listed T:=by rw[hu];simp
    have hx':=List.mem_filter.1 hx;have hxT:x<T:=List.mem_range.1 hx'.1;have:=qg hc j x j hdir (j7 hB hoj h1 x (by omega))
    rw[qw (by simpa using hx'.2)]at this
    cases this
  have hju:j∈zd listed T:=List.mem_filter.2 ⟨List.mem_range.2 hjT,by simp only[h0,beq_self_eq_true]⟩
  have hnd:(zd listed T).Nodup:=List.Pairwise.filter _ List.nodup_range;have hsorted:(zd listed T).Pairwise (·< ·):=List.Pairwise.filter _ List.pairwise_lt_range;have hcm:=ziX.commute hoj hw hsel hS hch (zd listed T) F a hnd hju (fun i hi hij=>by
   have hi':=List.mem_filter.1 hi;have hun:listed.getD i false=false:=qw (by simpa using hi'.2)
   have his:i<ops.size:=by have:=List.mem_range.1 hi'.1;omega
   have hoi:ops[i]? =some ops[i]:=Array.getElem?_eq_getElem his;refine⟨ops[i],hoi,fun hlt=>?_,?_,fun hlt=>?_⟩
   ·rcases j8 hB hoj hjT i hlt with he|⟨oi,hoi',hap⟩
    ·have:=hdir i he;rw[hun]at this;cases this
    rw[hoi]at hoi';cases hoi';exact hap
   ·cases ha:anc ops 9 i j with
    | false=>rfl
    | true=>
     have:=qg hc 9 i j hdir ha;rw[hun]at this;cases this
   cases ha:anc ops 9 j i with
   | false=>rfl
   | true=>
    have:=zai hB 9 j i ha
    omega) hsorted h
  have hsz':(listed.setIfInBounds j true).size=ops.size:=by simp[hsz]
  have hout':∀i,T<=i->i<ops.size->(listed.setIfInBounds j true).getD i true=false:=fun i hi hi'=>by rw[getD_set_ne true (by omega)];exact hout i hi hi'
  have hlen':(zd (listed.setIfInBounds j true) T).length=fuel:=by
   rw[qh (by omega)]
   have he:(zd listed T).filter (· != j)=(zd listed T).erase j:=by
    rw[List.Nodup.erase_eq_filter hnd]
   rw[he,List.length_erase_of_mem hju];omega
  have hc':Zr ops (listed.setIfInBounds j true):=fun i k hk hik=>by
   by_cases hkj:j=k
   ·subst hkj;exact getD_set_true (hdir i hik)
   rw[getD_set_ne false hkj]at hk;exact getD_set_true (hc i k hk hik)
  unfold wpOp;simp only[hoj];simp only[ziX,jK,hoj]at hcm;rw[<-qh (by omega)]at hcm
  split
  ·rename_i hwant
   simp only[hwant,if_true]at hcm;refine .inl ?_
   cases hs:S j with
   | none=>
    simp only[hs]at hcm;obtain⟨v,hrun,hk⟩:=hcm;have hr:=hrun w hw;unfold Oper.wp;rw[hr];exact ih _ F _ w hsz' hout' hlen' hc' hw hF hk
   | some s=>
    simp only[hs]at hcm;obtain⟨p,hd,hk⟩:=hcm;refine(hd w hw hF).wp fun v w' ⟨hi',hpv,hpost⟩=>?_
    exact ih _ (p v) _ w' hsz' hout' hlen' hc' hi' hpost (hk v hpv)
  rename_i hwant
  simp only[hwant]at hcm;exact ih _ F _ w hsz' hout' hlen' hc' hw hF hcm
end
section
variable{I:World->Prop} {P:Program} {ops:Array Oper} {S:Nat->Option (Value->Prop)} {Q:Act->World->Prop}
variable(I P ops S Q)in
def Jh:List Oper->Nat->(World->Prop)->Act->Prop
 | [],_,F,a=>∀w,I w->F w->Q a w
 | o :: rest,k,F,a=>
  if Region.wanted o (yielded ops a.tmps)then
   match S k with
   | none=>∃v,(∀w,I w->(execOp a.eval o).run P w= .ok (.value v) w)/\Jh rest (k+1) F (a.put o.dst v)
   | some s=>∃p:Value->World->Prop,(∀w,I w->F w->zP P o a w fun v w'=>I w'/\s v/\p v w')/\∀v,s v->Jh rest (k+1) (p v) (a.put o.dst v)
  else Jh rest (k+1) F (a.put o.dst undef)
theorem QQ:∀(l:List Oper) (k:Nat) (F:World->Prop) (a:Act),(∀j,l[j]? =ops[k+j]?\/l.length<=j)->Jh I P ops S Q l k F a->ziX I P ops S Q (List.range' k l.length) F a
 | [],_,_,_,_,h=>h
 | o :: l,k,F,a,hl,h=>by
  have h0:ops[k]? =some o:=by
   rcases hl 0 with e|e
   ·simpa using e.symm
   simp at e
  have hnext:∀j,l[j]? =ops[k+1+j]?\/l.length<=j:=fun j=>by
   rcases hl (j+1)with e|e
   ·left;rw[List.getElem?_cons_succ]at e;rw[e];congr 1;omega
   right;simpa using e
  simp only[List.length_cons,List.range'_succ,ziX,jK,h0];unfold Jh at h
  split
  ·rename_i hw
   simp only[hw,if_true]at h
   cases hs:S k with
   | none=>
    simp only[hs]at h;obtain⟨v,h1,h2⟩:=h;exact⟨v,h1,QQ l (k+1) _ _ hnext h2⟩
   | some s=>
    simp only[hs]at h;obtain⟨p,hd,hk⟩:=h;exact⟨p,hd,fun v hv=>QQ l (k+1) _ _ hnext (hk v hv)⟩
  rename_i hw
  simp only[hw]at h;exact QQ l (k+1) _ _ hnext h
variable(I P ops S Q)in
structure zbn (l:List Oper) (k:Nat) (F:World->Prop) (a:Act):Prop where
 out:Jh I P ops S Q l k F a
theorem zX {Q:Exit->Act->World->Prop} {a:Act} {L l r:List Oper} (T:Nat) (S:List (Nat ×(Value->Prop))) (F:World->Prop) (hI:I w.drew) (hF:F w.drew) (hm:P.follows .mixedOrders=true) (hB:Zi L.toArray T=true) (hl:L.take T=l) (hr:L.drop T=r) (hT:T<=L.length)
  (hS:∀x∈S,∃v,x.2 v) (hch:((S.map (·.1)).all fun i=>(S.map (·.1)).all fun k=>!decide (i<k) || anc L.toArray 9 i k)=true)
  (h:zbn I P L.toArray (fun k=>S.lookup k) (fun a w=>wpList P L.toArray Q r a w) l 0 F a):(Code.region id L.toArray true).wp P Q a w:=by
 have hlook:∀(S:List (Nat ×(Value->Prop))) k s,S.lookup k=some s->∃x∈S,x.2=s/\x.1=k:=by
  intro S
  induction S with
  | nil=>intro k s h;simp at h
  | cons x S ih=>
   intro k s h;rw[List.lookup_cons]at h
   split at h
   ·rename_i he
    exact⟨x,by simp,by simpa using h,by simpa using(by simpa using he:k=x.1).symm⟩
   obtain⟨y,hy,he⟩:=ih k s h;exact⟨y,by simp[hy],he⟩
 have hlT:l.length=T:=by rw[<-hl,List.length_take];omega
 have hrT:r.length=L.length - T:=by rw[<-hr,List.length_drop]
 refine wp_region_any hm ?_;have hu:zd (Array.replicate L.toArray.size false) T=List.range T:=by
  unfold zd;refine List.filter_eq_self.2 fun i hi=>?_
  have:i<T:=by simpa using hi
  simp[show i<L.length by omega]
 have h':=QQ (ops:=L.toArray) l 0 _ a (fun j=>by
  rcases Nat.lt_or_ge j T with hj|hj
  ·left;rw[<-hl,List.getElem?_take_of_lt hj];simp
  right;omega) h.out
 rw[hlT,<-List.range_eq_range']at h';have hfin:=zdc (I:=I) (P:=P) (S:=fun k=>S.lookup k) (F:=F) (ops:=L.toArray) (T:=T) (l:=r) (m:=L.length - T) (Q:=fun a w=>wpList P L.toArray Q r a w) (Q':=Q) hB (by simp;omega) hrT (fun j=>by rw[<-hr,List.getElem?_drop];simp) (fun k s hs=>by obtain⟨x,hx,rfl,_⟩:=hlook S k s hs;exact hS x hx) (fun i k hik hi hk=>by
   obtain⟨si,hsi⟩:=Option.ne_none_iff_exists'.1 hi;obtain⟨sk,hsk⟩:=Option.ne_none_iff_exists'.1 hk;obtain⟨x,hx,_,rfl⟩:=hlook S i si hsi;obtain⟨y,hy,_,rfl⟩:=hlook S k sk hsk;have h1:=List.all_eq_true.1 (List.all_eq_true.1 hch x.1 (List.mem_map.2 ⟨x,hx,rfl⟩)) y.1 (List.mem_map.2 ⟨y,hy,rfl⟩)
   simpa [hik]using h1) (fun _ _ h=>h)
  T (Array.replicate L.toArray.size false) a w.drew (by simp) (fun i hi hi'=>by simp at hi';simp[hi']) (by rw[hu];simp) (fun i j hj _=>by
   exfalso;rw[Array.getD_eq_getD_getElem?,Array.getElem?_replicate]at hj
   split at hj <;> simp at hj)
  hI hF (by rw[hu];exact h')
 have hsz:T+(L.length - T)=L.toArray.size:=by simp;omega
 rw[hsz]at hfin;exact hfin
variable{o:Oper} {rest:List Oper} {k:Nat} {F:World->Prop} {a:Act}
theorem zi (ht:zkm o=true) (hw:Region.wanted o (yielded ops a.tmps)=true) (hS:S k=none)
  (h:∀K:Act->Prop,(∀a,zbn I P ops S Q rest (k+1) F a->K a)->o.quiet P a (fun w'=>∃x:zk I,w'=x.world) K):zbn I P ops S Q (o :: rest) k F a:=by
 obtain⟨v,h1,h2⟩:=h _ fun _ h=>h
 constructor;unfold Jh;rw[if_pos hw];simp only[hS];refine⟨v,fun w hg=>?_,h2.out⟩
 have h3:=h1 w ⟨⟨w,hg⟩,rfl⟩;unfold Oper.quietAt at h3;have hne:=fun n w'=>@Qm P o ht a.eval w w' n
 generalize(execOp a.eval o).run P w=r at*
 cases r with
 | ok n w'=>
  cases n <;> simp only[Oper.quietUpon]at h3
  case value u=>rw[h3.1,h3.2]
  case skip=>obtain⟨_,he⟩:=hne _ _ rfl;cases he
  case enter f args=>obtain⟨_,he⟩:=hne _ _ rfl;cases he
 | halt x w'=>simp only[Oper.quietUpon]at h3
theorem jv (hw:Region.wanted o (yielded ops a.tmps)=false) (h:zbn I P ops S Q rest (k+1) F (a.put o.dst undef)):zbn I P ops S Q (o :: rest) k F a:=by
 constructor;unfold Jh;rw[if_neg (by rw[hw];exact Bool.false_ne_true)]
 exact h.out
theorem qI {s:Value->Prop} (hw:Region.wanted o (yielded ops a.tmps)=true) (hS:S k=some s) (p:Value->World->Prop)
  (h:∀w,I w->F w->zP P o a w fun v w'=>I w'/\s v/\p v w')
  (hn:∀v,s v->zbn I P ops S Q rest (k+1) (p v) (a.put o.dst v)):zbn I P ops S Q (o :: rest) k F a:=by
 constructor;unfold Jh;rw[if_pos hw];simp only[hS];exact⟨p,h,fun v hv=>(hn v hv).out⟩
theorem zY (x:Operand) (p:Addr) (ho:o.op= .nilCheck x) (hx:a.eval x= .pointer (some p)) (hw:Region.wanted o (yielded ops a.tmps)=true) (hS:S k=none) (h:zbn I P ops S Q rest (k+1) F (a.put o.dst (.pointer (some p)))):zbn I P ops S Q (o :: rest) k F a:=by
 constructor;unfold Jh;rw[if_pos hw];simp only[hS];exact⟨_,fun w _=>zdj x p ho hx,h.out⟩
theorem jd (h:∀w,I w->F w->Q a w):zbn I P ops S Q [] k F a:=⟨h⟩
end
theorem zo.own {g:Nat} {a b c:World} (h:zo hi a b) (hg:b.grownBy c (some g)) (ha:a.heap.size<=g):zo hi a c:=⟨fun p t cs h1 h2=>(h.1 p t cs h1 h2).beside hg (fun k e=>by cases e;have:=h1.box.lt;omega),nT h.2 hg.size⟩
theorem zt {α:Type} {k:Nat} {s:α}:∀{S:List (Nat × α)},S.lookup k=some s->(k,s)∈S
 | [],h=>by simp at h
 | (p,a) :: S,h=>by
  by_cases h1:k=p
  ·subst h1
   simp at h
   subst h;simp
  have e1:(k == p)=false:=by simpa using h1
  rw[List.lookup_cons,e1]at h;exact List.mem_cons_of_mem _ (zt h)
theorem zde {α:Type} {p:α->Bool}:∀{l:List α} {k:Nat},(∀(j:Nat) x,j<k->l[j]? =some x->p x=true)->(∀x,l[k]? =some x->p x=false)->k<=l.length->l.takeWhile p=l.take k/\l.dropWhile p=l.drop k
 | [],0,_,_,_=>⟨rfl,rfl⟩
 | [],k+1,_,_,h=>by simp at h
 | x :: l,0,_,h,_=>by
  have:=h x rfl
  simp[this]
 | x :: l,k+1,h1,h2,h3=>by
  have hx:=h1 0 x (Nat.zero_lt_succ _) rfl;obtain⟨e1,e2⟩:=zde (l:=l) (k:=k) (fun j y hj hy=>h1 (j+1) y (by omega) (by simpa using hy)) (fun y hy=>h2 y (by simpa using hy)) (by simpa using h3)
  simp[hx,e1,e2]
theorem zl4:(Tryz.prog.info? 83).map (·.size)=some 3:=by kernel_rfl
theorem zbJ (w:World):(Go.sizeOf 83).run prog w= .ok 3 w:=by
 obtain⟨i0,h1,h2⟩:∃i0,Tryz.prog.info? 83=some i0/\i0.size=3:=by
  have:=zl4
  cases hq:Tryz.prog.info? 83 with
  | none=>rw[hq]at this;cases this
  | some i0=>rw[hq]at this;exact⟨i0,rfl,by simpa using this⟩
 simp[Go.sizeOf,typeInfo,h1,h2]
theorem zf9 {a:Option Addr} {n c k:Nat} (hk:k<=c):(Instr.sliceAt 37 (.slice a n c) none (some (I6 (k:Int))) none).run prog w= .ok (.slice a k c) w:=by
 have h1:(0:Int)<=(k:Int)/\(k:Int)<=(c:Int):=by omega
 simp only[Instr.sliceAt,Instr.slice,Instr.sliceBounds,Instr.sliceBound,asIntOf,Sem.run_bind,Sem.run_pure,rA,run_underlying underlying37];rw[if_pos h1];simp only[Sem.run_pure,rA,zbJ,tN]
 cases a with
 | none=>simp
 | some ad=>by_cases hc:c=0 <;> simp[hc,Addr.add]
theorem zgb {a:Option Addr} {n c k:Nat} (hk:k<=n):(Instr.sliceAt 37 (.slice a n c) (some (I6 (k:Int))) none none).run prog w= .ok (.slice (a.map fun ad=>if c=k then ad else ad.add (k*3)) (n - k) (c - k)) w:=by
 have h1:(0:Int)<=(k:Int)/\(k:Int)<=(n:Int):=by omega
 simp only[Instr.sliceAt,Instr.slice,Instr.sliceBounds,Instr.sliceBound,asIntOf,Sem.run_bind,Sem.run_pure,rA,run_underlying underlying37];rw[if_pos h1];simp only[Sem.run_pure,rA,zbJ,tN]
 cases a with
 | none=>simp
 | some ad=>by_cases hc:c=k <;> simp[hc]
theorem zr.upto {a:Option Addr} {n c k:Nat} {l:List Ca} (h:zr qX w (.slice a n c) l) (hk:k<=n):zr qX w (.slice a k c) (l.take k):=by
 have hn:=h.n;obtain⟨⟨xa,xc,q1,q2,q3⟩,q4⟩:=h;cases q1;refine⟨⟨a,c,by rw[List.length_take,Nat.min_eq_left (by omega)],fun e=>by rw[q2 e];simp,fun ad e=>?_⟩,?_⟩
 ·intro j u hj;refine q3 ad e j u ?_;have hs:l.flatMap qX.enc=(l.take k).flatMap qX.enc++(l.drop k).flatMap qX.enc:=by rw[<-List.flatMap_append,List.take_append_drop]
  rw[hs,List.getElem?_append_left (gS.1 hj).1];exact hj
 refine nT (Nat.mul_le_mul_right _ ?_) q4;rw[List.length_take];omega
theorem zr.from {a:Option Addr} {n c k:Nat} {l:List Ca} (h:zr qX w (.slice a n c) l) (hk:k<=n) (hc:n<=c):zr qX w (.slice (a.map fun ad=>if c=k then ad else ad.add (k*3)) (n - k) (c - k)) (l.drop k):=by
 have hn:=h.n;obtain⟨⟨xa,xc,q1,q2,q3⟩,q4⟩:=h;cases q1;refine⟨⟨_,_,by rw[List.length_drop],fun e=>?_,fun ad e=>?_⟩,?_⟩
 ·cases a with
  | none=>rw[q2 rfl];simp
  | some ad=>cases e
 ·cases a with
  | none=>cases e
  | some ad0=>
   simp only[Option.map_some,Option.some.injEq]at e;intro j u hj
   by_cases hck:c=k
   ·have:l.drop k=[]:=List.drop_eq_nil_of_le (by omega)
    rw[this]at hj
    simp at hj
   rw[if_neg hck]at e;subst e;rw[zI];refine q3 ad0 rfl _ u ?_;have hs:l.flatMap qX.enc=(l.take k).flatMap qX.enc++(l.drop k).flatMap qX.enc:=by rw[<-List.flatMap_append,List.take_append_drop]
   have hl:((l.take k).flatMap qX.enc).length=k*3:=by rw[jC,List.length_take,Nat.min_eq_left (by omega)];rfl
   rw[hs,aR (by rw[hl];omega),hl,show k*3+j - k*3=j by omega]
   exact hj
 refine nT (Nat.mul_le_mul_right _ ?_) q4;rw[List.length_drop];omega
theorem zcN (w:World) (c:Ca):zb qX w.heap.size (w.alloc (.cells #[I6 c.file,I6 c.idx,I6 c.fr] 83)) (.slice (some ⟨w.heap.size,0,none⟩) 1 1) [c]:=by
 refine⟨⟨rfl,.inr ⟨w.heap.size,1,#[I6 c.file,I6 c.idx,I6 c.fr],rfl,nR _,?_,nR _,qH (by omega),rfl,rfl⟩⟩,by show 1*24<=_;omega⟩
 show(w.heap.push _)[w.heap.size]? =_
 simp[qX]
theorem zD.part:∀{ds cs:List Value} {o:Nat},zD w b t cs->o+ds.length<=cs.length->zD (w.setCells b o ds) b t (splice cs o ds):=by
 have key:∀(ds cs:List Value) (o:Nat) (w:World),zD w b t cs->o+ds.length<=cs.length->zD (w.setCells b o ds) b t (splice cs o ds):=fun ds=>by
  induction ds with
  | nil=>
   intro cs o w h hl;have:splice cs o []=cs:=by simp[splice]
   rw[this];exact h
  | cons d ds ih=>
   intro cs o w h hl;simp only[List.length_cons]at hl;have h1:=h.set o d;have h2:=ih (cs.set o d) (o+1) (w.setCell ⟨b,o,none⟩ d) h1 (by simp;omega)
   have h3:splice (cs.set o d) (o+1) ds=splice cs o (d :: ds):=by
    unfold splice;rw[List.take_set,List.drop_set,if_pos (by omega),List.take_add_one,gE (by omega)]
    simp only[List.length_cons,Option.toList_some];rw[List.set_append_right _ _ (by simp;omega),show o+1+ds.length=o+(ds.length+1) by omega]
    simp[List.length_take,Nat.min_eq_left (show o<=cs.length by omega)]
   rw[h3]at h2;exact h2
 exact fun{ds cs o} h hl=>key ds cs o w h hl
theorem jM {rest:List Oper} {a:Act} (hgd:o.guard=none) (ty:TypeId) (p x:Operand) (ho:o.op= .store ty p x) (b:Nat) (hp:a.eval p= .pointer (some ⟨b,0,none⟩)) (vs:List Value) (hx:a.eval x= .agg vs.toArray)
  {cs:List Value} {t:TypeId} (hb:zD w b t cs) (hl:vs.length=cs.length) (hi:(Tryz.prog.info? ty).map (·.size)=some cs.length) (h1:∀v∈vs,v.oneCell'=true)
  (h:∀w',zD w' b t vs->w.grownBy w' (some b)->w'.heap.size=w.heap.size->wpList prog ops Q rest (a.put o.dst undef) w'):wpList prog ops Q (o :: rest) a w:=by
 refine wpList_store_mid hgd ty p x ho b 0 vs.toArray hp hx ?_ ?_ (all_oneCell_toArray h1) ?_
 ·simpa [hl]using hb.box.there
 ·simpa [hl]using hi
 have:=hb.part (ds:=vs) (o:=0) (by omega)
 rw[JJ hl]at this;exact h _ this (zU b vs 0 w).1 (zU b vs 0 w).2
theorem MkE.trans {w1:World} {L1:List Int} {V':MaV} {m':Ma} {vt':Sli} {T':List (Nat->En)} (h1:ZX L L1) (h2:zo hi w w1) (h:MkE w0 hi b w1 L1 V' m' vt' T' w'):MkE w0 hi b w L V' m' vt' T' w':=by
 obtain⟨vl',L',k1,k2,k3⟩:=h;exact⟨vl',L',k1,h1.trans k2,h2.trans k3⟩
theorem Mk.page {pp:Nat} {cs:List Value} (h:Mk w0 hi w b vl L V m vt T) (hp:zD w pp 50 cs) (hh:hi<=pp) (hg:w.grownBy w' (some pp)):Mk w0 hi w' b vl L V m vt T:=by
 have hne:b≠pp:=fun e=>by
  subst e;have h1:w.heap[b]? =_:=h.box;rw[show w.heap[b]? =_ from hp]at h1
  cases h1
 exact⟨ze h.gr hg (nT h.rows.bh hh),h.hb,h.box.beside hg (fun k e=>by cases e;exact hne),h.lr,h.lc,h.lb,h.rows.var hg hp hg.size (.inr ⟨rfl,hh⟩)⟩
theorem zgl {pp:Nat} (h:hi<=pp):Loc hi pp 50:=⟨by decide,by decide,by decide,by decide,by decide,by decide,by decide,by decide,fun _=>h⟩
theorem MkR.setCa {base:Nat} (h:MkR base hi w V m vt T) {s:Sli} {ca:List Ca} (ho:zb qX base w (s.x) ca):MkR base hi w { V with ca:=s } { m with ca:=ca } vt T:=⟨h.hw,h.bh,h.fs,h.sl,h.slh,h.sb,h.sbh,h.sq,h.db,h.dbh,h.dq,h.fl,ho,h.sp,h.tt,h.ap⟩
end
end Go.Proofs.YtangilolcekceaaGreat
