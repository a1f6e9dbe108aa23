import Derived.Test.YtdgccecjbpgmfaaGreatPC2
import Derived.BigQuiet
import Derived.Deep.Cut
import Derived.Laws.CopyRow
import Derived.Laws.CopyOwn
import Derived.Laws.MakeOwn
import Derived.RangeFuncNested
import Derived.RangeFuncBound
import Derived.RangeFuncCalls
import Derived.RangeFuncLeaves
import Derived.Shelf.Abstract
import Derived.Shelf.RegionOpen
import Derived.WalkKit
import Derived.OwnWalkIn
import Derived.TacticsInMore
import Derived.LoopNIn
import Derived.LoopIn
namespace Go.Proofs.YtdgccecjbpgmfaaGreat
set_option maxRecDepth 100000
set_option maxHeartbeats 4000000
section
open Go.RowKit
theorem zgO (v:Value) (fs:List Int) (w:World) (hv:zo slE w v fs):
  Calls Tryz.prog 71 #[v] w fun e w'=>∃v',e= .returned v'/\zb slE w.heap.size w' v' fs/\zc w w':=by
 have HV:Hid (zo slE w v fs):=hv;obtain⟨⟨a,c,rfl,hnone,hcells⟩,hbytes⟩:=hv;have q22:∀(w:World) (a:Option Addr) (n c n' c':Nat),(binOp .eql 30 (.slice a n c) (.slice none n' c')).run Tryz.prog w= .ok (.bool a.isNone) w:=fun w a n c n' c'=>Lib.run_eql_slice_nil w _ _ a n c n' c' Tryz.underlying30
 cases a with
 | none=>
  have hps:=hnone rfl;subst hps;clear hcells hnone hbytes HV
  go_enter Tryz.func71,Tryz.ntmps71
  go_wp2;go_ret;exact⟨_,rfl,zb.nil _ _ _,zc.refl w⟩
 | some x=>
  have HB:Hid (fs.length*8<=140737488355328):=hbytes;clear hcells hnone hbytes
  go_enter Tryz.func71,Tryz.ntmps71
  go_wp2_with (at_builtin;refine zB (E:=slE) rfl (.tmp 5) (.tmp 6) rfl w.heap.size _ [] rfl (zb.made slE w) _ fs rfl (HV.out.grew (za _ _)) ?qb (by simp) ?_)
  case qb=>rw[List.length_nil,zA];exact HB.out
  intro v' w1 hown hgrow;go_wp2;go_ret;exact⟨v',rfl,by simpa using hown,((bR _ w).alloc (nR _) _).grown hgrow (by simp) (by intro k hk;simp[Value.ownBlock]at hk;omega)⟩
section
variable(I:World->Prop) (P:Program) (ops:Array Oper) (S:Nat->Option (Value->Prop))
def jz (i:Nat) (F:Nat->World->Prop) (a:Act) (K:(Nat->World->Prop)->Act->Prop):Prop:=
 match ops[i]? with
 | none=>False
 | some o=>
  if Region.wanted o (yielded ops a.tmps)then
   match S i with
   | none=>∃v,(∀w,I w->(∀m,anc ops 9 m i=true->F m w)->(execOp a.eval o).run P w= .ok (.value v) w)/\K F (a.put o.dst v)
   | some s=>∃p:Value->World->Prop,(∀v w w',zc w w'->p v w->p v w')/\(∀w,I w->(∀m,anc ops 9 m i=true->F m w)->zL P o a w fun v w'=>I w'/\zc w w'/\s v/\p v w')/\∀v,s v->K (ZU F i (p v)) (a.put o.dst v)
  else K F (a.put o.dst undef)
def zim (Q:Act->World->Prop):List Nat->(Nat->World->Prop)->Act->Prop
 | [],F,a=>∀w,I w->(∀i,F i w)->Q a w
 | i :: l,F,a=>jz I P ops S i F a (zim Q l)
end
section
variable{I:World->Prop} {P:Program} {ops:Array Oper} {S:Nat->Option (Value->Prop)} {T:Nat}
theorem jz.mono {i:Nat} {F:Nat->World->Prop} {a:Act} {K K':(Nat->World->Prop)->Act->Prop}
  (h:∀F' a',(∀m,m≠i->F' m=F m)->K F' a'->K' F' a') (hc:jz I P ops S i F a K):jz I P ops S i F a K':=by
 unfold jz at*
 split
 ·rename_i ho;simp only[ho]at hc
 rename_i o ho
 simp only[ho]at hc
 split
 ·rename_i hw
  simp only[hw,if_true]at hc
  split
  ·rename_i hs
   simp only[hs]at hc;obtain⟨v,h1,h2⟩:=hc;exact⟨v,h1,h _ _ (fun _ _=>rfl) h2⟩
  rename_i s hs
  simp only[hs]at hc;obtain⟨p,hp,hd,hc⟩:=hc;exact⟨p,hp,hd,fun v hv=>h _ _ (fun m hm=>zV hm) (hc v hv)⟩
 rename_i hw
 simp only[hw]at hc;exact h _ _ (fun _ _=>rfl) hc
theorem jz.swap {i j:Nat} {oi oj:Oper} {F:Nat->World->Prop} {a:Act} {K:(Nat->World->Prop)->Act->Prop} {w:World}
  (hi:ops[i]? =some oi) (hj:ops[j]? =some oj) (hne:i≠j) (hap:oi.apart ops oj=true)
  (hsi:∀cs b,oi.op≠.select cs b) (hsj:∀cs b,oj.op≠.select cs b)
  (hij:anc ops 9 i j=false) (hji:anc ops 9 j i=false) (hS:∀s,S i=some s->∃v,s v) (hch:S i≠none->S j≠none->anc ops 9 i j=true\/anc ops 9 j i=true)
  (hw0:I w) (hF:∀m,anc ops 9 m j=true->F m w)
  (h:jz I P ops S i F a fun F' a'=>jz I P ops S j F' a' K):jz I P ops S j F a fun F' a'=>jz I P ops S i F' a' K:=by
 obtain⟨h1,h2,h3⟩:=Oper.apart_spec hap;have ei:∀v,execOp (a.put oj.dst v).eval oi=execOp a.eval oi:=fun v=>execOp_put oi hsi a oj.dst v h3
 have ej:∀v,execOp (a.put oi.dst v).eval oj=execOp a.eval oj:=fun v=>execOp_put oj hsj a oi.dst v h1
 have wi:∀v,Region.wanted oi (yielded ops (a.put oj.dst v).tmps)=Region.wanted oi (yielded ops a.tmps):=fun v=>wanted_put oi a oj.dst v h3
 have wj:∀v,Region.wanted oj (yielded ops (a.put oi.dst v).tmps)=Region.wanted oj (yielded ops a.tmps):=fun v=>wanted_put oj a oi.dst v h1
 have di:∀v w K,zL P oi (a.put oj.dst v) w K=zL P oi a w K:=fun v w K=>by unfold zL;rw[ei]
 have dj:∀v w K,zL P oj (a.put oi.dst v) w K=zL P oj a w K:=fun v w K=>by unfold zL;rw[ej]
 have pc:∀v u,(a.put oi.dst v).put oj.dst u=(a.put oj.dst u).put oi.dst v:=fun v u=>Act.put_comm a v u h2
 have fi:∀p,(fun m=>anc ops 9 m i=true->ZU F j p m w=F m w)=fun _=>True:=fun p=>by
  funext m
  simp only[eq_iff_iff,iff_true];intro hm;rw[zV (fun e=>by subst e;rw[hji]at hm;cases hm)]
 have faci:∀p w',(∀m,anc ops 9 m i=true->ZU F j p m w')↔(∀m,anc ops 9 m i=true->F m w'):=fun p w'=>by
  constructor <;> intro hh m hm <;> have:=hh m hm
  ·rwa [zV (fun e=>by subst e;rw[hji]at hm;cases hm)]at this
  rwa [zV (fun e=>by subst e;rw[hji]at hm;cases hm)]
 have facj:∀p w',(∀m,anc ops 9 m j=true->ZU F i p m w')↔(∀m,anc ops 9 m j=true->F m w'):=fun p w'=>by
  constructor <;> intro hh m hm <;> have:=hh m hm
  ·rwa [zV (fun e=>by subst e;rw[hij]at hm;cases hm)]at this
  rwa [zV (fun e=>by subst e;rw[hij]at hm;cases hm)]
 clear fi;unfold jz at h⊢;simp only[hi,hj,ei,ej,wi,wj,di,dj,pc]at h⊢
 cases hwi:Region.wanted oi (yielded ops a.tmps) <;> cases hwj:Region.wanted oj (yielded ops a.tmps) <;>
  simp only[hwi,hwj,if_true,if_false,Bool.false_eq_true]at h⊢
 ·exact h
 ·cases hsj':S j with
  | none=>simp only[hsj']at h⊢;exact h
  | some s=>simp only[hsj']at h⊢;exact h
 ·cases hsi':S i with
  | none=>simp only[hsi']at h⊢;exact h
  | some s=>simp only[hsi']at h⊢;exact h
 cases hsi':S i with
 | none=>
  simp only[hsi']at h;obtain⟨vi,hri,h⟩:=h
  cases hsj':S j with
  | none=>
   simp only[hsj']at h⊢;obtain⟨vj,hrj,h⟩:=h;exact⟨vj,hrj,vi,hri,h⟩
  | some s=>
   simp only[hsj']at h⊢;obtain⟨p,hp,hd,hk⟩:=h;exact⟨p,hp,hd,fun vj hvj=>⟨vi,fun w' hw' hf=>hri w' hw' ((faci _ _).1 hf),hk vj hvj⟩⟩
 | some si=>
  simp only[hsi']at h;obtain⟨p,hp,hdi,h⟩:=h;obtain⟨v1,hv1⟩:=hS si hsi'
  cases hsj':S j with
  | none=>
   simp only[hsj']at h⊢;obtain⟨vj,hrj,_⟩:=h v1 hv1;refine⟨vj,fun w' hw' hf=>hrj w' hw' ((facj _ _).2 hf),p,hp,hdi,fun vi hvi=>?_⟩
   obtain⟨vj',hrj',hl⟩:=h vi hvi;have e1:=hrj w hw0 ((facj _ _).2 hF);have e2:=hrj' w hw0 ((facj _ _).2 hF);rw[e1]at e2;simp only[Result.ok.injEq,Next.value.injEq,and_true]at e2;subst e2;exact hl
  | some sj=>
   exfalso
   rcases hch (by rw[hsi'];simp) (by rw[hsj'];simp)with h1 | h1
   ·rw[hij]at h1;cases h1
   rw[hji]at h1;cases h1
theorem zim.commute {Q:Act->World->Prop} {j:Nat} {oj:Oper} {w:World} (hj:ops[j]? =some oj) (hw0:I w)
  (hsel:∀(k:Nat) (o:Oper) cs b,ops[k]? =some o->o.op≠.select cs b) (hS:∀k s,S k=some s->∃v,s v) (hch:∀i k,i<k->S i≠none->S k≠none->anc ops 9 i k=true):
  ∀(l:List Nat) (F:Nat->World->Prop) (a:Act),l.Nodup->j∈l->
   (∀i∈l,i≠j->∃oi,ops[i]? =some oi/\(i<j->oi.apart ops oj=true)/\anc ops 9 i j=false/\(i<j->anc ops 9 j i=false))->
   (l.Pairwise (·< ·))->(∀m,anc ops 9 m j=true->F m w)->zim I P ops S Q l F a->zim I P ops S Q (j :: l.filter (· != j)) F a
 | [],_,_,_,hm,_,_,_,_=>by cases hm
 | i :: l,F,a,hnd,hm,hall,hsorted,hF,h=>by
  by_cases hij:i=j
  ·subst hij;have:(i :: l).filter (· != i)=l:=by
    rw[List.filter_cons];simp only[bne_self_eq_false,Bool.false_eq_true,if_false];refine List.filter_eq_self.2 fun x hx=>?_
    have:x≠i:=fun e=>(List.nodup_cons.1 hnd).1 (e ▸ hx)
    simpa using this
   rw[this];exact h
  have hjl:j∈l:=by
   rcases mC.1 hm with e | e
   ·exact absurd e.symm hij
   exact e
  have hlt:i<j:=(List.pairwise_cons.1 hsorted).1 j hjl;obtain⟨oi,hoi,hap,haij,haji⟩:=hall i (by simp) hij
  have hf:(i :: l).filter (· != j)=i :: l.filter (· != j):=by
   rw[List.filter_cons];have:(i != j)=true:=by simpa using hij
   simp[this]
  rw[hf];refine jz.swap hoi hj hij (hap hlt) (fun cs b=>hsel i oi cs b hoi) (fun cs b=>hsel j oj cs b hj) haij (haji hlt) (hS i) (fun q1 q2=> .inl (hch i j hlt q1 q2)) hw0 hF ?_
  refine jz.mono (fun F' a' hF' hl=>?_) h
  refine zim.commute hj hw0 hsel hS hch l F' a' (List.nodup_cons.1 hnd).2 hjl (fun k hk=>hall k (by simp[hk])) (List.pairwise_cons.1 hsorted).2 (fun m hma=>?_) hl
  rw[hF' m (fun e=>by subst e;rw[haij]at hma;cases hma)]
  exact hF m hma
theorem zcQ {Q:Act->World->Prop} {Q':Exit->Act->World->Prop} {l:List Oper} {m:Nat} (hB:Zw ops T=true) (hTl:T+m=ops.size) (hll:l.length=m) (hops:∀j,l[j]? =ops[T+j]?) (hS:∀k s,S k=some s->∃v,s v)
  (hch:∀i k,i<k->S i≠none->S k≠none->anc ops 9 i k=true) (hQ:∀a w,Q a w->wpList P ops Q' l a w):
  ∀(fuel:Nat) (listed:Array Bool) (F:Nat->World->Prop) (a:Act) (w:World),listed.size=ops.size->(∀i,T<=i->i<ops.size->listed.getD i true=false)->(zd listed T).length=fuel->ZX ops listed->I w->
   (∀i,F i w)->(∀i w w',zc w w'->F i w->F i w')->zim I P ops S Q (zd listed T) F a->wpAny P .any ops Q' (fuel+m) listed a w:=by
 have hsel:=Region.noSelect_spec (ops:=ops) (by simp only[Zw,Bool.and_eq_true]at hB;exact hB.1.1)
 intro fuel
 induction fuel with
 | zero=>
  intro listed F a w hsz hout hl hc hw hF hFp h;have hnil:zd listed T=[]:=eN hl;rw[hnil]at h;rw[zA];refine Qf hB m l T listed a w (nR _) hsz hTl hll hops (fun i hi=>?_) hout (hQ _ _ (h w hw hF))
  cases hg:listed.getD i true with
  | true=>rfl
  | false=>
   have:i∈zd listed T:=List.mem_filter.2 ⟨List.mem_range.2 hi,by simp only[hg,beq_self_eq_true]⟩
   rw[hnil]at this;cases this
 | succ fuel ih=>
  intro listed F a w hsz hout hl hc hw hF hFp h;rw[Nat.add_right_comm];refine⟨fun hr=>?_,fun j hj=>?_⟩
  ·exfalso
   cases hu:zd listed T with
   | nil=>simp[hu]at hl
   | cons x xs=>
    have hx:x∈zd listed T:=by rw[hu];simp
    have hx':=List.mem_filter.1 hx;have hxT:x<T:=List.mem_range.1 hx'.1;have hxs:x<ops.size:=by omega
    have ho:ops[x]? =some ops[x]:=Array.getElem?_eq_getElem hxs;have hsorted:(zd listed T).Pairwise (·< ·):=List.Pairwise.filter _ List.pairwise_lt_range;have:x∈Region.ready .any ops listed:=by
     refine mem_ready.2 ⟨by simpa using hx'.2,ops[x],ho,fun e he hb=>?_⟩
     have hed:zaT ops e.on x=true:=(jt ho).2 ⟨e,he,hb,rfl⟩;have hlt:=jB hB ho _ hed
     cases hg:listed.getD e.on true with
     | true=>exact JZ (by omega) hg
     | false=>
      have hmem:e.on∈zd listed T:=List.mem_filter.2 ⟨List.mem_range.2 (by omega),by simp only[hg,beq_self_eq_true]⟩
      rw[hu]at hmem hsorted
      rcases mC.1 hmem with e1 | e1
      ·omega
      have:=(List.pairwise_cons.1 hsorted).1 _ e1;omega
    rw[hr]at this;cases this
  obtain⟨h0,oj,hoj,hall⟩:=mem_ready.1 hj;have hjs:j<ops.size:=(aS.1 hoj).1;have hdir:∀k,zaT ops k j=true->listed.getD k false=true:=fun k hk=>by
   obtain⟨e,he,hb,rfl⟩:=(jt hoj).1 hk;exact hall e he hb
  have hjT:j<T:=by
   rcases Nat.lt_or_ge j T with h1 | h1
   ·exact h1
   exfalso
   cases hu:zd listed T with
   | nil=>simp[hu]at hl
   | cons x xs=>
    have hx:x∈zd listed T:=by rw[hu];simp
    have hx':=List.mem_filter.1 hx;have hxT:x<T:=List.mem_range.1 hx'.1;have:=qg hc j x j hdir (Zm hB hoj h1 x (by omega))
    rw[qH (by simpa using hx'.2)]at this
    cases this
  have hju:j∈zd listed T:=List.mem_filter.2 ⟨List.mem_range.2 hjT,by simp only[h0,beq_self_eq_true]⟩
  have hnd:(zd listed T).Nodup:=List.Pairwise.filter _ List.nodup_range;have hsorted:(zd listed T).Pairwise (·< ·):=List.Pairwise.filter _ List.pairwise_lt_range;have hcm:=zim.commute hoj hw hsel hS hch (zd listed T) F a hnd hju (fun i hi hij=>by
   have hi':=List.mem_filter.1 hi;have hun:listed.getD i false=false:=qH (by simpa using hi'.2)
   have his:i<ops.size:=by have:=List.mem_range.1 hi'.1;omega
   have hoi:ops[i]? =some ops[i]:=Array.getElem?_eq_getElem his;refine⟨ops[i],hoi,fun hlt=>?_,?_,fun hlt=>?_⟩
   ·rcases Zv hB hoj hjT i hlt with he | ⟨oi,hoi',hap⟩
    ·have:=hdir i he;rw[hun]at this;cases this
    rw[hoi]at hoi';cases hoi';exact hap
   ·cases ha:anc ops 9 i j with
    | false=>rfl
    | true=>
     have:=qg hc 9 i j hdir ha;rw[hun]at this;cases this
   cases ha:anc ops 9 j i with
   | false=>rfl
   | true=>
    have:=zaL hB 9 j i ha
    omega) hsorted (fun m _=>hF m) h
  have hsz':(listed.setIfInBounds j true).size=ops.size:=by simp[hsz]
  have hout':∀i,T<=i->i<ops.size->(listed.setIfInBounds j true).getD i true=false:=fun i hi hi'=>by rw[getD_set_ne true (by omega)];exact hout i hi hi'
  have hlen':(zd (listed.setIfInBounds j true) T).length=fuel:=by
   rw[qj (by omega)]
   have he:(zd listed T).filter (· != j)=(zd listed T).erase j:=by
    rw[List.Nodup.erase_eq_filter hnd]
   rw[he,List.length_erase_of_mem hju];omega
  have hc':ZX ops (listed.setIfInBounds j true):=fun i k hk hik=>by
   by_cases hkj:j=k
   ·subst hkj;exact getD_set_true (hdir i hik)
   rw[getD_set_ne false hkj]at hk;exact getD_set_true (hc i k hk hik)
  unfold wpOp;simp only[hoj];simp only[zim,jz,hoj]at hcm;rw[<-qj (by omega)]at hcm
  split
  ·rename_i hwant
   simp only[hwant,if_true]at hcm;refine .inl ?_
   cases hs:S j with
   | none=>
    simp only[hs]at hcm;obtain⟨v,hrun,hk⟩:=hcm;have hr:=hrun w hw (fun m _=>hF m)
    unfold Oper.wp;rw[hr];exact ih _ F _ w hsz' hout' hlen' hc' hw hF hFp hk
   | some s=>
    simp only[hs]at hcm;obtain⟨p,hp,hd,hk⟩:=hcm;refine(hd w hw (fun m _=>hF m)).wp fun v w' ⟨hi',hstep,hpv,hpost⟩=>?_
    refine ih _ (ZU F j (p v)) _ w' hsz' hout' hlen' hc' hi' (fun i=>?_) (fun i u u' hu h1=>?_) (hk v hpv)
    ·unfold ZU
     split
     ·exact hpost
     exact hFp i w w' hstep (hF i)
    unfold ZU at h1⊢
    split at h1
    ·rename_i e
     rw[if_pos e];exact hp v u u' hu h1
    rename_i e
    rw[if_neg e];exact hFp i u u' hu h1
  rename_i hwant
  simp only[hwant]at hcm;exact ih _ F _ w hsz' hout' hlen' hc' hw hF hFp hcm
end
section
variable{I:World->Prop} {P:Program} {ops:Array Oper} {S:Nat->Option (Value->Prop)} {Q:Act->World->Prop}
variable(I P ops S Q)in
def J9:List Oper->Nat->(Nat->World->Prop)->Act->Prop
 | [],_,F,a=>∀w,I w->(∀i,F i w)->Q a w
 | o :: rest,k,F,a=>
  if Region.wanted o (yielded ops a.tmps)then
   match S k with
   | none=>∃v,(∀w,I w->(∀m,anc ops 9 m k=true->F m w)->(execOp a.eval o).run P w= .ok (.value v) w)/\J9 rest (k+1) F (a.put o.dst v)
   | some s=>∃p:Value->World->Prop,(∀v w w',zc w w'->p v w->p v w')/\(∀w,I w->(∀m,anc ops 9 m k=true->F m w)->zL P o a w fun v w'=>I w'/\zc w w'/\s v/\p v w')/\∀v,s v->J9 rest (k+1) (ZU F k (p v)) (a.put o.dst v)
  else J9 rest (k+1) F (a.put o.dst undef)
theorem QF:∀(l:List Oper) (k:Nat) (F:Nat->World->Prop) (a:Act),(∀j,l[j]? =ops[k+j]?\/l.length<=j)->J9 I P ops S Q l k F a->zim I P ops S Q (List.range' k l.length) F a
 | [],_,_,_,_,h=>h
 | o :: l,k,F,a,hl,h=>by
  have h0:ops[k]? =some o:=by
   rcases hl 0 with e | e
   ·simpa using e.symm
   simp at e
  have hnext:∀j,l[j]? =ops[k+1+j]?\/l.length<=j:=fun j=>by
   rcases hl (j+1)with e | e
   ·left;rw[List.getElem?_cons_succ]at e;rw[e];congr 1;omega
   right;simpa using e
  simp only[List.length_cons,List.range'_succ,zim,jz,h0];unfold J9 at h
  split
  ·rename_i hw
   simp only[hw,if_true]at h
   cases hs:S k with
   | none=>
    simp only[hs]at h;obtain⟨v,h1,h2⟩:=h;exact⟨v,h1,QF l (k+1) _ _ hnext h2⟩
   | some s=>
    simp only[hs]at h;obtain⟨p,hp,hd,hk⟩:=h;exact⟨p,hp,hd,fun v hv=>QF l (k+1) _ _ hnext (hk v hv)⟩
  rename_i hw
  simp only[hw]at h;exact QF l (k+1) _ _ hnext h
variable(I P ops S Q)in
structure zev (l:List Oper) (k:Nat) (F:Nat->World->Prop) (a:Act):Prop where
 out:J9 I P ops S Q l k F a
theorem ZM {id:Nat} {Q:Exit->Act->World->Prop} {a:Act} {w:World} {L l r:List Oper} (T:Nat) (S:List (Nat ×(Value->Prop))) (hI:I w.drew) (hm:P.follows .mixedOrders=true) (hB:Zw L.toArray T=true) (hl:L.take T=l) (hr:L.drop T=r) (hT:T<=L.length)
  (hS:∀x∈S,∃v,x.2 v) (hch:((S.map (·.1)).all fun i=>(S.map (·.1)).all fun k=>!decide (i<k) || anc L.toArray 9 i k)=true)
  (h:zev I P L.toArray (fun k=>S.lookup k) (fun a w=>wpList P L.toArray Q r a w) l 0 (fun _ _=>True) a):(Code.region id L.toArray true).wp P Q a w:=by
 have hlook:∀(S:List (Nat ×(Value->Prop))) k s,S.lookup k=some s->∃x∈S,x.2=s/\x.1=k:=by
  intro S
  induction S with
  | nil=>intro k s h;simp at h
  | cons x S ih=>
   intro k s h;rw[List.lookup_cons]at h
   split at h
   ·rename_i he
    exact⟨x,by simp,by simpa using h,by simpa using(by simpa using he:k=x.1).symm⟩
   obtain⟨y,hy,he⟩:=ih k s h;exact⟨y,by simp[hy],he⟩
 have hlT:l.length=T:=by rw[<-hl,List.length_take];omega
 have hrT:r.length=L.length - T:=by rw[<-hr,List.length_drop]
 refine wp_region_any hm ?_;have hu:zd (Array.replicate L.toArray.size false) T=List.range T:=by
  unfold zd;refine List.filter_eq_self.2 fun i hi=>?_
  have:i<T:=by simpa using hi
  simp[show i<L.length by omega]
 have h':=QF (ops:=L.toArray) l 0 _ a (fun j=>by
  rcases Nat.lt_or_ge j T with hj | hj
  ·left;rw[<-hl,List.getElem?_take_of_lt hj];simp
  right;omega) h.out
 rw[hlT,<-List.range_eq_range']at h';have hfin:=zcQ (I:=I) (P:=P) (S:=fun k=>S.lookup k) (F:=fun _ _=>True) (ops:=L.toArray) (T:=T) (l:=r) (m:=L.length - T) (Q:=fun a w=>wpList P L.toArray Q r a w) (Q':=Q) hB (by simp;omega) hrT (fun j=>by rw[<-hr,List.getElem?_drop];simp) (fun k s hs=>by obtain⟨x,hx,rfl,_⟩:=hlook S k s hs;exact hS x hx) (fun i k hik hi hk=>by
   obtain⟨si,hsi⟩:=Option.ne_none_iff_exists'.1 hi;obtain⟨sk,hsk⟩:=Option.ne_none_iff_exists'.1 hk;obtain⟨x,hx,_,rfl⟩:=hlook S i si hsi;obtain⟨y,hy,_,rfl⟩:=hlook S k sk hsk;have h1:=List.all_eq_true.1 (List.all_eq_true.1 hch x.1 (List.mem_map.2 ⟨x,hx,rfl⟩)) y.1 (List.mem_map.2 ⟨y,hy,rfl⟩)
   simpa [hik]using h1) (fun _ _ h=>h)
  T (Array.replicate L.toArray.size false) a w.drew (by simp) (fun i hi hi'=>by simp at hi';simp[hi']) (by rw[hu];simp) (fun i j hj _=>by
   exfalso;rw[Array.getD_eq_getD_getElem?,Array.getElem?_replicate]at hj
   split at hj <;> simp at hj)
  hI (fun _=>trivial) (fun _ _ _ _ _=>trivial) (by rw[hu];exact h')
 have hsz:T+(L.length - T)=L.toArray.size:=by simp;omega
 rw[hsz]at hfin;exact hfin
variable{o:Oper} {rest:List Oper} {k:Nat} {F:Nat->World->Prop} {a:Act}
theorem qw (ht:zkm o=true) (hw:Region.wanted o (yielded ops a.tmps)=true) (hS:S k=none)
  (h:∀K:Act->Prop,(∀a,zev I P ops S Q rest (k+1) F a->K a)->o.quiet P a (fun w'=>∃x:zr I,w'=x.world) K):zev I P ops S Q (o :: rest) k F a:=by
 obtain⟨v,h1,h2⟩:=h _ fun _ h=>h
 constructor;unfold J9;rw[if_pos hw];simp only[hS];refine⟨v,fun w hg _=>?_,h2.out⟩
 have h3:=h1 w ⟨⟨w,hg⟩,rfl⟩;unfold Oper.quietAt at h3;have hne:=fun n w'=>@Ju P o ht a.eval w w' n
 generalize(execOp a.eval o).run P w=r at*
 cases r with
 | ok n w'=>
  cases n <;> simp only[Oper.quietUpon]at h3
  case value u=>rw[h3.1,h3.2]
  case skip=>obtain⟨_,he⟩:=hne _ _ rfl;cases he
  case enter f args=>obtain⟨_,he⟩:=hne _ _ rfl;cases he
 | halt x w'=>simp only[Oper.quietUpon]at h3
theorem Zx {s:Value->Prop} (hw:Region.wanted o (yielded ops a.tmps)=true) (hS:S k=some s) (p:Value->World->Prop) (hp:∀v w w',zc w w'->p v w->p v w')
  (h:∀w,I w->(∀m,anc ops 9 m k=true->F m w)->zL P o a w fun v w'=>I w'/\zc w w'/\s v/\p v w')
  (hn:∀v,s v->zev I P ops S Q rest (k+1) (ZU F k (p v)) (a.put o.dst v)):zev I P ops S Q (o :: rest) k F a:=by
 constructor;unfold J9;rw[if_pos hw];simp only[hS];exact⟨p,hp,h,fun v hv=>(hn v hv).out⟩
theorem za9 (h:∀w,I w->(∀i,F i w)->Q a w):zev I P ops S Q [] k F a:=⟨h⟩
end
structure zic (base:Nat) (w:World) (V:MaV) (m:Ma):Prop where
 fs:zb Jx base w (.slice V.f.a V.f.n V.f.c) m.fs
 sl:zb slE base w (.slice V.s.a V.s.n V.s.c) m.sl
 sb:zj base w (.slice V.sb.a V.sb.n V.sb.c) m.sb
 sq:zT base w (.slice V.sq.a V.sq.n V.sq.c) m.sq
 db:zj base w (.slice V.db.a V.db.n V.db.c) m.db
 dq:zT base w (.slice V.dq.a V.dq.n V.dq.c) m.dq
 fl:∃lo,qT lo w (.slice V.fl.a V.fl.n V.fl.c) m.fl/\base<=lo/\∀g,(Value.slice V.s.a V.s.n V.s.c).ownBlock=some g->g<lo
 ca:zb qY base w (.slice V.ca.a V.ca.n V.ca.c) m.ca
 sp:ZB base w (.slice V.sp.a V.sp.n V.sp.c) m.sp
 ap:∀g,(Value.slice V.sb.a V.sb.n V.sb.c).ownBlock=some g->(Value.slice V.db.a V.db.n V.db.c).ownBlock≠some g
theorem QT.now0 {B0 B1:Nat} {w:World} {v:Value} {fs:List Fl} (h:QT B0 B1 w v fs):qN w v fs:=by
 obtain⟨hc,xs,k1,k2,k3⟩:=h;exact⟨hc,xs,k1.now.s0,k2,fun i x f hx hf=>⟨(k3 i x f hx hf).1,(k3 i x f hx hf).2.now.s0⟩⟩
theorem zfN {base:Nat} {w:World} {v:Value} {l:List (List Int)} (h:zj base w v l):∀g,v.ownBlock=some g->base<=g/\g<w.heap.size:=h.1.lt
theorem Zr {w w':World} {base size n g:Nat} {e:TypeId} {v:Value} {xs:List Value} (h:w.ownsRow base e size v n xs) (hg:w.grownBy w' (some g)) (hlt:g<base):w'.ownsRow base e size v n xs:=by
 refine⟨h.1,?_⟩
 rcases h.2 with h1 | ⟨b,cap,cur,rfl,h2,h3,h4⟩
 ·exact .inl h1
 exact .inr ⟨b,cap,cur,rfl,h2,by rw[hg.block b (aS.1 h3).1 (fun e=>by cases e;omega)];exact h3,h4⟩
theorem zb.low {α:Type} {E:Elt α} {base g:Nat} {w w':World} {v:Value} {l:List α} (h:zb E base w v l) (hg:w.grownBy w' (some g)) (hlt:g<base):zb E base w' v l:=⟨Zr h.1 hg hlt,h.2⟩
theorem QM.low {lo hi g:Nat} {w w':World} {x:SpV} {s:Sp} (h:QM lo hi w x s) (hg:w.grownBy w' (some g)) (hlt:g<lo):QM lo hi w' x s:=
 ⟨h.live,h.ar.low hg hlt,⟨h.tb.len,h.tb.tlen,fun i v y hv hy=>(h.tb.row i v y hv hy).low hg hlt,h.tb.two⟩,h.arh,h.tbh⟩
theorem zic.below {base base' g:Nat} {w w':World} {V:MaV} {m:Ma} (h:zic base w V m) (hg:w.grownBy w' (some g)) (hlt:g<base) (hb:base'<=base):zic base' w' V m:=by
 obtain⟨lo,⟨ys,f1,f2,f3,f4⟩,l1,l2⟩:=h.fl;obtain⟨xs,B,s1,s2,s3,s4,s5⟩:=h.sp;refine⟨(h.fs.low hg hlt).base hb,(h.sl.low hg hlt).base hb,⟨qE (Zr h.sb.1 hg hlt) hb,h.sb.2⟩,⟨qE (Zr h.sq.1 hg hlt) hb,h.sq.2⟩,⟨qE (Zr h.db.1 hg hlt) hb,h.db.2⟩,⟨qE (Zr h.dq.1 hg hlt) hb,h.dq.2⟩,⟨lo,⟨ys,f1.low hg (by omega),f2,fun i x f hx hf=>⟨(f3 i x f hx hf).1,(f3 i x f hx hf).2.low hg (by omega)⟩,f4⟩,by omega,l2⟩,(h.ca.low hg hlt).base hb,⟨xs,B,(s1.low hg hlt).base hb,s2,by omega,s4,fun i x s hx hs=>(s5 i x s hx hs).low hg ?_⟩,h.ap⟩
 have:=zc4 s4 (nZ i);omega
theorem ziF (V:MaV) (m:Ma) (w:World) (hm:zC w V m):
  Calls Tryz.prog 25 #[.agg #[.slice V.f.a V.f.n V.f.c,.int .i64 m.hand,.slice V.s.a V.s.n V.s.c,.slice V.sb.a V.sb.n V.sb.c,.slice V.sq.a V.sq.n V.sq.c,.slice V.db.a V.db.n V.db.c,.slice V.dq.a V.dq.n V.dq.c,.slice V.fl.a V.fl.n V.fl.c,.int .i64 m.cnt,.slice V.ca.a V.ca.n V.ca.c,.slice V.sp.a V.sp.n V.sp.c]] w fun e w'=>∃V':MaV,e= .returned (.agg #[.slice V'.f.a V'.f.n V'.f.c,.int .i64 m.hand,.slice V'.s.a V'.s.n V'.s.c,.slice V'.sb.a V'.sb.n V'.sb.c,.slice V'.sq.a V'.sq.n V'.sq.c,.slice V'.db.a V'.db.n V'.db.c,.slice V'.dq.a V'.dq.n V'.dq.c,.slice V'.fl.a V'.fl.n V'.fl.c,.int .i64 m.cnt,.slice V'.ca.a V'.ca.n V'.ca.c,.slice V'.sp.a V'.sp.n V'.sp.c])/\zic w.heap.size w' V' m/\zc w w':=by
 obtain⟨n1,n2,-⟩:=hm.ns;have HM:Hid (zC w V m):=hm;have HC1:Hid (∀W,zc w W->Calls Tryz.prog 70 #[.agg #[.slice V.f.a V.f.n V.f.c,.int .i64 m.hand]] W fun e w'=>∃b,e= .returned (.agg #[b,.int .i64 m.hand])/\zb Jx W.heap.size w' b m.fs/\zc W w'):=show∀W,_ from fun W hW=>by
  have h:=(hm.grew hW).fs;rw[n1]at h⊢;exact zcn _ _ m.fs m.hand W h
 have HC2:Hid (∀W,zc w W->Calls Tryz.prog 71 #[.slice V.s.a V.s.n V.s.c] W fun e w'=>∃v',e= .returned v'/\zb slE W.heap.size w' v' m.sl/\zc W w'):=show∀W,_ from fun W hW=>zgO _ m.sl W (hm.grew hW).sl
 have HC3:Hid (∀W,zc w W->Calls Tryz.prog 72 #[.agg #[.slice V.sb.a V.sb.n V.sb.c,.slice V.sq.a V.sq.n V.sq.c]] W fun e w'=>∃d',e= .returned d'/\zfy W.heap.size w' d' m.sb m.sq/\zc W w'):=show∀W,_ from fun W hW=>zhi _ m.sb m.sq W ⟨_,_,rfl,(hm.grew hW).sb,(hm.grew hW).sq⟩
 have HC4:Hid (∀W,zc w W->Calls Tryz.prog 72 #[.agg #[.slice V.db.a V.db.n V.db.c,.slice V.dq.a V.dq.n V.dq.c]] W fun e w'=>∃d',e= .returned d'/\zfy W.heap.size w' d' m.db m.dq/\zc W w'):=show∀W,_ from fun W hW=>zhi _ m.db m.dq W ⟨_,_,rfl,(hm.grew hW).db,(hm.grew hW).dq⟩
 have HC5:Hid (∀W,zc w W->Calls Tryz.prog 73 #[.agg #[.slice V.fl.a V.fl.n V.fl.c,.int .i64 m.cnt]] W fun e w'=>∃b,e= .returned (.agg #[b,.int .i64 m.cnt])/\qT (W.heap.size+2) w' b m.fl/\zc W w'/\W.heap.size+2<=w'.heap.size):=show∀W,_ from fun W hW=>zdT _ m.fl m.cnt W (hm.grew hW).fl
 have HC6:Hid (∀W,zc w W->Calls Tryz.prog 74 #[.slice V.ca.a V.ca.n V.ca.c] W fun e w'=>∃v',e= .returned v'/\zb qY W.heap.size w' v' m.ca/\zc W w'):=show∀W,_ from fun W hW=>zfo _ m.ca W (hm.grew hW).ca
 have HC7:Hid (∀W,zc w W->Calls Tryz.prog 75 #[.slice V.sp.a V.sp.n V.sp.c] W fun e w'=>∃v',e= .returned v'/\ZB W.heap.size w' v' m.sp/\zc W w'):=show∀W,_ from fun W hW=>zc0 _ m.sp W (hm.grew hW).sp
 clear hm n1 n2;obtain⟨W0,hW0⟩:∃W0,(w.alloc (.cells #[.slice V.f.a V.f.n V.f.c,.int .i64 m.hand,.slice V.s.a V.s.n V.s.c,.slice V.sb.a V.sb.n V.sb.c,.slice V.sq.a V.sq.n V.sq.c,.slice V.db.a V.db.n V.db.c,.slice V.dq.a V.dq.n V.dq.c,.slice V.fl.a V.fl.n V.fl.c,.int .i64 m.cnt,.slice V.ca.a V.ca.n V.ca.c,.slice V.sp.a V.sp.n V.sp.c] 41)).alloc (.cells #[.slice none 0 0,.int .i64 0,.slice none 0 0,.slice none 0 0,.slice none 0 0,.slice none 0 0,.slice none 0 0,.slice none 0 0,.int .i64 0,.slice none 0 0,.slice none 0 0] 41)=W0:=⟨_,rfl⟩;have HG0:=gD2 hW0
 have X0:=x2a hW0
 have Y0:=x2b hW0
 have HS0:Hid (W0.heap.size=(w.heap.size+1+1)):=show _=_ by rw[<-hW0];simp
 have HW0:Hid (_=W0):=hW0;clear hW0
 go_enter Tryz.func25,Tryz.ntmps25
 go_upto_region 1 with fail;rw[HW0.out];obtain⟨I,hI⟩:∃I:World->Prop,I=fun u=>zc W0 u:=⟨_,rfl⟩
 have HI:Hid (∀u,I u↔zc W0 u):=show∀u,_ from fun u=>by rw[hI]
 clear hI;have hI0:I W0.drew:=(HI.out _).2 (gW _)
 have hx0:=X0.out.h HI.out 0 rfl
 have hx1:=X0.out.h HI.out 1 rfl
 have hx2:=X0.out.h HI.out 2 rfl
 have hx3:=X0.out.h HI.out 3 rfl
 have hx4:=X0.out.h HI.out 4 rfl
 have hx5:=X0.out.h HI.out 5 rfl
 have hx6:=X0.out.h HI.out 6 rfl
 have hx7:=X0.out.h HI.out 7 rfl
 have hx8:=X0.out.h HI.out 8 rfl
 have hx9:=X0.out.h HI.out 9 rfl
 have hx10:=X0.out.h HI.out 10 rfl
 have hne:Nonempty (zr I):=⟨⟨_,hI0⟩⟩;have HSZ:Hid (∀u,I u->(w.heap.size+1+1)<=u.heap.size):=show∀u,_ from fun u hu=>by rw[<-HS0.out];exact bS ((HI.out _).1 hu)
 refine ZM (I:=I) 22 [(2,fun v=>∃s:Sli,v= .agg #[.slice s.a s.n s.c,.int .i64 m.hand]),(5,fun v=>∃s:Sli,v= .slice s.a s.n s.c),(8,fun v=>∃b q:Sli,v= .agg #[.slice b.a b.n b.c,.slice q.a q.n q.c]),(11,fun v=>∃b q:Sli,v= .agg #[.slice b.a b.n b.c,.slice q.a q.n q.c]),(14,fun v=>∃s:Sli,v= .agg #[.slice s.a s.n s.c,.int .i64 m.cnt]),(17,fun v=>∃s:Sli,v= .slice s.a s.n s.c),(20,fun v=>∃s:Sli,v= .slice s.a s.n s.c)] hI0 qy (by kernel_rfl) rfl rfl (by decide) ?hS (by kernel_rfl) ?_
 case hS=>
  intro x hx;simp only[mC,nM,or_false]at hx
  rcases hx with rfl | rfl | rfl | rfl | rfl | rfl | rfl
  ·exact⟨_,zw,rfl⟩
  ·exact⟨_,zw,rfl⟩
  ·exact⟨_,zw,zw,rfl⟩
  ·exact⟨_,zw,zw,rfl⟩
  ·exact⟨_,zw,rfl⟩
  ·exact⟨_,zw,rfl⟩
  exact⟨_,zw,rfl⟩
 simp only[List.take,List.drop];iterate 2 (refine qw rfl rfl rfl (fun K hK=>?_);go_big_quiet_op;refine hK _ ?_;clear hK K)
 refine Zx rfl rfl (fun v w'=>∃s:Sli,v= .agg #[.slice s.a s.n s.c,.int .i64 m.hand]/\zb Jx (w.heap.size+1+1) w' (.slice s.a s.n s.c) m.fs) (fun v u u' hu h=>by obtain⟨s,h1,h2⟩:=h;exact⟨s,h1,h2.grew hu⟩) (fun w' hI' hF=>?_) (fun v1 hv=>?_)
 ·have hg':zc w w':=HG0.out.trans ((HI.out _).1 hI');have hsz:=HSZ.out w' hI';refine zL.call [.agg #[.slice V.f.a V.f.n V.f.c,.int .i64 m.hand]] rfl Tryz.func70 rfl rfl rfl ?_;refine(HC1.out w' hg').mono ?_;rintro e w'' ⟨b,rfl,ow,hg2⟩;obtain⟨a2,c2,rfl⟩:=ow.form;exact⟨_,rfl,(HI.out _).2 (((HI.out _).1 hI').trans hg2),hg2,⟨⟨a2,_,c2⟩,rfl⟩,⟨a2,_,c2⟩,rfl,ow.base hsz⟩
 obtain⟨sf,rfl⟩:=hv;simp only[Act.put,sB,sS,sZ];iterate 2 (refine qw rfl rfl rfl (fun K hK=>?_);go_big_quiet_op;refine hK _ ?_;clear hK K)
 refine Zx rfl rfl (fun v w'=>zb slE (w.heap.size+1+1) w' v m.sl) (fun v u u' hu h=>zb.grew h hu) (fun w' hI' hF=>?_) (fun v1 hv=>?_)
 ·have hg':zc w w':=HG0.out.trans ((HI.out _).1 hI');have hsz:=HSZ.out w' hI';refine zL.call [.slice V.s.a V.s.n V.s.c] rfl Tryz.func71 rfl rfl rfl ?_;refine(HC2.out w' hg').mono ?_;rintro e w'' ⟨b,rfl,ow,hg2⟩;obtain⟨a2,c2,rfl⟩:=ow.form;exact⟨_,rfl,(HI.out _).2 (((HI.out _).1 hI').trans hg2),hg2,⟨⟨a2,_,c2⟩,rfl⟩,ow.base hsz⟩
 obtain⟨ss,rfl⟩:=hv;simp only[Act.put,sB,sS,sZ];iterate 2 (refine qw rfl rfl rfl (fun K hK=>?_);go_big_quiet_op;refine hK _ ?_;clear hK K)
 refine Zx rfl rfl (fun v w'=>∃b q:Sli,v= .agg #[.slice b.a b.n b.c,.slice q.a q.n q.c]/\zj (w.heap.size+1+1) w' (.slice b.a b.n b.c) m.sb/\zT (w.heap.size+1+1) w' (.slice q.a q.n q.c) m.sq) (fun v u u' hu h=>by obtain⟨b,q,h1,h2,h3⟩:=h;exact⟨b,q,h1,h2.grew hu,h3.grew hu⟩) (fun w' hI' hF=>?_) (fun v1 hv=>?_)
 ·have hg':zc w w':=HG0.out.trans ((HI.out _).1 hI');have hsz:=HSZ.out w' hI';refine zL.call [.agg #[.slice V.sb.a V.sb.n V.sb.c,.slice V.sq.a V.sq.n V.sq.c]] rfl Tryz.func72 rfl rfl rfl ?_;refine(HC3.out w' hg').mono ?_;rintro e w'' ⟨d,rfl,⟨b,q,rfl,ob,oq⟩,hg2⟩;obtain⟨a2,n2,c2,rfl⟩:=ob.slice;obtain⟨a3,n3,c3,rfl⟩:=oq.slice;exact⟨_,rfl,(HI.out _).2 (((HI.out _).1 hI').trans hg2),hg2,⟨⟨a2,n2,c2⟩,⟨a3,n3,c3⟩,rfl⟩,⟨a2,n2,c2⟩,⟨a3,n3,c3⟩,rfl,ob.base hsz,oq.base hsz⟩
 obtain⟨sb,sq,rfl⟩:=hv;simp only[Act.put,sB,sS,sZ];iterate 2 (refine qw rfl rfl rfl (fun K hK=>?_);go_big_quiet_op;refine hK _ ?_;clear hK K)
 refine Zx rfl rfl (fun v w'=>∃b q:Sli,v= .agg #[.slice b.a b.n b.c,.slice q.a q.n q.c]/\zj (w.heap.size+1+1) w' (.slice b.a b.n b.c) m.db/\zT (w.heap.size+1+1) w' (.slice q.a q.n q.c) m.dq/\∀g,(Value.slice sb.a sb.n sb.c).ownBlock=some g->(Value.slice b.a b.n b.c).ownBlock≠some g) (fun v u u' hu h=>by obtain⟨b,q,h1,h2,h3,h4⟩:=h;exact⟨b,q,h1,h2.grew hu,h3.grew hu,h4⟩) (fun w' hI' hF=>?_) (fun v1 hv=>?_)
 ·have hg':zc w w':=HG0.out.trans ((HI.out _).1 hI');have hsz:=HSZ.out w' hI';refine zL.call [.agg #[.slice V.db.a V.db.n V.db.c,.slice V.dq.a V.dq.n V.dq.c]] rfl Tryz.func72 rfl rfl rfl ?_;refine(HC4.out w' hg').mono ?_;rintro e w'' ⟨d,rfl,⟨b,q,rfl,ob,oq⟩,hg2⟩;obtain⟨a2,n2,c2,rfl⟩:=ob.slice;obtain⟨a3,n3,c3,rfl⟩:=oq.slice;obtain⟨b8,q8,e8,o8,_⟩:∃b q:Sli,(Value.agg #[.slice sb.a sb.n sb.c,.slice sq.a sq.n sq.c])= .agg #[.slice b.a b.n b.c,.slice q.a q.n q.c]/\zj (w.heap.size+1+1) w' (.slice b.a b.n b.c) m.sb/\zT (w.heap.size+1+1) w' (.slice q.a q.n q.c) m.sq:=hF 8 (by kernel_rfl)
  refine⟨_,rfl,(HI.out _).2 (((HI.out _).1 hI').trans hg2),hg2,⟨⟨a2,n2,c2⟩,⟨a3,n3,c3⟩,rfl⟩,⟨a2,n2,c2⟩,⟨a3,n3,c3⟩,rfl,ob.base hsz,oq.base hsz,fun g h1 h2=>?_⟩
  simp only[Value.agg.injEq,Array.mk.injEq,List.cons.injEq]at e8;rw[e8.1]at h1;have q1:=(zfN o8 g h1).2;have q2:=(zfN ob g h2).1;omega
 obtain⟨db,dq,rfl⟩:=hv;simp only[Act.put,sB,sS,sZ];iterate 2 (refine qw rfl rfl rfl (fun K hK=>?_);go_big_quiet_op;refine hK _ ?_;clear hK K)
 refine Zx rfl rfl (fun v w'=>∃s:Sli,v= .agg #[.slice s.a s.n s.c,.int .i64 m.cnt]/\∃lo,qT lo w' (.slice s.a s.n s.c) m.fl/\(w.heap.size+1+1)<=lo/\∀g,(Value.slice ss.a ss.n ss.c).ownBlock=some g->g<lo) (fun v u u' hu h=>by obtain⟨s,h1,lo,h2,h3,h4⟩:=h;exact⟨s,h1,lo,h2.grew hu,h3,h4⟩) (fun w' hI' hF=>?_) (fun v1 hv=>?_)
 ·have hg':zc w w':=HG0.out.trans ((HI.out _).1 hI');have hsz:=HSZ.out w' hI';refine zL.call [.agg #[.slice V.fl.a V.fl.n V.fl.c,.int .i64 m.cnt]] rfl Tryz.func73 rfl rfl rfl ?_;refine(HC5.out w' hg').mono ?_;rintro e w'' ⟨b,rfl,of,hg2,_⟩;have hof:=of;obtain⟨ys,oy,_⟩:=of;obtain⟨a2,c2,rfl⟩:=oy.form;have o5:zb slE (w.heap.size+1+1) w' (.slice ss.a ss.n ss.c) m.sl:=hF 5 (by kernel_rfl)
  exact⟨_,rfl,(HI.out _).2 (((HI.out _).1 hI').trans hg2),hg2,⟨⟨a2,_,c2⟩,rfl⟩,⟨a2,_,c2⟩,rfl,w'.heap.size+2,hof,by omega,fun g h1=>by have:=(o5.lt g h1).2;omega⟩
 obtain⟨sl,rfl⟩:=hv;simp only[Act.put,sB,sS,sZ];iterate 2 (refine qw rfl rfl rfl (fun K hK=>?_);go_big_quiet_op;refine hK _ ?_;clear hK K)
 refine Zx rfl rfl (fun v w'=>zb qY (w.heap.size+1+1) w' v m.ca) (fun v u u' hu h=>zb.grew h hu) (fun w' hI' hF=>?_) (fun v1 hv=>?_)
 ·have hg':zc w w':=HG0.out.trans ((HI.out _).1 hI');have hsz:=HSZ.out w' hI';refine zL.call [.slice V.ca.a V.ca.n V.ca.c] rfl Tryz.func74 rfl rfl rfl ?_;refine(HC6.out w' hg').mono ?_;rintro e w'' ⟨b,rfl,ow,hg2⟩;obtain⟨a2,c2,rfl⟩:=ow.form;exact⟨_,rfl,(HI.out _).2 (((HI.out _).1 hI').trans hg2),hg2,⟨⟨a2,_,c2⟩,rfl⟩,ow.base hsz⟩
 obtain⟨sc,rfl⟩:=hv;simp only[Act.put,sB,sS,sZ];iterate 2 (refine qw rfl rfl rfl (fun K hK=>?_);go_big_quiet_op;refine hK _ ?_;clear hK K)
 refine Zx rfl rfl (fun v w'=>ZB (w.heap.size+1+1) w' v m.sp) (fun v u u' hu h=>ZB.grew h hu) (fun w' hI' hF=>?_) (fun v1 hv=>?_)
 ·have hg':zc w w':=HG0.out.trans ((HI.out _).1 hI');have hsz:=HSZ.out w' hI';refine zL.call [.slice V.sp.a V.sp.n V.sp.c] rfl Tryz.func75 rfl rfl rfl ?_;refine(HC7.out w' hg').mono ?_;rintro e w'' ⟨b,rfl,os,hg2⟩;have hos:=os;obtain⟨ys,B,oy,_⟩:=os;obtain⟨a2,c2,rfl⟩:=oy.form;exact⟨_,rfl,(HI.out _).2 (((HI.out _).1 hI').trans hg2),hg2,⟨⟨a2,_,c2⟩,rfl⟩,hos.base hsz⟩
 obtain⟨sp,rfl⟩:=hv;simp only[Act.put,sB,sS,sZ];iterate 1 (refine qw rfl rfl rfl (fun K hK=>?_);go_big_quiet_op;refine hK _ ?_;clear hK K)
 refine za9 fun W3 hI3 hF=>?_
 have hg3:=(HI.out _).1 hI3;have F2:∃s:Sli,(Value.agg #[.slice sf.a sf.n sf.c,.int .i64 m.hand])= .agg #[.slice s.a s.n s.c,.int .i64 m.hand]/\zb Jx (w.heap.size+1+1) W3 (.slice s.a s.n s.c) m.fs:=hF 2;have F5:zb slE (w.heap.size+1+1) W3 (.slice ss.a ss.n ss.c) m.sl:=hF 5;have F8:∃b q:Sli,(Value.agg #[.slice sb.a sb.n sb.c,.slice sq.a sq.n sq.c])= .agg #[.slice b.a b.n b.c,.slice q.a q.n q.c]/\zj (w.heap.size+1+1) W3 (.slice b.a b.n b.c) m.sb/\zT (w.heap.size+1+1) W3 (.slice q.a q.n q.c) m.sq:=hF 8;have F11:∃b q:Sli,(Value.agg #[.slice db.a db.n db.c,.slice dq.a dq.n dq.c])= .agg #[.slice b.a b.n b.c,.slice q.a q.n q.c]/\zj (w.heap.size+1+1) W3 (.slice b.a b.n b.c) m.db/\zT (w.heap.size+1+1) W3 (.slice q.a q.n q.c) m.dq/\∀g,(Value.slice sb.a sb.n sb.c).ownBlock=some g->(Value.slice b.a b.n b.c).ownBlock≠some g:=hF 11;have F14:∃s:Sli,(Value.agg #[.slice sl.a sl.n sl.c,.int .i64 m.cnt])= .agg #[.slice s.a s.n s.c,.int .i64 m.cnt]/\∃lo,qT lo W3 (.slice s.a s.n s.c) m.fl/\(w.heap.size+1+1)<=lo/\∀g,(Value.slice ss.a ss.n ss.c).ownBlock=some g->g<lo:=hF 14;have F17:zb qY (w.heap.size+1+1) W3 (.slice sc.a sc.n sc.c) m.ca:=hF 17;have F20:ZB (w.heap.size+1+1) W3 (.slice sp.a sp.n sp.c) m.sp:=hF 20;have HOM:Hid (zic (w.heap.size+1+1) W3 ⟨sf,ss,sb,sq,db,dq,sl,sc,sp⟩ m):=show zic _ _ _ _ by
  obtain⟨s2,e2,o2⟩:=F2;obtain⟨b8,q8,e8,o8,p8⟩:=F8;obtain⟨b11,q11,e11,o11,p11,a11⟩:=F11;obtain⟨s14,e14,lo,o14,l14,a14⟩:=F14;simp only[Value.agg.injEq,Array.mk.injEq,List.cons.injEq]at e2 e8 e11 e14;rw[<-e2.1]at o2;rw[<-e8.1]at o8;rw[<-e8.2.1]at p8;rw[<-e11.1]at o11 a11;rw[<-e11.2.1]at p11;rw[<-e14.1]at o14;exact⟨o2,F5,o8,p8,o11,p11,⟨lo,o14,l14,a14⟩,F17,F20,a11⟩
 have Y3:=dD (Y0.out.grew hg3);have HG3:=dD (HG0.out.trans hg3);clear F2 F5 F8 F11 F14 F17 F20 hF hI3 hg3 hx0 hx1 hx2 hx3 hx4 hx5 hx6 hx7 hx8 hx9 hx10 hne hI0
 go_wp2_with (refine zQ rfl 41 (.tmp 2) (.tmp 24) rfl (w.heap.size+1) rfl [.slice sf.a sf.n sf.c,.int .i64 m.hand,.slice ss.a ss.n ss.c,.slice sb.a sb.n sb.c,.slice sq.a sq.n sq.c,.slice db.a db.n db.c,.slice dq.a dq.n dq.c,.slice sl.a sl.n sl.c,.int .i64 m.cnt,.slice sc.a sc.n sc.c,.slice sp.a sp.n sp.c] rfl Y3.out rfl (by kernel_rfl) (fun v hv=>by
    simp only[mC,nM,or_false]at hv
    rcases hv with rfl | rfl | rfl | rfl | rfl | rfl | rfl | rfl | rfl | rfl | rfl <;> rfl) ?_)
 intro W4 hb4 hg4 sz4;have HG4:Hid (zc w W4):=show zc _ _ from zg HG3.out hg4 (by omega)
 have HO4:Hid (zic w.heap.size W4 ⟨sf,ss,sb,sq,db,dq,sl,sc,sp⟩ m):=show zic _ _ _ _ from HOM.out.below hg4 (by omega) (by omega)
 go_wp2;refine bodyPost_ret (zW rfl _ rfl hb4 Tryz.underlying41 rfl (by kernel_rfl)) rfl ⟨⟨sf,ss,sb,sq,db,dq,sl,sc,sp⟩,rfl,HO4.out,HG4.out⟩
theorem zlq:(Tryz.prog.info? 75).map (·.size)=some 192:=by kernel_rfl
def qd (l:List En):List Value:=l.flatMap env
theorem Zn (l:List En):(qd l).length=l.length*3:=qI l (fun _ _=>rfl)
theorem zcy (l:List En):∀v∈qd l,v.oneCell'=true:=qX enE.one l
theorem zbQ {l:List En} {j:Nat} {e:En} (h:l[j]? =some e):(qd l)[j*3]? =some (.int .i64 e.kind)/\(qd l)[j*3+1]? =some (.int .i64 e.n)/\(qd l)[j*3+2]? =some (.bool e.wr):=
 ⟨qr (enc:=env) (k:=3) l j e (fun _ _=>rfl) h 0 _ rfl,qr (enc:=env) (k:=3) l j e (fun _ _=>rfl) h 1 _ rfl,qr (enc:=env) (k:=3) l j e (fun _ _=>rfl) h 2 _ rfl⟩
theorem zhb {cs:List Value} {j:Nat} (a b c:Value) (h:j+3<=cs.length):((cs.set j a).set (j+1) b).set (j+2) c=splice cs j [a,b,c]:=by
 apply List.ext_getElem?
 intro i;unfold splice
 by_cases h1:i<j
 ·rw[sN (by omega),sN (by omega),sN (by omega),List.getElem?_append_left (by simp;omega),List.getElem?_take_of_lt h1]
 have hl:(cs.take j).length=j:=by simp;omega
 rw[aR (by omega),hl]
 by_cases h2:i=j
 ·subst h2;rw[sN (by omega),sN (by omega),sF (by omega),Nat.sub_self]
  rfl
 by_cases h3:i=j+1
 ·subst h3;rw[sN (by omega),sF (by simp;omega),show j+1 - j=1 by omega]
  rfl
 by_cases h4:i=j+2
 ·subst h4;rw[sF (by simp;omega),show j+2 - j=2 by omega]
  rfl
 rw[sN (by omega),sN (by omega),sN (by omega),aR (by simp;omega),List.getElem?_drop]
 congr 1
 simp;omega
theorem zgT {l:List En} {j:Nat} (e:En) (h:j<l.length):(((qd l).set (j*3) (.int .i64 e.kind)).set (j*3+1) (.int .i64 e.n)).set (j*3+2) (.bool e.wr)=qd (l.set j e):=by
 rw[zhb _ _ _ (by rw[Zn];omega)]
 exact Qg (enc:=env) (k:=3) e rfl l j (fun _ _=>rfl) h
def zeh:List En:=List.replicate 64 en0
theorem zgG:(Tryz.prog.info? 75).map (·.zero)=some (some (.agg (qd zeh).toArray)):=by kernel_rfl
theorem zdG (w:World):(zeroValue 75).run Tryz.prog w= .ok (.agg (qd zeh).toArray) w:=by
 have h:=zgG
 cases hq:Tryz.prog.info? 75 with
 | none=>simp[hq]at h
 | some i=>
  simp[hq]at h
  simp[zeroValue,typeInfo,hq,h]
def zeC (t:List (List En)) (i k:Nat) (l:List En):Prop:=l.length=64/\∀a b,a<8->b<8->l[8*a+b]? =some (if a<i\/(a=i/\b<k)then za0 t a b else en0)
theorem zeC.zero (t:List (List En)):zeC t 0 0 zeh:=⟨by simp[zeh],fun a b ha hb=>by
 rw[if_neg (by omega),zeh,List.getElem?_replicate,if_pos (by omega)]⟩
theorem zeC.step {t:List (List En)} {i k:Nat} {l:List En} (h:zeC t i k l) (hi:i<8) (hk:k<8):zeC t i (k+1) (l.set (8*i+k) (za0 t i k)):=by
 refine⟨by simp[h.1],fun a b ha hb=>?_⟩
 by_cases e:a=i/\b=k
 ·obtain⟨rfl,rfl⟩:=e;rw[sF (by rw[h.1];omega),if_pos (by omega)]
 rw[sN (by omega),h.2 a b ha hb]
 by_cases h1:a<i\/(a=i/\b<k)
 ·rw[if_pos h1,if_pos (by omega)]
 rw[if_neg h1,if_neg (by omega)]
theorem zeC.next {t:List (List En)} {i:Nat} {l:List En} {n:Nat} (h:zeC t i n l) (hn:∀b,n<=b->za0 t i b=en0):zeC t (i+1) 0 l:=by
 refine⟨h.1,fun a b ha hb=>?_⟩
 rw[h.2 a b ha hb]
 by_cases h1:a<i\/(a=i/\b<n)
 ·rw[if_pos h1,if_pos (by omega)]
 rw[if_neg h1]
 by_cases h2:a=i
 ·subst h2;rw[if_pos (by omega),hn b (by omega)]
 rw[if_neg (by omega)]
theorem zeC.all {t:List (List En)} {l:List En} (h:zeC t 8 0 l):l=JE t:=by
 apply List.ext_getElem?
 intro j
 by_cases hj:j<64
 ·have:=h.2 (j / 8) (j % 8) (by omega) (by omega)
  rw[if_pos (by omega),show 8*(j / 8)+j % 8=j by omega]at this
  rw[this,zdm t hj]
 rw[gN (by rw[h.1];omega),gN (by rw[zeg];omega)]
theorem zcs (vs:List Value) (t:List (List En)) (w:World) (hv:ZH w vs t) (hok:∀h∈t,h.length<=8):
  Calls Tryz.prog 28 #[.agg vs.toArray] w fun e w'=>e= .returned (.agg (qd (JE t)).toArray)/\zc w w':=by
 have HV:Hid (ZH w vs t):=hv;have HL:Hid (vs.length=8):=hv.len;have HOK:Hid (∀h∈t,h.length<=8):=hok;clear hv hok;have hz:=zdG;obtain⟨Z0,HZ0⟩:∃Z0,Hid (qd zeh=Z0):=⟨_,rfl⟩;rw[HZ0.out]at hz;have HZL:Hid (Z0.length=192):=show _=_ by rw[<-HZ0.out,Zn];rfl
 obtain⟨C,HC⟩:∃C,Hid (qd (JE t)=C):=⟨_,rfl⟩;rw[HC.out];obtain⟨W0,hW0⟩:∃W0,((w.alloc (.cells vs.toArray 53)).alloc (.cells Z0.toArray 75)).alloc (.cells Z0.toArray 75)=W0:=⟨_,rfl⟩;have HG0:Hid (zc w W0):=show zc w W0 by rw[<-hW0];exact((za _ _).trans (za _ _)).trans (za _ _)
 have X0:Hid (Box W0 w.heap.size vs):=show Box _ _ _ by rw[<-hW0];exact((Box.top w _ _ rfl).alloc _).alloc _
 have Y0:Hid (Box W0 (w.heap.size+1) Z0):=show Box _ _ _ by rw[<-hW0];exact(Box.top _ _ _ (by simp)).alloc _
 have L0:Hid (Box W0 (w.heap.size+2) (qd zeh)):=show Box _ _ _ by rw[<-hW0,HZ0.out];exact Box.top _ _ _ (by simp)
 have HW0:Hid (_=W0):=hW0;clear hW0
 go_enter Tryz.func28,Tryz.ntmps28
 go_upto_region 2 with fail;rw[HW0.out];clear hz
 go_wp2_with (refine jA rfl (.tmp 1) rfl w.heap.size rfl X0.out HL.out ?_)
 go_loopg [9] 8 (fun gg s9 wr=>∃(kk:Nat) (l:List En),kk<=8/\8 - kk<=gg/\s9= .int .i64 kk/\Hid (zc w wr)/\Hid (Box wr (w.heap.size+1) Z0)/\Hid (Box wr (w.heap.size+2) (qd l))/\Hid (zeC t kk 0 l))
 case atStart=>exact⟨0,zeh,nZ _,by omega,rfl,HG0.out,Y0.out,L0.out,zeC.zero t⟩
 obtain⟨kk,l,hkk,hg,rfl,BW,YW,LW,DW⟩:=hrel
 by_cases hlt:kk<8
 ·have hltz:(kk:Int)<8:=by omega
  obtain⟨xa,xc,q,hq,hvk,hr⟩:=HV.out.half hlt;have hq8:=HOK.out q (mG hq);have HGN:Hid (∀b,za0 t kk b=q[b]?.getD en0):=show∀b,_ from fun b=>by unfold za0;rw[hq];rfl
  obtain⟨_,_,heq,hens⟩:=hr.ens;cases heq;have HE:Hid (zcE w xa q):=hens;obtain⟨nq,HNQ⟩:∃nq,Hid (q.length=nq):=⟨_,rfl⟩;rw[HNQ.out]at hvk hq8;have HVK:Hid (vs[kk]? =some (.slice xa nq xc)):=hvk;clear hens hr hq hvk
  go_wp2_with (refine zbn rfl (.tmp 8) (.tmp 9) rfl vs rfl kk rfl hlt HVK.out ?_)
  go_loopg [15] nq (fun g2 s15 wr2=>∃(k2:Nat) (l2:List En),k2<=nq/\nq - k2<=g2/\s15= .int .i64 k2/\Hid (zc w wr2)/\Hid (Box wr2 (w.heap.size+1) Z0)/\Hid (Box wr2 (w.heap.size+2) (qd l2))/\Hid (zeC t kk k2 l2))
  case atStart=>exact⟨0,l,nZ _,by omega,rfl,BW.out,YW.out,LW.out,DW.out⟩
  obtain⟨k2,l2,hk2,hg2,rfl,BW2,YW2,LW2,DW2⟩:=hrel
  by_cases hlt2:k2<nq
  ·have hltz2:(k2:Int)< (nq:Int):=by omega
   obtain⟨z,HZ⟩:∃z,Hid (q[k2]? =some z):=⟨_,gE (by rw[HNQ.out];exact hlt2)⟩
   obtain⟨ad,rfl,hl2⟩:=HE.out k2 z HZ.out;obtain⟨d0,d1,d2⟩:=hl2 wr BW2.out;clear hl2;go_upto_region 8 with fail;obtain⟨px,hpx⟩:∃px,wr.heap.size=px:=⟨_,rfl⟩;obtain⟨W3,hW3⟩:∃W3,wr.alloc (.cells #[.int .i64 z.kind,.int .i64 z.n,.bool z.wr] 74)=W3:=⟨_,rfl⟩;have G3:=gT hW3 BW2
   have P3:Hid (Box W3 px [.int .i64 z.kind,.int .i64 z.n,.bool z.wr]):=show Box _ _ _ by rw[<-hW3];exact Box.top _ _ _ hpx.symm
   have Y3:=yA hW3 YW2
   have L3:=yA hW3 LW2
   rw[hW3];rw[hpx];clear hW3 hpx d0 d1 d2;obtain⟨p0,p1,p2⟩:=P3.out.c3;have hidx:(8:Int)*(kk:Int)+(k2:Int)=((8*kk+k2:Nat):Int):=by omega
   have hi64:8*kk+k2<64:=by omega
   obtain⟨ix,HIX⟩:∃ix,Hid (8*kk+k2=ix):=⟨_,rfl⟩;rw[HIX.out]at hidx hi64;have hi64z:(ix:Int)<64:=by omega
   obtain⟨z0,hz0⟩:∃z0,l2[ix]? =some z0:=⟨_,gE (by rw[DW2.out.1];exact hi64)⟩
   obtain⟨c0,c1,c2⟩:=zbQ hz0;have l0:=L3.out.c _ c0;have l1:=L3.out.c _ c1;have l2':=L3.out.c _ c2;have lf:=L3.out.f;clear c0 c1 c2 hz0;go_upto_region 9 with fail;obtain⟨W4,hW4⟩:∃W4,((W3.setCell ⟨w.heap.size+2,ix*3,none⟩ (.int .i64 z.kind)).setCell ⟨w.heap.size+2,ix*3+1,none⟩ (.int .i64 z.n)).setCell ⟨w.heap.size+2,ix*3+2,none⟩ (.bool z.wr)=W4:=⟨_,rfl⟩;have L4:Hid (Box W4 (w.heap.size+2) (qd (l2.set ix z))):=show Box _ _ _ by
    rw[<-hW4,<-zgT z (by rw[DW2.out.1];exact hi64)]
    exact((L3.out.set _ _).set _ _).set _ _
   have Y4:Hid (Box W4 (w.heap.size+1) Z0):=show Box _ _ _ by
    rw[<-hW4];exact((Y3.out.other (by simp) _).other (by simp) _).other (by simp) _
   have G4:Hid (zc w W4):=show zc _ _ by
    rw[<-hW4];exact Below.setCell (Below.setCell (Below.setCell G3.out (p:=⟨w.heap.size+2,ix*3,none⟩) (by simp) _) (p:=⟨w.heap.size+2,ix*3+1,none⟩) (by simp) _) (p:=⟨w.heap.size+2,ix*3+2,none⟩) (by simp) _
   have D4:Hid (zeC t kk (k2+1) (l2.set ix z)):=show zeC _ _ _ _ by
    have h1:=DW2.out.step hlt (show k2<8 by omega)
    rw[HGN.out,HZ.out,HIX.out]at h1;exact h1
   rw[hW4];clear hW4 l0 l1 l2' lf p0 p1 p2 hidx;go_wp2
   go_roundg (nq -(k2+1))
   case measure=>omega
   exact⟨k2+1,_,by omega,by omega,by go_num,G4.out,Y4.out,L4.out,D4.out⟩
  have hltz2:¬(k2:Int)< (nq:Int):=by omega
  have:k2=nq:=by omega
  subst this;have D4:Hid (zeC t (kk+1) 0 l2):=DW2.out.next (fun b hb=>by rw[HGN.out,gN (by rw[HNQ.out];exact hb)];rfl)
  go_wp2
  go_roundg (8 -(kk+1))
  case measure=>omega
  exact⟨kk+1,l2,by omega,by omega,by go_num,BW2.out,YW2.out,LW2.out,D4.out⟩
 have hltz:¬(kk:Int)<8:=by omega
 have:kk=8:=by omega
 subst this;have LE:Hid (Box wr (w.heap.size+2) C):=show Box _ _ _ by rw[<-HC.out,<-DW.out.all];exact LW.out
 have HFL:Hid (C.length=192):=show _=_ by rw[<-HC.out,Zn,zeg]
 have HFO:Hid (∀v∈C,v.oneCell'=true):=show∀v∈C,_ by rw[<-HC.out];exact zcy _
 go_wp2_with (first | refine zG rfl 75 (.tmp 3) rfl (w.heap.size+2) rfl LE.out Tryz.underlying75 rfl (by rw[HFL.out];exact zlq) ?_ | refine zQ rfl 75 (.tmp 2) (.tmp 28) rfl (w.heap.size+1) rfl C rfl YW.out (by rw[HFL.out,HZL.out]) (by rw[HZL.out];exact zlq) HFO.out ?_)
 intro W3 b3 g3 s3;have G3:Hid (zc w W3):=show zc _ _ from zg BW.out g3 (by simp)
 have B3:Hid (Box W3 (w.heap.size+1) C):=b3;clear b3 g3 s3;go_wp2;refine bodyPost_ret (zW rfl _ rfl B3.out Tryz.underlying75 rfl (by rw[HFL.out];exact zlq)) rfl ⟨rfl,G3.out⟩
theorem zgh {w:World} {l:List En} (i:Nat) (hi:i<64) {e:En} (he:l[i]? =some e):(Instr.index 75 (.agg (qd l).toArray) (.int .i64 (i:Int))).run Tryz.prog w= .ok (.agg #[.int .i64 e.kind,.int .i64 e.n,.bool e.wr]) w:=by
 have ha:(isAgg 74).run Tryz.prog w= .ok true w:=by
  unfold isAgg;rw[Sem.run_bind,run_underlying Tryz.underlying74 w];rfl
 have hs:(Go.sizeOf 74).run Tryz.prog w= .ok 3 w:=by
  obtain⟨i0,h1,h2⟩:∃i0,Tryz.prog.info? 74=some i0/\i0.size=3:=by
   have:(Tryz.prog.info? 74).map (·.size)=some 3:=by kernel_rfl
   cases hq:Tryz.prog.info? 74 with
   | none=>rw[hq]at this;cases this
   | some i0=>rw[hq]at this;exact⟨i0,rfl,by simpa using this⟩
  simp[Go.sizeOf,typeInfo,h1,h2]
 have hlt:(0:Int)<=(i:Int)/\(i:Int)< ((64:Nat):Int):=by omega
 obtain⟨c0,c1,c2⟩:=zbQ he;have hx:(qd l).toArray.extract (i*3) (i*3+3)=#[.int .i64 e.kind,.int .i64 e.n,.bool e.wr]:=by
  apply Array.ext_getElem?
  intro j;rw[Array.getElem?_extract];have hlen:i*3+3<=(qd l).toArray.size:=by
   have:=(gS.1 c2).1;simp;omega
  by_cases hj:j<3
  ·rw[if_pos (by omega)]
   obtain rfl | rfl | rfl:j=0\/j=1\/j=2:=by omega
   ·simpa using c0
   ·simpa using c1
   simpa using c2
  rw[if_neg (by omega)]
  simp;omega
 simp only[Instr.index,asIntOf,Sem.run_bind,Sem.run_pure,rA,run_underlying Tryz.underlying75];rw[if_pos hlt];simp only[Sem.run_bind,hs,rA,part,ha,if_true,tN,Sem.run_pure,hx]
theorem zbo {ops:Array Oper} {rest:List Oper} {o:Oper} {a:Act} {w:World} {Q:Exit->Act->World->Prop} (hgd:o.guard=none) (x ix:Operand) (ho:o.op= .index 75 x ix) (l:List En) (hx:a.eval x= .agg (qd l).toArray) (i:Nat) (hix:a.eval ix= .int .i64 (i:Int)) (hi:i<64) {e:En} (he:l[i]? =some e)
  (h:wpList Tryz.prog ops Q rest (a.put o.dst (.agg #[.int .i64 e.kind,.int .i64 e.n,.bool e.wr])) w):wpList Tryz.prog ops Q (o :: rest) a w:=by
 refine wpList_plain hgd fun K hK=>?_
 unfold Oper.wp execOp;simp only[ho,hx,hix,Sem.run_bind,Sem.run_pure,rA,zgh i hi he];exact hK _ _ h
theorem zlr:(Tryz.prog.info? 5).map (fun i=>(i.zero,i.size,i.bytes))=some (some (.int .u8 0),1,1):=by kernel_rfl
def byE:Elt Int where
 enc:=fun z=>[.int .u8 z]
 k:=1
 ty:=5
 st:=24
 bytes:=1
 zv:= .int .u8 0
 zero:=0
 len:=fun _=>rfl
 one:=fun a u hu=>by
  simp only[mC,nM,or_false]at hu;rw[hu];rfl
 und:=Tryz.underlying24
 info:=zlr
 zok:=rfl
 few:=by decide
 pos:=by decide
theorem zls:(Tryz.prog.info? 75).map (fun i=>(i.zero,i.size,i.bytes))=some (some (.agg (qd (tab fun _=>en0)).toArray),192,1536):=by kernel_rfl
def Qt:Elt (Nat->En) where
 enc:=fun f=>qd (tab f)
 k:=192
 ty:=75
 st:=96
 bytes:=1536
 zv:= .agg (qd (tab fun _=>en0)).toArray
 zero:=fun _=>en0
 len:=fun f=>by rw[Zn,Qa]
 one:=fun f=>zcy _
 und:=Tryz.underlying96
 info:=zls
 zok:=rfl
 few:=by decide
 pos:=by decide
structure MkR (base hi:Nat) (w:World) (V:MaV) (m:Ma) (vt:Sli) (T:List (Nat->En)):Prop where
 hw:hi<=w.heap.size
 bh:base<=hi
 fs:zb Jx base w (.slice V.f.a V.f.n V.f.c) m.fs
 sl:zb slE base w (.slice V.s.a V.s.n V.s.c) m.sl
 slh:∀g,(Value.slice V.s.a V.s.n V.s.c).ownBlock=some g->g<hi
 sb:zj base w (.slice V.sb.a V.sb.n V.sb.c) m.sb
 sbh:∀g,(Value.slice V.sb.a V.sb.n V.sb.c).ownBlock=some g->g<hi
 sq:V.sq=zw/\m.sq=[]
 db:zj base w (.slice V.db.a V.db.n V.db.c) m.db
 dbh:∀g,(Value.slice V.db.a V.db.n V.db.c).ownBlock=some g->g<hi
 dq:zT base w (.slice V.dq.a V.dq.n V.dq.c) m.dq
 fl:∃xs:List FlV,zb fvE base w (.slice V.fl.a V.fl.n V.fl.c) xs/\xs.length=m.fl.length/\∀(i:Nat) x f,xs[i]? =some x->m.fl[i]? =some f->x.size=f.size/\zb blE hi w x.v f.bl
 ca:zb qY base w (.slice V.ca.a V.ca.n V.ca.c) m.ca
 sp:∃xs:List SpV,zb Zl base w (.slice V.sp.a V.sp.n V.sp.c) xs/\xs.length=m.sp.length/\∀(i:Nat) x s,xs[i]? =some x->m.sp[i]? =some s->x.live=s.live/\zb arE base w x.ar.v s.ars/\x.tab=zah/\s.tb=qx
 tt:zb Qt base w (.slice vt.a vt.n vt.c) T
 ap:∀g,(Value.slice V.sb.a V.sb.n V.sb.c).ownBlock=some g->(Value.slice V.db.a V.db.n V.db.c).ownBlock≠some g
section
variable{base hi:Nat} {w w':World} {V:MaV} {m:Ma} {vt:Sli} {T:List (Nat->En)}
theorem MkR.grew (h:MkR base hi w V m vt T) (k:zc w w'):MkR base hi w' V m vt T:=by
 obtain⟨xs,f1,f2,f3⟩:=h.fl;obtain⟨ys,s1,s2,s3⟩:=h.sp;exact⟨nT h.hw (bS k),h.bh,h.fs.grew k,h.sl.grew k,h.slh,h.sb.grew k,h.sbh,h.sq,h.db.grew k,h.dbh,h.dq.grew k,⟨xs,f1.grew k,f2,fun i x f hx hf=>⟨(f3 i x f hx hf).1,(f3 i x f hx hf).2.grew k⟩⟩,h.ca.grew k,⟨ys,s1.grew k,s2,fun i x s hx hs=>⟨(s3 i x s hx hs).1,(s3 i x s hx hs).2.1.grew k,(s3 i x s hx hs).2.2⟩⟩,h.tt.grew k,h.ap⟩
theorem zb.kind {α:Type} {E:Elt α} {b g:Nat} {v:Value} {l:List α} {t:TypeId} {cs:Array Value} (h:zb E b w v l) (hg:w.grownBy w' (some g)) (ho:w.heap[g]? =some (.cells cs t (0,0))) (ht:t≠E.ty):zb E b w' v l:=h.grown hg fun k hk e=>by
 cases e;obtain⟨ds,h3⟩:=h.obj hk;rw[ho]at h3;cases h3;exact ht rfl
theorem Qj {b size n g:Nat} {e:TypeId} {v:Value} {xs:List Value} (h:w.ownsRow b e size v n xs) (hg:w.grownBy w' (some g)) (hne:v.ownBlock≠some g):w'.ownsRow b e size v n xs:=by
 refine⟨h.1,?_⟩
 rcases h.2 with h1 | ⟨k,cap,cur,rfl,h2,h3,h4⟩
 ·exact .inl h1
 exact .inr ⟨k,cap,cur,rfl,h2,by rw[hg.block k (aS.1 h3).1 (fun e=>by cases e;exact hne rfl)];exact h3,h4⟩
theorem qo {b size n g:Nat} {e t:TypeId} {cs:Array Value} {v:Value} {xs:List Value} (h:w.ownsRow b e size v n xs) (hg:w.grownBy w' (some g)) (ho:w.heap[g]? =some (.cells cs t (0,0))) (ht:t≠e):w'.ownsRow b e size v n xs:=by
 refine Qj h hg fun hv=>?_
 rcases h.2 with⟨rfl,_⟩ | ⟨k,cap,cur,rfl,h2,h3,h4⟩
 ·cases hv
 simp only[Value.ownBlock,Option.some.injEq]at hv;subst hv;rw[ho]at h3;cases h3;exact ht rfl
theorem MkR.kept (h:MkR base hi w V m vt T) {g:Nat} {t:TypeId} {cs:Array Value} (hg:w.grownBy w' (some g)) (ho:w.heap[g]? =some (.cells cs t (0,0))):
  (t≠69->zb Jx base w' (.slice V.f.a V.f.n V.f.c) m.fs)/\(t≠3\/hi<=g->zb slE base w' (.slice V.s.a V.s.n V.s.c) m.sl)/\
  (t≠67\/hi<=g\/(Value.slice V.sb.a V.sb.n V.sb.c).ownBlock≠some g->zj base w' (.slice V.sb.a V.sb.n V.sb.c) m.sb)/\(t≠67\/hi<=g\/(Value.slice V.db.a V.db.n V.db.c).ownBlock≠some g->zj base w' (.slice V.db.a V.db.n V.db.c) m.db)/\
  (t≠103->zT base w' (.slice V.dq.a V.dq.n V.dq.c) m.dq)/\
  (t≠88->(t≠3\/g<hi)->∃xs:List FlV,zb fvE base w' (.slice V.fl.a V.fl.n V.fl.c) xs/\xs.length=m.fl.length/\∀(i:Nat) x f,xs[i]? =some x->m.fl[i]? =some f->x.size=f.size/\zb blE hi w' x.v f.bl)/\
  (t≠124->zb qY base w' (.slice V.ca.a V.ca.n V.ca.c) m.ca)/\
  (t≠55->t≠114->∃xs:List SpV,zb Zl base w' (.slice V.sp.a V.sp.n V.sp.c) xs/\xs.length=m.sp.length/\∀(i:Nat) x s,xs[i]? =some x->m.sp[i]? =some s->x.live=s.live/\zb arE base w' x.ar.v s.ars/\x.tab=zah/\s.tb=qx)/\
  (t≠75->zb Qt base w' (.slice vt.a vt.n vt.c) T):=by
 obtain⟨xs,f1,f2,f3⟩:=h.fl;obtain⟨ys,s1,s2,s3⟩:=h.sp;refine⟨fun ht=>h.fs.kind hg ho ht,fun ht=>?_,fun ht=>?_,fun ht=>?_,fun ht=>⟨qo h.dq.1 hg ho ht,h.dq.2⟩,fun ht ht2=>⟨xs,f1.kind hg ho ht,f2,fun i x f hx hf=>⟨(f3 i x f hx hf).1,?_⟩⟩,fun ht=>h.ca.kind hg ho ht,fun ht ht2=>⟨ys,s1.kind hg ho ht,s2,fun i x s hx hs=>⟨(s3 i x s hx hs).1,(s3 i x s hx hs).2.1.kind hg ho ht2,(s3 i x s hx hs).2.2⟩⟩,fun ht=>h.tt.kind hg ho ht⟩
 ·rcases ht with ht | ht
  ·exact h.sl.kind hg ho ht
  exact h.sl.grown hg fun k hk e=>by cases e;have:=h.slh _ hk;omega
 ·rcases ht with ht | ht | ht
  ·exact⟨qo h.sb.1 hg ho ht,h.sb.2⟩
  ·exact⟨Qj h.sb.1 hg fun e=>by have:=h.sbh _ e;omega,h.sb.2⟩
  exact⟨Qj h.sb.1 hg ht,h.sb.2⟩
 ·rcases ht with ht | ht | ht
  ·exact⟨qo h.db.1 hg ho ht,h.db.2⟩
  ·exact⟨Qj h.db.1 hg fun e=>by have:=h.dbh _ e;omega,h.db.2⟩
  exact⟨Qj h.db.1 hg ht,h.db.2⟩
 rcases ht2 with ht2 | ht2
 ·exact(f3 i x f hx hf).2.kind hg ho ht2
 exact(f3 i x f hx hf).2.grown hg fun k hk e=>by cases e;have:=((f3 i x f hx hf).2.lt _ hk).1;omega
theorem MkR.var (h:MkR base hi w V m vt T) {g:Nat} {t:TypeId} {cs:Array Value} (hg:w.grownBy w' (some g)) (ho:w.heap[g]? =some (.cells cs t (0,0))) (hs:w.heap.size<=w'.heap.size) (h1:t=98\/(t=67/\hi<=g)):MkR base hi w' V m vt T:=by
 obtain⟨k1,k2,k3,k4,k5,k6,k7,k8,k9⟩:=h.kept hg ho
 rcases h1 with rfl | ⟨rfl,h1⟩
 ·exact⟨nT h.hw hs,h.bh,k1 (by decide),k2 (.inl (by decide)),h.slh,k3 (.inl (by decide)),h.sbh,h.sq,k4 (.inl (by decide)),h.dbh,k5 (by decide),k6 (by decide) (.inl (by decide)),k7 (by decide),k8 (by decide) (by decide),k9 (by decide),h.ap⟩
 exact⟨nT h.hw hs,h.bh,k1 (by decide),k2 (.inl (by decide)),h.slh,k3 (.inr (.inl h1)),h.sbh,h.sq,k4 (.inr (.inl h1)),h.dbh,k5 (by decide),k6 (by decide) (.inl (by decide)),k7 (by decide),k8 (by decide) (by decide),k9 (by decide),h.ap⟩
theorem MkR.setF (h:MkR base hi w V m vt T) {g:Nat} (hv:(Value.slice V.f.a V.f.n V.f.c).ownBlock=some g) (hg:w.grownBy w' (some g)) (hs:w'.heap.size=w.heap.size) {fs:List Fr} (ho:zb Jx base w' (.slice V.f.a V.f.n V.f.c) fs):MkR base hi w' V { m with fs:=fs } vt T:=by
 obtain⟨cs,hc⟩:=h.fs.obj hv;obtain⟨k1,k2,k3,k4,k5,k6,k7,k8,k9⟩:=h.kept hg hc;exact⟨by rw[hs];exact h.hw,h.bh,ho,k2 (.inl (by decide)),h.slh,k3 (.inl (by decide)),h.sbh,h.sq,k4 (.inl (by decide)),h.dbh,k5 (by decide),k6 (by decide) (.inl (by decide)),k7 (by decide),k8 (by decide) (by decide),k9 (by decide),h.ap⟩
theorem MkR.setS (h:MkR base hi w V m vt T) {g:Nat} (hv:(Value.slice V.s.a V.s.n V.s.c).ownBlock=some g) (hg:w.grownBy w' (some g)) (hs:w'.heap.size=w.heap.size) {ls:List Int} (ho:zb slE base w' (.slice V.s.a V.s.n V.s.c) ls):MkR base hi w' V { m with sl:=ls } vt T:=by
 obtain⟨cs,hc⟩:=h.sl.obj hv;obtain⟨k1,k2,k3,k4,k5,k6,k7,k8,k9⟩:=h.kept hg hc;exact⟨by rw[hs];exact h.hw,h.bh,k1 (by decide),ho,h.slh,k3 (.inl (by decide)),h.sbh,h.sq,k4 (.inl (by decide)),h.dbh,k5 (by decide),k6 (by decide) (.inr (h.slh g hv)),k7 (by decide),k8 (by decide) (by decide),k9 (by decide),h.ap⟩
theorem MkR.setSb (h:MkR base hi w V m vt T) {g:Nat} {cs:Array Value} (hc:w.heap[g]? =some (.cells cs 67 (0,0))) (hv:(Value.slice V.sb.a V.sb.n V.sb.c).ownBlock=some g) (hg:w.grownBy w' (some g)) (hs:w'.heap.size=w.heap.size) {ls:List (List Int)} (ho:zj base w' (.slice V.sb.a V.sb.n V.sb.c) ls):MkR base hi w' V { m with sb:=ls } vt T:=by
 obtain⟨k1,k2,k3,k4,k5,k6,k7,k8,k9⟩:=h.kept hg hc;exact⟨by rw[hs];exact h.hw,h.bh,k1 (by decide),k2 (.inl (by decide)),h.slh,ho,h.sbh,h.sq,k4 (.inr (.inr (h.ap g hv))),h.dbh,k5 (by decide),k6 (by decide) (.inl (by decide)),k7 (by decide),k8 (by decide) (by decide),k9 (by decide),h.ap⟩
theorem MkR.setDb (h:MkR base hi w V m vt T) {g:Nat} {cs:Array Value} (hc:w.heap[g]? =some (.cells cs 67 (0,0))) (hv:(Value.slice V.db.a V.db.n V.db.c).ownBlock=some g) (hg:w.grownBy w' (some g)) (hs:w'.heap.size=w.heap.size) {ls:List (List Int)} (ho:zj base w' (.slice V.db.a V.db.n V.db.c) ls):MkR base hi w' V { m with db:=ls } vt T:=by
 obtain⟨k1,k2,k3,k4,k5,k6,k7,k8,k9⟩:=h.kept hg hc;exact⟨by rw[hs];exact h.hw,h.bh,k1 (by decide),k2 (.inl (by decide)),h.slh,k3 (.inr (.inr (fun e=>h.ap g e hv))),h.sbh,h.sq,ho,h.dbh,k5 (by decide),k6 (by decide) (.inl (by decide)),k7 (by decide),k8 (by decide) (by decide),k9 (by decide),h.ap⟩
theorem MkR.setT (h:MkR base hi w V m vt T) {g:Nat} (hv:(Value.slice vt.a vt.n vt.c).ownBlock=some g) (hg:w.grownBy w' (some g)) (hs:w'.heap.size=w.heap.size) {T':List (Nat->En)} (ho:zb Qt base w' (.slice vt.a vt.n vt.c) T'):MkR base hi w' V m vt T':=by
 obtain⟨cs,hc⟩:=h.tt.obj hv;obtain⟨k1,k2,k3,k4,k5,k6,k7,k8,k9⟩:=h.kept hg hc;exact⟨by rw[hs];exact h.hw,h.bh,k1 (by decide),k2 (.inl (by decide)),h.slh,k3 (.inl (by decide)),h.sbh,h.sq,k4 (.inl (by decide)),h.dbh,k5 (by decide),k6 (by decide) (.inl (by decide)),k7 (by decide),k8 (by decide) (by decide),ho,h.ap⟩
end
structure Mk (w0:World) (hi:Nat) (w:World) (b:Nat) (vl:Sli) (L:List Int) (V:MaV) (m:Ma) (vt:Sli) (T:List (Nat->En)):Prop where
 gr:zc w0 w
 hb:w0.heap.size<=b
 box:zp w b 98 [.slice vl.a vl.n vl.c,.slice V.f.a V.f.n V.f.c,.int .i64 m.hand,.slice V.s.a V.s.n V.s.c,.slice V.sb.a V.sb.n V.sb.c,.slice V.sq.a V.sq.n V.sq.c,.slice V.db.a V.db.n V.db.c,.slice V.dq.a V.dq.n V.dq.c,.slice V.fl.a V.fl.n V.fl.c,.int .i64 m.cnt,.slice V.ca.a V.ca.n V.ca.c,.slice V.sp.a V.sp.n V.sp.c,.slice vt.a vt.n vt.c]
 lr:zo byE w0 (.slice vl.a vl.n vl.c) L
 lc:vl.n<=vl.c
 lb:∀z∈L,0<=z/\z<256
 rows:MkR w0.heap.size hi w V m vt T
theorem Mk.grew {w0 w w':World} {hi b:Nat} {vl:Sli} {L:List Int} {V:MaV} {m:Ma} {vt:Sli} {T:List (Nat->En)} (h:Mk w0 hi w b vl L V m vt T) (k:zc w w'):Mk w0 hi w' b vl L V m vt T:=⟨h.gr.trans k,h.hb,h.box.grew k,h.lr,h.lc,h.lb,h.rows.grew k⟩
theorem MkR.at {base hi:Nat} {w:World} {V:MaV} {m:Ma} {vt:Sli} {T:List (Nat->En)} (h:MkR base hi w V m vt T):zC w V m:=by
 obtain⟨xs,f1,f2,f3⟩:=h.fl;obtain⟨ys,s1,s2,s3⟩:=h.sp;obtain⟨q1,q2⟩:=h.sq;refine⟨h.fs.at,h.sl.at,h.sb.at,?_,h.db.at,h.dq.at,⟨f1.cap,xs,f1.at.s0,f2,fun i x f hx hf=>⟨(f3 i x f hx hf).1,(f3 i x f hx hf).2.at.s0⟩⟩,h.ca.at,⟨ys,s1.at,s2,fun i x s hx hs=>?_⟩⟩
 ·rw[q1,q2];exact⟨⟨none,0,rfl,fun _=>rfl,fun x hx=>by cases hx⟩,by simp,by simp⟩
 obtain⟨a1,a2,a3,a4⟩:=s3 i x s hx hs;exact⟨a1,a2.at,a2.cap,by rw[a3,a4];exact Jq.nil 0 0 w⟩
theorem zfY:∀{fs:List Fr},J5 fs=0->∀q∈fs,frW q=0
 | [],_,_,hq=>by cases hq
 | a :: l,h,q,hq=>by
  unfold J5 at h
  by_cases h0:frW a=0
  ·rw[if_pos h0]at h
   rcases mC.1 hq with rfl | h1
   ·exact h0
   exact zfY h q h1
  rw[if_neg h0]at h;exact absurd h h0
theorem zdY {fs:List Fr} {h:Int} (hz:Ze fs h=0):fs.length<=40/\(∀q∈fs,frW q=0)/\0<=h/\h<max (fs.length:Int) 1:=by
 unfold Ze at hz
 by_cases h1:40<fs.length
 ·rw[if_pos h1]at hz;omega
 rw[if_neg h1]at hz
 by_cases h2:J5 fs=0
 ·rw[if_pos h2]at hz
  cases hb:inB h (max fs.length 1)with
  | false=>rw[hb]at hz;simp at hz
  | true=>
   unfold inB at hb
   simp at hb
   exact⟨by omega,zfY h2,by omega,by omega⟩
 rw[if_neg h2]at hz;exact absurd hz h2
theorem zh.frc {base:Nat} {w:World} {g n c:Nat} {fs:List Fr} (h:zh base w (.slice (some ⟨g,0,none⟩) n c) fs) {i:Nat} {q:Fr} (hq:fs[i]? =some q) (j:Nat) {u:Value} (hu:(frv q)[j]? =some u):w.cell? ⟨g,i*13+j,none⟩=some u:=by
 obtain⟨a',c',he,hr⟩:=h.at.rows;obtain⟨ad,he2,hc⟩:=hr i q hq;cases he;cases he2;have:=hc w (zc.refl _) j u hu;rw[zP,Addr.add_lit,zA]at this;exact this
def chL (V:MaV) (m:Ma):List Value:=[.slice V.f.a V.f.n V.f.c,.int .i64 m.hand,.slice V.s.a V.s.n V.s.c,.slice V.sb.a V.sb.n V.sb.c,.slice V.sq.a V.sq.n V.sq.c,.slice V.db.a V.db.n V.db.c,.slice V.dq.a V.dq.n V.dq.c,.slice V.fl.a V.fl.n V.fl.c,.int .i64 m.cnt,.slice V.ca.a V.ca.n V.ca.c,.slice V.sp.a V.sp.n V.sp.c]
theorem QX.grown {D:Nat->Prop} {w w':World} {b:Nat} (hg:w.grownBy w' (some b)) (h:D b):QX D w w':=
 ⟨hg.os,hg.tape,hg.output,hg.size,fun k hk hb=>hg.block k hk (fun e=>by cases e;exact hb h)⟩
theorem zp.outD {D:Nat->Prop} {w w':World} {b:Nat} {t:TypeId} {cs:List Value} (h:zp w b t cs) (k:QX D w w') (hn:¬D b):zp w' b t cs:=(k.block b h.box.lt hn).trans h
theorem zcW {P:Program} {a:Act} {o:Oper} {w:World} (x:Operand) (p:Addr) (ho:o.op= .nilCheck x) (hx:a.eval x= .pointer (some p)):(execOp a.eval o).run P w= .ok (.value (.pointer (some p))) w:=by
 simp[execOp,ho,hx]
section
variable{I:World->Prop} {P:Program} {ops:Array Oper} {o:Oper} {rest:List Oper} {k:Nat} {F:Nat->World->Prop} {a:Act} {Q:Act->World->Prop}
theorem zbB {S:Nat->Option (Value->Prop)} (x:Operand) (p:Addr) (ho:o.op= .nilCheck x) (hx:a.eval x= .pointer (some p)) (hw:Region.wanted o (yielded ops a.tmps)=true) (hS:S k=none) (h:zev I P ops S Q rest (k+1) F (a.put o.dst (.pointer (some p)))):zev I P ops S Q (o :: rest) k F a:=by
 constructor;unfold J9;rw[if_pos hw];simp only[hS];exact⟨_,fun w _ _=>zcW x p ho hx,h.out⟩
theorem jv {S:Nat->Option zce} (x:Operand) (p:Addr) (ho:o.op= .nilCheck x) (hx:a.eval x= .pointer (some p)) (hw:Region.wanted o (yielded ops a.tmps)=true) (hS:S k=none) (h:zbV I P ops S Q rest (k+1) F (a.put o.dst (.pointer (some p)))):zbV I P ops S Q (o :: rest) k F a:=by
 constructor;unfold JH;rw[if_pos hw];simp only[hS];exact⟨_,fun w _ _=>zcW x p ho hx,h.out⟩
end
section
variable(I:World->Prop) (P:Program) (ops:Array Oper) (S:Nat->Option (Value->Prop))
def jy (i:Nat) (F:World->Prop) (a:Act) (K:(World->Prop)->Act->Prop):Prop:=
 match ops[i]? with
 | none=>False
 | some o=>
  if Region.wanted o (yielded ops a.tmps)then
   match S i with
   | none=>∃v,(∀w,I w->(execOp a.eval o).run P w= .ok (.value v) w)/\K F (a.put o.dst v)
   | some s=>∃p:Value->World->Prop,(∀w,I w->F w->zL P o a w fun v w'=>I w'/\s v/\p v w')/\∀v,s v->K (p v) (a.put o.dst v)
  else K F (a.put o.dst undef)
def zil (Q:Act->World->Prop):List Nat->(World->Prop)->Act->Prop
 | [],F,a=>∀w,I w->F w->Q a w
 | i :: l,F,a=>jy I P ops S i F a (zil Q l)
end
section
variable{I:World->Prop} {P:Program} {ops:Array Oper} {S:Nat->Option (Value->Prop)} {T:Nat}
theorem jy.mono {i:Nat} {F:World->Prop} {a:Act} {K K':(World->Prop)->Act->Prop}
  (h:∀F' a',K F' a'->K' F' a') (hc:jy I P ops S i F a K):jy I P ops S i F a K':=by
 unfold jy at*
 split
 ·rename_i ho;simp only[ho]at hc
 rename_i o ho
 simp only[ho]at hc
 split
 ·rename_i hw
  simp only[hw,if_true]at hc
  split
  ·rename_i hs
   simp only[hs]at hc;obtain⟨v,h1,h2⟩:=hc;exact⟨v,h1,h _ _ h2⟩
  rename_i s hs
  simp only[hs]at hc;obtain⟨p,hd,hc⟩:=hc;exact⟨p,hd,fun v hv=>h _ _ (hc v hv)⟩
 rename_i hw
 simp only[hw]at hc;exact h _ _ hc
theorem jy.swap {i j:Nat} {oi oj:Oper} {F:World->Prop} {a:Act} {K:(World->Prop)->Act->Prop} {w:World}
  (hi:ops[i]? =some oi) (hj:ops[j]? =some oj) (hap:oi.apart ops oj=true)
  (hsi:∀cs b,oi.op≠.select cs b) (hsj:∀cs b,oj.op≠.select cs b)
  (hij:anc ops 9 i j=false) (hji:anc ops 9 j i=false) (hS:∀s,S i=some s->∃v,s v) (hch:S i≠none->S j≠none->anc ops 9 i j=true\/anc ops 9 j i=true)
  (hw0:I w)
  (h:jy I P ops S i F a fun F' a'=>jy I P ops S j F' a' K):jy I P ops S j F a fun F' a'=>jy I P ops S i F' a' K:=by
 obtain⟨h1,h2,h3⟩:=Oper.apart_spec hap;have ei:∀v,execOp (a.put oj.dst v).eval oi=execOp a.eval oi:=fun v=>execOp_put oi hsi a oj.dst v h3
 have ej:∀v,execOp (a.put oi.dst v).eval oj=execOp a.eval oj:=fun v=>execOp_put oj hsj a oi.dst v h1
 have wi:∀v,Region.wanted oi (yielded ops (a.put oj.dst v).tmps)=Region.wanted oi (yielded ops a.tmps):=fun v=>wanted_put oi a oj.dst v h3
 have wj:∀v,Region.wanted oj (yielded ops (a.put oi.dst v).tmps)=Region.wanted oj (yielded ops a.tmps):=fun v=>wanted_put oj a oi.dst v h1
 have di:∀v w K,zL P oi (a.put oj.dst v) w K=zL P oi a w K:=fun v w K=>by unfold zL;rw[ei]
 have dj:∀v w K,zL P oj (a.put oi.dst v) w K=zL P oj a w K:=fun v w K=>by unfold zL;rw[ej]
 have pc:∀v u,(a.put oi.dst v).put oj.dst u=(a.put oj.dst u).put oi.dst v:=fun v u=>Act.put_comm a v u h2
 unfold jy at h⊢;simp only[hi,hj,ei,ej,wi,wj,di,dj,pc]at h⊢
 cases hwi:Region.wanted oi (yielded ops a.tmps) <;> cases hwj:Region.wanted oj (yielded ops a.tmps) <;>
  simp only[hwi,hwj,if_true,if_false,Bool.false_eq_true]at h⊢
 ·exact h
 ·cases hsj':S j with
  | none=>simp only[hsj']at h⊢;exact h
  | some s=>simp only[hsj']at h⊢;exact h
 ·cases hsi':S i with
  | none=>simp only[hsi']at h⊢;exact h
  | some s=>simp only[hsi']at h⊢;exact h
 cases hsi':S i with
 | none=>
  simp only[hsi']at h;obtain⟨vi,hri,h⟩:=h
  cases hsj':S j with
  | none=>
   simp only[hsj']at h⊢;obtain⟨vj,hrj,h⟩:=h;exact⟨vj,hrj,vi,hri,h⟩
  | some s=>
   simp only[hsj']at h⊢;obtain⟨p,hd,hk⟩:=h;exact⟨p,hd,fun vj hvj=>⟨vi,hri,hk vj hvj⟩⟩
 | some si=>
  simp only[hsi']at h;obtain⟨p,hdi,h⟩:=h;obtain⟨v1,hv1⟩:=hS si hsi'
  cases hsj':S j with
  | none=>
   simp only[hsj']at h⊢;obtain⟨vj,hrj,_⟩:=h v1 hv1;refine⟨vj,hrj,p,hdi,fun vi hvi=>?_⟩
   obtain⟨vj',hrj',hl⟩:=h vi hvi;have e1:=hrj w hw0;have e2:=hrj' w hw0;rw[e1]at e2;simp only[Result.ok.injEq,Next.value.injEq,and_true]at e2;subst e2;exact hl
  | some sj=>
   exfalso
   rcases hch (by rw[hsi'];simp) (by rw[hsj'];simp)with h1 | h1
   ·rw[hij]at h1;cases h1
   rw[hji]at h1;cases h1
theorem zil.commute {Q:Act->World->Prop} {j:Nat} {oj:Oper} {w:World} (hj:ops[j]? =some oj) (hw0:I w)
  (hsel:∀(k:Nat) (o:Oper) cs b,ops[k]? =some o->o.op≠.select cs b) (hS:∀k s,S k=some s->∃v,s v) (hch:∀i k,i<k->S i≠none->S k≠none->anc ops 9 i k=true):
  ∀(l:List Nat) (F:World->Prop) (a:Act),l.Nodup->j∈l->
   (∀i∈l,i≠j->∃oi,ops[i]? =some oi/\(i<j->oi.apart ops oj=true)/\anc ops 9 i j=false/\(i<j->anc ops 9 j i=false))->
   (l.Pairwise (·< ·))->zil I P ops S Q l F a->zil I P ops S Q (j :: l.filter (· != j)) F a
 | [],_,_,_,hm,_,_,_=>by cases hm
 | i :: l,F,a,hnd,hm,hall,hsorted,h=>by
  by_cases hij:i=j
  ·subst hij;have:(i :: l).filter (· != i)=l:=by
    rw[List.filter_cons];simp only[bne_self_eq_false,Bool.false_eq_true,if_false];refine List.filter_eq_self.2 fun x hx=>?_
    have:x≠i:=fun e=>(List.nodup_cons.1 hnd).1 (e ▸ hx)
    simpa using this
   rw[this];exact h
  have hjl:j∈l:=by
   rcases mC.1 hm with e | e
   ·exact absurd e.symm hij
   exact e
  have hlt:i<j:=(List.pairwise_cons.1 hsorted).1 j hjl;obtain⟨oi,hoi,hap,haij,haji⟩:=hall i (by simp) hij
  have hf:(i :: l).filter (· != j)=i :: l.filter (· != j):=by
   rw[List.filter_cons];have:(i != j)=true:=by simpa using hij
   simp[this]
  rw[hf];refine jy.swap hoi hj (hap hlt) (fun cs b=>hsel i oi cs b hoi) (fun cs b=>hsel j oj cs b hj) haij (haji hlt) (hS i) (fun q1 q2=> .inl (hch i j hlt q1 q2)) hw0 ?_
  refine jy.mono (fun F' a' hl=>?_) h
  exact zil.commute hj hw0 hsel hS hch l F' a' (List.nodup_cons.1 hnd).2 hjl (fun k hk=>hall k (by simp[hk])) (List.pairwise_cons.1 hsorted).2 hl
theorem zcP {Q:Act->World->Prop} {Q':Exit->Act->World->Prop} {l:List Oper} {m:Nat} (hB:Zw ops T=true) (hTl:T+m=ops.size) (hll:l.length=m) (hops:∀j,l[j]? =ops[T+j]?) (hS:∀k s,S k=some s->∃v,s v)
  (hch:∀i k,i<k->S i≠none->S k≠none->anc ops 9 i k=true) (hQ:∀a w,Q a w->wpList P ops Q' l a w):
  ∀(fuel:Nat) (listed:Array Bool) (F:World->Prop) (a:Act) (w:World),listed.size=ops.size->(∀i,T<=i->i<ops.size->listed.getD i true=false)->(zd listed T).length=fuel->ZX ops listed->I w->
   F w->zil I P ops S Q (zd listed T) F a->wpAny P .any ops Q' (fuel+m) listed a w:=by
 have hsel:=Region.noSelect_spec (ops:=ops) (by simp only[Zw,Bool.and_eq_true]at hB;exact hB.1.1)
 intro fuel
 induction fuel with
 | zero=>
  intro listed F a w hsz hout hl hc hw hF h;have hnil:zd listed T=[]:=eN hl;rw[hnil]at h;rw[zA];refine Qf hB m l T listed a w (nR _) hsz hTl hll hops (fun i hi=>?_) hout (hQ _ _ (h w hw hF))
  cases hg:listed.getD i true with
  | true=>rfl
  | false=>
   have:i∈zd listed T:=List.mem_filter.2 ⟨List.mem_range.2 hi,by simp only[hg,beq_self_eq_true]⟩
   rw[hnil]at this;cases this
 | succ fuel ih=>
  intro listed F a w hsz hout hl hc hw hF h;rw[Nat.add_right_comm];refine⟨fun hr=>?_,fun j hj=>?_⟩
  ·exfalso
   cases hu:zd listed T with
   | nil=>simp[hu]at hl
   | cons x xs=>
    have hx:x∈zd listed T:=by rw[hu];simp
    have hx':=List.mem_filter.1 hx;have hxT:x<T:=List.mem_range.1 hx'.1;have hxs:x<ops.size:=by omega
    have ho:ops[x]? =some ops[x]:=Array.getElem?_eq_getElem hxs;have hsorted:(zd listed T).Pairwise (·< ·):=List.Pairwise.filter _ List.pairwise_lt_range;have:x∈Region.ready .any ops listed:=by
     refine mem_ready.2 ⟨by simpa using hx'.2,ops[x],ho,fun e he hb=>?_⟩
     have hed:zaT ops e.on x=true:=(jt ho).2 ⟨e,he,hb,rfl⟩;have hlt:=jB hB ho _ hed
     cases hg:listed.getD e.on true with
     | true=>exact JZ (by omega) hg
     | false=>
      have hmem:e.on∈zd listed T:=List.mem_filter.2 ⟨List.mem_range.2 (by omega),by simp only[hg,beq_self_eq_true]⟩
      rw[hu]at hmem hsorted
      rcases mC.1 hmem with e1 | e1
      ·omega
      have:=(List.pairwise_cons.1 hsorted).1 _ e1;omega
    rw[hr]at this;cases this
  obtain⟨h0,oj,hoj,hall⟩:=mem_ready.1 hj;have hjs:j<ops.size:=(aS.1 hoj).1;have hdir:∀k,zaT ops k j=true->listed.getD k false=true:=fun k hk=>by
   obtain⟨e,he,hb,rfl⟩:=(jt hoj).1 hk;exact hall e he hb
  have hjT:j<T:=by
   rcases Nat.lt_or_ge j T with h1 | h1
   ·exact h1
   exfalso
   cases hu:zd listed T with
   | nil=>simp[hu]at hl
   | cons x xs=>
    have hx:x∈zd listed T:=by rw[hu];simp
    have hx':=List.mem_filter.1 hx;have hxT:x<T:=List.mem_range.1 hx'.1;have:=qg hc j x j hdir (Zm hB hoj h1 x (by omega))
    rw[qH (by simpa using hx'.2)]at this
    cases this
  have hju:j∈zd listed T:=List.mem_filter.2 ⟨List.mem_range.2 hjT,by simp only[h0,beq_self_eq_true]⟩
  have hnd:(zd listed T).Nodup:=List.Pairwise.filter _ List.nodup_range;have hsorted:(zd listed T).Pairwise (·< ·):=List.Pairwise.filter _ List.pairwise_lt_range;have hcm:=zil.commute hoj hw hsel hS hch (zd listed T) F a hnd hju (fun i hi hij=>by
   have hi':=List.mem_filter.1 hi;have hun:listed.getD i false=false:=qH (by simpa using hi'.2)
   have his:i<ops.size:=by have:=List.mem_range.1 hi'.1;omega
   have hoi:ops[i]? =some ops[i]:=Array.getElem?_eq_getElem his;refine⟨ops[i],hoi,fun hlt=>?_,?_,fun hlt=>?_⟩
   ·rcases Zv hB hoj hjT i hlt with he | ⟨oi,hoi',hap⟩
    ·have:=hdir i he;rw[hun]at this;cases this
    rw[hoi]at hoi';cases hoi';exact hap
   ·cases ha:anc ops 9 i j with
    | false=>rfl
    | true=>
     have:=qg hc 9 i j hdir ha;rw[hun]at this;cases this
   cases ha:anc ops 9 j i with
   | false=>rfl
   | true=>
    have:=zaL hB 9 j i ha
    omega) hsorted h
  have hsz':(listed.setIfInBounds j true).size=ops.size:=by simp[hsz]
  have hout':∀i,T<=i->i<ops.size->(listed.setIfInBounds j true).getD i true=false:=fun i hi hi'=>by rw[getD_set_ne true (by omega)];exact hout i hi hi'
  have hlen':(zd (listed.setIfInBounds j true) T).length=fuel:=by
   rw[qj (by omega)]
   have he:(zd listed T).filter (· != j)=(zd listed T).erase j:=by
    rw[List.Nodup.erase_eq_filter hnd]
   rw[he,List.length_erase_of_mem hju];omega
  have hc':ZX ops (listed.setIfInBounds j true):=fun i k hk hik=>by
   by_cases hkj:j=k
   ·subst hkj;exact getD_set_true (hdir i hik)
   rw[getD_set_ne false hkj]at hk;exact getD_set_true (hc i k hk hik)
  unfold wpOp;simp only[hoj];simp only[zil,jy,hoj]at hcm;rw[<-qj (by omega)]at hcm
  split
  ·rename_i hwant
   simp only[hwant,if_true]at hcm;refine .inl ?_
   cases hs:S j with
   | none=>
    simp only[hs]at hcm;obtain⟨v,hrun,hk⟩:=hcm;have hr:=hrun w hw;unfold Oper.wp;rw[hr];exact ih _ F _ w hsz' hout' hlen' hc' hw hF hk
   | some s=>
    simp only[hs]at hcm;obtain⟨p,hd,hk⟩:=hcm;refine(hd w hw hF).wp fun v w' ⟨hi',hpv,hpost⟩=>?_
    exact ih _ (p v) _ w' hsz' hout' hlen' hc' hi' hpost (hk v hpv)
  rename_i hwant
  simp only[hwant]at hcm;exact ih _ F _ w hsz' hout' hlen' hc' hw hF hcm
end
section
variable{I:World->Prop} {P:Program} {ops:Array Oper} {S:Nat->Option (Value->Prop)} {Q:Act->World->Prop}
variable(I P ops S Q)in
def Q0:List Oper->Nat->(World->Prop)->Act->Prop
 | [],_,F,a=>∀w,I w->F w->Q a w
 | o :: rest,k,F,a=>
  if Region.wanted o (yielded ops a.tmps)then
   match S k with
   | none=>∃v,(∀w,I w->(execOp a.eval o).run P w= .ok (.value v) w)/\Q0 rest (k+1) F (a.put o.dst v)
   | some s=>∃p:Value->World->Prop,(∀w,I w->F w->zL P o a w fun v w'=>I w'/\s v/\p v w')/\∀v,s v->Q0 rest (k+1) (p v) (a.put o.dst v)
  else Q0 rest (k+1) F (a.put o.dst undef)
theorem QE:∀(l:List Oper) (k:Nat) (F:World->Prop) (a:Act),(∀j,l[j]? =ops[k+j]?\/l.length<=j)->Q0 I P ops S Q l k F a->zil I P ops S Q (List.range' k l.length) F a
 | [],_,_,_,_,h=>h
 | o :: l,k,F,a,hl,h=>by
  have h0:ops[k]? =some o:=by
   rcases hl 0 with e | e
   ·simpa using e.symm
   simp at e
  have hnext:∀j,l[j]? =ops[k+1+j]?\/l.length<=j:=fun j=>by
   rcases hl (j+1)with e | e
   ·left;rw[List.getElem?_cons_succ]at e;rw[e];congr 1;omega
   right;simpa using e
  simp only[List.length_cons,List.range'_succ,zil,jy,h0];unfold Q0 at h
  split
  ·rename_i hw
   simp only[hw,if_true]at h
   cases hs:S k with
   | none=>
    simp only[hs]at h;obtain⟨v,h1,h2⟩:=h;exact⟨v,h1,QE l (k+1) _ _ hnext h2⟩
   | some s=>
    simp only[hs]at h;obtain⟨p,hd,hk⟩:=h;exact⟨p,hd,fun v hv=>QE l (k+1) _ _ hnext (hk v hv)⟩
  rename_i hw
  simp only[hw]at h;exact QE l (k+1) _ _ hnext h
variable(I P ops S Q)in
structure za3 (l:List Oper) (k:Nat) (F:World->Prop) (a:Act):Prop where
 out:Q0 I P ops S Q l k F a
theorem zR {id:Nat} {Q:Exit->Act->World->Prop} {a:Act} {w:World} {L l r:List Oper} (T:Nat) (S:List (Nat ×(Value->Prop))) (F:World->Prop) (hI:I w.drew) (hF:F w.drew) (hm:P.follows .mixedOrders=true) (hB:Zw L.toArray T=true) (hl:L.take T=l) (hr:L.drop T=r) (hT:T<=L.length)
  (hS:∀x∈S,∃v,x.2 v) (hch:((S.map (·.1)).all fun i=>(S.map (·.1)).all fun k=>!decide (i<k) || anc L.toArray 9 i k)=true)
  (h:za3 I P L.toArray (fun k=>S.lookup k) (fun a w=>wpList P L.toArray Q r a w) l 0 F a):(Code.region id L.toArray true).wp P Q a w:=by
 have hlook:∀(S:List (Nat ×(Value->Prop))) k s,S.lookup k=some s->∃x∈S,x.2=s/\x.1=k:=by
  intro S
  induction S with
  | nil=>intro k s h;simp at h
  | cons x S ih=>
   intro k s h;rw[List.lookup_cons]at h
   split at h
   ·rename_i he
    exact⟨x,by simp,by simpa using h,by simpa using(by simpa using he:k=x.1).symm⟩
   obtain⟨y,hy,he⟩:=ih k s h;exact⟨y,by simp[hy],he⟩
 have hlT:l.length=T:=by rw[<-hl,List.length_take];omega
 have hrT:r.length=L.length - T:=by rw[<-hr,List.length_drop]
 refine wp_region_any hm ?_;have hu:zd (Array.replicate L.toArray.size false) T=List.range T:=by
  unfold zd;refine List.filter_eq_self.2 fun i hi=>?_
  have:i<T:=by simpa using hi
  simp[show i<L.length by omega]
 have h':=QE (ops:=L.toArray) l 0 _ a (fun j=>by
  rcases Nat.lt_or_ge j T with hj | hj
  ·left;rw[<-hl,List.getElem?_take_of_lt hj];simp
  right;omega) h.out
 rw[hlT,<-List.range_eq_range']at h';have hfin:=zcP (I:=I) (P:=P) (S:=fun k=>S.lookup k) (F:=F) (ops:=L.toArray) (T:=T) (l:=r) (m:=L.length - T) (Q:=fun a w=>wpList P L.toArray Q r a w) (Q':=Q) hB (by simp;omega) hrT (fun j=>by rw[<-hr,List.getElem?_drop];simp) (fun k s hs=>by obtain⟨x,hx,rfl,_⟩:=hlook S k s hs;exact hS x hx) (fun i k hik hi hk=>by
   obtain⟨si,hsi⟩:=Option.ne_none_iff_exists'.1 hi;obtain⟨sk,hsk⟩:=Option.ne_none_iff_exists'.1 hk;obtain⟨x,hx,_,rfl⟩:=hlook S i si hsi;obtain⟨y,hy,_,rfl⟩:=hlook S k sk hsk;have h1:=List.all_eq_true.1 (List.all_eq_true.1 hch x.1 (List.mem_map.2 ⟨x,hx,rfl⟩)) y.1 (List.mem_map.2 ⟨y,hy,rfl⟩)
   simpa [hik]using h1) (fun _ _ h=>h)
  T (Array.replicate L.toArray.size false) a w.drew (by simp) (fun i hi hi'=>by simp at hi';simp[hi']) (by rw[hu];simp) (fun i j hj _=>by
   exfalso;rw[Array.getD_eq_getD_getElem?,Array.getElem?_replicate]at hj
   split at hj <;> simp at hj)
  hI hF (by rw[hu];exact h')
 have hsz:T+(L.length - T)=L.toArray.size:=by simp;omega
 rw[hsz]at hfin;exact hfin
variable{o:Oper} {rest:List Oper} {k:Nat} {F:World->Prop} {a:Act}
theorem zi (ht:zkm o=true) (hw:Region.wanted o (yielded ops a.tmps)=true) (hS:S k=none)
  (h:∀K:Act->Prop,(∀a,za3 I P ops S Q rest (k+1) F a->K a)->o.quiet P a (fun w'=>∃x:zr I,w'=x.world) K):za3 I P ops S Q (o :: rest) k F a:=by
 obtain⟨v,h1,h2⟩:=h _ fun _ h=>h
 constructor;unfold Q0;rw[if_pos hw];simp only[hS];refine⟨v,fun w hg=>?_,h2.out⟩
 have h3:=h1 w ⟨⟨w,hg⟩,rfl⟩;unfold Oper.quietAt at h3;have hne:=fun n w'=>@Ju P o ht a.eval w w' n
 generalize(execOp a.eval o).run P w=r at*
 cases r with
 | ok n w'=>
  cases n <;> simp only[Oper.quietUpon]at h3
  case value u=>rw[h3.1,h3.2]
  case skip=>obtain⟨_,he⟩:=hne _ _ rfl;cases he
  case enter f args=>obtain⟨_,he⟩:=hne _ _ rfl;cases he
 | halt x w'=>simp only[Oper.quietUpon]at h3
theorem jm (hw:Region.wanted o (yielded ops a.tmps)=false) (h:za3 I P ops S Q rest (k+1) F (a.put o.dst undef)):za3 I P ops S Q (o :: rest) k F a:=by
 constructor;unfold Q0;rw[if_neg (by rw[hw];exact Bool.false_ne_true)]
 exact h.out
theorem qA {s:Value->Prop} (hw:Region.wanted o (yielded ops a.tmps)=true) (hS:S k=some s) (p:Value->World->Prop)
  (h:∀w,I w->F w->zL P o a w fun v w'=>I w'/\s v/\p v w')
  (hn:∀v,s v->za3 I P ops S Q rest (k+1) (p v) (a.put o.dst v)):za3 I P ops S Q (o :: rest) k F a:=by
 constructor;unfold Q0;rw[if_pos hw];simp only[hS];exact⟨p,h,fun v hv=>(hn v hv).out⟩
theorem zS (x:Operand) (p:Addr) (ho:o.op= .nilCheck x) (hx:a.eval x= .pointer (some p)) (hw:Region.wanted o (yielded ops a.tmps)=true) (hS:S k=none) (h:za3 I P ops S Q rest (k+1) F (a.put o.dst (.pointer (some p)))):za3 I P ops S Q (o :: rest) k F a:=by
 constructor;unfold Q0;rw[if_pos hw];simp only[hS];exact⟨_,fun w _=>zcW x p ho hx,h.out⟩
theorem ja (h:∀w,I w->F w->Q a w):za3 I P ops S Q [] k F a:=⟨h⟩
end
def ZC (L L':List Int):Prop:=L=[]->L'=[]
theorem ZC.refl (L:List Int):ZC L L:=fun h=>h
theorem ZC.trans {A B C:List Int} (h:ZC A B) (k:ZC B C):ZC A C:=fun e=>k (h e)
theorem zlt:(Tryz.prog.info? 5).map (·.size)=some 1:=by kernel_rfl
theorem zfI {w:World} {ad:Addr} {n c:Nat}:(Instr.sliceAt 24 (.slice (some ad) (n+1) c) (some (.int .i64 1)) none none).run Tryz.prog w= .ok (.slice (some (if c=1 then ad else ad.add 1)) n (c - 1)) w:=by
 have hs:(Go.sizeOf 5).run Tryz.prog w= .ok 1 w:=by
  obtain⟨i0,h1,h2⟩:∃i0,Tryz.prog.info? 5=some i0/\i0.size=1:=by
   have:=zlt
   cases hq:Tryz.prog.info? 5 with
   | none=>rw[hq]at this;cases this
   | some i0=>rw[hq]at this;exact⟨i0,rfl,by simpa using this⟩
  simp[Go.sizeOf,typeInfo,h1,h2]
 have h1:(0:Int)<=1/\(1:Int)<=((n+1:Nat):Int):=by omega
 simp only[Instr.sliceAt,Instr.slice,Instr.sliceBounds,Instr.sliceBound,asIntOf,Sem.run_bind,Sem.run_pure,rA,run_underlying Tryz.underlying24];rw[if_pos h1];simp only[Sem.run_pure,rA,hs]
 by_cases hc:c=1
 ·simp[hc]
 simp[hc]
theorem qk {w0:World} {hi:Nat} {b:Nat} {vl:Sli} {L:List Int} {V:MaV} {m:Ma} {vt:Sli} {T:List (Nat->En)} {w:World} (n:Int) (h:Mk w0 hi w b vl L V m vt T):
  Calls Tryz.prog 43 #[.pointer (some ⟨b,0,none⟩),.int .i64 n] w fun e w'=>∃vl' L' x,e= .returned (.int .i64 x)/\Mk w0 hi w' b vl' L' V m vt T/\w.grownBy w' (some b)/\w'.heap.size=w.heap.size/\0<=x/\(x=0\/x<n)/\(L=[]->x=0)/\ZC L L':=by
 have HM:Hid (Mk w0 hi w b vl L V m vt T):=h;have hbx:=h.box.box;have x0:=hbx.c 0 rfl;have xf:=hbx.f;have hln:=h.lr.n;clear hbx;obtain⟨⟨la,ln,lc⟩,hvl⟩:∃s:Sli,vl=s:=⟨_,rfl⟩;subst hvl;dsimp only at x0 hln HM;clear h
 by_cases h0:ln=0
 ·subst h0;clear hln
  go_enter Tryz.func43,Tryz.ntmps43
  go_wp2;go_ret;exact⟨_,L,0,rfl,HM.out,World.grownBy.rfl' _ _,rfl,Int.le_refl _,.inl rfl,fun _=>rfl,ZC.refl L⟩
 have h0e:((ln:Int) == 0)=false:=by simp;omega
 have h0f:(ln == 0)=false:=by simp[h0]
 by_cases h1:n<1
 ·clear h0 hln
  go_enter Tryz.func43,Tryz.ntmps43
  go_wp2;go_ret;exact⟨_,L,0,rfl,HM.out,World.grownBy.rfl' _ _,rfl,Int.le_refl _,.inl rfl,fun _=>rfl,ZC.refl L⟩
 obtain⟨z,L',rfl⟩:∃z L',L=z :: L':=by
  cases L with
  | nil=>simp at hln;omega
  | cons z L'=>exact⟨z,L',rfl⟩
 have hz:=HM.out.lb z (by simp)
 obtain⟨hz0,hz1⟩:=hz;obtain⟨ad,rfl,hl⟩:=HM.out.lr.rowsAt 0 z rfl;have d0:w.cell? ad=some (.int .u8 z):=by
  have:=hl w HM.out.gr 0 _ rfl;rw[zP]at this
  simpa [byE,Addr.add]using this
 obtain⟨k,rfl⟩:∃k,ln=k+1:=⟨ln - 1,by omega⟩
 have hcap:k+1<=lc:=HM.out.lc;have hrun:=zfI (w:=w) (ad:=ad) (n:=k) (c:=lc);clear h0 hl;have hlt:(0:Int)< ((k+1:Nat):Int):=by omega
 obtain⟨ad',had⟩:∃ad',(if lc=1 then ad else ad.add 1)=ad':=⟨_,rfl⟩;rw[had]at hrun;have HL':Hid (zo byE w0 (.slice (some ad') k (lc - 1)) L'):=show zo _ _ _ _ by
  obtain⟨⟨xa,xc,q1,q2,q3⟩,q4⟩:=HM.out.lr;dsimp only at q1;cases q1;have q5:=q3 ad rfl;refine⟨⟨some ad',lc - 1,rfl,fun h=>(by cases h),fun y hy=>?_⟩,?_⟩
  ·cases hy
   by_cases hc:lc=1
   ·have:L'=[]:=by
     have:L'.length=0:=by omega
     exact eN this
    subst this;intro j u hj
    simp at hj
   rw[if_neg hc]at had;subst had;intro j u hj;rw[zP,Nat.add_comm 1 j];exact q5 (j+1) u (by simpa [byE]using hj)
  have:byE.bytes=1:=rfl;rw[this]at q4⊢
  simp at q4⊢
  omega
 have HBX:Hid (zp (w.setCell ⟨b,0,none⟩ (.slice (some ad') k (lc - 1))) b 98 [.slice (some ad') k (lc - 1),.slice V.f.a V.f.n V.f.c,.int .i64 m.hand,.slice V.s.a V.s.n V.s.c,.slice V.sb.a V.sb.n V.sb.c,.slice V.sq.a V.sq.n V.sq.c,.slice V.db.a V.db.n V.db.c,.slice V.dq.a V.dq.n V.dq.c,.slice V.fl.a V.fl.n V.fl.c,.int .i64 m.cnt,.slice V.ca.a V.ca.n V.ca.c,.slice V.sp.a V.sp.n V.sp.c,.slice vt.a vt.n vt.c]):=HM.out.box.set 0 _;have HGR:Hid (w.grownBy (w.setCell ⟨b,0,none⟩ (.slice (some ad') k (lc - 1))) (some b)):=⟨rfl,rfl,rfl,by simp[World.setCell],fun j _ hj=>Below.heap_setCell _ _ _ _ (fun e=>hj (by rw[e]))⟩
 have HSZ:Hid ((w.setCell ⟨b,0,none⟩ (.slice (some ad') k (lc - 1))).heap.size=w.heap.size):=show _=_ by simp[World.setCell]
 have HMK:Hid (Mk w0 hi (w.setCell ⟨b,0,none⟩ (.slice (some ad') k (lc - 1))) b ⟨some ad',k,lc - 1⟩ L' V m vt T):=show Mk _ _ _ _ _ _ _ _ _ _ from
  ⟨zg HM.out.gr HGR.out HM.out.hb,HM.out.hb,HBX.out,HL'.out,(show k<=lc - 1 by omega),fun y hy=>HM.out.lb y (by simp[hy]),HM.out.rows.var HGR.out HM.out.box (Nat.le_of_eq HSZ.out.symm) (.inl rfl)⟩
 have HX:Hid (0<=z % n/\z % n<n):=show _/\_ from⟨Int.emod_nonneg _ (by omega),Int.emod_lt_of_pos _ (by omega)⟩
 clear hln hcap had
 go_enter Tryz.func43,Tryz.ntmps43
 go_wp2;go_ret;exact⟨_,L',z % n,rfl,HMK.out,HGR.out,HSZ.out,HX.out.1,.inr HX.out.2,fun h=>(by cases h)⟩
theorem zcZ (q:List Int) (i:Nat) (z:Int):pgc (q.set i z)=(pgc q).set i (.int .u8 z):=by
 unfold pgc;rw[List.map_set]
theorem zfL {q:List Int} {i:Nat} {z:Int} (h:q[i]? =some z):(pgc q)[i]? =some (.int .u8 z):=by
 unfold pgc;rw[List.getElem?_map,h];rfl
theorem zlu:(Tryz.prog.info? 67).map (·.size)=some 8:=by kernel_rfl
theorem za8 {w0:World} {hi:Nat} {b:Nat} {vl:Sli} {L:List Int} {V:MaV} {m:Ma} {vt:Sli} {T:List (Nat->En)} {w:World} (h:Mk w0 hi w b vl L V m vt T):
  Calls Tryz.prog 46 #[.pointer (some ⟨b,0,none⟩)] w fun e w'=>∃vl' L' q,e= .returned (.agg (pgc q).toArray)/\q.length=8/\Mk w0 hi w' b vl' L' V m vt T/\w.grownBy w' (some b)/\ZC L L':=by
 have HM:Hid (Mk w0 hi w b vl L V m vt T):=h;obtain⟨W0,hW0⟩:∃W0,(w.alloc (.cells #[.int .u8 0,.int .u8 0,.int .u8 0,.int .u8 0,.int .u8 0,.int .u8 0,.int .u8 0,.int .u8 0] 67)).alloc (.cells #[.int .u8 0,.int .u8 0,.int .u8 0,.int .u8 0,.int .u8 0,.int .u8 0,.int .u8 0,.int .u8 0] 67)=W0:=⟨_,rfl⟩;have HG0:=gD2 hW0
 have X0:Hid (zp W0 w.heap.size 67 (pgc zz)):=show zp _ _ _ _ by rw[<-hW0];exact(zp.top _ (pgc zz) _ rfl).grew (za _ _)
 have Y0:Hid (zp W0 (w.heap.size+1) 67 (pgc zz)):=show zp _ _ _ _ by rw[<-hW0];exact zp.top _ (pgc zz) _ (by simp)
 have HB:Hid (b<w.heap.size):=show _<_ from h.box.box.lt
 have HH:Hid (hi<=w.heap.size):=show _<=_ from h.rows.hw
 have HW0:Hid (_=W0):=hW0;clear hW0 h
 go_enter Tryz.func46,Tryz.ntmps46
 go_upto_region 2 with fail;rw[HW0.out];go_wp2
 go_loopg [5] 8 (fun gg s5 wr=>∃(kk:Nat) (vl':Sli) (L' q:List Int),kk<=8/\8 - kk<=gg/\s5= .int .i64 kk/\Hid (w.grownBy wr (some b))/\Hid (Mk w0 hi wr b vl' L' V m vt T)/\Hid (zp wr w.heap.size 67 (pgc zz))/\Hid (zp wr (w.heap.size+1) 67 (pgc q))/\Hid (q.length=8)/\Hid (ZC L L'))
 case atStart=>exact⟨0,vl,L,zz,nZ _,by omega,rfl,zj0 HG0.out _,HM.out.grew HG0.out,X0.out,Y0.out,(show zz.length=8 from rfl),ZC.refl L⟩
 obtain⟨kk,vl',L',q,hkk,hgg,rfl,BW,MW,XW,YW,QL,LL⟩:=hrel;clear X0 Y0
 by_cases hlt:kk<8
 ·have hltz:(kk:Int)<8:=by omega
  have hpk:=qk 4 MW.out;go_wp2_with fail;refine hpk.mono ?_;clear hpk;rintro e W1 ⟨vl2,L2,x,rfl,mk1,gr1,sz1,x0,x1,xn,ll⟩;have hx4:x<4:=by rcases x1 with h | h <;> omega
  have M1:Hid (Mk w0 hi W1 b vl2 L2 V m vt T):=mk1;have B1:Hid (w.grownBy W1 (some b)):=JY BW.out gr1;have X1:Hid (zp W1 w.heap.size 67 (pgc zz)):=XW.out.beside gr1 (fun g e=>by cases e;have:=HB.out;omega)
  have Y1:Hid (zp W1 (w.heap.size+1) 67 (pgc q)):=YW.out.beside gr1 (fun g e=>by cases e;have:=HB.out;omega)
  have LL1:=dD (LL.out.trans ll);clear mk1 gr1 sz1 x1 xn ll;obtain⟨z,hz⟩:∃z,q[kk]? =some z:=⟨_,gE (by rw[QL.out];exact hlt)⟩
  have y0:=Y1.out.box.c kk (zfL hz);have yf:=Y1.out.box.f;have GS:Hid (W1.grownBy (W1.setCell ⟨w.heap.size+1,kk,none⟩ (.int .u8 x)) (some (w.heap.size+1))):=⟨rfl,rfl,rfl,by simp[World.setCell],fun j _ hj=>Below.heap_setCell _ _ _ _ (fun e=>hj (by rw[e]))⟩
  have Y2:Hid (zp (W1.setCell ⟨w.heap.size+1,kk,none⟩ (.int .u8 x)) (w.heap.size+1) 67 (pgc (q.set kk x))):=show zp _ _ _ _ by rw[zcZ];exact Y1.out.set kk _
  have X2:Hid (zp (W1.setCell ⟨w.heap.size+1,kk,none⟩ (.int .u8 x)) w.heap.size 67 (pgc zz)):=X1.out.beside GS.out (fun g e=>by cases e;omega)
  have M2:Hid (Mk w0 hi (W1.setCell ⟨w.heap.size+1,kk,none⟩ (.int .u8 x)) b vl2 L2 V m vt T):=show Mk _ _ _ _ _ _ _ _ _ _ from
   ⟨zg M1.out.gr GS.out (by have:=bS HM.out.gr;omega),M1.out.hb,M1.out.box.beside GS.out (fun g e=>by cases e;have:=HB.out;omega),M1.out.lr,M1.out.lc,M1.out.lb,M1.out.rows.var GS.out Y1.out (by simp[World.setCell]) (.inr ⟨rfl,by have:=HH.out;omega⟩)⟩
  have B2:Hid (w.grownBy (W1.setCell ⟨w.heap.size+1,kk,none⟩ (.int .u8 x)) (some b)):=show World.grownBy _ _ _ from⟨B1.out.os,B1.out.tape,B1.out.output,by simp[World.setCell];exact B1.out.size,fun j hj hn=>by
   rw[Below.heap_setCell _ _ _ _ (by simp;omega)]
   exact B1.out.block j hj hn⟩
  clear hz;go_wp2
  go_roundg (8 -(kk+1))
  case measure=>omega
  exact⟨kk+1,vl2,L2,q.set kk x,by omega,by omega,by go_num,B2.out,M2.out,X2.out,Y2.out,(show _=_ by rw[List.length_set];exact QL.out),LL1.out⟩
 have hltz:¬(kk:Int)<8:=by omega
 have:kk=8:=by omega
 subst this;have HP:Hid ((pgc q).length=8):=show _=_ by rw[Ja];exact QL.out
 go_wp2_with (first | (refine zG rfl 67 (.tmp 3) rfl (w.heap.size+1) rfl YW.out.box Tryz.underlying67 rfl (by rw[HP.out];exact zlu) ?_) | (refine zQ rfl 67 (.tmp 2) (.tmp 14) rfl w.heap.size rfl (pgc q) rfl XW.out.box (by rw[HP.out];rfl) zlu (Qx q) ?_))
 intro W5 hb5 hg5 sz5;have M5:Hid (Mk w0 hi W5 b vl' L' V m vt T):=show Mk _ _ _ _ _ _ _ _ _ _ from
  ⟨zg MW.out.gr hg5 (bS HM.out.gr),MW.out.hb,MW.out.box.beside hg5 (fun g e=>by cases e;have:=HB.out;omega),MW.out.lr,MW.out.lc,MW.out.lb,MW.out.rows.var hg5 XW.out (Nat.le_of_eq sz5.symm) (.inr ⟨rfl,HH.out⟩)⟩
 have B5:Hid (w.grownBy W5 (some b)):=show World.grownBy _ _ _ from⟨hg5.os.trans BW.out.os,hg5.tape.trans BW.out.tape,hg5.output.trans BW.out.output,nT BW.out.size hg5.size,fun j hj hn=>by
  rw[hg5.block j (Nat.lt_of_lt_of_le hj BW.out.size) (fun e=>by cases e;omega)]
  exact BW.out.block j hj hn⟩
 go_wp2;refine bodyPost_ret (zW rfl _ rfl hb5 Tryz.underlying67 rfl (by rw[HP.out];exact zlu)) rfl ⟨vl',L',q,rfl,QL.out,M5.out,B5.out,LL.out⟩
def Loc (hi p:Nat) (t:TypeId):Prop:=t≠98/\t≠69/\t≠3/\t≠103/\t≠88/\t≠124/\t≠55/\t≠75/\(t=67->hi<=p)
def zn (hi:Nat) (w w':World):Prop:=(∀p t cs,zp w p t cs->Loc hi p t->zp w' p t cs)/\w.heap.size<=w'.heap.size
theorem zn.trans {hi:Nat} {a b c:World} (h:zn hi a b) (k:zn hi b c):zn hi a c:=⟨fun p t cs h1 h2=>k.1 p t cs (h.1 p t cs h1 h2) h2,nT h.2 k.2⟩
theorem zn.grew {hi:Nat} {a b:World} (h:zc a b):zn hi a b:=⟨fun _ _ _ h1 _=>h1.grew h,bS h⟩
theorem zn.kind {hi g:Nat} {w w':World} {cs:Array Value} {t:TypeId} (hg:w.grownBy w' (some g)) (ho:w.heap[g]? =some (.cells cs t (0,0))) (hn:∀p,Loc hi p t->p≠g):zn hi w w':=⟨fun p u ds h1 h2=>h1.beside hg (fun k e=>by
 cases e;intro he;subst he;have h3:w.heap[p]? =some (.cells ds.toArray u (0,0)):=h1;rw[ho]at h3;simp only[Option.some.injEq,Obj.cells.injEq]at h3;obtain⟨_,rfl,_⟩:=h3;exact hn p h2 rfl),hg.size⟩
theorem Mk.keeps {w0 w w':World} {hi b:Nat} {vl:Sli} {L:List Int} {V:MaV} {m:Ma} {vt:Sli} {T:List (Nat->En)} (h:Mk w0 hi w b vl L V m vt T) (hg:w.grownBy w' (some b)):zn hi w w':=zn.kind hg h.box (fun _ hl=>absurd rfl hl.1)
def MkE (w0:World) (hi b:Nat) (w:World) (L:List Int) (V:MaV) (m:Ma) (vt:Sli) (T:List (Nat->En)) (w':World):Prop:=∃vl' L',Mk w0 hi w' b vl' L' V m vt T/\ZC L L'/\zn hi w w'
theorem zj8 {a n:Nat} (h:0<n):((a:Int) %(n:Int))=((a % n:Nat):Int)/\a % n<n:=⟨by omega,Nat.mod_lt _ h⟩
theorem zeb {w0:World} {hi:Nat} {b:Nat} {vl:Sli} {L:List Int} {V:MaV} {m:Ma} {vt:Sli} {T:List (Nat->En)} {w:World} (f:Fr) (h:Mk w0 hi w b vl L V m vt T):
  Calls Tryz.prog 135 #[.pointer (some ⟨b,0,none⟩),.agg (frv f).toArray] w fun e w'=>(e= .returned (.int .i64 (-1))/\MkE w0 hi b w L V m vt T w')\/∃(j:Nat) (q:Fr),e= .returned (.int .i64 (j:Int))/\m.fs[j]? =some q/\q.r=0/\MkE w0 hi b w L V { m with fs:=m.fs.set j f } vt T w':=by
 have HM:Hid (Mk w0 hi w b vl L V m vt T):=h;obtain⟨W0,hW0⟩:∃W0,w.alloc (.cells #[.int .u8 f.p.b0,.int .u8 f.p.b1,.int .u8 f.p.b2,.int .u8 f.p.b3,.int .u8 f.p.b4,.int .u8 f.p.b5,.int .u8 f.p.b6,.int .u8 f.p.b7,.int .i64 f.r,.bool f.u,.bool f.d,.int .i64 f.f,.int .i64 f.x] 69)=W0:=⟨_,rfl⟩;have HG0:=gA hW0
 have X0:Hid (zp W0 w.heap.size 69 (frv f)):=show zp _ _ _ _ by rw[<-hW0];exact zp.top _ (frv f) _ rfl
 have M0:Hid (Mk w0 hi W0 b vl L V m vt T):=h.grew HG0.out;have HNF:Hid (V.f.n=m.fs.length):=h.rows.fs.n;have hbig:V.f.n<=140737488355328:=by
  have h1:=h.rows.fs.2;have h40:Jx.bytes=40:=rfl;rw[h40]at h1;have:=h.rows.fs.n;omega
 have HB:Hid (b<w.heap.size):=show _<_ from h.box.box.lt
 have HFG:Hid (∀g,(Value.slice V.f.a V.f.n V.f.c).ownBlock=some g->g<w.heap.size):=show∀g,_ from fun g hg=>(h.rows.fs.lt g hg).2
 have HW0:Hid (_=W0):=hW0;clear hW0 h
 go_enter Tryz.func135,Tryz.ntmps135
 go_upto_region 1 with fail;have hw:w.alloc (.cells (frv f).toArray 69)=W0:=HW0.out;try rw[hw]
 try rw[HW0.out]
 clear hw;have x1:=M0.out.box.box.c 1 rfl;go_upto_region 2 with fail;clear x1;obtain⟨n,HN⟩:∃n,Hid (V.f.n=n):=⟨_,rfl⟩;rw[HN.out]at hbig⊢;have hpk:=qk (n:Int) M0.out;go_wp2_with fail;refine hpk.mono ?_;clear hpk;rintro e W1 ⟨vl1,L1,x,rfl,mk1,gr1,sz1,x0,x1,xn,ll⟩;obtain⟨fr,rfl⟩:∃fr:Nat,x=(fr:Int):=⟨x.toNat,by omega⟩
 have hfr:fr<=n:=by rcases x1 with h | h <;> omega
 have M1:Hid (Mk w0 hi W1 b vl1 L1 V m vt T):=mk1;have K1:Hid (zn hi w W1):=(zn.grew HG0.out).trans (M0.out.keeps gr1);have X1:Hid (zp W1 w.heap.size 69 (frv f)):=X0.out.beside gr1 (fun g e=>by cases e;have:=HB.out;omega)
 have LL1:Hid (ZC L L1):=ll;clear mk1 gr1 sz1 x1 xn ll x0 M0 X0;go_wp2
 go_loopg [20] n (fun gg s20 wr=>∃i:Nat,i<=n/\n - i<=gg/\s20= .int .i64 i/\wr=W1)
 case atStart=>exact⟨0,nZ _,by omega,rfl,rfl⟩
 obtain⟨i,hi',hgg,rfl,rfl⟩:=hrel
 by_cases hlt:i<n
 ·have hltz:(i:Int)< (n:Int):=by omega
  have hn0:¬(n:Int)=0:=by omega
  have hn1:((n:Int) == 0)=false:=by simp;omega
  obtain⟨j,hj⟩:∃j:Nat,(fr+i) % n=j:=⟨_,rfl⟩;have hjm:((fr:Int)+(i:Int)) %(n:Int)=(j:Int):=by
   rw[<-hj];have:=(zj8 (a:=fr+i) (n:=n) (by omega)).1
   rw[<-this];rfl
  have hjn:j<n:=by rw[<-hj];exact Nat.mod_lt _ (by omega)
  have hjz:(j:Int)< (n:Int):=by omega
  clear hj;obtain⟨q,HQ⟩:∃q,Hid (m.fs[j]? =some q):=⟨_,gE (by rw[<-HNF.out,HN.out];exact hjn)⟩
  obtain⟨g,c',heq⟩:=M1.out.rows.fs.formS (by rw[<-HNF.out,HN.out];omega)
  have hfl:m.fs.length=n:=by rw[<-HNF.out,HN.out]
  rw[hfl]at heq;have HEQ:Hid (Value.slice V.f.a V.f.n V.f.c= .slice (some ⟨g,0,none⟩) n c'):=heq;have x1:=M1.out.box.box.c 1 rfl;rw[HEQ.out]at x1;have hrw:=M1.out.rows.fs;rw[HEQ.out]at hrw;have HRW:Hid (zb Jx w0.heap.size wr (.slice (some ⟨g,0,none⟩) n c') m.fs):=hrw;have HGL:Hid (g<w.heap.size):=HFG.out g (by rw[HEQ.out];rfl)
  have hce:=hrw.one HQ.out;have d8:wr.cell? ⟨g,j*13+8,none⟩=some (.int .i64 q.r):=by
   have:=hce 8 _ rfl;rw[zP,Addr.add_lit,zA]at this;exact this
  clear hce hrw heq hfl
  by_cases hr:q.r=0
  ·have hre:(q.r == 0)=true:=by simp[hr]
   have HR0:Hid (q.r=0):=hr;clear hr;go_upto_region 8 with fail;clear d8;obtain⟨I,hI⟩:∃I:World->Prop,I=fun u=>zc wr u:=⟨_,rfl⟩
   have HI:Hid (∀u,I u↔zc wr u):=show∀u,_ from fun u=>by rw[hI]
   clear hI;have hI0:I wr.drew:=(HI.out _).2 (gW _)
   have hx1:∀y:zr I,y.world.cell? ⟨b,1,none⟩=some (.slice (some ⟨g,0,none⟩) n c'):=fun y=>by rw[<-HEQ.out];exact(M1.out.box.box.grew ((HI.out _).1 y.holds)).c 1 rfl
   have hf0:∀y:zr I,y.world.cell? ⟨w.heap.size,0,none⟩=some (.int .u8 f.p.b0):=fun y=>(X1.out.box.grew ((HI.out _).1 y.holds)).c 0 rfl
   have hf1:∀y:zr I,y.world.cell? ⟨w.heap.size,1,none⟩=some (.int .u8 f.p.b1):=fun y=>(X1.out.box.grew ((HI.out _).1 y.holds)).c 1 rfl
   have hf2:∀y:zr I,y.world.cell? ⟨w.heap.size,2,none⟩=some (.int .u8 f.p.b2):=fun y=>(X1.out.box.grew ((HI.out _).1 y.holds)).c 2 rfl
   have hf3:∀y:zr I,y.world.cell? ⟨w.heap.size,3,none⟩=some (.int .u8 f.p.b3):=fun y=>(X1.out.box.grew ((HI.out _).1 y.holds)).c 3 rfl
   have hf4:∀y:zr I,y.world.cell? ⟨w.heap.size,4,none⟩=some (.int .u8 f.p.b4):=fun y=>(X1.out.box.grew ((HI.out _).1 y.holds)).c 4 rfl
   have hf5:∀y:zr I,y.world.cell? ⟨w.heap.size,5,none⟩=some (.int .u8 f.p.b5):=fun y=>(X1.out.box.grew ((HI.out _).1 y.holds)).c 5 rfl
   have hf6:∀y:zr I,y.world.cell? ⟨w.heap.size,6,none⟩=some (.int .u8 f.p.b6):=fun y=>(X1.out.box.grew ((HI.out _).1 y.holds)).c 6 rfl
   have hf7:∀y:zr I,y.world.cell? ⟨w.heap.size,7,none⟩=some (.int .u8 f.p.b7):=fun y=>(X1.out.box.grew ((HI.out _).1 y.holds)).c 7 rfl
   have hf8:∀y:zr I,y.world.cell? ⟨w.heap.size,8,none⟩=some (.int .i64 f.r):=fun y=>(X1.out.box.grew ((HI.out _).1 y.holds)).c 8 rfl
   have hf9:∀y:zr I,y.world.cell? ⟨w.heap.size,9,none⟩=some (.bool f.u):=fun y=>(X1.out.box.grew ((HI.out _).1 y.holds)).c 9 rfl
   have hf10:∀y:zr I,y.world.cell? ⟨w.heap.size,10,none⟩=some (.bool f.d):=fun y=>(X1.out.box.grew ((HI.out _).1 y.holds)).c 10 rfl
   have hf11:∀y:zr I,y.world.cell? ⟨w.heap.size,11,none⟩=some (.int .i64 f.f):=fun y=>(X1.out.box.grew ((HI.out _).1 y.holds)).c 11 rfl
   have hf12:∀y:zr I,y.world.cell? ⟨w.heap.size,12,none⟩=some (.int .i64 f.x):=fun y=>(X1.out.box.grew ((HI.out _).1 y.holds)).c 12 rfl
   have hne:Nonempty (zr I):=⟨⟨_,hI0⟩⟩;refine ZM (I:=I) 9 [] hI0 qy (by kernel_rfl) rfl rfl (by decide) (by simp) (by kernel_rfl) ?_
   simp only[List.take,List.drop];iterate 1 (refine qw rfl rfl rfl (fun K hK=>?_);go_big_quiet_op;refine hK _ ?_;clear hK K)
   refine zbB (.tmp 39) ⟨b,0,none⟩ rfl rfl rfl rfl ?_;simp only[Act.put,sB,sS,sZ];iterate 7 (refine qw rfl rfl rfl (fun K hK=>?_);go_big_quiet_op;refine hK _ ?_;clear hK K)
   refine za9 fun W2 hI2 hF=>?_
   have hg2:=(HI.out _).1 hI2;have M2:=dD (M1.out.grew hg2);have R2:=dD (HRW.out.grew hg2);have K2:=dD (K1.out.trans (zn.grew hg2));clear hg2 hI2 hF hx1 hf0 hf1 hf2 hf3 hf4 hf5 hf6 hf7 hf8 hf9 hf10 hf11 hf12 hne hI0;refine QN (E:=Jx) rfl (.tmp 47) (.tmp 46) rfl w0.heap.size _ m.fs R2.out g j rfl f (by rw[<-HNF.out,HN.out];exact hjn) ⟨g,j*13,none⟩ rfl rfl (.agg (frv f).toArray) rfl rfl ?_
   intro W3 ow3 gr3 sz3;have M3:Hid (Mk w0 hi W3 b vl1 L1 V { m with fs:=m.fs.set j f } vt T):=show Mk _ _ _ _ _ _ _ _ _ _ by
    have hob:(Value.slice V.f.a V.f.n V.f.c).ownBlock=some g:=by rw[HEQ.out];rfl
    have h2:=M2.out;refine⟨zg h2.gr gr3 (R2.out.lt g rfl).1,h2.hb,h2.box.beside gr3 (fun k e=>?_),h2.lr,h2.lc,h2.lb,h2.rows.setF hob gr3 sz3 (by rw[HEQ.out];exact ow3)⟩
    cases e;exact R2.out.ne h2.box (by decide) g rfl
   have K3:Hid (zn hi w W3):=show zn _ _ _ by
    obtain⟨cs,hcs⟩:=R2.out.obj (g:=g) rfl;exact K2.out.trans (zn.kind gr3 hcs (fun _ hl=>absurd rfl hl.2.1))
   clear ow3 gr3 sz3;go_wp2;go_ret;exact .inr ⟨j,q,rfl,HQ.out,HR0.out,vl1,L1,M3.out,LL1.out,K3.out⟩
  have hre:(q.r == 0)=false:=by simp[hr]
  clear hr;go_wp2
  go_roundg (n -(i+1))
  case measure=>omega
  exact⟨i+1,by omega,by omega,by go_num,rfl⟩
 have hltz:¬(i:Int)< (n:Int):=by omega
 go_wp2;go_ret;exact .inl ⟨rfl,vl1,L1,M1.out,LL1.out,K1.out⟩
theorem ze3 {ps:List (List Int)} {i:Nat} {l:List Int} (h:∀p∈ps,p.length=8) (hl:l.length=8):∀p∈ps.set i l,p.length=8:=fun p hp=>by
 rcases List.mem_or_eq_of_mem_set hp with h1 | h1
 ·exact h p h1
 rw[h1];exact hl
theorem jb {w:World} {ops:Array Oper} {rest:List Oper} {o:Oper} {a:Act} {Q:Exit->Act->World->Prop} (hgd:o.guard=none) (p x:Operand) (ho:o.op= .store 67 p x)
  (base:Nat) (v:Value) (ps:List (List Int)) (hown:zj base w v ps) (g i:Nat) (hg:v.ownBlock=some g) (hi:i<ps.length) (l:List Int) (hl:l.length=8)
  (ad:Addr) (hp:a.eval p= .pointer (some ad)) (had:ad=⟨g,i*8,none⟩) (hx:a.eval x= .agg (pgc l).toArray)
  (h:∀w',zj base w' v (ps.set i l)->w.grownBy w' (some g)->w'.heap.size=w.heap.size->wpList Tryz.prog ops Q rest (a.put o.dst undef) w'):wpList Tryz.prog ops Q (o :: rest) a w:=by
 refine zaY hgd p x 67 ho 8 (by kernel_rfl) base v ps.length _ hown.1 g i hg hi (pgc l) (by rw[Ja,hl]) (Qx l) ad hp had hx fun w' h1 h2 h3=>?_
 rw[Qg l (by rw[Ja,hl]) ps i (fun b hb=>by rw[Ja,hown.2.1 b hb]) hi]at h1
 refine h w' ⟨by rw[List.length_set];exact h1,ze3 hown.2.1 hl,by rw[List.length_set];exact hown.2.2⟩ h2 h3
def qn (keep : Nat -> Bool) : List (Int × List Int) -> Nat -> List (List Int) -> List (List Int)
  | [], _, ps => ps
  | q :: r, j, ps => qn keep r (j + 1) (if keep j then ps.set q.1.toNat q.2 else ps)
def Qd (keep : Nat -> Bool) (ps : List (List Int)) (qs : List (Int × List Int)) : List (List Int) := if zy ps.length qs = 0 then qn keep qs 0 ps else []
def zfx (g : Nat) (lb : Array Value) (keep : Nat -> Bool) (w : World) : Prop :=
  ∀ W (j : Nat), zc w W -> j <= 400 -> Calls Tryz.prog g (#[.int .i64 (j : Int)] ++ lb) W fun e W' => e = .returned (.bool (keep j)) /\ zc W W'
theorem zbh {n : Nat} {qs : List (Int × List Int)} (h : zy n qs = 0) : n <= 80 /\ qs.length <= 400 /\ ∀ q ∈ qs, ∃ i : Nat, q.1 = (i : Int) /\ i < n := by
  unfold zy at h
  by_cases h1 : 80 < n
  · rw [if_pos h1] at h; omega
  · rw [if_neg h1] at h
    by_cases h2 : 400 < qs.length
    · rw [if_pos h2] at h; omega
    · rw [if_neg h2] at h
      by_cases h3 : (qs.any fun q => !jx q.1 n) = true
      · rw [if_pos h3] at h; omega
      · refine ⟨by omega, by omega, fun q hq => ?_⟩
        have h4 : jx q.1 n = true := by
          cases hb : jx q.1 n with
          | true => rfl
          | false => exact absurd (List.any_eq_true.2 ⟨q, hq, by simp [hb]⟩) h3
        unfold jx at h4
        simp at h4
        obtain ⟨i, hi⟩ := Int.eq_ofNat_of_zero_le h4.1
        exact ⟨i, hi, by omega⟩
theorem zc3 (base : Nat) (w : World) : qM base w (.agg #[.slice none 0 0, .slice none 0 0]) [] [] :=
  ⟨_, _, rfl, ⟨⟨none, 0, rfl, fun _ => rfl, fun x hx => by cases hx⟩, by simp, by simp⟩, ⟨⟨none, 0, rfl, fun _ => rfl, fun x hx => by cases hx⟩, by simp, by simp⟩, jJ _, jJ _⟩
theorem ze2 (w : World) : qK w (.slice none 0 0) [] := ⟨⟨none, 0, rfl, fun _ => rfl, fun x hx => by cases hx⟩, by simp, by simp⟩
theorem zgf (keep : Nat -> Bool) (g : Nat) (lb : Array Value) (eg : ∀ args w, (callFunc g args).run Tryz.prog w = .ok (.enter g args) w) (d : Value) (ps : List (List Int)) (qs : List (Int × List Int)) (w : World) (hd : ZD w d ps qs) (hs : zfx g lb keep w) :
    Calls Tryz.prog 124 #[d, .func (.func g) #[] lb] w fun e w' => ∃ d', e = .returned (.tuple #[d', .int .i64 (zy ps.length qs)]) /\ qM w.heap.size w' d' (Qd keep ps qs) [] /\ zc w w' := by
  obtain ⟨b, q, rfl, hb, hq⟩ := hd
  have HB : Hid (qt w b ps) := hb
  have HQ : Hid (qK w q qs) := hq
  have HS : Hid (zfx g lb keep w) := hs
  obtain ⟨ab, cb, rfl, _⟩ := hb.rows
  obtain ⟨aq, cq, rfl, hrow⟩ := hq.rows
  have HR : Hid (ZA w aq qs) := hrow
  clear hb hq hs hrow
  have HK : Hid (Qd keep ps qs = if zy ps.length qs = 0 then qn keep qs 0 ps else []) := rfl
  obtain ⟨nb, HNB⟩ : ∃ nb, Hid (ps.length = nb) := ⟨_, rfl⟩
  obtain ⟨nq, HNQ⟩ : ∃ nq, Hid (qs.length = nq) := ⟨_, rfl⟩
  have hcon : ∀ W, zc w W -> Calls Tryz.prog 158 #[.agg #[.slice ab nb cb, .slice aq nq cq]] W fun e w' => e = .returned (.int .i64 (zy ps.length qs)) /\ zc W w' := fun W hW => by
    rw [<- HNB.out, <- HNQ.out]
    exact zbe ab ps.length cb _ qs W (HQ.out.grew hW)
  have hclone : ∀ W, zc w W -> Calls Tryz.prog 109 #[.slice ab nb cb] W fun e w' => ∃ v', e = .returned v' /\ zj W.heap.size w' v' ps /\ zc W w' := fun W hW => by
    rw [<- HNB.out]
    exact JM _ ps W (HB.out.grew hW)
  rw [HNB.out, HNQ.out]
  obtain ⟨r, HW⟩ : ∃ r, Hid (zy ps.length qs = r) := ⟨_, rfl⟩
  rw [HW.out] at HK
  simp only [HW.out] at hcon
  have HW' : Hid (zy nb qs = r) := show zy nb qs = r by rw [<- HNB.out]; exact HW.out
  rw [HW'.out]
  have HG0 : Hid (zc w ((w.alloc (.cells #[.slice ab nb cb, .slice aq nq cq] 34)).alloc (.cells #[.slice none 0 0, .slice none 0 0] 34))) := show zc _ _ from (za _ _).trans (za _ _)
  by_cases hr : r = 0
  · subst hr
    rw [if_pos rfl] at HK
    obtain ⟨hn80, hq400, hin⟩ := zbh HW.out
    have HIN : Hid (∀ q ∈ qs, ∃ i : Nat, q.1 = (i : Int) /\ i < ps.length) := hin
    have hnq : nq <= 400 := by rw [<- HNQ.out]; exact hq400
    clear hin hq400 hn80
    go_enter Tryz.func124, Tryz.ntmps124
    go_wp2_with (first
      | (go_at_call 158; refine (hcon _ HG0.out).mono ?_; rintro e W1 ⟨rfl, hg1⟩; have e0 : W1.cell? ⟨w.heap.size, 0, none⟩ = some (.slice ab nb cb) := (Below.cell hg1 (by simp; omega)).trans (by simp); have e1 : W1.cell? ⟨w.heap.size, 1, none⟩ = some (.slice aq nq cq) := (Below.cell hg1 (by simp; omega)).trans (by simp); have HG1 : Hid (zc w W1) := HG0.out.trans hg1)
      | (go_at_call 109; refine (hclone _ HG1.out).mono ?_; rintro e W2 ⟨v, rfl, ow, hg2⟩; have j1 : W2.cell? ⟨w.heap.size, 1, none⟩ = some (.slice aq nq cq) := (Below.cell hg2 (World.block_lt_of_cell? _ _ e1)).trans e1; have OW : Hid (zj W1.heap.size W2 v ps) := ow; have HG2 : Hid (zc w W2) := HG1.out.trans hg2))
    have HS1 : Hid (w.heap.size + 2 <= W1.heap.size) := show _ <= _ by have := Below.size hg1; simpa using this
    have HS2 : Hid (W1.heap.size <= W2.heap.size) := Below.size hg2
    have c2 : W2.cell? ⟨w.heap.size + 1, 0, none⟩ = some (.slice none 0 0) := (Below.cell (hg1.trans hg2) (by simp)).trans (by simp)
    have c3 : W2.cell? ⟨w.heap.size + 1, 1, none⟩ = some (.slice none 0 0) := (Below.cell (hg1.trans hg2) (by simp)).trans (by simp)
    have f2 : W2.frozen? ⟨w.heap.size + 1, 0, none⟩ = false := (Below.frozen (hg1.trans hg2) (by simp)).trans (by simp)
    have f3 : W2.frozen? ⟨w.heap.size + 1, 1, none⟩ = false := (Below.frozen (hg1.trans hg2) (by simp)).trans (by simp)
    have C2 : Hid (W2.cell? ⟨w.heap.size + 1, 0, none⟩ = some (.slice none 0 0)) := c2
    have C3 : Hid (W2.cell? ⟨w.heap.size + 1, 1, none⟩ = some (.slice none 0 0)) := c3
    have F2 : Hid (W2.frozen? ⟨w.heap.size + 1, 0, none⟩ = false) := f2
    have F3 : Hid (W2.frozen? ⟨w.heap.size + 1, 1, none⟩ = false) := f3
    have HL : Hid (∀ (j : Nat) q, qs[j]? = some q -> qs.drop j = q :: qs.drop (j + 1)) := show ∀ (j : Nat) q, _ from fun j q h => by
      obtain ⟨hlt, rfl⟩ := List.getElem?_eq_some_iff.1 h
      exact List.drop_eq_getElem_cons hlt
    clear e0 e1 j1 hg1 hg2 c2 c3 f2 f3 hcon hclone ow
    go_loopg [8, 9, 22] nq (fun gg _ _ s22 wr => ∃ (kk : Nat) (pk : List (List Int)), kk <= nq /\ nq - kk <= gg /\ s22 = .int .i64 kk /\ Hid (Below W1.heap.size W2 wr) /\ Hid (zj W1.heap.size wr v pk) /\ Hid (pk.length = nb) /\ Hid (qn keep (qs.drop kk) kk pk = qn keep qs 0 ps))
    case atStart => exact ⟨0, ps, Nat.zero_le _, by omega, rfl, Below.refl _ _, OW.out, HNB.out, rfl⟩
    case round =>
      obtain ⟨kk, pk, hkk, hgg, rfl, BW, OP, HP, HST⟩ := hrel
      have GW : Hid (zc w wr) := show zc w wr from Below.trans HG2.out (BW.out.mono (by have := HS1.out; omega))
      by_cases hlt : kk < nq
      · have hltz : (kk : Int) < (nq : Int) := by omega
        obtain ⟨q, HQK⟩ : ∃ q, Hid (qs[kk]? = some q) := ⟨_, List.getElem?_eq_getElem (by rw [HNQ.out]; exact hlt)⟩
        obtain ⟨x, m, b0, b1, b2, b3, b4, b5, b6, b7, rfl, rfl, hl⟩ := HR.out kk q HQK.out
        obtain ⟨d0, d1, d2, d3, d4, d5, d6, d7, d8⟩ := hl wr GW.out
        obtain ⟨i, hmi, hi⟩ := HIN.out _ (List.mem_of_getElem? HQK.out)
        simp only at hmi
        subst hmi
        have hinb : i < nb := by rw [<- HNB.out]; exact hi
        have hib : (i : Int) < (nb : Int) := by omega
        have hi0 : (0 : Int) <= (i : Int) := by omega
        have hcall := HS.out (wr.alloc (.cells #[.int .i64 (i : Int), .int .u8 b0, .int .u8 b1, .int .u8 b2, .int .u8 b3, .int .u8 b4, .int .u8 b5, .int .u8 b6, .int .u8 b7] 103)) kk (GW.out.trans (za _ _)) (by omega)
        have hnext := HL.out kk _ HQK.out
        have HN : Hid (qs.drop kk = ((i : Int), [b0, b1, b2, b3, b4, b5, b6, b7]) :: qs.drop (kk + 1)) := hnext
        clear hl hnext hi
        obtain ⟨gv, cap, rfl, hgv⟩ : ∃ gv cap, v = .slice (some ⟨gv, 0, none⟩) nb cap /\ W1.heap.size <= gv := by
          rcases OP.out.1.2 with ⟨_, h0⟩ | ⟨gv, cap, cur, h0, h1, _⟩
          · have := HP.out; omega
          · exact ⟨gv, cap, by rw [h0, HP.out], h1⟩
        have HGV : Hid (W1.heap.size <= gv) := hgv
        clear hgv
        cases hk : keep kk with
        | true =>
          rw [hk] at hcall
          go_wp2_with (first
            | (go_at_fn g; refine hcall.mono ?_; rintro e W3 ⟨rfl, hg3⟩
               have a0 : W3.cell? ⟨wr.heap.size, 0, none⟩ = some (.int .i64 (i : Int)) := (Below.cell hg3 (by simp)).trans (by simp)
               have a1 : W3.cell? ⟨wr.heap.size, 1, none⟩ = some (.int .u8 b0) := (Below.cell hg3 (by simp)).trans (by simp)
               have a2 : W3.cell? ⟨wr.heap.size, 2, none⟩ = some (.int .u8 b1) := (Below.cell hg3 (by simp)).trans (by simp)
               have a3 : W3.cell? ⟨wr.heap.size, 3, none⟩ = some (.int .u8 b2) := (Below.cell hg3 (by simp)).trans (by simp)
               have a4 : W3.cell? ⟨wr.heap.size, 4, none⟩ = some (.int .u8 b3) := (Below.cell hg3 (by simp)).trans (by simp)
               have a5 : W3.cell? ⟨wr.heap.size, 5, none⟩ = some (.int .u8 b4) := (Below.cell hg3 (by simp)).trans (by simp)
               have a6 : W3.cell? ⟨wr.heap.size, 6, none⟩ = some (.int .u8 b5) := (Below.cell hg3 (by simp)).trans (by simp)
               have a7 : W3.cell? ⟨wr.heap.size, 7, none⟩ = some (.int .u8 b6) := (Below.cell hg3 (by simp)).trans (by simp)
               have a8 : W3.cell? ⟨wr.heap.size, 8, none⟩ = some (.int .u8 b7) := (Below.cell hg3 (by simp)).trans (by simp)
               have OP3 : Hid (zj W1.heap.size W3 (.slice (some ⟨gv, 0, none⟩) nb cap) pk) := OP.out.grew ((za _ _).trans hg3))
            | (refine jb rfl (.tmp 35) (.tmp 34) rfl W1.heap.size _ pk OP3.out gv i rfl (by rw [HP.out]; exact hinb) [b0, b1, b2, b3, b4, b5, b6, b7] rfl _ rfl (by simp) rfl ?_; intro W4 ow4 gr4 sz4))
          go_roundg (nq - (kk + 1))
          case measure => omega
          case rel =>
            refine ⟨kk + 1, pk.set i [b0, b1, b2, b3, b4, b5, b6, b7], by omega, by omega, by go_num, ?_, ow4, (show Hid _ from by rw [List.length_set]; exact HP.out), ?_⟩
            · exact Below.grown (zdq BW.out (by have := BW.out.size; have := HS2.out; omega) ((za _ _).trans hg3)) gr4 (by have := BW.out.size; have := HS2.out; have := Below.size ((za wr _).trans hg3); omega) (fun k hk => by cases hk; exact HGV.out)
            · show qn keep (qs.drop (kk + 1)) (kk + 1) (pk.set i _) = _
              rw [<- HST.out, HN.out]
              simp [qn, hk]
        | false =>
          rw [hk] at hcall
          go_wp2_with (go_at_fn g; refine hcall.mono ?_; rintro e W3 ⟨rfl, hg3⟩)
          go_roundg (nq - (kk + 1))
          case measure => omega
          case rel =>
            refine ⟨kk + 1, pk, by omega, by omega, by go_num, ?_, OP.out.grew ((za _ _).trans hg3), HP.out, ?_⟩
            · exact zdq BW.out (by have := BW.out.size; have := HS2.out; omega) ((za _ _).trans hg3)
            · show qn keep (qs.drop (kk + 1)) (kk + 1) pk = _
              rw [<- HST.out, HN.out]
              simp [qn, hk]
      · have hltz : ¬ (kk : Int) < (nq : Int) := by omega
        have : kk = nq := by omega
        subst this
        have c2 : wr.cell? ⟨w.heap.size + 1, 0, none⟩ = some (.slice none 0 0) := (Below.cell BW.out (p := ⟨w.heap.size + 1, 0, none⟩) (by have := HS1.out; show w.heap.size + 1 < _; omega)).trans C2.out
        have c3 : wr.cell? ⟨w.heap.size + 1, 1, none⟩ = some (.slice none 0 0) := (Below.cell BW.out (p := ⟨w.heap.size + 1, 1, none⟩) (by have := HS1.out; show w.heap.size + 1 < _; omega)).trans C3.out
        have f2 : wr.frozen? ⟨w.heap.size + 1, 0, none⟩ = false := (Below.frozen BW.out (p := ⟨w.heap.size + 1, 0, none⟩) (by have := HS1.out; show w.heap.size + 1 < _; omega)).trans F2.out
        have f3 : wr.frozen? ⟨w.heap.size + 1, 1, none⟩ = false := (Below.frozen BW.out (p := ⟨w.heap.size + 1, 1, none⟩) (by have := HS1.out; show w.heap.size + 1 < _; omega)).trans F3.out
        obtain ⟨av, nv, cv, rfl⟩ := OP.out.slice
        go_wp2
        refine bodyPost_ret (v := .tuple #[.agg #[.slice av nv cv, .slice none 0 0], .int .i64 0]) (by simp [results, Tryz.results124, go_sem, *]) rfl ⟨_, rfl, ⟨_, _, rfl, ?_, ze2 _, fun x n c e => Nat.le_trans (by have := HS1.out; omega) (OP.out.fresh x n c e), jJ _⟩, ?_⟩
        · rw [HK.out]
          have e : qn keep qs 0 ps = pk := by
            rw [<- HST.out, List.drop_of_length_le (by rw [HNQ.out]; exact Nat.le_refl _)]
            rfl
          rw [e]
          exact ((OP.out.setCell (by have := HS1.out; show w.heap.size + 1 < _; omega) _).setCell (by have := HS1.out; show w.heap.size + 1 < _; omega) _).at
        · exact Below.setCell (Below.setCell GW.out (p := ⟨w.heap.size + 1, 0, none⟩) (by simp) _) (p := ⟨w.heap.size + 1, 1, none⟩) (by simp) _
  · have hne : (r != 0) = true := by simpa using hr
    rw [if_neg hr] at HK
    go_enter Tryz.func124, Tryz.ntmps124
    go_wp2_with (go_at_call 158; refine (hcon _ HG0.out).mono ?_; rintro e W1 ⟨rfl, hg1⟩
                 have c2 : W1.cell? ⟨w.heap.size + 1, 0, none⟩ = some (.slice none 0 0) := (Below.cell hg1 (by simp)).trans (by simp)
                 have c3 : W1.cell? ⟨w.heap.size + 1, 1, none⟩ = some (.slice none 0 0) := (Below.cell hg1 (by simp)).trans (by simp)
                 have f2 : W1.frozen? ⟨w.heap.size + 1, 0, none⟩ = false := (Below.frozen hg1 (by simp)).trans (by simp)
                 have f3 : W1.frozen? ⟨w.heap.size + 1, 1, none⟩ = false := (Below.frozen hg1 (by simp)).trans (by simp)
                 have HG1 : Hid (zc w W1) := HG0.out.trans hg1)
    refine bodyPost_ret (v := .tuple #[.agg #[.slice none 0 0, .slice none 0 0], .int .i64 r]) (by simp [results, Tryz.results124, go_sem, *]) rfl ⟨_, rfl, ?_, ?_⟩
    · rw [HK.out]
      exact zc3 _ _
    · exact Below.setCell (Below.setCell HG1.out (p := ⟨w.heap.size + 1, 0, none⟩) (by simp) _) (p := ⟨w.heap.size + 1, 1, none⟩) (by simp) _
def ZT (n:Int):Int:=if 0<=n/\n<=80 then 0 else 4
def zex (n:Int):List (List Int):=if 0<=n/\n<=80 then List.replicate n.toNat zz else []
theorem zco (n:Nat):(madeCells #[.int .u8 0,.int .u8 0,.int .u8 0,.int .u8 0,.int .u8 0,.int .u8 0,.int .u8 0,.int .u8 0] (n*8)).toList=(List.replicate n zz).flatMap pgc:=by
 have hl:((List.replicate n zz).flatMap pgc).length=n*8:=by rw[qI (k:=8) _ (fun a ha=>by rw[List.eq_of_mem_replicate ha];rfl)];simp
 apply List.ext_getElem?
 intro j
 rcases Nat.lt_or_ge j (n*8)with h | h
 ·have hj:j=j / 8*8+j % 8:=by omega
  have h8:j % 8<8:=Nat.mod_lt _ (by decide)
  have hq:j / 8<n:=by omega
  have hz:(pgc zz)[j % 8]? =some (.int .u8 0):=by
   generalize j % 8=k at h8
   match k,h8 with
   | 0,_=>rfl
   | 1,_=>rfl
   | 2,_=>rfl
   | 3,_=>rfl
   | 4,_=>rfl
   | 5,_=>rfl
   | 6,_=>rfl
   | 7,_=>rfl
  have h1:=qr (enc:=pgc) (k:=8) (List.replicate n zz) (j / 8) zz (fun a ha=>by rw[List.eq_of_mem_replicate ha];rfl) (by simp[hq]) (j % 8) _ hz
  rw[<-hj]at h1;rw[h1];have:(#[Value.int .u8 0,.int .u8 0,.int .u8 0,.int .u8 0,.int .u8 0,.int .u8 0,.int .u8 0,.int .u8 0]:Array Value)[j % 8]! = .int .u8 0:=by
   generalize j % 8=k at h8
   match k,h8 with
   | 0,_=>rfl
   | 1,_=>rfl
   | 2,_=>rfl
   | 3,_=>rfl
   | 4,_=>rfl
   | 5,_=>rfl
   | 6,_=>rfl
   | 7,_=>rfl
  simp[madeCells,h]
  simpa using this
 rw[gN (by simp[madeCells];exact h),gN (by rw[hl];exact h)]
theorem zaw {w:World} {ops:Array Oper} {rest:List Oper} {o:Oper} {a:Act} {Q:Exit->Act->World->Prop} (hgd:o.guard=none) (l:Operand) (ho:o.op= .makeSlice 31 l l) (n:Nat) (hl:a.eval l= .int .i64 n) (hn:n<=80)
  (h:∀C,zj w.heap.size (w.alloc (.cells C 67)) (.slice (some ⟨w.heap.size,0,none⟩) n n) (List.replicate n zz)->wpList Tryz.prog ops Q rest (a.put o.dst (.slice (some ⟨w.heap.size,0,none⟩) n n)) (w.alloc (.cells C 67))):wpList Tryz.prog ops Q (o :: rest) a w:=by
 refine wpList_plain hgd fun K hK=>?_
 obtain⟨i0,hi,hz0,hz1,hz2⟩:=info_parts zlb;have hrun:=run_make (P:=Tryz.prog) w 31 67 i0 _ Tryz.underlying31 hi hz0 .i64 .i64 n n (by omega) (Int.le_refl _) (by rw[hz2];omega) (by omega)
 rw[hz1,tN]at hrun;unfold Oper.wp;simp only[execOp,ho,hl,Sem.run_bind,hrun,Result.andThen,Sem.run_pure,Oper.upon];refine hK _ _ (h _ ⟨⟨?_,.inr ⟨w.heap.size,n,madeCells #[.int .u8 0,.int .u8 0,.int .u8 0,.int .u8 0,.int .u8 0,.int .u8 0,.int .u8 0,.int .u8 0] (n*8),by rw[lR],nR _,?_,?_,?_,?_,?_⟩⟩,fun p hp=>by rw[List.eq_of_mem_replicate hp];rfl,by rw[lR];omega⟩)
 ·rw[qI (k:=8) _ (fun a ha=>by rw[List.eq_of_mem_replicate ha];rfl)]
 ·show(w.heap.push _)[w.heap.size]? =_
  simp[Value.cells]
 ·rw[lR];exact nR _
 ·exact qz (by omega)
 ·rw[size_madeCells]
 rw[lR]
 show(madeCells #[.int .u8 0,.int .u8 0,.int .u8 0,.int .u8 0,.int .u8 0,.int .u8 0,.int .u8 0,.int .u8 0] (n*8)).toList.take (n*8)=_
 rw[List.take_of_length_le (by simp[madeCells]),zco]
theorem zjT (n:Int) (w:World):
  Calls Tryz.prog 128 #[.int .i64 n] w fun e w'=>∃d',e= .returned (.tuple #[d',.int .i64 (ZT n)])/\qM w.heap.size w' d' (zex n) []/\zc w w':=by
 by_cases h:0<=n/\n<=80
 ·have HE:Hid (ZT n=0):=show ZT n=0 by unfold ZT;rw[if_pos h]
  have HD:Hid (zex n=List.replicate n.toNat zz):=show zex n=_ by unfold zex;rw[if_pos h]
  obtain⟨k,rfl⟩:=Int.eq_ofNat_of_zero_le h.1;have h0:¬(k:Int)<0:=by omega
  have h1:¬(80:Int)< (k:Int):=by omega
  have hk:k<=80:=by omega
  have HG0:Hid (zc w (w.alloc (.cells #[.slice none 0 0,.slice none 0 0] 34))):=za _ _;rw[HE.out]
  go_enter Tryz.func128,Tryz.ntmps128
  go_wp2_with (refine zaw rfl (.tmp 11) rfl k rfl hk ?_;intro C ow;have OW:Hid (zj (w.alloc (.cells #[.slice none 0 0,.slice none 0 0] 34)).heap.size ((w.alloc (.cells #[.slice none 0 0,.slice none 0 0] 34)).alloc (.cells C 67)) (.slice (some ⟨(w.alloc (.cells #[.slice none 0 0,.slice none 0 0] 34)).heap.size,0,none⟩) k k) (List.replicate k zz)):=ow;clear ow)
  refine bodyPost_ret (v:= .tuple #[.agg #[.slice (some ⟨w.heap.size+1,0,none⟩) k k,.slice none 0 0],.int .i64 0]) (by simp[results,Tryz.results128,go_sem, *]) rfl ⟨_,rfl,?_,?_⟩
  ·rw[HD.out];have ho:=OW.out;rw[World.size_alloc]at ho;exact⟨_,_,rfl,zj.at (base:=w.heap.size+1) ⟨zdR ho.1 (fun k hk=>zfu w _ _ _ k hk),ho.2⟩,ze2 _,fun x n c e=>by cases e;simp,jJ _⟩
  exact(za _ _).trans (za _ _)
 have HE:Hid (ZT n=4):=show ZT n=4 by unfold ZT;rw[if_neg h]
 have HD:Hid (zex n=[]):=show zex n=_ by unfold zex;rw[if_neg h]
 rw[HE.out,HD.out]
 by_cases h0:n<0
 ·clear h
  go_enter Tryz.func128,Tryz.ntmps128
  go_wp2;refine bodyPost_ret (v:= .tuple #[.agg #[.slice none 0 0,.slice none 0 0],.int .i64 4]) (by simp[results,Tryz.results128,go_sem]) rfl ⟨_,rfl,zc3 _ _,?_⟩
  exact za _ _
 have h1:(80:Int)<n:=by omega
 clear h
 go_enter Tryz.func128,Tryz.ntmps128
 go_wp2;refine bodyPost_ret (v:= .tuple #[.agg #[.slice none 0 0,.slice none 0 0],.int .i64 4]) (by simp[results,Tryz.results128,go_sem]) rfl ⟨_,rfl,zc3 _ _,?_⟩
 exact za _ _
end
section
open Go.RowKit Go.Shelf
section
attribute [local go_sem] Oper.semAt_some
structure P9 where
  (i m b0 b1 b2 b3 b4 b5 b6 b7 : Int)
end
section
attribute [local go_sem] Oper.semAt_some
theorem J6 {n : Nat} {qs : List (Int × List Int)} {m : Int} (h : qZ n qs m = 0) : zy n qs = 0 /\ ∃ i : Nat, m = (i : Int) /\ i < n := by
  unfold qZ at h
  by_cases h1 : zy n qs = 0
  · rw [if_pos h1] at h
    refine ⟨h1, ?_⟩
    cases hb : jx m n with
    | false => rw [hb] at h; simp at h
    | true =>
      unfold jx at hb
      simp at hb
      obtain ⟨i, hi⟩ := Int.eq_ofNat_of_zero_le hb.1
      exact ⟨i, hi, by omega⟩
  · rw [if_neg h1] at h; exact absurd h h1
end
end
section
open Go.RowKit
def zkr (ps : List (List Int)) (qs : List (Int × List Int)) : List (List Int) := if qs.length = 400 then ps.set (qs.headD (0, [])).1.toNat (qs.headD (0, [])).2 else ps
def zjG (ps : List (List Int)) (qs : List (Int × List Int)) (m : Int) : List (List Int) := if qZ ps.length qs m = 0 then zkr ps qs else []
def jD (m : Int) (j : Nat) : Bool := bits BinOp.and IntKind.i64 (m / 2 ^ (j % 60)) 1 == 1
theorem zgM (m : Int) (B : Nat) (j : Nat) (hj : j <= 400) (w : World) (hc : w.cell? ⟨B, 0, none⟩ = some (.int .i64 m)) :
    Calls Tryz.prog 131 #[.int .i64 (j : Int), .pointer (some ⟨B, 0, none⟩)] w fun e w' => e = .returned (.bool (jD m j)) /\ zc w w' := by
  have H : Hid (jD m j = (bits BinOp.and IntKind.i64 (m / 2 ^ (j % 60)) 1 == 1)) := rfl
  go_enter Tryz.func131, Tryz.ntmps131
  go_wp2
  go_ret
  rw [H.out]
  exact ⟨rfl, zc.refl _⟩
theorem zdB (m : Int) (B : Nat) (w : World) (hc : w.cell? ⟨B, 0, none⟩ = some (.int .i64 m)) : zfx 131 #[.pointer (some ⟨B, 0, none⟩)] (jD m) w := fun W j hW hj =>
  zgM m B j hj W ((Below.cell hW (World.block_lt_of_cell? _ _ hc)).trans hc)
theorem zh1 (d : Value) (ps : List (List Int)) (qs : List (Int × List Int)) (m : Int) (w : World) (hd : ZD w d ps qs) :
    Calls Tryz.prog 82 #[d, .int .i64 m] w fun e w' => ∃ d', e = .returned (.tuple #[d', .int .i64 (zy ps.length qs)]) /\ qM w.heap.size w' d' (Qd (jD m) ps qs) [] /\ zc w w' := by
  have HD : Hid (ZD w d ps qs) := hd
  obtain ⟨b, q, rfl, hb, hq⟩ := hd
  obtain ⟨ab, cb, rfl, _⟩ := hb.rows
  obtain ⟨aq, cq, rfl, _⟩ := hq.rows
  clear hb hq
  obtain ⟨W0, hW0⟩ : ∃ W0, ((w.alloc (.cells #[.slice ab ps.length cb, .slice aq qs.length cq] 34)).alloc (.cells #[.int .i64 m] 3)).alloc (.cells #[.slice none 0 0, .slice none 0 0] 34) = W0 := ⟨_, rfl⟩
  have HG0 : Hid (zc w W0) := show zc w W0 by rw [<- hW0]; exact ((za _ _).trans (za _ _)).trans (za _ _)
  have B1 : Box W0 (w.heap.size + 1) [.int .i64 m] := by rw [<- hW0]; exact (Box.top _ [.int .i64 m] _ (by simp)).alloc _
  have B2 : Box W0 (w.heap.size + 1 + 1) [.slice none 0 0, .slice none 0 0] := by rw [<- hW0]; exact Box.top _ [.slice none 0 0, .slice none 0 0] _ (by simp)
  have hcon := zgf (jD m) 131 #[.pointer (some ⟨w.heap.size + 1, 0, none⟩)] (enters_of Tryz.func131 (by kernel_rfl) rfl) _ ps qs W0 (HD.out.grew HG0.out) (zdB m (w.heap.size + 1) W0 (B1.c 0 rfl))
  have HB2 : Hid (Box W0 (w.heap.size + 1 + 1) [.slice none 0 0, .slice none 0 0]) := B2
  obtain ⟨nb, HNB⟩ : ∃ nb, Hid (ps.length = nb) := ⟨_, rfl⟩
  obtain ⟨nq, HNQ⟩ : ∃ nq, Hid (qs.length = nq) := ⟨_, rfl⟩
  obtain ⟨r, HW⟩ : ∃ r, Hid (zy nb qs = r) := ⟨_, rfl⟩
  rw [HNB.out, HNQ.out, HW.out] at hcon
  rw [HNB.out, HNQ.out] at hW0
  have HW0 : Hid (_ = W0) := hW0
  clear hW0
  rw [HNB.out, HNQ.out, HW.out]
  clear B1 B2
  go_enter Tryz.func82, Tryz.ntmps82
  go_wp2_with (go_at_call 124; rw [HW0.out]
               refine hcon.mono ?_
               rintro e W1 ⟨d1, rfl, hd1, hg1⟩
               have b3 : Box W1 (w.heap.size + 1 + 1) [.slice none 0 0, .slice none 0 0] := HB2.out.grew hg1
               have c2 := b3.c 0 rfl
               have c3 := b3.c 1 rfl
               have f2 := b3.f 0
               have f3 := b3.f 1
               have HD1 : Hid (qM W0.heap.size W1 d1 (Qd (jD m) ps qs) []) := hd1
               have HG1 : Hid (zc w W1) := HG0.out.trans hg1
               obtain ⟨v1, v2, rfl, hv1, hv2, _⟩ := hd1
               obtain ⟨x1, y1, rfl, _⟩ := hv1.rows
               obtain ⟨x2, y2, rfl, _⟩ := hv2.rows
               clear hv1 hv2 b3)
  refine bodyPost_ret (v := .tuple #[.agg #[.slice x1 (Qd (jD m) ps qs).length y1, .slice x2 0 y2], .int .i64 r]) (by simp [results, Tryz.results82, go_sem, *]) rfl ⟨_, rfl, ?_, ?_⟩
  · have := HB2.out.lt
    exact ((HD1.out.setCell (by simpa using this) _).setCell (by simpa using this) _).base (Below.size HG0.out)
  · exact Below.setCell (Below.setCell HG1.out (p := ⟨w.heap.size + 1 + 1, 0, none⟩) (by simp; omega) _) (p := ⟨w.heap.size + 1 + 1, 1, none⟩) (by simp; omega) _
theorem al1:ZT 3=0:=by decide
theorem al2:zex 3=[zz,zz,zz]:=by decide
theorem al3:qZ [zz,zz,zz].length [] 1=0:=by decide
theorem al4:zjG [zz,zz,zz] [] 1=[zz,zz,zz]:=by decide
def zdN:Option (Int × List Int)->List Int->List Int
 | some q,_=>q.2
 | none,d=>d
theorem zix {ps:List (List Int)} {qs:List (Int × List Int)} {m:Int} (h:qZ ps.length qs m=0):JS ps qs m=zdN (qs.reverse.find? (fun q=>q.1 == m)) (ps.getD m.toNat zz):=by
 unfold JS;rw[if_pos h]
 cases qs.reverse.find? (fun q=>q.1 == m) <;> rfl
theorem jY (a:Option Addr) (n c:Nat) (qv:Value) (qs:List (Int × List Int)) (w:World) (hq:qK w qv qs):
  Calls Tryz.prog 83 #[.agg #[.slice a n c,qv]] w fun e w'=>e= .returned (.int .i64 (zy n qs))/\zc w w':=by
 have HL:Hid (zy n qs=if 80<n then 4 else if 400<qs.length then 4 else if qs.any (fun q=>!jx q.1 n)then 3 else 0):=rfl
 have hbig:qs.length<=9223372036854775807:=by have:=hq.2.2;omega
 obtain⟨a2,c2,rfl,hrow⟩:=hq.rows;have HRQ:Hid (ZA w a2 qs):=hrow;clear hq hrow;obtain⟨kq,HN⟩:∃kq,Hid (qs.length=kq):=⟨_,rfl⟩;rw[HN.out]at HL hbig⊢
 by_cases h1:80<n
 ·have h1':(80:Int)< (n:Int):=by omega
  rw[if_pos h1]at HL
  go_enter Tryz.func83,Tryz.ntmps83
  go_wp2;go_ret;exact⟨by rw[HL.out];rfl,za _ _⟩
 have h1':¬(80:Int)< (n:Int):=by omega
 rw[if_neg h1]at HL
 by_cases h2:400<kq
 ·have h2':(400:Int)< (kq:Int):=by omega
  rw[if_pos h2]at HL
  go_enter Tryz.func83,Tryz.ntmps83
  go_wp2;go_ret;exact⟨by rw[HL.out];rfl,za _ _⟩
 have h2':¬(400:Int)< (kq:Int):=by omega
 rw[if_neg h2]at HL;obtain⟨W0,hW0⟩:∃W0,w.alloc (.cells #[.slice a n c,.slice a2 kq c2] 34)=W0:=⟨_,rfl⟩;have HG0:=gA hW0
 have X0:=xA hW0
 have HW0:Hid (_=W0):=hW0;clear hW0
 go_enter Tryz.func83,Tryz.ntmps83
 go_wp2;rw[HW0.out]
 go_loopg [4,18] kq (fun gg _ s18 wr=>∃kk:Nat,kk<=kq/\kq - kk<=gg/\s18= .int .i64 kk/\Hid (zc W0 wr)/\Hid (∀(j:Nat) q,j<kk->qs[j]? =some q->jx q.1 n=true))
 case atStart=>exact⟨0,nZ _,by omega,rfl,zc.refl _,fun j q hj=>absurd hj (nL _)⟩
 obtain⟨kk,hkk,hg,rfl,BW,A⟩:=hrel
 by_cases hlt:kk<kq
 ·have hltz:(kk:Int)< (kq:Int):=by omega
  obtain⟨q,HQ⟩:∃q,Hid (qs[kk]? =some q):=⟨_,gE (by rw[HN.out];exact hlt)⟩
  obtain⟨x,m,b0,b1,b2,b3,b4,b5,b6,b7,rfl,rfl,hl⟩:=HRQ.out kk q HQ.out;obtain⟨d0,d1,d2,d3,d4,d5,d6,d7,d8⟩:=hl wr (HG0.out.trans BW.out);have X:=X0.out.grew BW.out;have z0:=X.c 0 rfl;have zl:=X.lt;clear hl X
  by_cases hb:jx m n=true
  ·have hb':=hb;unfold jx at hb'
   simp at hb'
   have hm0:¬m<0:=by omega
   have hmn:¬(n:Int)<=m:=by omega
   have HB:Hid (jx m n=true):=hb;clear hb hb';go_wp2
   go_roundg (kq -(kk+1))
   case measure=>omega
   refine⟨kk+1,by omega,by omega,by go_num,BW.out.trans (za _ _),(show Hid _ from fun j q' hj hq'=>?_)⟩
   by_cases e:j=kk
   ·subst e;rw[HQ.out]at hq';cases hq';exact HB.out
   exact A.out j q' (by omega) hq'
  have hany:(qs.any fun q=>!jx q.1 n)=true:=List.any_eq_true.2 ⟨_,mG HQ.out,by simpa using hb⟩
  rw[if_pos hany]at HL;unfold jx at hb
  simp at hb
  clear hany
  by_cases hm0:m<0
  ·clear hb;go_wp2;go_ret;exact⟨by rw[HL.out];rfl,(HG0.out.trans BW.out).trans (za _ _)⟩
  have hmn:(n:Int)<=m:=hb (by omega)
  clear hb;go_wp2;go_ret;exact⟨by rw[HL.out];rfl,(HG0.out.trans BW.out).trans (za _ _)⟩
 have hltz:¬(kk:Int)< (kq:Int):=by omega
 have:kk=kq:=by omega
 subst this;have hany:¬(qs.any fun q=>!jx q.1 n)=true:=fun h=>by
  obtain⟨q,hq,hb⟩:=List.any_eq_true.1 h;obtain⟨j,hj⟩:=List.getElem?_of_mem hq;have:=A.out j q (by rw[<-HN.out];exact(gS.1 hj).1) hj
  rw[this]at hb
  simp at hb
 rw[if_neg hany]at HL;clear hany;go_wp2;go_ret;exact⟨by rw[HL.out];rfl,HG0.out.trans BW.out⟩
theorem zdM {r : List (Int × List Int)} {q : Int × List Int} {m : Int} {d : List Int} : zdN ((r ++ [q]).reverse.find? (fun q => q.1 == m)) d = if q.1 == m then q.2 else zdN (r.reverse.find? (fun q => q.1 == m)) d := by
  rw [List.reverse_append]
  simp only [List.reverse_cons, List.reverse_nil, List.nil_append, List.cons_append, List.find?_cons]
  cases hq : (q.1 == m) <;> simp [zdN]
theorem zeT (d : Value) (ps : List (List Int)) (qs : List (Int × List Int)) (m : Int) (w : World) (hd : ZD w d ps qs) (hr0 : ¬ qZ ps.length qs m = 0) :
    Calls Tryz.prog 99 #[d, .int .i64 m] w fun e w' => e = .returned (.tuple #[.agg (pgc zz).toArray, .int .i64 (qZ ps.length qs m)]) /\ zc w w' := by
  obtain ⟨b, q, rfl, hb, hq⟩ := hd
  have HQ : Hid (qK w q qs) := hq
  obtain ⟨ab, cb, rfl, _⟩ := hb.rows
  obtain ⟨aq, cq, rfl, _⟩ := hq.rows
  clear hb hq
  have HWA : Hid (qZ ps.length qs m = if zy ps.length qs = 0 then (if jx m ps.length then 0 else 3) else zy ps.length qs) := rfl
  obtain ⟨W0, hW0⟩ : ∃ W0, (w.alloc (.cells #[.slice ab ps.length cb, .slice aq qs.length cq] 34)).alloc (.cells #[.int .u8 0, .int .u8 0, .int .u8 0, .int .u8 0, .int .u8 0, .int .u8 0, .int .u8 0, .int .u8 0] 67) = W0 := ⟨_, rfl⟩
  have HG0 : Hid (zc w W0) := show zc w W0 by rw [<- hW0]; exact (za _ _).trans (za _ _)
  have X0 : Hid (Box W0 w.heap.size [.slice ab ps.length cb, .slice aq qs.length cq]) := show Box _ _ _ by rw [<- hW0]; exact (Box.top w [.slice ab ps.length cb, .slice aq qs.length cq] _ rfl).alloc _
  have X1 : Hid (Box W0 (w.heap.size + 1) [.int .u8 0, .int .u8 0, .int .u8 0, .int .u8 0, .int .u8 0, .int .u8 0, .int .u8 0, .int .u8 0]) := show Box _ _ _ by rw [<- hW0]; exact Box.top _ [.int .u8 0, .int .u8 0, .int .u8 0, .int .u8 0, .int .u8 0, .int .u8 0, .int .u8 0, .int .u8 0] _ (by simp)
  have hcon := jY ab ps.length cb (.slice aq qs.length cq) qs W0 (HQ.out.grew HG0.out)
  obtain ⟨r, HR⟩ : ∃ r, Hid (zy ps.length qs = r) := ⟨_, rfl⟩
  rw [HR.out] at hcon HWA
  obtain ⟨nb, HNB⟩ : ∃ nb, Hid (ps.length = nb) := ⟨_, rfl⟩
  obtain ⟨kq, HNQ⟩ : ∃ kq, Hid (qs.length = kq) := ⟨_, rfl⟩
  rw [HNB.out] at HWA hr0
  rw [HNB.out, HNQ.out] at hcon hW0 X0 ⊢
  have HW0 : Hid (_ = W0) := hW0
  clear hW0
  have hcases : (Hid (qZ nb qs m = r) /\ (r != 0) = true) \/ (Hid (qZ nb qs m = 3) /\ (r != 0) = false /\ Hid (r = 0) /\ m < 0) \/ (Hid (qZ nb qs m = 3) /\ (r != 0) = false /\ Hid (r = 0) /\ ¬ m < 0 /\ (nb : Int) <= m) := by
    by_cases h1 : r = 0
    · subst h1
      rw [if_pos rfl] at HWA
      have hnb : ¬ jx m nb = true := fun e => by rw [HWA.out, if_pos e] at hr0; exact hr0 rfl
      rw [if_neg hnb] at HWA
      unfold jx at hnb
      simp at hnb
      by_cases h2 : m < 0
      · exact .inr (.inl ⟨HWA, rfl, rfl, h2⟩)
      · exact .inr (.inr ⟨HWA, rfl, rfl, h2, hnb (by omega)⟩)
    · rw [if_neg h1] at HWA
      exact .inl ⟨HWA, by simpa using h1⟩
  clear HWA hr0
  rcases hcases with ⟨HE, h1⟩ | ⟨HE, h1, h0, h2⟩ | ⟨HE, h1, h0, h2, h3⟩
  · rw [HE.out]
    go_enter Tryz.func99, Tryz.ntmps99
    go_wp2_with (go_at_call 83; rw [HW0.out]; refine hcon.mono ?_; clear hcon; rintro e W1 ⟨rfl, g1⟩
                 have e0 := (X0.out.grew g1).c 0 rfl
                 have Y := X1.out.grew g1
                 have c0 := Y.c 0 rfl
                 have c1 := Y.c 1 rfl
                 have c2 := Y.c 2 rfl
                 have c3 := Y.c 3 rfl
                 have c4 := Y.c 4 rfl
                 have c5 := Y.c 5 rfl
                 have c6 := Y.c 6 rfl
                 have c7 := Y.c 7 rfl
                 have f0 := Y.f
                 clear Y)
    refine bodyPost_ret (v := .tuple #[.agg #[.int .u8 0, .int .u8 0, .int .u8 0, .int .u8 0, .int .u8 0, .int .u8 0, .int .u8 0, .int .u8 0], .int .i64 r]) (by simp [results, Tryz.results99, go_sem, *]) rfl ⟨rfl, ?_⟩
    have HG1 : zc w W1 := HG0.out.trans g1
    iterate 8 (refine zD ?_ (by simp) _)
    exact HG1
  all_goals
    rw [HE.out]
    have hr := h0.out
    subst hr
    go_enter Tryz.func99, Tryz.ntmps99
    go_wp2_with (go_at_call 83; rw [HW0.out]; refine hcon.mono ?_; clear hcon; rintro e W1 ⟨rfl, g1⟩
                 have e0 := (X0.out.grew g1).c 0 rfl
                 have Y := X1.out.grew g1
                 have c0 := Y.c 0 rfl
                 have c1 := Y.c 1 rfl
                 have c2 := Y.c 2 rfl
                 have c3 := Y.c 3 rfl
                 have c4 := Y.c 4 rfl
                 have c5 := Y.c 5 rfl
                 have c6 := Y.c 6 rfl
                 have c7 := Y.c 7 rfl
                 have f0 := Y.f
                 clear Y)
    refine bodyPost_ret (v := .tuple #[.agg #[.int .u8 0, .int .u8 0, .int .u8 0, .int .u8 0, .int .u8 0, .int .u8 0, .int .u8 0, .int .u8 0], .int .i64 3]) (by simp [results, Tryz.results99, go_sem, *]) rfl ⟨rfl, ?_⟩
    have HG1 : zc w W1 := HG0.out.trans g1
    iterate 8 (refine zD ?_ (by simp) _)
    exact HG1
theorem zgi (d : Value) (ps : List (List Int)) (qs : List (Int × List Int)) (i : Nat) (w : World) (hd : ZD w d ps qs) (hr0 : qZ ps.length qs (i : Int) = 0) :
    Calls Tryz.prog 99 #[d, .int .i64 (i : Int)] w fun e w' => e = .returned (.tuple #[.agg (pgc (JS ps qs (i : Int))).toArray, .int .i64 0]) /\ zc w w' := by
  obtain ⟨hw0, i', hii, hib⟩ := J6 hr0
  have hi : i < ps.length := by omega
  have HRL := zix hr0
  simp only [Int.toNat_natCast] at HRL
  obtain ⟨b, q, rfl, hb, hq⟩ := hd
  have HQ : Hid (qK w q qs) := hq
  have hbig : qs.length <= 9223372036854775807 := by have := hq.2.2; omega
  obtain ⟨ab, cb, rfl, hrb⟩ := hb.rows
  obtain ⟨aq, cq, rfl, hrq⟩ := hq.rows
  have HRQ : Hid (ZA w aq qs) := hrq
  obtain ⟨pg, hpg⟩ : ∃ pg, ps[i]? = some pg := ⟨_, List.getElem?_eq_getElem hi⟩
  obtain ⟨xa, b0, b1, b2, b3, b4, b5, b6, b7, hxa, rfl, hrow⟩ := hrb i pg hpg
  subst hxa
  have HROW : Hid (∀ W, zc w W -> zbW W (xa.add (i * 8)) b0 b1 b2 b3 b4 b5 b6 b7) := hrow
  rw [show ps.getD i zz = [b0, b1, b2, b3, b4, b5, b6, b7] from by rw [List.getD_eq_getElem?_getD, hpg]; rfl] at HRL
  have HL : Hid (JS ps qs (i : Int) = zdN (qs.reverse.find? (fun q => q.1 == (i : Int))) [b0, b1, b2, b3, b4, b5, b6, b7]) := HRL
  clear hb hq hrb hrq hrow hpg HRL
  obtain ⟨W0, hW0⟩ : ∃ W0, (w.alloc (.cells #[.slice (some xa) ps.length cb, .slice aq qs.length cq] 34)).alloc (.cells #[.int .u8 0, .int .u8 0, .int .u8 0, .int .u8 0, .int .u8 0, .int .u8 0, .int .u8 0, .int .u8 0] 67) = W0 := ⟨_, rfl⟩
  have HG0 : Hid (zc w W0) := show zc w W0 by rw [<- hW0]; exact (za _ _).trans (za _ _)
  have X0 : Hid (Box W0 w.heap.size [.slice (some xa) ps.length cb, .slice aq qs.length cq]) := show Box _ _ _ by rw [<- hW0]; exact (Box.top w [.slice (some xa) ps.length cb, .slice aq qs.length cq] _ rfl).alloc _
  have X1 : Hid (Box W0 (w.heap.size + 1) [.int .u8 0, .int .u8 0, .int .u8 0, .int .u8 0, .int .u8 0, .int .u8 0, .int .u8 0, .int .u8 0]) := show Box _ _ _ by rw [<- hW0]; exact Box.top _ [.int .u8 0, .int .u8 0, .int .u8 0, .int .u8 0, .int .u8 0, .int .u8 0, .int .u8 0, .int .u8 0] _ (by simp)
  have hcon := jY (some xa) ps.length cb (.slice aq qs.length cq) qs W0 (HQ.out.grew HG0.out)
  rw [hw0] at hcon
  obtain ⟨nb, HNB⟩ : ∃ nb, Hid (ps.length = nb) := ⟨_, rfl⟩
  obtain ⟨kq, HNQ⟩ : ∃ kq, Hid (qs.length = kq) := ⟨_, rfl⟩
  rw [HNB.out] at hi
  rw [HNQ.out] at hbig
  rw [HNB.out, HNQ.out] at hcon hW0 X0 ⊢
  have HW0 : Hid (_ = W0) := hW0
  have h2 : ¬ (i : Int) < 0 := by omega
  have h3 : ¬ (nb : Int) <= (i : Int) := by omega
  have h4 : (i : Int) < (nb : Int) := by omega
  clear hW0 hw0 hii hib hr0
  go_enter Tryz.func99, Tryz.ntmps99
  go_wp2_with (go_at_call 83; rw [HW0.out]; refine hcon.mono ?_; clear hcon; rintro e W1 ⟨rfl, g1⟩
               have G1 : Hid (zc W0 W1) := g1
               have e0 := (X0.out.grew g1).c 0 rfl
               have e1 := (X0.out.grew g1).c 1 rfl
               have el := (X0.out.grew g1).lt
               obtain ⟨d0, d1, d2, d3, d4, d5, d6, d7⟩ := HROW.out W1 (HG0.out.trans g1))
  have HT : Hid (∀ (j : Nat) q, qs[j]? = some q -> qs.take (j + 1) = qs.take j ++ [q]) := show ∀ (j : Nat) q, _ from fun j q h => by
    obtain ⟨hlt, rfl⟩ := List.getElem?_eq_some_iff.1 h
    exact List.take_succ_eq_append_getElem hlt
  clear e0 e1 el d0 d1 d2 d3 d4 d5 d6 d7
  go_loopg [9, 34] kq (fun gg _ s34 wr => ∃ (kk : Nat) (c0 c1 c2 c3 c4 c5 c6 c7 : Int), kk <= kq /\ kq - kk <= gg /\ s34 = .int .i64 kk /\ Hid (zc w wr) /\ Hid (Box wr W1.heap.size [.int .u8 c0, .int .u8 c1, .int .u8 c2, .int .u8 c3, .int .u8 c4, .int .u8 c5, .int .u8 c6, .int .u8 c7]) /\ Hid (Box wr (w.heap.size + 1) [.int .u8 0, .int .u8 0, .int .u8 0, .int .u8 0, .int .u8 0, .int .u8 0, .int .u8 0, .int .u8 0]) /\ Hid (zdN ((qs.take kk).reverse.find? (fun q => q.1 == (i : Int))) [b0, b1, b2, b3, b4, b5, b6, b7] = [c0, c1, c2, c3, c4, c5, c6, c7]))
  case atStart => exact ⟨0, b0, b1, b2, b3, b4, b5, b6, b7, Nat.zero_le _, by omega, rfl, (HG0.out.trans G1.out).trans (za _ _), Box.top W1 [.int .u8 b0, .int .u8 b1, .int .u8 b2, .int .u8 b3, .int .u8 b4, .int .u8 b5, .int .u8 b6, .int .u8 b7] _ rfl, (X1.out.grew G1.out).alloc _, rfl⟩
  case round =>
    obtain ⟨kk, c0, c1, c2, c3, c4, c5, c6, c7, hkk, hg, rfl, GW, BP, BR, HPK⟩ := hrel
    have hW1w : w.heap.size + 2 <= W1.heap.size := by have h1 := Below.size G1.out; have h2 := X1.out.lt; omega
    by_cases hlt : kk < kq
    · have hltz : (kk : Int) < (kq : Int) := by omega
      obtain ⟨q, HQK⟩ : ∃ q, Hid (qs[kk]? = some q) := ⟨_, List.getElem?_eq_getElem (by rw [HNQ.out]; exact hlt)⟩
      obtain ⟨x, m, a0, a1, a2, a3, a4, a5, a6, a7, rfl, rfl, hl⟩ := HRQ.out kk q HQK.out
      obtain ⟨d0, d1, d2, d3, d4, d5, d6, d7, d8⟩ := hl wr GW.out
      have HST := HT.out kk _ HQK.out
      clear hl
      by_cases hm : m = (i : Int)
      · subst hm
        have k0 := BP.out.c 0 rfl
        have k1 := BP.out.c 1 rfl
        have k2 := BP.out.c 2 rfl
        have k3 := BP.out.c 3 rfl
        have k4 := BP.out.c 4 rfl
        have k5 := BP.out.c 5 rfl
        have k6 := BP.out.c 6 rfl
        have k7 := BP.out.c 7 rfl
        have kf := BP.out.f
        have kl := BP.out.lt
        have HST' : Hid (zdN ((qs.take (kk + 1)).reverse.find? (fun q => q.1 == (i : Int))) [b0, b1, b2, b3, b4, b5, b6, b7] = [a0, a1, a2, a3, a4, a5, a6, a7]) := show _ = _ by rw [HST, zdM]; simp
        clear HST
        go_wp2
        go_roundg (kq - (kk + 1))
        case measure => omega
        case rel =>
          refine ⟨kk + 1, a0, a1, a2, a3, a4, a5, a6, a7, by omega, by omega, by go_num, ?_, ?_, ?_, HST'.out⟩
          · show zc _ _
            refine zc.trans ?_ (za _ _)
            iterate 8 (refine zD ?_ (by simp; omega) _)
            exact GW.out
          · exact ((((((((BP.out.set 0 _).set 1 _).set 2 _).set 3 _).set 4 _).set 5 _).set 6 _).set 7 _).alloc _
          · show Box _ _ _
            refine Box.alloc ?_ _
            iterate 8 (refine Box.other ?_ (by simp; omega) _)
            exact BR.out
      · have hmb : (m == (i : Int)) = false := by simpa using hm
        have HST' : Hid (zdN ((qs.take (kk + 1)).reverse.find? (fun q => q.1 == (i : Int))) [b0, b1, b2, b3, b4, b5, b6, b7] = [c0, c1, c2, c3, c4, c5, c6, c7]) := show _ = _ by rw [HST, zdM]; simp only [hmb]; exact HPK.out
        clear HST hm
        go_wp2
        go_roundg (kq - (kk + 1))
        case measure => omega
        case rel => exact ⟨kk + 1, c0, c1, c2, c3, c4, c5, c6, c7, by omega, by omega, by go_num, GW.out.trans (za _ _), BP.out.alloc _, BR.out.alloc _, HST'.out⟩
    · have hltz : ¬ (kk : Int) < (kq : Int) := by omega
      have : kk = kq := by omega
      subst this
      have k0 := BP.out.c 0 rfl
      have k1 := BP.out.c 1 rfl
      have k2 := BP.out.c 2 rfl
      have k3 := BP.out.c 3 rfl
      have k4 := BP.out.c 4 rfl
      have k5 := BP.out.c 5 rfl
      have k6 := BP.out.c 6 rfl
      have k7 := BP.out.c 7 rfl
      have r0 := BR.out.c 0 rfl
      have r1 := BR.out.c 1 rfl
      have r2 := BR.out.c 2 rfl
      have r3 := BR.out.c 3 rfl
      have r4 := BR.out.c 4 rfl
      have r5 := BR.out.c 5 rfl
      have r6 := BR.out.c 6 rfl
      have r7 := BR.out.c 7 rfl
      have rf := BR.out.f
      have HF : Hid (JS ps qs (i : Int) = [c0, c1, c2, c3, c4, c5, c6, c7]) := show _ = _ by rw [HL.out, <- HPK.out, List.take_of_length_le (by rw [HNQ.out]; exact Nat.le_refl _)]
      go_wp2
      refine bodyPost_ret (v := .tuple #[.agg #[.int .u8 c0, .int .u8 c1, .int .u8 c2, .int .u8 c3, .int .u8 c4, .int .u8 c5, .int .u8 c6, .int .u8 c7], .int .i64 0]) (by simp [results, Tryz.results99, go_sem, *]) rfl ⟨by rw [HF.out]; rfl, ?_⟩
      iterate 8 (refine zD ?_ (by simp) _)
      exact GW.out
theorem zeU (d : Value) (ps : List (List Int)) (qs : List (Int × List Int)) (m : Int) (w : World) (hd : ZD w d ps qs) :
    Calls Tryz.prog 99 #[d, .int .i64 m] w fun e w' => e = .returned (.tuple #[.agg (pgc (JS ps qs m)).toArray, .int .i64 (qZ ps.length qs m)]) /\ zc w w' := by
  by_cases hr : qZ ps.length qs m = 0
  · obtain ⟨_, i, rfl, _⟩ := J6 hr
    rw [hr]
    exact zgi d ps qs i w hd hr
  · rw [show JS ps qs m = zz from if_neg hr]
    exact zeT d ps qs m w hd hr
def Jl (p:List Int) (idx size:Int) (k:Nat):List Int:=p.mapIdx fun i z=>if i<k/\size<=8*idx+(i:Int)then 0 else z
theorem zgK (p:List Int) (idx size:Int):Jl p idx size 0=p:=by
 unfold Jl
 apply List.ext_getElem?
 intro i;rw[List.getElem?_mapIdx]
 cases p[i]? <;> simp
theorem zhY (p:List Int) (idx size:Int) (k:Nat):(Jl p idx size k).length=p.length:=by unfold Jl;simp
theorem zh0 {p:List Int} {idx size:Int} {k:Nat} (h:p.length<=k):Jl p idx size k=zko p idx size:=by
 unfold Jl zko
 apply List.ext_getElem?
 intro i;rw[List.getElem?_mapIdx,List.getElem?_mapIdx]
 cases hp:p[i]? with
 | none=>rfl
 | some z=>
  have:=(gS.1 hp).1;have hk:i<k:=by omega
  simp[hk]
theorem zhZ {p:List Int} {idx size:Int} {k:Nat} (hk:k<p.length) (h:size<=8*idx+(k:Int)):(Jl p idx size k).set k 0=Jl p idx size (k+1):=by
 unfold Jl
 apply List.ext_getElem?
 intro i
 by_cases e:i=k
 ·subst e;rw[sF (by simpa using hk),List.getElem?_mapIdx,gE hk]
  simp[h]
 rw[sN (fun h=>e h.symm),List.getElem?_mapIdx,List.getElem?_mapIdx]
 cases p[i]? with
 | none=>rfl
 | some z=>
  have:i<k↔i<k+1:=by omega
  simp[this]
theorem zhX {p:List Int} {idx size:Int} {k:Nat} (h:¬size<=8*idx+(k:Int)):Jl p idx size k=Jl p idx size (k+1):=by
 unfold Jl
 apply List.ext_getElem?
 intro i;rw[List.getElem?_mapIdx,List.getElem?_mapIdx]
 cases p[i]? with
 | none=>rfl
 | some z=>
  by_cases e:i=k
  ·subst e
   simp[h]
  have:i<k↔i<k+1:=by omega
  simp[this]
theorem zkv {ps:List (List Int)} {qs:List (Int × List Int)} {b:Int} (h1:∀p∈ps,p.length=8) (h2:∀q∈qs,q.2.length=8):(JS ps qs b).length=8:=by
 unfold JS
 split
 ·cases h:qs.reverse.find? (fun q=>q.1 == b)with
  | some q=>exact h2 q (by have:=List.mem_of_find?_eq_some h;simpa using this)
  | none=>
   simp only;rw[gD]
   cases h3:ps[b.toNat]? with
   | none=>rfl
   | some p=>exact h1 p (mG h3)
 rfl
theorem zfm (V:MaV) (m:Ma) (fi ix:Nat) (f:Fl) (bk:Int) (w:World) (hm:zC w V m) (hca:∀c∈m.ca,zez fi ix c=true->0<=c.fr/\c.fr<m.fs.length) (hf:m.fl[fi]? =some f) (hbk:f.bl[ix]? =some bk) (hix:ix<=1000):
  Calls Tryz.prog 65 #[.agg #[.slice V.f.a V.f.n V.f.c,.int .i64 m.hand,.slice V.s.a V.s.n V.s.c,.slice V.sb.a V.sb.n V.sb.c,.slice V.sq.a V.sq.n V.sq.c,.slice V.db.a V.db.n V.db.c,.slice V.dq.a V.dq.n V.dq.c,.slice V.fl.a V.fl.n V.fl.c,.int .i64 m.cnt,.slice V.ca.a V.ca.n V.ca.c,.slice V.sp.a V.sp.n V.sp.c],.int .i64 (fi:Int),.int .i64 (ix:Int)] w fun e w'=>e= .returned (.agg (pgc (zel m fi ix)).toArray)/\(zel m fi ix).length=8/\zc w w':=by
 have HRD:Hid (∀W,zc w W->Calls Tryz.prog 99 #[.agg #[.slice V.db.a V.db.n V.db.c,.slice V.dq.a V.dq.n V.dq.c],.int .i64 bk] W fun e w'=>e= .returned (.tuple #[.agg (pgc (JS m.db m.dq bk)).toArray,.int .i64 (qZ m.db.length m.dq bk)])/\zc W w'):=show∀W,_ from fun W hW=>zeU _ m.db m.dq bk W ⟨_,_,rfl,(hm.grew hW).db,(hm.grew hW).dq⟩
 have HRL:Hid ((JS m.db m.dq bk).length=8):=zkv hm.db.2.1 hm.dq.2.1;obtain⟨⟨fa,fn,fc⟩,vs,vsb,vsq,vdb,vdq,⟨fla,fln,flc⟩,⟨caa,can,cac⟩,vsp⟩:=V;dsimp only at HRD⊢;obtain⟨n1,-,-,-,-,-,n7,n8,-⟩:=hm.ns;dsimp only at n1 n7 n8;have HFR:Hid (Qs w fa m.fs):=hm.frs;have HCA:Hid (zaX w caa m.ca):=hm.cas;have HN1:Hid (m.fs.length=fn):=n1.symm;have HN8:Hid (m.ca.length=can):=n8.symm;have hbc:can<=9223372036854775807:=by have:=hm.ca.short;omega
 obtain⟨_,_,hfe,_,hfr⟩:=qN.rows hm.fl;have HFL:Hid (Zb w fla m.fl):=show Zb _ _ _ by
  simp only[vJ]at hfe;rw[hfe.1];exact hfr
 have HIN:Hid (∀c∈m.ca,zez fi ix c=true->0<=c.fr/\c.fr<m.fs.length):=hca;have hfn:fi<fln:=by rw[n7];exact(gS.1 hf).1
 obtain⟨ad,rfl,ba,bc,hbr,hfl⟩:=HFL.out fi f hf;have HBL:Hid (∀W,zc w W->zig W (ad.add (fi*2)) f.size (.slice ba f.bl.length bc)):=hfl;obtain⟨_,_,hbe,hbn⟩:=hbr.nums;have hbl:ix<f.bl.length:=(gS.1 hbk).1;obtain⟨ad2,had2,hb2⟩:=hbn ix bk hbk;have HB2:Hid (ba=some ad2/\∀W,zc w W->W.cell? (ad2.add ix)=some (.int .i64 bk)):=show _/\_ from⟨by simp only[vJ]at hbe;rw[hbe.1];exact had2,hb2⟩
 obtain⟨bn,HBN⟩:∃bn,Hid (f.bl.length=bn):=⟨_,rfl⟩;rw[HBN.out]at hbl HBL;have HCO1:Hid (∀c,m.ca.find? (zez fi ix)=some c->zel m fi ix=pgL (z8 m c.fr).p):=show∀c,_ from fun c hc=>by unfold zel;rw[hc]
 have HCO2:Hid (m.ca.find? (zez fi ix)=none->zel m fi ix=if bk<0 then zz else zko (JS m.db m.dq bk) ix f.size):=show _->_ from fun hc=>by
  have hg:m.fl.getD ((fi:Int).toNat) ⟨0,[]⟩=f:=by rw[tN,gD,hf];rfl
  have e1:zkO m fi ix=bk:=by unfold zkO;rw[hg,tN,gD,hbk];rfl
  have e2:zkS m fi=f.size:=by unfold zkS;rw[hg]
  unfold zel;rw[hc];simp only[e1,e2]
 obtain⟨C,HC⟩:∃C,Hid (zel m fi ix=C):=⟨_,rfl⟩;rw[HC.out]at HCO1 HCO2⊢;clear hm n1 n7 n8 hfe hfr hca hf hbk hfl hbr hbe hbn had2 hb2 HC HFL;have hfz:(fi:Int)< (fln:Int):=by omega
 have hbz:(ix:Int)< (bn:Int):=by omega
 obtain⟨W0,hW0⟩:∃W0,(w.alloc (.cells #[.slice fa fn fc,.int .i64 m.hand,.slice vs.a vs.n vs.c,.slice vsb.a vsb.n vsb.c,.slice vsq.a vsq.n vsq.c,.slice vdb.a vdb.n vdb.c,.slice vdq.a vdq.n vdq.c,.slice (some ad) fln flc,.int .i64 m.cnt,.slice caa can cac,.slice vsp.a vsp.n vsp.c] 41)).alloc (.cells #[.int .u8 0,.int .u8 0,.int .u8 0,.int .u8 0,.int .u8 0,.int .u8 0,.int .u8 0,.int .u8 0] 67)=W0:=⟨_,rfl⟩;have HG0:=gD2 hW0
 have X0:=x2a hW0
 have Y0:Hid (Box W0 (w.heap.size+1) (pgc zz)):=show Box _ _ _ by rw[<-hW0];exact Box.top _ (pgc zz) _ (by simp)
 have HW0:Hid (_=W0):=hW0;clear hW0
 go_enter Tryz.func65,Tryz.ntmps65
 go_upto_region 1 with fail;rw[HW0.out];have x9:=X0.out.c 9 rfl;go_wp2;clear x9
 go_loopg [16] can (fun gg s16 wr=>∃kk:Nat,kk<=can/\can - kk<=gg/\s16= .int .i64 kk/\Hid (zc W0 wr)/\Hid (∀(j:Nat) c,j<kk->m.ca[j]? =some c->zez fi ix c=false))
 case atStart=>exact⟨0,nZ _,by omega,rfl,zc.refl _,fun j c hj=>absurd hj (nL _)⟩
 obtain⟨kk,hkk,hgg,rfl,BW,OW⟩:=hrel
 by_cases hlt:kk<can
 ·have hltz:(kk:Int)< (can:Int):=by omega
  obtain⟨c,HC⟩:∃c,Hid (m.ca[kk]? =some c):=⟨_,gE (by rw[HN8.out];exact hlt)⟩
  obtain⟨adc,rfl,hl⟩:=HCA.out kk c HC.out;obtain⟨d0,d1,d2⟩:=hl wr (HG0.out.trans BW.out);clear hl;go_upto_region 4 with fail;obtain⟨W1,hW1⟩:∃W1,wr.alloc (.cells #[.int .i64 c.file,.int .i64 c.idx,.int .i64 c.fr] 124)=W1:=⟨_,rfl⟩;have HG1:=gT hW1 BW
  have C1:=xA hW1
  rw[hW1];clear hW1 d0 d1 d2;obtain⟨c0,c1,c2⟩:=C1.out.c3;have HNX:Hid (zez fi ix c=false->∀(j:Nat) c,j<kk+1->m.ca[j]? =some c->zez fi ix c=false):=show _->_ from fun h0 j c' hj hc'=>by
   by_cases e:j=kk
   ·subst e;rw[HC.out]at hc';cases hc';exact h0
   exact OW.out j c' (by omega) hc'
  by_cases h1:c.file=(fi:Int)
  ·have h1e:(c.file ==(fi:Int))=true:=by simp[h1]
   by_cases h2:c.idx=(ix:Int)
   ·have h2e:(c.idx ==(ix:Int))=true:=by simp[h2]
    have HHT:Hid (zez fi ix c=true):=show _=_ by simp[zez,h1,h2]
    have HFD:Hid (m.ca.find? (zez fi ix)=some c):=show _=_ by
     rw[List.find?_eq_some_iff_getElem];refine⟨HHT.out,kk,(gS.1 HC.out).1,(gS.1 HC.out).2,fun j hj=>?_⟩
     have:=OW.out j _ hj (gE (by have:=(gS.1 HC.out).1;omega))
     simp[this]
    obtain⟨r0,r1⟩:=HIN.out c (mG HC.out) HHT.out;obtain⟨k,hk⟩:∃k:Nat,c.fr=(k:Int):=⟨c.fr.toNat,by omega⟩
    have hkn:k<fn:=by rw[<-HN1.out];omega
    have hkz:(k:Int)< (fn:Int):=by omega
    obtain⟨q,HQ⟩:∃q,Hid (m.fs[k]? =some q):=⟨_,gE (by rw[HN1.out];exact hkn)⟩
    have HCE:Hid (C=pgL q.p):=show _=_ by
     rw[HCO1.out c HFD.out,hk];unfold z8;rw[tN,gD,HQ.out];rfl
    rw[hk]at c2;clear h1 h2 r0 r1 hk;go_upto_region 5 with fail;obtain⟨adf,hva,hl⟩:=HFR.out k q HQ.out;obtain⟨d0,d1,d2,d3,d4,d5,d6,d7,-⟩:=hl W1 (HG0.out.trans HG1.out);have x0:=(X0.out.grew HG1.out).c 0 rfl;rw[hva]at x0;have Y1:=dD (Y0.out.grew HG1.out);clear hl hva
    go_wp2_with (refine zQ rfl 67 (.tmp 6) (.tmp 37) rfl (w.heap.size+1) rfl (pgc (pgL q.p)) rfl Y1.out rfl zlu (Qx _) ?_)
    intro W2 hb2 hg2 _;have HG2:Hid (zc w W2):=show zc _ _ from zg (HG0.out.trans HG1.out) hg2 (by omega)
    go_wp2;refine bodyPost_ret (zW rfl _ rfl hb2 Tryz.underlying67 rfl zlu) rfl ⟨by rw[HCE.out],by rw[HCE.out];rfl,HG2.out⟩
   have h2e:(c.idx ==(ix:Int))=false:=by simp[h2]
   have OW':Hid (∀(j:Nat) c,j<kk+1->m.ca[j]? =some c->zez fi ix c=false):=HNX.out (by simp[zez,h2])
   clear h1 h2;go_wp2
   go_roundg (can -(kk+1))
   case measure=>omega
   exact⟨kk+1,by omega,by omega,by go_num,HG1.out,OW'.out⟩
  have h1e:(c.file ==(fi:Int))=false:=by simp[h1]
  have OW':Hid (∀(j:Nat) c,j<kk+1->m.ca[j]? =some c->zez fi ix c=false):=HNX.out (by simp[zez,h1])
  clear h1;go_wp2
  go_roundg (can -(kk+1))
  case measure=>omega
  exact⟨kk+1,by omega,by omega,by go_num,HG1.out,OW'.out⟩
 have hltz:¬(kk:Int)< (can:Int):=by omega
 have hke:kk=can:=by omega
 have HNO:Hid (m.ca.find? (zez fi ix)=none):=show _=_ by
  rw[List.find?_eq_none];intro c hc;obtain⟨j,hj⟩:=List.getElem?_of_mem hc;have:=OW.out j c (by rw[hke,<-HN8.out];exact(gS.1 hj).1) hj
  simp[this]
 have HCE:Hid (C=if bk<0 then zz else zko (JS m.db m.dq bk) ix f.size):=HCO2.out HNO.out;clear hke;go_upto_region 7 with fail;have x7:=(X0.out.grew BW.out).c 7 rfl;obtain⟨d0,d1⟩:=HBL.out wr (HG0.out.trans BW.out);obtain⟨hba,hb2⟩:=HB2.out;rw[hba]at d1;have e0:=hb2 wr (HG0.out.trans BW.out);clear hba hb2 d0;have YW:=dD (Y0.out.grew BW.out)
 by_cases hb:bk<0
 ·rw[if_pos hb]at HCE
  go_wp2_with (refine zQ rfl 67 (.tmp 6) (.tmp 51) rfl (w.heap.size+1) rfl (pgc zz) rfl YW.out rfl zlu (Qx _) ?_)
  intro W2 hb2 hg2 _;have HG2:Hid (zc w W2):=show zc _ _ from zg (HG0.out.trans BW.out) hg2 (by omega)
  go_wp2;refine bodyPost_ret (zW rfl _ rfl hb2 Tryz.underlying67 rfl zlu) rfl ⟨by rw[HCE.out],by rw[HCE.out];rfl,HG2.out⟩
 rw[if_neg hb]at HCE;have x5:=(X0.out.grew BW.out).c 5 rfl;have x6:=(X0.out.grew BW.out).c 6 rfl;have hrd:=HRD.out wr (HG0.out.trans BW.out);go_wp2_with fail;refine hrd.mono ?_;clear hrd x5 x6 x7 d1 e0;rintro e W2 ⟨rfl,g2⟩;obtain⟨p,HP⟩:∃p,Hid (JS m.db m.dq bk=p):=⟨_,rfl⟩;rw[HP.out]at HCE HRL⊢;have HG2:=dD (BW.out.trans g2);clear g2;obtain⟨p0,p1,p2,p3,p4,p5,p6,p7,rfl⟩:=ziZ p HRL.out;simp only[pgc,mP,List.map_nil];go_upto_region 11 with fail;obtain⟨W3,hW3⟩:∃W3,W2.alloc (.cells #[.int .u8 p0,.int .u8 p1,.int .u8 p2,.int .u8 p3,.int .u8 p4,.int .u8 p5,.int .u8 p6,.int .u8 p7] 67)=W3:=⟨_,rfl⟩;have HG3:=gT hW3 HG2
 have P3:Hid (Box W3 W2.heap.size (pgc (Jl [p0,p1,p2,p3,p4,p5,p6,p7] ix f.size 0))):=show Box _ _ _ by rw[<-hW3,zgK];exact Box.top _ (pgc [p0,p1,p2,p3,p4,p5,p6,p7]) _ rfl
 have HPL:Hid (w.heap.size+1<W2.heap.size):=show _<_ from(Y0.out.grew HG2.out).lt
 rw[hW3];clear hW3;obtain⟨pp,HPP⟩:∃pp,Hid (W2.heap.size=pp):=⟨_,rfl⟩;rw[HPP.out]at P3 HPL⊢;go_wp2;clear HG2
 go_loopg [59] 8 (fun gg s59 wr=>∃i:Nat,i<=8/\8 - i<=gg/\s59= .int .i64 i/\Hid (zc w wr)/\Hid (Box wr w.heap.size [.slice fa fn fc,.int .i64 m.hand,.slice vs.a vs.n vs.c,.slice vsb.a vsb.n vsb.c,.slice vsq.a vsq.n vsq.c,.slice vdb.a vdb.n vdb.c,.slice vdq.a vdq.n vdq.c,.slice (some ad) fln flc,.int .i64 m.cnt,.slice caa can cac,.slice vsp.a vsp.n vsp.c])/\Hid (Box wr (w.heap.size+1) (pgc zz))/\Hid (Box wr pp (pgc (Jl [p0,p1,p2,p3,p4,p5,p6,p7] ix f.size i))))
 case atStart=>exact⟨0,nZ _,by omega,rfl,HG0.out.trans HG3.out,X0.out.grew HG3.out,Y0.out.grew HG3.out,P3.out⟩
 obtain⟨i,hi,hg3,rfl,BW2,XW,YW2,PW⟩:=hrel;clear P3
 by_cases hlt2:i<8
 ·have hltz2:(i:Int)<8:=by omega
  obtain⟨d0,d1⟩:=HBL.out wr BW2.out;have x7:=XW.out.c 7 rfl;clear d1;obtain⟨z,hz⟩:∃z,(Jl [p0,p1,p2,p3,p4,p5,p6,p7] ix f.size i)[i]? =some z:=⟨_,gE (by rw[zhY];exact hlt2)⟩
  have z0:=PW.out.c i (zfL hz);have zf:=PW.out.f
  by_cases hc:f.size<=8*(ix:Int)+(i:Int)
  ·have hcd:decide (f.size<=8*(ix:Int)+(i:Int))=true:=by simpa using hc
   have P4:Hid (Box (wr.setCell ⟨pp,i,none⟩ (.int .u8 0)) pp (pgc (Jl [p0,p1,p2,p3,p4,p5,p6,p7] ix f.size (i+1)))):=show Box _ _ _ by rw[<-zhZ (by exact hlt2) hc,zcZ];exact PW.out.set i _
   have X4:Hid (Box (wr.setCell ⟨pp,i,none⟩ (.int .u8 0)) w.heap.size [.slice fa fn fc,.int .i64 m.hand,.slice vs.a vs.n vs.c,.slice vsb.a vsb.n vsb.c,.slice vsq.a vsq.n vsq.c,.slice vdb.a vdb.n vdb.c,.slice vdq.a vdq.n vdq.c,.slice (some ad) fln flc,.int .i64 m.cnt,.slice caa can cac,.slice vsp.a vsp.n vsp.c]):=show Box _ _ _ from XW.out.other (by have:=HPL.out;simp;omega) _
   have Y4:Hid (Box (wr.setCell ⟨pp,i,none⟩ (.int .u8 0)) (w.heap.size+1) (pgc zz)):=show Box _ _ _ from YW2.out.other (by have:=HPL.out;simp;omega) _
   have G4:Hid (zc w (wr.setCell ⟨pp,i,none⟩ (.int .u8 0))):=show zc _ _ from zD BW2.out (by have:=HPL.out;simp;omega) _
   clear hz;go_wp2
   go_roundg (8 -(i+1))
   case measure=>omega
   exact⟨i+1,by omega,by omega,by go_num,G4.out,X4.out,Y4.out,P4.out⟩
  have hcd:decide (f.size<=8*(ix:Int)+(i:Int))=false:=by simpa using hc
  have P4:Hid (Box wr pp (pgc (Jl [p0,p1,p2,p3,p4,p5,p6,p7] ix f.size (i+1)))):=show Box _ _ _ by rw[<-zhX hc];exact PW.out
  clear hz;go_wp2
  go_roundg (8 -(i+1))
  case measure=>omega
  exact⟨i+1,by omega,by omega,by go_num,BW2.out,XW.out,YW2.out,P4.out⟩
 have hltz2:¬(i:Int)<8:=by omega
 have:i=8:=by omega
 subst this;have PE:Hid (Box wr pp (pgc C)):=show Box _ _ _ by
  have:=PW.out;rw[zh0 (by exact nR 8),<-HCE.out]at this
  exact this
 have HCL:Hid (C.length=8):=show _=_ by rw[HCE.out];unfold zko;simp
 have HCP:Hid ((pgc C).length=8):=show _=_ by rw[Ja];exact HCL.out
 go_wp2_with (first | (refine zG rfl 67 (.tmp 10) rfl pp rfl PE.out Tryz.underlying67 rfl (by rw[HCP.out];exact zlu) ?_) | (refine zQ rfl 67 (.tmp 6) (.tmp 77) rfl (w.heap.size+1) rfl (pgc C) rfl YW2.out (by rw[HCP.out];rfl) zlu (Qx _) ?_))
 intro W5 hb5 hg5 _;have HG5:Hid (zc w W5):=show zc _ _ from zg BW2.out hg5 (by omega)
 go_wp2;refine bodyPost_ret (zW rfl _ rfl hb5 Tryz.underlying67 rfl (by rw[HCP.out];exact zlu)) rfl ⟨rfl,HCL.out,HG5.out⟩
theorem zn.own {hi g:Nat} {a b c:World} (h:zn hi a b) (hg:b.grownBy c (some g)) (ha:a.heap.size<=g):zn hi a c:=⟨fun p t cs h1 h2=>(h.1 p t cs h1 h2).beside hg (fun k e=>by cases e;have:=h1.box.lt;omega),nT h.2 hg.size⟩
theorem zN {α:Type} {k:Nat} {s:α}:∀{S:List (Nat × α)},S.lookup k=some s->(k,s)∈S
 | [],h=>by simp at h
 | (p,a) :: S,h=>by
  by_cases h1:k=p
  ·subst h1
   simp at h
   subst h;simp
  have e1:(k == p)=false:=by simpa using h1
  rw[List.lookup_cons,e1]at h;exact List.mem_cons_of_mem _ (zN h)
theorem zcS {α:Type} {p:α->Bool}:∀{l:List α} {k:Nat},(∀(j:Nat) x,j<k->l[j]? =some x->p x=true)->(∀x,l[k]? =some x->p x=false)->k<=l.length->l.takeWhile p=l.take k/\l.dropWhile p=l.drop k
 | [],0,_,_,_=>⟨rfl,rfl⟩
 | [],k+1,_,_,h=>by simp at h
 | x :: l,0,_,h,_=>by
  have:=h x rfl
  simp[this]
 | x :: l,k+1,h1,h2,h3=>by
  have hx:=h1 0 x (Nat.zero_lt_succ _) rfl;obtain⟨e1,e2⟩:=zcS (l:=l) (k:=k) (fun j y hj hy=>h1 (j+1) y (by omega) (by simpa using hy)) (fun y hy=>h2 y (by simpa using hy)) (by simpa using h3)
  simp[hx,e1,e2]
theorem zlv:(Tryz.prog.info? 124).map (·.size)=some 3:=by kernel_rfl
theorem zbq (w:World):(Go.sizeOf 124).run Tryz.prog w= .ok 3 w:=by
 obtain⟨i0,h1,h2⟩:∃i0,Tryz.prog.info? 124=some i0/\i0.size=3:=by
  have:=zlv
  cases hq:Tryz.prog.info? 124 with
  | none=>rw[hq]at this;cases this
  | some i0=>rw[hq]at this;exact⟨i0,rfl,by simpa using this⟩
 simp[Go.sizeOf,typeInfo,h1,h2]
theorem zfH {w:World} {a:Option Addr} {n c k:Nat} (hk:k<=c):(Instr.sliceAt 38 (.slice a n c) none (some (.int .i64 (k:Int))) none).run Tryz.prog w= .ok (.slice a k c) w:=by
 have h1:(0:Int)<=(k:Int)/\(k:Int)<=(c:Int):=by omega
 simp only[Instr.sliceAt,Instr.slice,Instr.sliceBounds,Instr.sliceBound,asIntOf,Sem.run_bind,Sem.run_pure,rA,run_underlying Tryz.underlying38];rw[if_pos h1];simp only[Sem.run_pure,rA,zbq,tN]
 cases a with
 | none=>simp
 | some ad=>by_cases hc:c=0 <;> simp[hc,Addr.add]
theorem zfJ {w:World} {a:Option Addr} {n c k:Nat} (hk:k<=n):(Instr.sliceAt 38 (.slice a n c) (some (.int .i64 (k:Int))) none none).run Tryz.prog w= .ok (.slice (a.map fun ad=>if c=k then ad else ad.add (k*3)) (n - k) (c - k)) w:=by
 have h1:(0:Int)<=(k:Int)/\(k:Int)<=(n:Int):=by omega
 simp only[Instr.sliceAt,Instr.slice,Instr.sliceBounds,Instr.sliceBound,asIntOf,Sem.run_bind,Sem.run_pure,rA,run_underlying Tryz.underlying38];rw[if_pos h1];simp only[Sem.run_pure,rA,zbq,tN]
 cases a with
 | none=>simp
 | some ad=>by_cases hc:c=k <;> simp[hc]
theorem zo.upto {w:World} {a:Option Addr} {n c k:Nat} {l:List Ca} (h:zo qY w (.slice a n c) l) (hk:k<=n):zo qY w (.slice a k c) (l.take k):=by
 have hn:=h.n;obtain⟨⟨xa,xc,q1,q2,q3⟩,q4⟩:=h;cases q1;refine⟨⟨a,c,by rw[List.length_take,Nat.min_eq_left (by omega)],fun e=>by rw[q2 e];simp,fun ad e=>?_⟩,?_⟩
 ·intro j u hj;refine q3 ad e j u ?_;have hs:l.flatMap qY.enc=(l.take k).flatMap qY.enc++(l.drop k).flatMap qY.enc:=by rw[<-List.flatMap_append,List.take_append_drop]
  rw[hs,List.getElem?_append_left (gS.1 hj).1];exact hj
 refine nT (Nat.mul_le_mul_right _ ?_) q4;rw[List.length_take];omega
theorem zo.from {w:World} {a:Option Addr} {n c k:Nat} {l:List Ca} (h:zo qY w (.slice a n c) l) (hk:k<=n) (hc:n<=c):zo qY w (.slice (a.map fun ad=>if c=k then ad else ad.add (k*3)) (n - k) (c - k)) (l.drop k):=by
 have hn:=h.n;obtain⟨⟨xa,xc,q1,q2,q3⟩,q4⟩:=h;cases q1;refine⟨⟨_,_,by rw[List.length_drop],fun e=>?_,fun ad e=>?_⟩,?_⟩
 ·cases a with
  | none=>rw[q2 rfl];simp
  | some ad=>cases e
 ·cases a with
  | none=>cases e
  | some ad0=>
   simp only[Option.map_some,Option.some.injEq]at e;intro j u hj
   by_cases hck:c=k
   ·have:l.drop k=[]:=List.drop_eq_nil_of_le (by omega)
    rw[this]at hj
    simp at hj
   rw[if_neg hck]at e;subst e;rw[zP];refine q3 ad0 rfl _ u ?_;have hs:l.flatMap qY.enc=(l.take k).flatMap qY.enc++(l.drop k).flatMap qY.enc:=by rw[<-List.flatMap_append,List.take_append_drop]
   have hl:((l.take k).flatMap qY.enc).length=k*3:=by rw[jR,List.length_take,Nat.min_eq_left (by omega)];rfl
   rw[hs,aR (by rw[hl];omega),hl,show k*3+j - k*3=j by omega]
   exact hj
 refine nT (Nat.mul_le_mul_right _ ?_) q4;rw[List.length_drop];omega
theorem zcm (w:World) (c:Ca):zb qY w.heap.size (w.alloc (.cells #[.int .i64 c.file,.int .i64 c.idx,.int .i64 c.fr] 124)) (.slice (some ⟨w.heap.size,0,none⟩) 1 1) [c]:=by
 refine⟨⟨rfl,.inr ⟨w.heap.size,1,#[.int .i64 c.file,.int .i64 c.idx,.int .i64 c.fr],rfl,nR _,?_,nR _,qz (by omega),rfl,rfl⟩⟩,by show 1*24<=_;omega⟩
 show(w.heap.push _)[w.heap.size]? =_
 simp[qY]
theorem zp.part {w:World} {b:Nat} {t:TypeId}:∀{ds cs:List Value} {o:Nat},zp w b t cs->o+ds.length<=cs.length->zp (w.setCells b o ds) b t (splice cs o ds):=by
 have key:∀(ds cs:List Value) (o:Nat) (w:World),zp w b t cs->o+ds.length<=cs.length->zp (w.setCells b o ds) b t (splice cs o ds):=fun ds=>by
  induction ds with
  | nil=>
   intro cs o w h hl;have:splice cs o []=cs:=by simp[splice]
   rw[this];exact h
  | cons d ds ih=>
   intro cs o w h hl;simp only[List.length_cons]at hl;have h1:=h.set o d;have h2:=ih (cs.set o d) (o+1) (w.setCell ⟨b,o,none⟩ d) h1 (by simp;omega)
   have h3:splice (cs.set o d) (o+1) ds=splice cs o (d :: ds):=by
    unfold splice;rw[List.take_set,List.drop_set,if_pos (by omega),List.take_add_one,gE (by omega)]
    simp only[List.length_cons,Option.toList_some];rw[List.set_append_right _ _ (by simp;omega),show o+1+ds.length=o+(ds.length+1) by omega]
    simp[List.length_take,Nat.min_eq_left (show o<=cs.length by omega)]
   rw[h3]at h2;exact h2
 exact fun{ds cs o} h hl=>key ds cs o w h hl
theorem qD {ops:Array Oper} {rest:List Oper} {o:Oper} {a:Act} {w:World} {Q:Exit->Act->World->Prop} (hgd:o.guard=none) (ty:TypeId) (p x:Operand) (ho:o.op= .store ty p x) (b:Nat) (hp:a.eval p= .pointer (some ⟨b,0,none⟩)) (vs:List Value) (hx:a.eval x= .agg vs.toArray)
  {cs:List Value} {t:TypeId} (hb:zp w b t cs) (hl:vs.length=cs.length) (hi:(Tryz.prog.info? ty).map (·.size)=some cs.length) (h1:∀v∈vs,v.oneCell'=true)
  (h:∀w',zp w' b t vs->w.grownBy w' (some b)->w'.heap.size=w.heap.size->wpList Tryz.prog ops Q rest (a.put o.dst undef) w'):wpList Tryz.prog ops Q (o :: rest) a w:=by
 refine wpList_store_mid hgd ty p x ho b 0 vs.toArray hp hx ?_ ?_ (all_oneCell_toArray h1) ?_
 ·simpa [hl]using hb.box.there
 ·simpa [hl]using hi
 have:=hb.part (ds:=vs) (o:=0) (by omega)
 rw[zay hl]at this;exact h _ this (zO b vs 0 w).1 (zO b vs 0 w).2
theorem MkE.trans {w0 w w1 w':World} {hi b:Nat} {L L1:List Int} {V':MaV} {m':Ma} {vt':Sli} {T':List (Nat->En)} (h1:ZC L L1) (h2:zn hi w w1) (h:MkE w0 hi b w1 L1 V' m' vt' T' w'):MkE w0 hi b w L V' m' vt' T' w':=by
 obtain⟨vl',L',k1,k2,k3⟩:=h;exact⟨vl',L',k1,h1.trans k2,h2.trans k3⟩
theorem Mk.page {w0 w w':World} {hi b pp:Nat} {vl:Sli} {L:List Int} {V:MaV} {m:Ma} {vt:Sli} {T:List (Nat->En)} {cs:List Value} (h:Mk w0 hi w b vl L V m vt T) (hp:zp w pp 67 cs) (hh:hi<=pp) (hg:w.grownBy w' (some pp)):Mk w0 hi w' b vl L V m vt T:=by
 have hne:b≠pp:=fun e=>by
  subst e;have h1:w.heap[b]? =_:=h.box;rw[show w.heap[b]? =_ from hp]at h1
  cases h1
 exact⟨zg h.gr hg (nT h.rows.bh hh),h.hb,h.box.beside hg (fun k e=>by cases e;exact hne),h.lr,h.lc,h.lb,h.rows.var hg hp hg.size (.inr ⟨rfl,hh⟩)⟩
theorem zfS {hi pp:Nat} (h:hi<=pp):Loc hi pp 67:=⟨by decide,by decide,by decide,by decide,by decide,by decide,by decide,by decide,fun _=>h⟩
theorem MkR.setCa {base hi:Nat} {w:World} {V:MaV} {m:Ma} {vt:Sli} {T:List (Nat->En)} (h:MkR base hi w V m vt T) {s:Sli} {ca:List Ca} (ho:zb qY base w (.slice s.a s.n s.c) ca):MkR base hi w { V with ca:=s } { m with ca:=ca } vt T:=⟨h.hw,h.bh,h.fs,h.sl,h.slh,h.sb,h.sbh,h.sq,h.db,h.dbh,h.dq,h.fl,ho,h.sp,h.tt,h.ap⟩
end
end Go.Proofs.YtdgccecjbpgmfaaGreat
