import Derived.Test.YtangilolcekceaaGreatPO2
import Derived.BigQuiet
import Derived.Laws.CopyRow
import Derived.Laws.CopyOwn
import Derived.Laws.MakeOwn
import Derived.RangeFuncNested
import Derived.RangeFuncBound
import Derived.RangeFuncCalls
import Derived.RangeFuncLeaves
import Derived.Shelf.Abstract
import Derived.Shelf.RegionOpen
import Derived.WalkKit
import Derived.OwnWalkIn
import Derived.TacticsInMore
import Derived.LoopNIn
import Derived.LoopIn
namespace Go.Proofs.YtangilolcekceaaGreat
set_option maxRecDepth 100000
set_option maxHeartbeats 4000000
variable{B0 B1 b base' hi i id j:Nat} {L:List Int} {Q Q':Exit->Act->World->Prop} {T:List (Nat->En)} {V:MaV} {e t:TypeId} {m:Ma} {o oi oj:Oper} {ops:Array Oper} {vl vt:Sli} {w' w0:World} {xs:List Value} {z:Int}
open Go.Proofs.Tryz
section
open Go.RowKit
section
variable(I:World->Prop) (P:Program) (ops:Array Oper) (S:Nat->Option (Value->Prop))
def ClauseC (i:Nat) (F:Nat->World->Prop) (a:Act) (K:(Nat->World->Prop)->Act->Prop):Prop:=
 match ops[i]? with
 | none=>False
 | some o=>
  if Region.wanted o (yielded ops a.tmps)then
   match S i with
   | none=>∃v,(∀w,I w->(∀m,anc ops 9 m i=true->F m w)->(execOp a.eval o).run P w= .ok (.value v) w)/\K F (a.put o.dst v)
   | some s=>∃p:Value->World->Prop,(∀v w w',Grew w w'->p v w->p v w')/\(∀w,I w->(∀m,anc ops 9 m i=true->F m w)->Does P o a w fun v w'=>I w'/\Grew w w'/\s v/\p v w')/\∀v,s v->K (fset F i (p v)) (a.put o.dst v)
  else K F (a.put o.dst undef)
def LexC (Q:Act->World->Prop):List Nat->(Nat->World->Prop)->Act->Prop
 | [],F,a=>∀w,I w->(∀i,F i w)->Q a w
 | i :: l,F,a=>ClauseC I P ops S i F a (LexC Q l)
end
section
variable{I:World->Prop} {P:Program} {ops:Array Oper} {S:Nat->Option (Value->Prop)} {T:Nat}
theorem ClauseC.mono {F:Nat->World->Prop} {a:Act} {K K':(Nat->World->Prop)->Act->Prop}
  (h:∀F' a',(∀m,m≠i->F' m=F m)->K F' a'->K' F' a') (hc:ClauseC I P ops S i F a K):ClauseC I P ops S i F a K':=by
 unfold ClauseC at*
 split
 ·rename_i ho;simp only[ho]at hc
 rename_i o ho
 simp only[ho]at hc
 split
 ·rename_i hw
  simp only[hw,if_true]at hc
  split
  ·rename_i hs
   simp only[hs]at hc;obtain⟨v,h1,h2⟩:=hc;exact⟨v,h1,h _ _ (fun _ _=>rfl) h2⟩
  rename_i s hs
  simp only[hs]at hc;obtain⟨p,hp,hd,hc⟩:=hc;exact⟨p,hp,hd,fun v hv=>h _ _ (fun m hm=>fset_other hm) (hc v hv)⟩
 rename_i hw
 simp only[hw]at hc;exact h _ _ (fun _ _=>rfl) hc
theorem ClauseC.swap {F:Nat->World->Prop} {a:Act} {K:(Nat->World->Prop)->Act->Prop} {w:World}
  (hi:ops[i]? =some oi) (hj:ops[j]? =some oj) (hne:i≠j) (hap:oi.apart ops oj=true)
  (hsi:∀cs b,oi.op≠.select cs b) (hsj:∀cs b,oj.op≠.select cs b)
  (hij:anc ops 9 i j=false) (hji:anc ops 9 j i=false) (hS:∀s,S i=some s->∃v,s v) (hch:S i≠none->S j≠none->anc ops 9 i j=true\/anc ops 9 j i=true)
  (hw0:I w) (hF:∀m,anc ops 9 m j=true->F m w)
  (h:ClauseC I P ops S i F a fun F' a'=>ClauseC I P ops S j F' a' K):ClauseC I P ops S j F a fun F' a'=>ClauseC I P ops S i F' a' K:=by
 obtain⟨h1,h2,h3⟩:=Oper.apart_spec hap;have ei:∀v,execOp (a.put oj.dst v).eval oi=execOp a.eval oi:=fun v=>execOp_put oi hsi a oj.dst v h3
 have ej:∀v,execOp (a.put oi.dst v).eval oj=execOp a.eval oj:=fun v=>execOp_put oj hsj a oi.dst v h1
 have wi:∀v,Region.wanted oi (yielded ops (a.put oj.dst v).tmps)=Region.wanted oi (yielded ops a.tmps):=fun v=>wanted_put oi a oj.dst v h3
 have wj:∀v,Region.wanted oj (yielded ops (a.put oi.dst v).tmps)=Region.wanted oj (yielded ops a.tmps):=fun v=>wanted_put oj a oi.dst v h1
 have di:∀v w K,Does P oi (a.put oj.dst v) w K=Does P oi a w K:=fun v w K=>by unfold Does;rw[ei]
 have dj:∀v w K,Does P oj (a.put oi.dst v) w K=Does P oj a w K:=fun v w K=>by unfold Does;rw[ej]
 have pc:∀v u,(a.put oi.dst v).put oj.dst u=(a.put oj.dst u).put oi.dst v:=fun v u=>Act.put_comm a v u h2
 have fi:∀p,(fun m=>anc ops 9 m i=true->fset F j p m w=F m w)=fun _=>True:=fun p=>by
  funext m
  simp only[eq_iff_iff,iff_true];intro hm;rw[fset_other (fun e=>by subst e;rw[hji]at hm;cases hm)]
 have faci:∀p w',(∀m,anc ops 9 m i=true->fset F j p m w')↔(∀m,anc ops 9 m i=true->F m w'):=fun p w'=>by
  constructor <;> intro hh m hm <;> have:=hh m hm
  ·rwa [fset_other (fun e=>by subst e;rw[hji]at hm;cases hm)]at this
  rwa [fset_other (fun e=>by subst e;rw[hji]at hm;cases hm)]
 have facj:∀p w',(∀m,anc ops 9 m j=true->fset F i p m w')↔(∀m,anc ops 9 m j=true->F m w'):=fun p w'=>by
  constructor <;> intro hh m hm <;> have:=hh m hm
  ·rwa [fset_other (fun e=>by subst e;rw[hij]at hm;cases hm)]at this
  rwa [fset_other (fun e=>by subst e;rw[hij]at hm;cases hm)]
 clear fi;unfold ClauseC at h⊢;simp only[hi,hj,ei,ej,wi,wj,di,dj,pc]at h⊢
 cases hwi:Region.wanted oi (yielded ops a.tmps) <;> cases hwj:Region.wanted oj (yielded ops a.tmps) <;>
  simp only[hwi,hwj,if_true,if_false,Bool.false_eq_true]at h⊢
 ·exact h
 ·cases hsj':S j with
  | none=>simp only[hsj']at h⊢;exact h
  | some s=>simp only[hsj']at h⊢;exact h
 ·cases hsi':S i with
  | none=>simp only[hsi']at h⊢;exact h
  | some s=>simp only[hsi']at h⊢;exact h
 cases hsi':S i with
 | none=>
  simp only[hsi']at h;obtain⟨vi,hri,h⟩:=h
  cases hsj':S j with
  | none=>
   simp only[hsj']at h⊢;obtain⟨vj,hrj,h⟩:=h;exact⟨vj,hrj,vi,hri,h⟩
  | some s=>
   simp only[hsj']at h⊢;obtain⟨p,hp,hd,hk⟩:=h;exact⟨p,hp,hd,fun vj hvj=>⟨vi,fun w' hw' hf=>hri w' hw' ((faci _ _).1 hf),hk vj hvj⟩⟩
 | some si=>
  simp only[hsi']at h;obtain⟨p,hp,hdi,h⟩:=h;obtain⟨v1,hv1⟩:=hS si hsi'
  cases hsj':S j with
  | none=>
   simp only[hsj']at h⊢;obtain⟨vj,hrj,_⟩:=h v1 hv1;refine⟨vj,fun w' hw' hf=>hrj w' hw' ((facj _ _).2 hf),p,hp,hdi,fun vi hvi=>?_⟩
   obtain⟨vj',hrj',hl⟩:=h vi hvi;have e1:=hrj w hw0 ((facj _ _).2 hF);have e2:=hrj' w hw0 ((facj _ _).2 hF);rw[e1]at e2;simp only[Result.ok.injEq,Next.value.injEq,and_true]at e2;subst e2;exact hl
  | some sj=>
   exfalso
   rcases hch (by rw[hsi'];simp) (by rw[hsj'];simp)with h1|h1
   ·rw[hij]at h1;cases h1
   rw[hji]at h1;cases h1
theorem LexC.commute {Q:Act->World->Prop} {j:Nat} {oj:Oper} {w:World} (hj:ops[j]? =some oj) (hw0:I w)
  (hsel:∀(k:Nat) (o:Oper) cs b,ops[k]? =some o->o.op≠.select cs b) (hS:∀k s,S k=some s->∃v,s v) (hch:∀i k,i<k->S i≠none->S k≠none->anc ops 9 i k=true):
  ∀(l:List Nat) (F:Nat->World->Prop) (a:Act),l.Nodup->j∈l->
   (∀i∈l,i≠j->∃oi,ops[i]? =some oi/\(i<j->oi.apart ops oj=true)/\anc ops 9 i j=false/\(i<j->anc ops 9 j i=false))->
   (l.Pairwise (·< ·))->(∀m,anc ops 9 m j=true->F m w)->LexC I P ops S Q l F a->LexC I P ops S Q (j :: l.filter (· != j)) F a
 | [],_,_,_,hm,_,_,_,_=>by cases hm
 | i :: l,F,a,hnd,hm,hall,hsorted,hF,h=>by
  by_cases hij:i=j
  ·subst hij;have:(i :: l).filter (· != i)=l:=by
    rw[List.filter_cons];simp only[bne_self_eq_false,Bool.false_eq_true,if_false];refine List.filter_eq_self.2 fun x hx=>?_
    have:x≠i:=fun e=>(List.nodup_cons.1 hnd).1 (e ▸ hx)
    simpa using this
   rw[this];exact h
  have hjl:j∈l:=by
   rcases mC.1 hm with e|e
   ·exact absurd e.symm hij
   exact e
  have hlt:i<j:=(List.pairwise_cons.1 hsorted).1 j hjl;obtain⟨oi,hoi,hap,haij,haji⟩:=hall i (by simp) hij
  have hf:(i :: l).filter (· != j)=i :: l.filter (· != j):=by
   rw[List.filter_cons];have:(i != j)=true:=by simpa using hij
   simp[this]
  rw[hf];refine ClauseC.swap hoi hj hij (hap hlt) (fun cs b=>hsel i oi cs b hoi) (fun cs b=>hsel j oj cs b hj) haij (haji hlt) (hS i) (fun q1 q2=> .inl (hch i j hlt q1 q2)) hw0 hF ?_
  refine ClauseC.mono (fun F' a' hF' hl=>?_) h
  refine LexC.commute hj hw0 hsel hS hch l F' a' (List.nodup_cons.1 hnd).2 hjl (fun k hk=>hall k (by simp[hk])) (List.pairwise_cons.1 hsorted).2 (fun m hma=>?_) hl
  rw[hF' m (fun e=>by subst e;rw[haij]at hma;cases hma)]
  exact hF m hma
theorem wpAny_of_lexC {Q:Act->World->Prop} {l:List Oper} {m:Nat} (hB:laxTB ops T=true) (hTl:T+m=ops.size) (hll:l.length=m) (hops:∀j,l[j]? =ops[T+j]?) (hS:∀k s,S k=some s->∃v,s v)
  (hch:∀i k,i<k->S i≠none->S k≠none->anc ops 9 i k=true) (hQ:∀a w,Q a w->wpList P ops Q' l a w):
  ∀(fuel:Nat) (listed:Array Bool) (F:Nat->World->Prop) (a:Act) (w:World),listed.size=ops.size->(∀i,T<=i->i<ops.size->listed.getD i true=false)->(unlistedT listed T).length=fuel->closed ops listed->I w->
   (∀i,F i w)->(∀i w w',Grew w w'->F i w->F i w')->LexC I P ops S Q (unlistedT listed T) F a->wpAny P .any ops Q' (fuel+m) listed a w:=by
 have hsel:=Region.noSelect_spec (ops:=ops) (by simp only[laxTB,Bool.and_eq_true]at hB;exact hB.1.1)
 intro fuel
 induction fuel with
 | zero=>
  intro listed F a w hsz hout hl hc hw hF hFp h;have hnil:unlistedT listed T=[]:=eN hl;rw[hnil]at h;rw[zA];refine wpAny_last hB m l T listed a w (nR _) hsz hTl hll hops (fun i hi=>?_) hout (hQ _ _ (h w hw hF))
  cases hg:listed.getD i true with
  | true=>rfl
  | false=>
   have:i∈unlistedT listed T:=List.mem_filter.2 ⟨List.mem_range.2 hi,by simp only[hg,beq_self_eq_true]⟩
   rw[hnil]at this;cases this
 | succ fuel ih=>
  intro listed F a w hsz hout hl hc hw hF hFp h;rw[Nat.add_right_comm];refine⟨fun hr=>?_,fun j hj=>?_⟩
  ·exfalso
   cases hu:unlistedT listed T with
   | nil=>simp[hu]at hl
   | cons x xs=>
    have hx:x∈unlistedT listed T:=by rw[hu];simp
    have hx':=List.mem_filter.1 hx;have hxT:x<T:=List.mem_range.1 hx'.1;have hxs:x<ops.size:=by omega
    have ho:ops[x]? =some ops[x]:=Array.getElem?_eq_getElem hxs;have hsorted:(unlistedT listed T).Pairwise (·< ·):=List.Pairwise.filter _ List.pairwise_lt_range;have:x∈Region.ready .any ops listed:=by
     refine mem_ready.2 ⟨by simpa using hx'.2,ops[x],ho,fun e he hb=>?_⟩
     have hed:edge ops e.on x=true:=(edge_of ho).2 ⟨e,he,hb,rfl⟩;have hlt:=laxTB_edge hB ho _ hed
     cases hg:listed.getD e.on true with
     | true=>exact getD_up (by omega) hg
     | false=>
      have hmem:e.on∈unlistedT listed T:=List.mem_filter.2 ⟨List.mem_range.2 (by omega),by simp only[hg,beq_self_eq_true]⟩
      rw[hu]at hmem hsorted
      rcases mC.1 hmem with e1|e1
      ·omega
      have:=(List.pairwise_cons.1 hsorted).1 _ e1;omega
    rw[hr]at this;cases this
  obtain⟨h0,oj,hoj,hall⟩:=mem_ready.1 hj;have hjs:j<ops.size:=(aS.1 hoj).1;have hdir:∀k,edge ops k j=true->listed.getD k false=true:=fun k hk=>by
   obtain⟨e,he,hb,rfl⟩:=(edge_of hoj).1 hk;exact hall e he hb
  have hjT:j<T:=by
   rcases Nat.lt_or_ge j T with h1|h1
   ·exact h1
   exfalso
   cases hu:unlistedT listed T with
   | nil=>simp[hu]at hl
   | cons x xs=>
    have hx:x∈unlistedT listed T:=by rw[hu];simp
    have hx':=List.mem_filter.1 hx;have hxT:x<T:=List.mem_range.1 hx'.1;have:=anc_listed hc j x j hdir (laxTB_last hB hoj h1 x (by omega))
    rw[getD_flip (by simpa using hx'.2)]at this
    cases this
  have hju:j∈unlistedT listed T:=List.mem_filter.2 ⟨List.mem_range.2 hjT,by simp only[h0,beq_self_eq_true]⟩
  have hnd:(unlistedT listed T).Nodup:=List.Pairwise.filter _ List.nodup_range;have hsorted:(unlistedT listed T).Pairwise (·< ·):=List.Pairwise.filter _ List.pairwise_lt_range;have hcm:=LexC.commute hoj hw hsel hS hch (unlistedT listed T) F a hnd hju (fun i hi hij=>by
   have hi':=List.mem_filter.1 hi;have hun:listed.getD i false=false:=getD_flip (by simpa using hi'.2)
   have his:i<ops.size:=by have:=List.mem_range.1 hi'.1;omega
   have hoi:ops[i]? =some ops[i]:=Array.getElem?_eq_getElem his;refine⟨ops[i],hoi,fun hlt=>?_,?_,fun hlt=>?_⟩
   ·rcases laxTB_apart hB hoj hjT i hlt with he|⟨oi,hoi',hap⟩
    ·have:=hdir i he;rw[hun]at this;cases this
    rw[hoi]at hoi';cases hoi';exact hap
   ·cases ha:anc ops 9 i j with
    | false=>rfl
    | true=>
     have:=anc_listed hc 9 i j hdir ha;rw[hun]at this;cases this
   cases ha:anc ops 9 j i with
   | false=>rfl
   | true=>
    have:=ancT_lt hB 9 j i ha
    omega) hsorted (fun m _=>hF m) h
  have hsz':(listed.setIfInBounds j true).size=ops.size:=by simp[hsz]
  have hout':∀i,T<=i->i<ops.size->(listed.setIfInBounds j true).getD i true=false:=fun i hi hi'=>by rw[getD_set_ne true (by omega)];exact hout i hi hi'
  have hlen':(unlistedT (listed.setIfInBounds j true) T).length=fuel:=by
   rw[unlistedT_set (by omega)]
   have he:(unlistedT listed T).filter (· != j)=(unlistedT listed T).erase j:=by
    rw[List.Nodup.erase_eq_filter hnd]
   rw[he,List.length_erase_of_mem hju];omega
  have hc':closed ops (listed.setIfInBounds j true):=fun i k hk hik=>by
   by_cases hkj:j=k
   ·subst hkj;exact getD_set_true (hdir i hik)
   rw[getD_set_ne false hkj]at hk;exact getD_set_true (hc i k hk hik)
  unfold wpOp;simp only[hoj];simp only[LexC,ClauseC,hoj]at hcm;rw[<-unlistedT_set (by omega)]at hcm
  split
  ·rename_i hwant
   simp only[hwant,if_true]at hcm;refine .inl ?_
   cases hs:S j with
   | none=>
    simp only[hs]at hcm;obtain⟨v,hrun,hk⟩:=hcm;have hr:=hrun w hw (fun m _=>hF m)
    unfold Oper.wp;rw[hr];exact ih _ F _ w hsz' hout' hlen' hc' hw hF hFp hk
   | some s=>
    simp only[hs]at hcm;obtain⟨p,hp,hd,hk⟩:=hcm;refine(hd w hw (fun m _=>hF m)).wp fun v w' ⟨hi',hstep,hpv,hpost⟩=>?_
    refine ih _ (fset F j (p v)) _ w' hsz' hout' hlen' hc' hi' (fun i=>?_) (fun i u u' hu h1=>?_) (hk v hpv)
    ·unfold fset
     split
     ·exact hpost
     exact hFp i w w' hstep (hF i)
    unfold fset at h1⊢
    split at h1
    ·rename_i e
     rw[if_pos e];exact hp v u u' hu h1
    rename_i e
    rw[if_neg e];exact hFp i u u' hu h1
  rename_i hwant
  simp only[hwant]at hcm;exact ih _ F _ w hsz' hout' hlen' hc' hw hF hFp hcm
end
section
variable{I:World->Prop} {P:Program} {ops:Array Oper} {S:Nat->Option (Value->Prop)} {Q:Act->World->Prop}
variable(I P ops S Q)in
def wpLaxC:List Oper->Nat->(Nat->World->Prop)->Act->Prop
 | [],_,F,a=>∀w,I w->(∀i,F i w)->Q a w
 | o :: rest,k,F,a=>
  if Region.wanted o (yielded ops a.tmps)then
   match S k with
   | none=>∃v,(∀w,I w->(∀m,anc ops 9 m k=true->F m w)->(execOp a.eval o).run P w= .ok (.value v) w)/\wpLaxC rest (k+1) F (a.put o.dst v)
   | some s=>∃p:Value->World->Prop,(∀v w w',Grew w w'->p v w->p v w')/\(∀w,I w->(∀m,anc ops 9 m k=true->F m w)->Does P o a w fun v w'=>I w'/\Grew w w'/\s v/\p v w')/\∀v,s v->wpLaxC rest (k+1) (fset F k (p v)) (a.put o.dst v)
  else wpLaxC rest (k+1) F (a.put o.dst undef)
theorem lexC_of_lax:∀(l:List Oper) (k:Nat) (F:Nat->World->Prop) (a:Act),(∀j,l[j]? =ops[k+j]?\/l.length<=j)->wpLaxC I P ops S Q l k F a->LexC I P ops S Q (List.range' k l.length) F a
 | [],_,_,_,_,h=>h
 | o :: l,k,F,a,hl,h=>by
  have h0:ops[k]? =some o:=by
   rcases hl 0 with e|e
   ·simpa using e.symm
   simp at e
  have hnext:∀j,l[j]? =ops[k+1+j]?\/l.length<=j:=fun j=>by
   rcases hl (j+1)with e|e
   ·left;rw[List.getElem?_cons_succ]at e;rw[e];congr 1;omega
   right;simpa using e
  simp only[List.length_cons,List.range'_succ,LexC,ClauseC,h0];unfold wpLaxC at h
  split
  ·rename_i hw
   simp only[hw,if_true]at h
   cases hs:S k with
   | none=>
    simp only[hs]at h;obtain⟨v,h1,h2⟩:=h;exact⟨v,h1,lexC_of_lax l (k+1) _ _ hnext h2⟩
   | some s=>
    simp only[hs]at h;obtain⟨p,hp,hd,hk⟩:=h;exact⟨p,hp,hd,fun v hv=>lexC_of_lax l (k+1) _ _ hnext (hk v hv)⟩
  rename_i hw
  simp only[hw]at h;exact lexC_of_lax l (k+1) _ _ hnext h
variable(I P ops S Q)in
structure WLaxC (l:List Oper) (k:Nat) (F:Nat->World->Prop) (a:Act):Prop where
 out:wpLaxC I P ops S Q l k F a
theorem wp_lax_tailC {Q:Exit->Act->World->Prop} {a:Act} {w:World} {L l r:List Oper} (T:Nat) (S:List (Nat ×(Value->Prop))) (hI:I w.drew) (hm:P.follows .mixedOrders=true) (hB:laxTB L.toArray T=true) (hl:L.take T=l) (hr:L.drop T=r) (hT:T<=L.length)
  (hS:∀x∈S,∃v,x.2 v) (hch:((S.map (·.1)).all fun i=>(S.map (·.1)).all fun k=>!decide (i<k) || anc L.toArray 9 i k)=true)
  (h:WLaxC I P L.toArray (fun k=>S.lookup k) (fun a w=>wpList P L.toArray Q r a w) l 0 (fun _ _=>True) a):(Code.region id L.toArray true).wp P Q a w:=by
 have hlook:∀(S:List (Nat ×(Value->Prop))) k s,S.lookup k=some s->∃x∈S,x.2=s/\x.1=k:=by
  intro S
  induction S with
  | nil=>intro k s h;simp at h
  | cons x S ih=>
   intro k s h;rw[List.lookup_cons]at h
   split at h
   ·rename_i he
    exact⟨x,by simp,by simpa using h,by simpa using(by simpa using he:k=x.1).symm⟩
   obtain⟨y,hy,he⟩:=ih k s h;exact⟨y,by simp[hy],he⟩
 have hlT:l.length=T:=by rw[<-hl,List.length_take];omega
 have hrT:r.length=L.length - T:=by rw[<-hr,List.length_drop]
 refine wp_region_any hm ?_;have hu:unlistedT (Array.replicate L.toArray.size false) T=List.range T:=by
  unfold unlistedT;refine List.filter_eq_self.2 fun i hi=>?_
  have:i<T:=by simpa using hi
  simp[show i<L.length by omega]
 have h':=lexC_of_lax (ops:=L.toArray) l 0 _ a (fun j=>by
  rcases Nat.lt_or_ge j T with hj|hj
  ·left;rw[<-hl,List.getElem?_take_of_lt hj];simp
  right;omega) h.out
 rw[hlT,<-List.range_eq_range']at h';have hfin:=wpAny_of_lexC (I:=I) (P:=P) (S:=fun k=>S.lookup k) (F:=fun _ _=>True) (ops:=L.toArray) (T:=T) (l:=r) (m:=L.length - T) (Q:=fun a w=>wpList P L.toArray Q r a w) (Q':=Q) hB (by simp;omega) hrT (fun j=>by rw[<-hr,List.getElem?_drop];simp) (fun k s hs=>by obtain⟨x,hx,rfl,_⟩:=hlook S k s hs;exact hS x hx) (fun i k hik hi hk=>by
   obtain⟨si,hsi⟩:=Option.ne_none_iff_exists'.1 hi;obtain⟨sk,hsk⟩:=Option.ne_none_iff_exists'.1 hk;obtain⟨x,hx,_,rfl⟩:=hlook S i si hsi;obtain⟨y,hy,_,rfl⟩:=hlook S k sk hsk;have h1:=List.all_eq_true.1 (List.all_eq_true.1 hch x.1 (List.mem_map.2 ⟨x,hx,rfl⟩)) y.1 (List.mem_map.2 ⟨y,hy,rfl⟩)
   simpa [hik]using h1) (fun _ _ h=>h)
  T (Array.replicate L.toArray.size false) a w.drew (by simp) (fun i hi hi'=>by simp at hi';simp[hi']) (by rw[hu];simp) (fun i j hj _=>by
   exfalso;rw[Array.getD_eq_getD_getElem?,Array.getElem?_replicate]at hj
   split at hj <;> simp at hj)
  hI (fun _=>trivial) (fun _ _ _ _ _=>trivial) (by rw[hu];exact h')
 have hsz:T+(L.length - T)=L.toArray.size:=by simp;omega
 rw[hsz]at hfin;exact hfin
variable{o:Oper} {rest:List Oper} {k:Nat} {F:Nat->World->Prop} {a:Act}
theorem laxC_quiet (ht:tame o=true) (hw:Region.wanted o (yielded ops a.tmps)=true) (hS:S k=none)
  (h:∀K:Act->Prop,(∀a,WLaxC I P ops S Q rest (k+1) F a->K a)->o.quiet P a (fun w'=>∃x:HoldI I,w'=x.world) K):WLaxC I P ops S Q (o :: rest) k F a:=by
 obtain⟨v,h1,h2⟩:=h _ fun _ h=>h
 constructor;unfold wpLaxC;rw[if_pos hw];simp only[hS];refine⟨v,fun w hg _=>?_,h2.out⟩
 have h3:=h1 w ⟨⟨w,hg⟩,rfl⟩;unfold Oper.quietAt at h3;have hne:=fun n w'=>@tame_value P o ht a.eval w w' n
 generalize(execOp a.eval o).run P w=r at*
 cases r with
 | ok n w'=>
  cases n <;> simp only[Oper.quietUpon]at h3
  case value u=>rw[h3.1,h3.2]
  case skip=>obtain⟨_,he⟩:=hne _ _ rfl;cases he
  case enter f args=>obtain⟨_,he⟩:=hne _ _ rfl;cases he
 | halt x w'=>simp only[Oper.quietUpon]at h3
theorem laxC_spec {s:Value->Prop} (hw:Region.wanted o (yielded ops a.tmps)=true) (hS:S k=some s) (p:Value->World->Prop) (hp:∀v w w',Grew w w'->p v w->p v w')
  (h:∀w,I w->(∀m,anc ops 9 m k=true->F m w)->Does P o a w fun v w'=>I w'/\Grew w w'/\s v/\p v w')
  (hn:∀v,s v->WLaxC I P ops S Q rest (k+1) (fset F k (p v)) (a.put o.dst v)):WLaxC I P ops S Q (o :: rest) k F a:=by
 constructor;unfold wpLaxC;rw[if_pos hw];simp only[hS];exact⟨p,hp,h,fun v hv=>(hn v hv).out⟩
theorem laxC_nil (h:∀w,I w->(∀i,F i w)->Q a w):WLaxC I P ops S Q [] k F a:=⟨h⟩
end
structure OwnM (base:Nat) (w:World) (V:MaV) (m:Ma):Prop where
 fs:OwnRow frmE base w (.slice V.f.a V.f.n V.f.c) m.fs
 sl:OwnRow slE base w (.slice V.s.a V.s.n V.s.c) m.sl
 sb:OwnPages base w (.slice V.sb.a V.sb.n V.sb.c) m.sb
 sq:OwnPuts base w (.slice V.sq.a V.sq.n V.sq.c) m.sq
 db:OwnPages base w (.slice V.db.a V.db.n V.db.c) m.db
 dq:OwnPuts base w (.slice V.dq.a V.dq.n V.dq.c) m.dq
 fl:∃lo,OwnFiles lo w (.slice V.fl.a V.fl.n V.fl.c) m.fl/\base<=lo/\∀g,(Value.slice V.s.a V.s.n V.s.c).ownBlock=some g->g<lo
 ca:OwnRow cchE base w (.slice V.ca.a V.ca.n V.ca.c) m.ca
 sp:OwnSps base w (.slice V.sp.a V.sp.n V.sp.c) m.sp
 ap:∀g,(Value.slice V.sb.a V.sb.n V.sb.c).ownBlock=some g->(Value.slice V.db.a V.db.n V.db.c).ownBlock≠some g
theorem FilesS.now0 {w:World} {v:Value} {fs:List Fl} (h:FilesS B0 B1 w v fs):FilesAt w v fs:=by
 obtain⟨hc,xs,k1,k2,k3⟩:=h;exact⟨hc,xs,k1.now.s0,k2,fun i x f hx hf=>⟨(k3 i x f hx hf).1,(k3 i x f hx hf).2.now.s0⟩⟩
theorem OwnM.at {base:Nat} {w:World} (h:OwnM base w V m):MachAt w V m:=by
 obtain⟨lo,hf,_⟩:=h.fl;exact⟨h.fs.at,h.sl.at,h.sb.at,h.sq.at,h.db.at,h.dq.at,hf.new.now0,h.ca.at,h.sp.at⟩
theorem OwnM.grew {base:Nat} {w:World} (h:OwnM base w V m) (k:Grew w w'):OwnM base w' V m:=by
 obtain⟨lo,hf,h1,h2⟩:=h.fl;exact⟨h.fs.grew k,h.sl.grew k,h.sb.grew k,h.sq.grew k,h.db.grew k,h.dq.grew k,⟨lo,hf.grew k,h1,h2⟩,h.ca.grew k,h.sp.grew k,h.ap⟩
theorem pages_lt {base:Nat} {w:World} {v:Value} {l:List (List Int)} (h:OwnPages base w v l):∀g,v.ownBlock=some g->base<=g/\g<w.heap.size:=h.1.lt
theorem ownsRow_low {w:World} {base size n g:Nat} {v:Value} (h:w.ownsRow base e size v n xs) (hg:w.grownBy w' (some g)) (hlt:g<base):w'.ownsRow base e size v n xs:=by
 refine⟨h.1,?_⟩
 rcases h.2 with h1|⟨b,cap,cur,rfl,h2,h3,h4⟩
 ·exact .inl h1
 exact .inr ⟨b,cap,cur,rfl,h2,by rw[hg.block b (aS.1 h3).1 (fun e=>by cases e;omega)];exact h3,h4⟩
theorem OwnRow.low {α:Type} {E:Elt α} {base g:Nat} {w:World} {v:Value} {l:List α} (h:OwnRow E base w v l) (hg:w.grownBy w' (some g)) (hlt:g<base):OwnRow E base w' v l:=⟨ownsRow_low h.1 hg hlt,h.2⟩
theorem OwnSp.low {lo g:Nat} {w:World} {x:SpV} {s:Sp} (h:OwnSp lo hi w x s) (hg:w.grownBy w' (some g)) (hlt:g<lo):OwnSp lo hi w' x s:=
 ⟨h.live,h.ar.low hg hlt,⟨h.tb.len,h.tb.tlen,fun i v y hv hy=>(h.tb.row i v y hv hy).low hg hlt,h.tb.two⟩,h.arh,h.tbh⟩
theorem OwnM.below {base g:Nat} {w:World} (h:OwnM base w V m) (hg:w.grownBy w' (some g)) (hlt:g<base) (hb:base'<=base):OwnM base' w' V m:=by
 obtain⟨lo,⟨ys,f1,f2,f3,f4⟩,l1,l2⟩:=h.fl;obtain⟨xs,B,s1,s2,s3,s4,s5⟩:=h.sp;refine⟨(h.fs.low hg hlt).base hb,(h.sl.low hg hlt).base hb,⟨ownsRow_base (ownsRow_low h.sb.1 hg hlt) hb,h.sb.2⟩,⟨ownsRow_base (ownsRow_low h.sq.1 hg hlt) hb,h.sq.2⟩,⟨ownsRow_base (ownsRow_low h.db.1 hg hlt) hb,h.db.2⟩,⟨ownsRow_base (ownsRow_low h.dq.1 hg hlt) hb,h.dq.2⟩,⟨lo,⟨ys,f1.low hg (by omega),f2,fun i x f hx hf=>⟨(f3 i x f hx hf).1,(f3 i x f hx hf).2.low hg (by omega)⟩,f4⟩,by omega,l2⟩,(h.ca.low hg hlt).base hb,⟨xs,B,(s1.low hg hlt).base hb,s2,by omega,s4,fun i x s hx hs=>(s5 i x s hx hs).low hg ?_⟩,h.ap⟩
 have:=mono_le s4 (nZ i);omega
theorem ownM_any (V:MaV) (m:Ma) (w:World) (hm:MachAt w V m):
  Calls prog 12 #[.agg #[.slice V.f.a V.f.n V.f.c,.int .i64 m.hand,.slice V.s.a V.s.n V.s.c,.slice V.sb.a V.sb.n V.sb.c,.slice V.sq.a V.sq.n V.sq.c,.slice V.db.a V.db.n V.db.c,.slice V.dq.a V.dq.n V.dq.c,.slice V.fl.a V.fl.n V.fl.c,.int .i64 m.cnt,.slice V.ca.a V.ca.n V.ca.c,.slice V.sp.a V.sp.n V.sp.c]] w fun e w'=>∃V':MaV,e= .returned (.agg #[.slice V'.f.a V'.f.n V'.f.c,.int .i64 m.hand,.slice V'.s.a V'.s.n V'.s.c,.slice V'.sb.a V'.sb.n V'.sb.c,.slice V'.sq.a V'.sq.n V'.sq.c,.slice V'.db.a V'.db.n V'.db.c,.slice V'.dq.a V'.dq.n V'.dq.c,.slice V'.fl.a V'.fl.n V'.fl.c,.int .i64 m.cnt,.slice V'.ca.a V'.ca.n V'.ca.c,.slice V'.sp.a V'.sp.n V'.sp.c])/\OwnM w.heap.size w' V' m/\Grew w w':=by
 obtain⟨n1,n2,-⟩:=hm.ns;have HM:Hid (MachAt w V m):=hm;have HC1:Hid (∀W,Grew w W->Calls prog 51 #[.agg #[.slice V.f.a V.f.n V.f.c,.int .i64 m.hand]] W fun e w'=>∃b,e= .returned (.agg #[b,.int .i64 m.hand])/\OwnRow frmE W.heap.size w' b m.fs/\Grew W w'):=show∀W,_ from fun W hW=>by
  have h:=(hm.grew hW).fs;rw[n1]at h⊢;exact ownMem_any _ _ m.fs m.hand W h
 have HC2:Hid (∀W,Grew w W->Calls prog 52 #[.slice V.s.a V.s.n V.s.c] W fun e w'=>∃v',e= .returned v'/\OwnRow slE W.heap.size w' v' m.sl/\Grew W w'):=dD<|fun W hW=>cloneS_any _ m.sl W (hm.grew hW).sl
 have HC3:Hid (∀W,Grew w W->Calls prog 53 #[.agg #[.slice V.sb.a V.sb.n V.sb.c,.slice V.sq.a V.sq.n V.sq.c]] W fun e w'=>∃d',e= .returned d'/\OwnDisk W.heap.size w' d' m.sb m.sq/\Grew W w'):=dD<|fun W hW=>own_any _ m.sb m.sq W ⟨_,_,rfl,(hm.grew hW).sb,(hm.grew hW).sq⟩
 have HC4:Hid (∀W,Grew w W->Calls prog 53 #[.agg #[.slice V.db.a V.db.n V.db.c,.slice V.dq.a V.dq.n V.dq.c]] W fun e w'=>∃d',e= .returned d'/\OwnDisk W.heap.size w' d' m.db m.dq/\Grew W w'):=dD<|fun W hW=>own_any _ m.db m.dq W ⟨_,_,rfl,(hm.grew hW).db,(hm.grew hW).dq⟩
 have HC5:Hid (∀W,Grew w W->Calls prog 54 #[.agg #[.slice V.fl.a V.fl.n V.fl.c,.int .i64 m.cnt]] W fun e w'=>∃b,e= .returned (.agg #[b,.int .i64 m.cnt])/\OwnFiles (W.heap.size+2) w' b m.fl/\Grew W w'/\W.heap.size+2<=w'.heap.size):=dD<|fun W hW=>ownSt_any _ m.fl m.cnt W (hm.grew hW).fl
 have HC6:Hid (∀W,Grew w W->Calls prog 55 #[.slice V.ca.a V.ca.n V.ca.c] W fun e w'=>∃v',e= .returned v'/\OwnRow cchE W.heap.size w' v' m.ca/\Grew W w'):=dD<|fun W hW=>cloneCa_any _ m.ca W (hm.grew hW).ca
 have HC7:Hid (∀W,Grew w W->Calls prog 56 #[.slice V.sp.a V.sp.n V.sp.c] W fun e w'=>∃v',e= .returned v'/\OwnSps W.heap.size w' v' m.sp/\Grew W w'):=dD<|fun W hW=>ownSpaces_any _ m.sp W (hm.grew hW).sp
 clear hm n1 n2;obtain⟨W0,hW0⟩:∃W0,(w.alloc (.cells #[.slice V.f.a V.f.n V.f.c,.int .i64 m.hand,.slice V.s.a V.s.n V.s.c,.slice V.sb.a V.sb.n V.sb.c,.slice V.sq.a V.sq.n V.sq.c,.slice V.db.a V.db.n V.db.c,.slice V.dq.a V.dq.n V.dq.c,.slice V.fl.a V.fl.n V.fl.c,.int .i64 m.cnt,.slice V.ca.a V.ca.n V.ca.c,.slice V.sp.a V.sp.n V.sp.c] 40)).alloc (.cells #[.slice none 0 0,.int .i64 0,.slice none 0 0,.slice none 0 0,.slice none 0 0,.slice none 0 0,.slice none 0 0,.slice none 0 0,.int .i64 0,.slice none 0 0,.slice none 0 0] 40)=W0:=⟨_,rfl⟩;have HG0:=gD2 hW0
 have X0:=x2a hW0
 have Y0:=x2b hW0
 have HS0:Hid (W0.heap.size=(w.heap.size+1+1)):=dD<|by rw[<-hW0];simp
 have HW0:Hid (_=W0):=hW0;clear hW0
 go_enter func12,ntmps12
 go_upto_region 1 with fail;rw[HW0.out];obtain⟨I,hI⟩:∃I:World->Prop,I=fun u=>Grew W0 u:=⟨_,rfl⟩
 have HI:Hid (∀u,I u↔Grew W0 u):=dD<|fun u=>by rw[hI]
 clear hI;have hI0:I W0.drew:=(HI.out _).2 (gW _)
 have hx0:=X0.out.h HI.out 0 rfl
 have hx1:=X0.out.h HI.out 1 rfl
 have hx2:=X0.out.h HI.out 2 rfl
 have hx3:=X0.out.h HI.out 3 rfl
 have hx4:=X0.out.h HI.out 4 rfl
 have hx5:=X0.out.h HI.out 5 rfl
 have hx6:=X0.out.h HI.out 6 rfl
 have hx7:=X0.out.h HI.out 7 rfl
 have hx8:=X0.out.h HI.out 8 rfl
 have hx9:=X0.out.h HI.out 9 rfl
 have hx10:=X0.out.h HI.out 10 rfl
 have hne:Nonempty (HoldI I):=⟨⟨_,hI0⟩⟩;have HSZ:Hid (∀u,I u->(w.heap.size+1+1)<=u.heap.size):=dD<|fun u hu=>by rw[<-HS0.out];exact bS ((HI.out _).1 hu)
 refine wp_lax_tailC (I:=I) 22 [(2,fun v=>∃s:Sli,v= .agg #[.slice s.a s.n s.c,.int .i64 m.hand]),(5,fun v=>∃s:Sli,v= .slice s.a s.n s.c),(8,fun v=>∃b q:Sli,v= .agg #[.slice b.a b.n b.c,.slice q.a q.n q.c]),(11,fun v=>∃b q:Sli,v= .agg #[.slice b.a b.n b.c,.slice q.a q.n q.c]),(14,fun v=>∃s:Sli,v= .agg #[.slice s.a s.n s.c,.int .i64 m.cnt]),(17,fun v=>∃s:Sli,v= .slice s.a s.n s.c),(20,fun v=>∃s:Sli,v= .slice s.a s.n s.c)] hI0 mixed (by kernel_rfl) rfl rfl (by decide) ?hS (by kernel_rfl) ?_
 case hS=>
  intro x hx;simp only[mC,nM,or_false]at hx
  rcases hx with rfl|rfl|rfl|rfl|rfl|rfl|rfl
  ·exact⟨_,sli0,rfl⟩
  ·exact⟨_,sli0,rfl⟩
  ·exact⟨_,sli0,sli0,rfl⟩
  ·exact⟨_,sli0,sli0,rfl⟩
  ·exact⟨_,sli0,rfl⟩
  ·exact⟨_,sli0,rfl⟩
  exact⟨_,sli0,rfl⟩
 simp only[List.take,List.drop];iterate 2 (refine laxC_quiet rfl rfl rfl (fun K hK=>?_);go_big_quiet_op;refine hK _ ?_;clear hK)
 refine laxC_spec rfl rfl (fun v w'=>∃s:Sli,v= .agg #[.slice s.a s.n s.c,.int .i64 m.hand]/\OwnRow frmE (w.heap.size+1+1) w' (.slice s.a s.n s.c) m.fs) (fun v u u' hu h=>by obtain⟨s,h1,h2⟩:=h;exact⟨s,h1,h2.grew hu⟩) (fun w' hI' hF=>?_) (fun v1 hv=>?_)
 ·have hg':Grew w w':=HG0.out.trans ((HI.out _).1 hI');have hsz:=HSZ.out w' hI';refine Does.call [.agg #[.slice V.f.a V.f.n V.f.c,.int .i64 m.hand]] rfl func51 rfl rfl rfl ?_;refine(HC1.out w' hg').mono ?_;rintro e w'' ⟨b,rfl,ow,hg2⟩;obtain⟨a2,c2,rfl⟩:=ow.form;exact⟨_,rfl,(HI.out _).2 (((HI.out _).1 hI').trans hg2),hg2,⟨⟨a2,_,c2⟩,rfl⟩,⟨a2,_,c2⟩,rfl,ow.base hsz⟩
 obtain⟨sf,rfl⟩:=hv;simp only[Act.put,sB,sS,sZ];iterate 2 (refine laxC_quiet rfl rfl rfl (fun K hK=>?_);go_big_quiet_op;refine hK _ ?_;clear hK)
 refine laxC_spec rfl rfl (fun v w'=>OwnRow slE (w.heap.size+1+1) w' v m.sl) (fun v u u' hu h=>OwnRow.grew h hu) (fun w' hI' hF=>?_) (fun v1 hv=>?_)
 ·have hg':Grew w w':=HG0.out.trans ((HI.out _).1 hI');have hsz:=HSZ.out w' hI';refine Does.call [.slice V.s.a V.s.n V.s.c] rfl func52 rfl rfl rfl ?_;refine(HC2.out w' hg').mono ?_;rintro e w'' ⟨b,rfl,ow,hg2⟩;obtain⟨a2,c2,rfl⟩:=ow.form;exact⟨_,rfl,(HI.out _).2 (((HI.out _).1 hI').trans hg2),hg2,⟨⟨a2,_,c2⟩,rfl⟩,ow.base hsz⟩
 obtain⟨ss,rfl⟩:=hv;simp only[Act.put,sB,sS,sZ];iterate 2 (refine laxC_quiet rfl rfl rfl (fun K hK=>?_);go_big_quiet_op;refine hK _ ?_;clear hK)
 refine laxC_spec rfl rfl (fun v w'=>∃b q:Sli,v= .agg #[.slice b.a b.n b.c,.slice q.a q.n q.c]/\OwnPages (w.heap.size+1+1) w' (.slice b.a b.n b.c) m.sb/\OwnPuts (w.heap.size+1+1) w' (.slice q.a q.n q.c) m.sq) (fun v u u' hu h=>by obtain⟨b,q,h1,h2,h3⟩:=h;exact⟨b,q,h1,h2.grew hu,h3.grew hu⟩) (fun w' hI' hF=>?_) (fun v1 hv=>?_)
 ·have hg':Grew w w':=HG0.out.trans ((HI.out _).1 hI');have hsz:=HSZ.out w' hI';refine Does.call [.agg #[.slice V.sb.a V.sb.n V.sb.c,.slice V.sq.a V.sq.n V.sq.c]] rfl func53 rfl rfl rfl ?_;refine(HC3.out w' hg').mono ?_;rintro e w'' ⟨d,rfl,⟨b,q,rfl,ob,oq⟩,hg2⟩;obtain⟨a2,n2,c2,rfl⟩:=ob.slice;obtain⟨a3,n3,c3,rfl⟩:=oq.slice;exact⟨_,rfl,(HI.out _).2 (((HI.out _).1 hI').trans hg2),hg2,⟨⟨a2,n2,c2⟩,⟨a3,n3,c3⟩,rfl⟩,⟨a2,n2,c2⟩,⟨a3,n3,c3⟩,rfl,ob.base hsz,oq.base hsz⟩
 obtain⟨sb,sq,rfl⟩:=hv;simp only[Act.put,sB,sS,sZ];iterate 2 (refine laxC_quiet rfl rfl rfl (fun K hK=>?_);go_big_quiet_op;refine hK _ ?_;clear hK)
 refine laxC_spec rfl rfl (fun v w'=>∃b q:Sli,v= .agg #[.slice b.a b.n b.c,.slice q.a q.n q.c]/\OwnPages (w.heap.size+1+1) w' (.slice b.a b.n b.c) m.db/\OwnPuts (w.heap.size+1+1) w' (.slice q.a q.n q.c) m.dq/\∀g,(Value.slice sb.a sb.n sb.c).ownBlock=some g->(Value.slice b.a b.n b.c).ownBlock≠some g) (fun v u u' hu h=>by obtain⟨b,q,h1,h2,h3,h4⟩:=h;exact⟨b,q,h1,h2.grew hu,h3.grew hu,h4⟩) (fun w' hI' hF=>?_) (fun v1 hv=>?_)
 ·have hg':Grew w w':=HG0.out.trans ((HI.out _).1 hI');have hsz:=HSZ.out w' hI';refine Does.call [.agg #[.slice V.db.a V.db.n V.db.c,.slice V.dq.a V.dq.n V.dq.c]] rfl func53 rfl rfl rfl ?_;refine(HC4.out w' hg').mono ?_;rintro e w'' ⟨d,rfl,⟨b,q,rfl,ob,oq⟩,hg2⟩;obtain⟨a2,n2,c2,rfl⟩:=ob.slice;obtain⟨a3,n3,c3,rfl⟩:=oq.slice;obtain⟨b8,q8,e8,o8,_⟩:∃b q:Sli,(Value.agg #[.slice sb.a sb.n sb.c,.slice sq.a sq.n sq.c])= .agg #[.slice b.a b.n b.c,.slice q.a q.n q.c]/\OwnPages (w.heap.size+1+1) w' (.slice b.a b.n b.c) m.sb/\OwnPuts (w.heap.size+1+1) w' (.slice q.a q.n q.c) m.sq:=hF 8 (by kernel_rfl)
  refine⟨_,rfl,(HI.out _).2 (((HI.out _).1 hI').trans hg2),hg2,⟨⟨a2,n2,c2⟩,⟨a3,n3,c3⟩,rfl⟩,⟨a2,n2,c2⟩,⟨a3,n3,c3⟩,rfl,ob.base hsz,oq.base hsz,fun g h1 h2=>?_⟩
  simp only[Value.agg.injEq,Array.mk.injEq,List.cons.injEq]at e8;rw[e8.1]at h1;have q1:=(pages_lt o8 g h1).2;have q2:=(pages_lt ob g h2).1;omega
 obtain⟨db,dq,rfl⟩:=hv;simp only[Act.put,sB,sS,sZ];iterate 2 (refine laxC_quiet rfl rfl rfl (fun K hK=>?_);go_big_quiet_op;refine hK _ ?_;clear hK)
 refine laxC_spec rfl rfl (fun v w'=>∃s:Sli,v= .agg #[.slice s.a s.n s.c,.int .i64 m.cnt]/\∃lo,OwnFiles lo w' (.slice s.a s.n s.c) m.fl/\(w.heap.size+1+1)<=lo/\∀g,(Value.slice ss.a ss.n ss.c).ownBlock=some g->g<lo) (fun v u u' hu h=>by obtain⟨s,h1,lo,h2,h3,h4⟩:=h;exact⟨s,h1,lo,h2.grew hu,h3,h4⟩) (fun w' hI' hF=>?_) (fun v1 hv=>?_)
 ·have hg':Grew w w':=HG0.out.trans ((HI.out _).1 hI');have hsz:=HSZ.out w' hI';refine Does.call [.agg #[.slice V.fl.a V.fl.n V.fl.c,.int .i64 m.cnt]] rfl func54 rfl rfl rfl ?_;refine(HC5.out w' hg').mono ?_;rintro e w'' ⟨b,rfl,of,hg2,_⟩;have hof:=of;obtain⟨ys,oy,_⟩:=of;obtain⟨a2,c2,rfl⟩:=oy.form;have o5:OwnRow slE (w.heap.size+1+1) w' (.slice ss.a ss.n ss.c) m.sl:=hF 5 (by kernel_rfl)
  exact⟨_,rfl,(HI.out _).2 (((HI.out _).1 hI').trans hg2),hg2,⟨⟨a2,_,c2⟩,rfl⟩,⟨a2,_,c2⟩,rfl,w'.heap.size+2,hof,by omega,fun g h1=>by have:=(o5.lt g h1).2;omega⟩
 obtain⟨sl,rfl⟩:=hv;simp only[Act.put,sB,sS,sZ];iterate 2 (refine laxC_quiet rfl rfl rfl (fun K hK=>?_);go_big_quiet_op;refine hK _ ?_;clear hK)
 refine laxC_spec rfl rfl (fun v w'=>OwnRow cchE (w.heap.size+1+1) w' v m.ca) (fun v u u' hu h=>OwnRow.grew h hu) (fun w' hI' hF=>?_) (fun v1 hv=>?_)
 ·have hg':Grew w w':=HG0.out.trans ((HI.out _).1 hI');have hsz:=HSZ.out w' hI';refine Does.call [.slice V.ca.a V.ca.n V.ca.c] rfl func55 rfl rfl rfl ?_;refine(HC6.out w' hg').mono ?_;rintro e w'' ⟨b,rfl,ow,hg2⟩;obtain⟨a2,c2,rfl⟩:=ow.form;exact⟨_,rfl,(HI.out _).2 (((HI.out _).1 hI').trans hg2),hg2,⟨⟨a2,_,c2⟩,rfl⟩,ow.base hsz⟩
 obtain⟨sc,rfl⟩:=hv;simp only[Act.put,sB,sS,sZ];iterate 2 (refine laxC_quiet rfl rfl rfl (fun K hK=>?_);go_big_quiet_op;refine hK _ ?_;clear hK)
 refine laxC_spec rfl rfl (fun v w'=>OwnSps (w.heap.size+1+1) w' v m.sp) (fun v u u' hu h=>OwnSps.grew h hu) (fun w' hI' hF=>?_) (fun v1 hv=>?_)
 ·have hg':Grew w w':=HG0.out.trans ((HI.out _).1 hI');have hsz:=HSZ.out w' hI';refine Does.call [.slice V.sp.a V.sp.n V.sp.c] rfl func56 rfl rfl rfl ?_;refine(HC7.out w' hg').mono ?_;rintro e w'' ⟨b,rfl,os,hg2⟩;have hos:=os;obtain⟨ys,B,oy,_⟩:=os;obtain⟨a2,c2,rfl⟩:=oy.form;exact⟨_,rfl,(HI.out _).2 (((HI.out _).1 hI').trans hg2),hg2,⟨⟨a2,_,c2⟩,rfl⟩,hos.base hsz⟩
 obtain⟨sp,rfl⟩:=hv;simp only[Act.put,sB,sS,sZ];iterate 1 (refine laxC_quiet rfl rfl rfl (fun K hK=>?_);go_big_quiet_op;refine hK _ ?_;clear hK)
 refine laxC_nil fun W3 hI3 hF=>?_
 have hg3:=(HI.out _).1 hI3;have F2:∃s:Sli,(Value.agg #[.slice sf.a sf.n sf.c,.int .i64 m.hand])= .agg #[.slice s.a s.n s.c,.int .i64 m.hand]/\OwnRow frmE (w.heap.size+1+1) W3 (.slice s.a s.n s.c) m.fs:=hF 2;have F5:OwnRow slE (w.heap.size+1+1) W3 (.slice ss.a ss.n ss.c) m.sl:=hF 5;have F8:∃b q:Sli,(Value.agg #[.slice sb.a sb.n sb.c,.slice sq.a sq.n sq.c])= .agg #[.slice b.a b.n b.c,.slice q.a q.n q.c]/\OwnPages (w.heap.size+1+1) W3 (.slice b.a b.n b.c) m.sb/\OwnPuts (w.heap.size+1+1) W3 (.slice q.a q.n q.c) m.sq:=hF 8;have F11:∃b q:Sli,(Value.agg #[.slice db.a db.n db.c,.slice dq.a dq.n dq.c])= .agg #[.slice b.a b.n b.c,.slice q.a q.n q.c]/\OwnPages (w.heap.size+1+1) W3 (.slice b.a b.n b.c) m.db/\OwnPuts (w.heap.size+1+1) W3 (.slice q.a q.n q.c) m.dq/\∀g,(Value.slice sb.a sb.n sb.c).ownBlock=some g->(Value.slice b.a b.n b.c).ownBlock≠some g:=hF 11;have F14:∃s:Sli,(Value.agg #[.slice sl.a sl.n sl.c,.int .i64 m.cnt])= .agg #[.slice s.a s.n s.c,.int .i64 m.cnt]/\∃lo,OwnFiles lo W3 (.slice s.a s.n s.c) m.fl/\(w.heap.size+1+1)<=lo/\∀g,(Value.slice ss.a ss.n ss.c).ownBlock=some g->g<lo:=hF 14;have F17:OwnRow cchE (w.heap.size+1+1) W3 (.slice sc.a sc.n sc.c) m.ca:=hF 17;have F20:OwnSps (w.heap.size+1+1) W3 (.slice sp.a sp.n sp.c) m.sp:=hF 20;have HOM:Hid (OwnM (w.heap.size+1+1) W3 ⟨sf,ss,sb,sq,db,dq,sl,sc,sp⟩ m):=dD<|by
  obtain⟨s2,e2,o2⟩:=F2;obtain⟨b8,q8,e8,o8,p8⟩:=F8;obtain⟨b11,q11,e11,o11,p11,a11⟩:=F11;obtain⟨s14,e14,lo,o14,l14,a14⟩:=F14;simp only[Value.agg.injEq,Array.mk.injEq,List.cons.injEq]at e2 e8 e11 e14;rw[<-e2.1]at o2;rw[<-e8.1]at o8;rw[<-e8.2.1]at p8;rw[<-e11.1]at o11 a11;rw[<-e11.2.1]at p11;rw[<-e14.1]at o14;exact⟨o2,F5,o8,p8,o11,p11,⟨lo,o14,l14,a14⟩,F17,F20,a11⟩
 have Y3:=dD (Y0.out.grew hg3);have HG3:=dD (HG0.out.trans hg3);clear hF hI3 hg3 hx0 hx1 hx2 hx3 hx4 hx5 hx6 hx7 hx8 hx9 hx10 hne hI0
 go_wp2_with (refine wp_storeAll rfl 40 (.tmp 2) (.tmp 24) rfl (w.heap.size+1) rfl [.slice sf.a sf.n sf.c,.int .i64 m.hand,.slice ss.a ss.n ss.c,.slice sb.a sb.n sb.c,.slice sq.a sq.n sq.c,.slice db.a db.n db.c,.slice dq.a dq.n dq.c,.slice sl.a sl.n sl.c,.int .i64 m.cnt,.slice sc.a sc.n sc.c,.slice sp.a sp.n sp.c] rfl Y3.out rfl (by kernel_rfl) (fun v hv=>by
    simp only[mC,nM,or_false]at hv
    rcases hv with rfl|rfl|rfl|rfl|rfl|rfl|rfl|rfl|rfl|rfl|rfl <;> rfl) ?_)
 intro W4 hb4 hg4 sz4;have HG4:Hid (Grew w W4):=dD<|grew_grown HG3.out hg4 (by omega)
 have HO4:Hid (OwnM w.heap.size W4 ⟨sf,ss,sb,sq,db,dq,sl,sc,sp⟩ m):=dD<|HOM.out.below hg4 (by omega) (by omega)
 go_wp2;refine bodyPost_ret (ret_cell rfl _ rfl hb4 underlying40 rfl (by kernel_rfl)) rfl ⟨⟨sf,ss,sb,sq,db,dq,sl,sc,sp⟩,rfl,HO4.out,HG4.out⟩
theorem Tryz.sizeFlat:(Tryz.prog.info? 93).map (·.size)=some 192:=by kernel_rfl
def cellsL (l:List En):List Value:=l.flatMap env
theorem cellsL_len (l:List En):(cellsL l).length=l.length*3:=flatMap_len l (fun _ _=>rfl)
theorem cellsL_one (l:List En):∀v∈cellsL l,v.oneCell'=true:=flatMap_one enE.one l
theorem cellsL_at {l:List En} {e:En} (h:l[j]? =some e):(cellsL l)[j*3]? =some (.int .i64 e.kind)/\(cellsL l)[j*3+1]? =some (.int .i64 e.n)/\(cellsL l)[j*3+2]? =some (.bool e.wr):=
 ⟨flatMap_elem (enc:=env) (k:=3) l j e (fun _ _=>rfl) h 0 _ rfl,flatMap_elem (enc:=env) (k:=3) l j e (fun _ _=>rfl) h 1 _ rfl,flatMap_elem (enc:=env) (k:=3) l j e (fun _ _=>rfl) h 2 _ rfl⟩
theorem set_three {cs:List Value} (a b c:Value) (h:j+3<=cs.length):((cs.set j a).set (j+1) b).set (j+2) c=splice cs j [a,b,c]:=by
 apply List.ext_getElem?
 intro i;unfold splice
 by_cases h1:i<j
 ·rw[sN (by omega),sN (by omega),sN (by omega),List.getElem?_append_left (by simp;omega),List.getElem?_take_of_lt h1]
 have hl:(cs.take j).length=j:=by simp;omega
 rw[aR (by omega),hl]
 by_cases h2:i=j
 ·subst h2;rw[sN (by omega),sN (by omega),sF (by omega),Nat.sub_self]
  rfl
 by_cases h3:i=j+1
 ·subst h3;rw[sN (by omega),sF (by simp;omega),show j+1 - j=1 by omega]
  rfl
 by_cases h4:i=j+2
 ·subst h4;rw[sF (by simp;omega),show j+2 - j=2 by omega]
  rfl
 rw[sN (by omega),sN (by omega),sN (by omega),aR (by simp;omega),List.getElem?_drop]
 congr 1
 simp;omega
theorem cellsL_set {l:List En} (e:En) (h:j<l.length):(((cellsL l).set (j*3) (.int .i64 e.kind)).set (j*3+1) (.int .i64 e.n)).set (j*3+2) (.bool e.wr)=cellsL (l.set j e):=by
 rw[set_three _ _ _ (by rw[cellsL_len];omega)]
 exact splice_set (enc:=env) (k:=3) e rfl l j (fun _ _=>rfl) h
def flat0:List En:=List.replicate 64 en0
theorem flat0_zero:(Tryz.prog.info? 93).map (·.zero)=some (some (.agg (cellsL flat0).toArray)):=by kernel_rfl
theorem run_zeroFlat (w:World):(zeroValue 93).run prog w= .ok (.agg (cellsL flat0).toArray) w:=by
 have h:=flat0_zero
 cases hq:Tryz.prog.info? 93 with
 | none=>simp[hq]at h
 | some i=>
  simp[hq]at h
  simp[zeroValue,typeInfo,hq,h]
def Laid (t:List (List En)) (i k:Nat) (l:List En):Prop:=l.length=64/\∀a b,a<8->b<8->l[8*a+b]? =some (if a<i\/(a=i/\b<k)then getN t a b else en0)
theorem Laid.zero (t:List (List En)):Laid t 0 0 flat0:=⟨by simp[flat0],fun a b ha hb=>by
 rw[if_neg (by omega),flat0,List.getElem?_replicate,if_pos (by omega)]⟩
theorem Laid.step {t:List (List En)} {k:Nat} {l:List En} (h:Laid t i k l) (hi:i<8) (hk:k<8):Laid t i (k+1) (l.set (8*i+k) (getN t i k)):=by
 refine⟨by simp[h.1],fun a b ha hb=>?_⟩
 by_cases e:a=i/\b=k
 ·obtain⟨rfl,rfl⟩:=e;rw[sF (by rw[h.1];omega),if_pos (by omega)]
 rw[sN (by omega),h.2 a b ha hb]
 by_cases h1:a<i\/(a=i/\b<k)
 ·rw[if_pos h1,if_pos (by omega)]
 rw[if_neg h1,if_neg (by omega)]
theorem Laid.next {t:List (List En)} {l:List En} {n:Nat} (h:Laid t i n l) (hn:∀b,n<=b->getN t i b=en0):Laid t (i+1) 0 l:=by
 refine⟨h.1,fun a b ha hb=>?_⟩
 rw[h.2 a b ha hb]
 by_cases h1:a<i\/(a=i/\b<n)
 ·rw[if_pos h1,if_pos (by omega)]
 rw[if_neg h1]
 by_cases h2:a=i
 ·subst h2;rw[if_pos (by omega),hn b (by omega)]
 rw[if_neg (by omega)]
theorem Laid.all {t:List (List En)} {l:List En} (h:Laid t 8 0 l):l=flatT t:=by
 apply List.ext_getElem?
 intro j
 by_cases hj:j<64
 ·have:=h.2 (j / 8) (j % 8) (by omega) (by omega)
  rw[if_pos (by omega),show 8*(j / 8)+j % 8=j by omega]at this
  rw[this,flatT_at t hj]
 rw[gN (by rw[h.1];omega),gN (by rw[flatT_len];omega)]
theorem flatTb_any (vs:List Value) (t:List (List En)) (w:World) (hv:TabAt w vs t) (hok:∀h∈t,h.length<=8):
  Calls prog 42 #[.agg vs.toArray] w fun e w'=>e= .returned (.agg (cellsL (flatT t)).toArray)/\Grew w w':=by
 have HV:Hid (TabAt w vs t):=hv;have HL:Hid (vs.length=8):=hv.len;have HOK:Hid (∀h∈t,h.length<=8):=hok;clear hv hok;have hz:=run_zeroFlat;obtain⟨Z0,HZ0⟩:∃Z0,Hid (cellsL flat0=Z0):=⟨_,rfl⟩;rw[HZ0.out]at hz;have HZL:Hid (Z0.length=192):=show _=_ by rw[<-HZ0.out,cellsL_len];rfl
 obtain⟨C,HC⟩:∃C,Hid (cellsL (flatT t)=C):=⟨_,rfl⟩;rw[HC.out];obtain⟨W0,hW0⟩:∃W0,((w.alloc (.cells vs.toArray 63)).alloc (.cells Z0.toArray 93)).alloc (.cells Z0.toArray 93)=W0:=⟨_,rfl⟩;have HG0:Hid (Grew w W0):=dD<|by rw[<-hW0];exact((grew_alloc _ _).trans (grew_alloc _ _)).trans (grew_alloc _ _)
 have X0:Hid (Box W0 w.heap.size vs):=dD<|by rw[<-hW0];exact((Box.top w _ _ rfl).alloc _).alloc _
 have Y0:Hid (Box W0 (w.heap.size+1) Z0):=dD<|by rw[<-hW0];exact(Box.top _ _ _ (by simp)).alloc _
 have L0:Hid (Box W0 (w.heap.size+2) (cellsL flat0)):=dD<|by rw[<-hW0,HZ0.out];exact Box.top _ _ _ (by simp)
 have HW0:Hid (_=W0):=hW0;clear hW0
 go_enter func42,ntmps42
 go_upto_region 2 with fail;rw[HW0.out];clear hz
 go_wp2_with (refine wp_loadTab rfl (.tmp 1) rfl w.heap.size rfl X0.out HL.out ?_)
 go_loopg [9] 8 (fun gg s9 wr=>∃(kk:Nat) (l:List En),kk<=8/\8 - kk<=gg/\s9= .int .i64 kk/\Hid (Grew w wr)/\Hid (Box wr (w.heap.size+1) Z0)/\Hid (Box wr (w.heap.size+2) (cellsL l))/\Hid (Laid t kk 0 l))
 case atStart=>exact⟨0,flat0,nZ _,by omega,rfl,HG0.out,Y0.out,L0.out,Laid.zero t⟩
 obtain⟨kk,l,hkk,hg,rfl,BW,YW,LW,DW⟩:=hrel
 by_cases hlt:kk<8
 ·have hltz:(kk:Int)<8:=by omega
  obtain⟨xa,xc,q,hq,hvk,hr⟩:=HV.out.half hlt;have hq8:=HOK.out q (mG hq);have HGN:Hid (∀b,getN t kk b=q[b]?.getD en0):=dD<|fun b=>by unfold getN;rw[hq];rfl
  obtain⟨_,_,heq,hens⟩:=hr.ens;cases heq;have HE:Hid (EnRows w xa q):=hens;obtain⟨nq,HNQ⟩:∃nq,Hid (q.length=nq):=⟨_,rfl⟩;rw[HNQ.out]at hvk hq8;have HVK:Hid (vs[kk]? =some (.slice xa nq xc)):=hvk;clear hens hr hq hvk
  go_wp2_with (refine wp_half rfl (.tmp 8) (.tmp 9) rfl vs rfl kk rfl hlt HVK.out ?_)
  go_loopg [15] nq (fun g2 s15 wr2=>∃(k2:Nat) (l2:List En),k2<=nq/\nq - k2<=g2/\s15= .int .i64 k2/\Hid (Grew w wr2)/\Hid (Box wr2 (w.heap.size+1) Z0)/\Hid (Box wr2 (w.heap.size+2) (cellsL l2))/\Hid (Laid t kk k2 l2))
  case atStart=>exact⟨0,l,nZ _,by omega,rfl,BW.out,YW.out,LW.out,DW.out⟩
  obtain⟨k2,l2,hk2,hg2,rfl,BW2,YW2,LW2,DW2⟩:=hrel
  by_cases hlt2:k2<nq
  ·have hltz2:(k2:Int)< (nq:Int):=by omega
   obtain⟨z,HZ⟩:∃z,Hid (q[k2]? =some z):=⟨_,gE (by rw[HNQ.out];exact hlt2)⟩
   obtain⟨ad,rfl,hl2⟩:=HE.out k2 z HZ.out;obtain⟨d0,d1,d2⟩:=hl2 wr BW2.out;clear hl2;go_upto_region 8 with fail;obtain⟨px,hpx⟩:∃px,wr.heap.size=px:=⟨_,rfl⟩;obtain⟨W3,hW3⟩:∃W3,wr.alloc (.cells #[.int .i64 z.kind,.int .i64 z.n,.bool z.wr] 67)=W3:=⟨_,rfl⟩;have G3:=gT hW3 BW2
   have P3:Hid (Box W3 px [.int .i64 z.kind,.int .i64 z.n,.bool z.wr]):=dD<|by rw[<-hW3];exact Box.top _ _ _ hpx.symm
   have Y3:=yA hW3 YW2
   have L3:=yA hW3 LW2
   rw[hW3];rw[hpx];clear hW3 hpx d0 d1 d2;obtain⟨p0,p1,p2⟩:=P3.out.c3;have hidx:(8:Int)*(kk:Int)+(k2:Int)=((8*kk+k2:Nat):Int):=by omega
   have hi64:8*kk+k2<64:=by omega
   obtain⟨ix,HIX⟩:∃ix,Hid (8*kk+k2=ix):=⟨_,rfl⟩;rw[HIX.out]at hidx hi64;have hi64z:(ix:Int)<64:=by omega
   obtain⟨z0,hz0⟩:∃z0,l2[ix]? =some z0:=⟨_,gE (by rw[DW2.out.1];exact hi64)⟩
   obtain⟨c0,c1,c2⟩:=cellsL_at hz0;have l0:=L3.out.c _ c0;have l1:=L3.out.c _ c1;have l2':=L3.out.c _ c2;have lf:=L3.out.f;clear c0 c1 c2 hz0;go_upto_region 9 with fail;obtain⟨W4,hW4⟩:∃W4,((W3.setCell ⟨w.heap.size+2,ix*3,none⟩ (.int .i64 z.kind)).setCell ⟨w.heap.size+2,ix*3+1,none⟩ (.int .i64 z.n)).setCell ⟨w.heap.size+2,ix*3+2,none⟩ (.bool z.wr)=W4:=⟨_,rfl⟩;have L4:Hid (Box W4 (w.heap.size+2) (cellsL (l2.set ix z))):=dD<|by
    rw[<-hW4,<-cellsL_set z (by rw[DW2.out.1];exact hi64)]
    exact((L3.out.set _ _).set _ _).set _ _
   have Y4:Hid (Box W4 (w.heap.size+1) Z0):=dD<|by
    rw[<-hW4];exact((Y3.out.other (by simp) _).other (by simp) _).other (by simp) _
   have G4:Hid (Grew w W4):=dD<|by
    rw[<-hW4];exact Below.setCell (Below.setCell (Below.setCell G3.out (p:=⟨w.heap.size+2,ix*3,none⟩) (by simp) _) (p:=⟨w.heap.size+2,ix*3+1,none⟩) (by simp) _) (p:=⟨w.heap.size+2,ix*3+2,none⟩) (by simp) _
   have D4:Hid (Laid t kk (k2+1) (l2.set ix z)):=dD<|by
    have h1:=DW2.out.step hlt (show k2<8 by omega)
    rw[HGN.out,HZ.out,HIX.out]at h1;exact h1
   rw[hW4];clear hW4 l0 l1 l2' lf p0 p1 p2 hidx;go_wp2
   go_roundg (nq -(k2+1))
   case measure=>omega
   exact⟨k2+1,_,by omega,by omega,by go_num,G4.out,Y4.out,L4.out,D4.out⟩
  have hltz2:¬(k2:Int)< (nq:Int):=by omega
  have:k2=nq:=by omega
  subst this;have D4:Hid (Laid t (kk+1) 0 l2):=DW2.out.next (fun b hb=>by rw[HGN.out,gN (by rw[HNQ.out];exact hb)];rfl)
  go_wp2
  go_roundg (8 -(kk+1))
  case measure=>omega
  exact⟨kk+1,l2,by omega,by omega,by go_num,BW2.out,YW2.out,LW2.out,D4.out⟩
 have hltz:¬(kk:Int)<8:=by omega
 have:kk=8:=by omega
 subst this;have LE:Hid (Box wr (w.heap.size+2) C):=dD<|by rw[<-HC.out,<-DW.out.all];exact LW.out
 have HFL:Hid (C.length=192):=dD<|by rw[<-HC.out,cellsL_len,flatT_len]
 have HFO:Hid (∀v∈C,v.oneCell'=true):=dD<|by rw[<-HC.out];exact cellsL_one _
 go_wp2_with (first | refine wp_loadAll rfl 93 (.tmp 3) rfl (w.heap.size+2) rfl LE.out underlying93 rfl (by rw[HFL.out];exact Tryz.sizeFlat) ?_ | refine wp_storeAll rfl 93 (.tmp 2) (.tmp 28) rfl (w.heap.size+1) rfl C rfl YW.out (by rw[HFL.out,HZL.out]) (by rw[HZL.out];exact Tryz.sizeFlat) HFO.out ?_)
 intro W3 b3 g3 s3;have G3:Hid (Grew w W3):=dD<|grew_grown BW.out g3 (by simp)
 have B3:Hid (Box W3 (w.heap.size+1) C):=b3;clear b3 g3 s3;go_wp2;refine bodyPost_ret (ret_cell rfl _ rfl B3.out underlying93 rfl (by rw[HFL.out];exact Tryz.sizeFlat)) rfl ⟨rfl,G3.out⟩
theorem run_flatAt {w:World} {l:List En} (i:Nat) (hi:i<64) {e:En} (he:l[i]? =some e):(Instr.index 93 (.agg (cellsL l).toArray) (.int .i64 (i:Int))).run prog w= .ok (.agg #[.int .i64 e.kind,.int .i64 e.n,.bool e.wr]) w:=by
 have ha:(isAgg 67).run prog w= .ok true w:=by
  unfold isAgg;rw[Sem.run_bind,run_underlying underlying67 w];rfl
 have hs:(Go.sizeOf 67).run prog w= .ok 3 w:=by
  obtain⟨i0,h1,h2⟩:∃i0,Tryz.prog.info? 67=some i0/\i0.size=3:=by
   have:(Tryz.prog.info? 67).map (·.size)=some 3:=by kernel_rfl
   cases hq:Tryz.prog.info? 67 with
   | none=>rw[hq]at this;cases this
   | some i0=>rw[hq]at this;exact⟨i0,rfl,by simpa using this⟩
  simp[Go.sizeOf,typeInfo,h1,h2]
 have hlt:(0:Int)<=(i:Int)/\(i:Int)< ((64:Nat):Int):=by omega
 obtain⟨c0,c1,c2⟩:=cellsL_at he;have hx:(cellsL l).toArray.extract (i*3) (i*3+3)=#[.int .i64 e.kind,.int .i64 e.n,.bool e.wr]:=by
  apply Array.ext_getElem?
  intro j;rw[Array.getElem?_extract];have hlen:i*3+3<=(cellsL l).toArray.size:=by
   have:=(gS.1 c2).1;simp;omega
  by_cases hj:j<3
  ·rw[if_pos (by omega)]
   obtain rfl|rfl|rfl:j=0\/j=1\/j=2:=by omega
   ·simpa using c0
   ·simpa using c1
   simpa using c2
  rw[if_neg (by omega)]
  simp;omega
 simp only[Instr.index,asIntOf,Sem.run_bind,Sem.run_pure,rA,run_underlying underlying93];rw[if_pos hlt];simp only[Sem.run_bind,hs,rA,part,ha,if_true,tN,Sem.run_pure,hx]
theorem wp_flatAt {rest:List Oper} {a:Act} {w:World} (hgd:o.guard=none) (x ix:Operand) (ho:o.op= .index 93 x ix) (l:List En) (hx:a.eval x= .agg (cellsL l).toArray) (i:Nat) (hix:a.eval ix= .int .i64 (i:Int)) (hi:i<64) {e:En} (he:l[i]? =some e)
  (h:wpList prog ops Q rest (a.put o.dst (.agg #[.int .i64 e.kind,.int .i64 e.n,.bool e.wr])) w):wpList prog ops Q (o :: rest) a w:=by
 refine wpList_plain hgd fun K hK=>?_
 unfold Oper.wp execOp;simp only[ho,hx,hix,Sem.run_bind,Sem.run_pure,rA,run_flatAt i hi he];exact hK _ _ h
theorem Tryz.infoByte:(Tryz.prog.info? 5).map (fun i=>(i.zero,i.size,i.bytes))=some (some (.int .u8 0),1,1):=by kernel_rfl
def byE:Elt Int where
 enc:=fun z=>[.int .u8 z]
 k:=1
 ty:=5
 st:=24
 bytes:=1
 zv:= .int .u8 0
 zero:=0
 len:=fun _=>rfl
 one:=fun a u hu=>by
  simp only[mC,nM,or_false]at hu;rw[hu];rfl
 und:=underlying24
 info:=Tryz.infoByte
 zok:=rfl
 few:=by decide
 pos:=by decide
theorem Tryz.infoFlat:(Tryz.prog.info? 93).map (fun i=>(i.zero,i.size,i.bytes))=some (some (.agg (cellsL (tab fun _=>en0)).toArray),192,1536):=by kernel_rfl
def flaE:Elt (Nat->En) where
 enc:=fun f=>cellsL (tab f)
 k:=192
 ty:=93
 st:=85
 bytes:=1536
 zv:= .agg (cellsL (tab fun _=>en0)).toArray
 zero:=fun _=>en0
 len:=fun f=>by rw[cellsL_len,tab_len]
 one:=fun f=>cellsL_one _
 und:=underlying85
 info:=Tryz.infoFlat
 zok:=rfl
 few:=by decide
 pos:=by decide
structure MkR (base hi:Nat) (w:World) (V:MaV) (m:Ma) (vt:Sli) (T:List (Nat->En)):Prop where
 hw:hi<=w.heap.size
 bh:base<=hi
 fs:OwnRow frmE base w (.slice V.f.a V.f.n V.f.c) m.fs
 sl:OwnRow slE base w (.slice V.s.a V.s.n V.s.c) m.sl
 slh:∀g,(Value.slice V.s.a V.s.n V.s.c).ownBlock=some g->g<hi
 sb:OwnPages base w (.slice V.sb.a V.sb.n V.sb.c) m.sb
 sbh:∀g,(Value.slice V.sb.a V.sb.n V.sb.c).ownBlock=some g->g<hi
 sq:V.sq=sli0/\m.sq=[]
 db:OwnPages base w (.slice V.db.a V.db.n V.db.c) m.db
 dbh:∀g,(Value.slice V.db.a V.db.n V.db.c).ownBlock=some g->g<hi
 dq:OwnPuts base w (.slice V.dq.a V.dq.n V.dq.c) m.dq
 fl:∃xs:List FlV,OwnRow fvE base w (.slice V.fl.a V.fl.n V.fl.c) xs/\xs.length=m.fl.length/\∀(i:Nat) x f,xs[i]? =some x->m.fl[i]? =some f->x.size=f.size/\OwnRow blE hi w x.v f.bl
 ca:OwnRow cchE base w (.slice V.ca.a V.ca.n V.ca.c) m.ca
 sp:∃xs:List SpV,OwnRow spcE base w (.slice V.sp.a V.sp.n V.sp.c) xs/\xs.length=m.sp.length/\∀(i:Nat) x s,xs[i]? =some x->m.sp[i]? =some s->x.live=s.live/\OwnRow arE base w x.ar.v s.ars/\x.tab=nil8/\s.tb=none8
 tt:OwnRow flaE base w (.slice vt.a vt.n vt.c) T
 ap:∀g,(Value.slice V.sb.a V.sb.n V.sb.c).ownBlock=some g->(Value.slice V.db.a V.db.n V.db.c).ownBlock≠some g
section
variable{base hi:Nat} {w w':World} {V:MaV} {m:Ma} {vt:Sli} {T:List (Nat->En)}
theorem MkR.grew (h:MkR base hi w V m vt T) (k:Grew w w'):MkR base hi w' V m vt T:=by
 obtain⟨xs,f1,f2,f3⟩:=h.fl;obtain⟨ys,s1,s2,s3⟩:=h.sp;exact⟨nT h.hw (bS k),h.bh,h.fs.grew k,h.sl.grew k,h.slh,h.sb.grew k,h.sbh,h.sq,h.db.grew k,h.dbh,h.dq.grew k,⟨xs,f1.grew k,f2,fun i x f hx hf=>⟨(f3 i x f hx hf).1,(f3 i x f hx hf).2.grew k⟩⟩,h.ca.grew k,⟨ys,s1.grew k,s2,fun i x s hx hs=>⟨(s3 i x s hx hs).1,(s3 i x s hx hs).2.1.grew k,(s3 i x s hx hs).2.2⟩⟩,h.tt.grew k,h.ap⟩
theorem OwnRow.kind {α:Type} {E:Elt α} {g:Nat} {v:Value} {l:List α} {cs:Array Value} (h:OwnRow E b w v l) (hg:w.grownBy w' (some g)) (ho:w.heap[g]? =some (.cells cs t (0,0))) (ht:t≠E.ty):OwnRow E b w' v l:=h.grown hg fun k hk e=>by
 cases e;obtain⟨ds,h3⟩:=h.obj hk;rw[ho]at h3;cases h3;exact ht rfl
theorem ownsRow_ne {size n g:Nat} {v:Value} (h:w.ownsRow b e size v n xs) (hg:w.grownBy w' (some g)) (hne:v.ownBlock≠some g):w'.ownsRow b e size v n xs:=by
 refine⟨h.1,?_⟩
 rcases h.2 with h1|⟨k,cap,cur,rfl,h2,h3,h4⟩
 ·exact .inl h1
 exact .inr ⟨k,cap,cur,rfl,h2,by rw[hg.block k (aS.1 h3).1 (fun e=>by cases e;exact hne rfl)];exact h3,h4⟩
theorem ownsRow_kind {size n g:Nat} {cs:Array Value} {v:Value} (h:w.ownsRow b e size v n xs) (hg:w.grownBy w' (some g)) (ho:w.heap[g]? =some (.cells cs t (0,0))) (ht:t≠e):w'.ownsRow b e size v n xs:=by
 refine ownsRow_ne h hg fun hv=>?_
 rcases h.2 with⟨rfl,_⟩|⟨k,cap,cur,rfl,h2,h3,h4⟩
 ·cases hv
 simp only[Value.ownBlock,Option.some.injEq]at hv;subst hv;rw[ho]at h3;cases h3;exact ht rfl
theorem MkR.kept (h:MkR base hi w V m vt T) {g:Nat} {cs:Array Value} (hg:w.grownBy w' (some g)) (ho:w.heap[g]? =some (.cells cs t (0,0))):
  (t≠59->OwnRow frmE base w' (.slice V.f.a V.f.n V.f.c) m.fs)/\(t≠3\/hi<=g->OwnRow slE base w' (.slice V.s.a V.s.n V.s.c) m.sl)/\
  (t≠50\/hi<=g\/(Value.slice V.sb.a V.sb.n V.sb.c).ownBlock≠some g->OwnPages base w' (.slice V.sb.a V.sb.n V.sb.c) m.sb)/\(t≠50\/hi<=g\/(Value.slice V.db.a V.db.n V.db.c).ownBlock≠some g->OwnPages base w' (.slice V.db.a V.db.n V.db.c) m.db)/\
  (t≠91->OwnPuts base w' (.slice V.dq.a V.dq.n V.dq.c) m.dq)/\
  (t≠71->(t≠3\/g<hi)->∃xs:List FlV,OwnRow fvE base w' (.slice V.fl.a V.fl.n V.fl.c) xs/\xs.length=m.fl.length/\∀(i:Nat) x f,xs[i]? =some x->m.fl[i]? =some f->x.size=f.size/\OwnRow blE hi w' x.v f.bl)/\
  (t≠83->OwnRow cchE base w' (.slice V.ca.a V.ca.n V.ca.c) m.ca)/\
  (t≠65->t≠69->∃xs:List SpV,OwnRow spcE base w' (.slice V.sp.a V.sp.n V.sp.c) xs/\xs.length=m.sp.length/\∀(i:Nat) x s,xs[i]? =some x->m.sp[i]? =some s->x.live=s.live/\OwnRow arE base w' x.ar.v s.ars/\x.tab=nil8/\s.tb=none8)/\
  (t≠93->OwnRow flaE base w' (.slice vt.a vt.n vt.c) T):=by
 obtain⟨xs,f1,f2,f3⟩:=h.fl;obtain⟨ys,s1,s2,s3⟩:=h.sp;refine⟨fun ht=>h.fs.kind hg ho ht,fun ht=>?_,fun ht=>?_,fun ht=>?_,fun ht=>⟨ownsRow_kind h.dq.1 hg ho ht,h.dq.2⟩,fun ht ht2=>⟨xs,f1.kind hg ho ht,f2,fun i x f hx hf=>⟨(f3 i x f hx hf).1,?_⟩⟩,fun ht=>h.ca.kind hg ho ht,fun ht ht2=>⟨ys,s1.kind hg ho ht,s2,fun i x s hx hs=>⟨(s3 i x s hx hs).1,(s3 i x s hx hs).2.1.kind hg ho ht2,(s3 i x s hx hs).2.2⟩⟩,fun ht=>h.tt.kind hg ho ht⟩
 ·rcases ht with ht|ht
  ·exact h.sl.kind hg ho ht
  exact h.sl.grown hg fun k hk e=>by cases e;have:=h.slh _ hk;omega
 ·rcases ht with ht|ht|ht
  ·exact⟨ownsRow_kind h.sb.1 hg ho ht,h.sb.2⟩
  ·exact⟨ownsRow_ne h.sb.1 hg fun e=>by have:=h.sbh _ e;omega,h.sb.2⟩
  exact⟨ownsRow_ne h.sb.1 hg ht,h.sb.2⟩
 ·rcases ht with ht|ht|ht
  ·exact⟨ownsRow_kind h.db.1 hg ho ht,h.db.2⟩
  ·exact⟨ownsRow_ne h.db.1 hg fun e=>by have:=h.dbh _ e;omega,h.db.2⟩
  exact⟨ownsRow_ne h.db.1 hg ht,h.db.2⟩
 rcases ht2 with ht2|ht2
 ·exact(f3 i x f hx hf).2.kind hg ho ht2
 exact(f3 i x f hx hf).2.grown hg fun k hk e=>by cases e;have:=((f3 i x f hx hf).2.lt _ hk).1;omega
theorem MkR.var (h:MkR base hi w V m vt T) {g:Nat} {cs:Array Value} (hg:w.grownBy w' (some g)) (ho:w.heap[g]? =some (.cells cs t (0,0))) (hs:w.heap.size<=w'.heap.size) (h1:t=87\/(t=50/\hi<=g)):MkR base hi w' V m vt T:=by
 obtain⟨k1,k2,k3,k4,k5,k6,k7,k8,k9⟩:=h.kept hg ho
 rcases h1 with rfl|⟨rfl,h1⟩
 ·exact⟨nT h.hw hs,h.bh,k1 (by decide),k2 (.inl (by decide)),h.slh,k3 (.inl (by decide)),h.sbh,h.sq,k4 (.inl (by decide)),h.dbh,k5 (by decide),k6 (by decide) (.inl (by decide)),k7 (by decide),k8 (by decide) (by decide),k9 (by decide),h.ap⟩
 exact⟨nT h.hw hs,h.bh,k1 (by decide),k2 (.inl (by decide)),h.slh,k3 (.inr (.inl h1)),h.sbh,h.sq,k4 (.inr (.inl h1)),h.dbh,k5 (by decide),k6 (by decide) (.inl (by decide)),k7 (by decide),k8 (by decide) (by decide),k9 (by decide),h.ap⟩
theorem MkR.setF (h:MkR base hi w V m vt T) {g:Nat} (hv:(Value.slice V.f.a V.f.n V.f.c).ownBlock=some g) (hg:w.grownBy w' (some g)) (hs:w'.heap.size=w.heap.size) {fs:List Fr} (ho:OwnRow frmE base w' (.slice V.f.a V.f.n V.f.c) fs):MkR base hi w' V { m with fs:=fs } vt T:=by
 obtain⟨cs,hc⟩:=h.fs.obj hv;obtain⟨k1,k2,k3,k4,k5,k6,k7,k8,k9⟩:=h.kept hg hc;exact⟨by rw[hs];exact h.hw,h.bh,ho,k2 (.inl (by decide)),h.slh,k3 (.inl (by decide)),h.sbh,h.sq,k4 (.inl (by decide)),h.dbh,k5 (by decide),k6 (by decide) (.inl (by decide)),k7 (by decide),k8 (by decide) (by decide),k9 (by decide),h.ap⟩
theorem MkR.setS (h:MkR base hi w V m vt T) {g:Nat} (hv:(Value.slice V.s.a V.s.n V.s.c).ownBlock=some g) (hg:w.grownBy w' (some g)) (hs:w'.heap.size=w.heap.size) {ls:List Int} (ho:OwnRow slE base w' (.slice V.s.a V.s.n V.s.c) ls):MkR base hi w' V { m with sl:=ls } vt T:=by
 obtain⟨cs,hc⟩:=h.sl.obj hv;obtain⟨k1,k2,k3,k4,k5,k6,k7,k8,k9⟩:=h.kept hg hc;exact⟨by rw[hs];exact h.hw,h.bh,k1 (by decide),ho,h.slh,k3 (.inl (by decide)),h.sbh,h.sq,k4 (.inl (by decide)),h.dbh,k5 (by decide),k6 (by decide) (.inr (h.slh g hv)),k7 (by decide),k8 (by decide) (by decide),k9 (by decide),h.ap⟩
theorem MkR.setSb (h:MkR base hi w V m vt T) {g:Nat} {cs:Array Value} (hc:w.heap[g]? =some (.cells cs 50 (0,0))) (hv:(Value.slice V.sb.a V.sb.n V.sb.c).ownBlock=some g) (hg:w.grownBy w' (some g)) (hs:w'.heap.size=w.heap.size) {ls:List (List Int)} (ho:OwnPages base w' (.slice V.sb.a V.sb.n V.sb.c) ls):MkR base hi w' V { m with sb:=ls } vt T:=by
 obtain⟨k1,k2,k3,k4,k5,k6,k7,k8,k9⟩:=h.kept hg hc;exact⟨by rw[hs];exact h.hw,h.bh,k1 (by decide),k2 (.inl (by decide)),h.slh,ho,h.sbh,h.sq,k4 (.inr (.inr (h.ap g hv))),h.dbh,k5 (by decide),k6 (by decide) (.inl (by decide)),k7 (by decide),k8 (by decide) (by decide),k9 (by decide),h.ap⟩
theorem MkR.setDb (h:MkR base hi w V m vt T) {g:Nat} {cs:Array Value} (hc:w.heap[g]? =some (.cells cs 50 (0,0))) (hv:(Value.slice V.db.a V.db.n V.db.c).ownBlock=some g) (hg:w.grownBy w' (some g)) (hs:w'.heap.size=w.heap.size) {ls:List (List Int)} (ho:OwnPages base w' (.slice V.db.a V.db.n V.db.c) ls):MkR base hi w' V { m with db:=ls } vt T:=by
 obtain⟨k1,k2,k3,k4,k5,k6,k7,k8,k9⟩:=h.kept hg hc;exact⟨by rw[hs];exact h.hw,h.bh,k1 (by decide),k2 (.inl (by decide)),h.slh,k3 (.inr (.inr (fun e=>h.ap g e hv))),h.sbh,h.sq,ho,h.dbh,k5 (by decide),k6 (by decide) (.inl (by decide)),k7 (by decide),k8 (by decide) (by decide),k9 (by decide),h.ap⟩
theorem MkR.setT (h:MkR base hi w V m vt T) {g:Nat} (hv:(Value.slice vt.a vt.n vt.c).ownBlock=some g) (hg:w.grownBy w' (some g)) (hs:w'.heap.size=w.heap.size) {T':List (Nat->En)} (ho:OwnRow flaE base w' (.slice vt.a vt.n vt.c) T'):MkR base hi w' V m vt T':=by
 obtain⟨cs,hc⟩:=h.tt.obj hv;obtain⟨k1,k2,k3,k4,k5,k6,k7,k8,k9⟩:=h.kept hg hc;exact⟨by rw[hs];exact h.hw,h.bh,k1 (by decide),k2 (.inl (by decide)),h.slh,k3 (.inl (by decide)),h.sbh,h.sq,k4 (.inl (by decide)),h.dbh,k5 (by decide),k6 (by decide) (.inl (by decide)),k7 (by decide),k8 (by decide) (by decide),ho,h.ap⟩
end
structure Mk (w0:World) (hi:Nat) (w:World) (b:Nat) (vl:Sli) (L:List Int) (V:MaV) (m:Ma) (vt:Sli) (T:List (Nat->En)):Prop where
 gr:Grew w0 w
 hb:w0.heap.size<=b
 box:BoxT w b 87 [.slice vl.a vl.n vl.c,.slice V.f.a V.f.n V.f.c,.int .i64 m.hand,.slice V.s.a V.s.n V.s.c,.slice V.sb.a V.sb.n V.sb.c,.slice V.sq.a V.sq.n V.sq.c,.slice V.db.a V.db.n V.db.c,.slice V.dq.a V.dq.n V.dq.c,.slice V.fl.a V.fl.n V.fl.c,.int .i64 m.cnt,.slice V.ca.a V.ca.n V.ca.c,.slice V.sp.a V.sp.n V.sp.c,.slice vt.a vt.n vt.c]
 lr:RowAt byE w0 (.slice vl.a vl.n vl.c) L
 lc:vl.n<=vl.c
 lb:∀z∈L,0<=z/\z<256
 rows:MkR w0.heap.size hi w V m vt T
theorem Mk.grew {w:World} (h:Mk w0 hi w b vl L V m vt T) (k:Grew w w'):Mk w0 hi w' b vl L V m vt T:=⟨h.gr.trans k,h.hb,h.box.grew k,h.lr,h.lc,h.lb,h.rows.grew k⟩
theorem MkR.at {base:Nat} {w:World} (h:MkR base hi w V m vt T):MachAt w V m:=by
 obtain⟨xs,f1,f2,f3⟩:=h.fl;obtain⟨ys,s1,s2,s3⟩:=h.sp;obtain⟨q1,q2⟩:=h.sq;refine⟨h.fs.at,h.sl.at,h.sb.at,?_,h.db.at,h.dq.at,⟨f1.cap,xs,f1.at.s0,f2,fun i x f hx hf=>⟨(f3 i x f hx hf).1,(f3 i x f hx hf).2.at.s0⟩⟩,h.ca.at,⟨ys,s1.at,s2,fun i x s hx hs=>?_⟩⟩
 ·rw[q1,q2];exact⟨⟨none,0,rfl,fun _=>rfl,fun x hx=>by cases hx⟩,by simp,by simp⟩
 obtain⟨a1,a2,a3,a4⟩:=s3 i x s hx hs;exact⟨a1,a2.at,a2.cap,by rw[a3,a4];exact TabS.nil 0 0 w⟩
def Less (L L':List Int):Prop:=L=[]->L'=[]
theorem Less.refl (L:List Int):Less L L:=fun h=>h
theorem Less.trans {A B C:List Int} (h:Less A B) (k:Less B C):Less A C:=fun e=>k (h e)
theorem Tryz.sizeByte:(Tryz.prog.info? 5).map (·.size)=some 1:=by kernel_rfl
theorem run_rest {w:World} {ad:Addr} {n c:Nat}:(Instr.sliceAt 24 (.slice (some ad) (n+1) c) (some (.int .i64 1)) none none).run prog w= .ok (.slice (some (if c=1 then ad else ad.add 1)) n (c - 1)) w:=by
 have hs:(Go.sizeOf 5).run prog w= .ok 1 w:=by
  obtain⟨i0,h1,h2⟩:∃i0,Tryz.prog.info? 5=some i0/\i0.size=1:=by
   have:=Tryz.sizeByte
   cases hq:Tryz.prog.info? 5 with
   | none=>rw[hq]at this;cases this
   | some i0=>rw[hq]at this;exact⟨i0,rfl,by simpa using this⟩
  simp[Go.sizeOf,typeInfo,h1,h2]
 have h1:(0:Int)<=1/\(1:Int)<=((n+1:Nat):Int):=by omega
 simp only[Instr.sliceAt,Instr.slice,Instr.sliceBounds,Instr.sliceBound,asIntOf,Sem.run_bind,Sem.run_pure,rA,run_underlying underlying24];rw[if_pos h1];simp only[Sem.run_pure,rA,hs]
 by_cases hc:c=1
 ·simp[hc]
 simp[hc]
theorem pick_any {w:World} (n:Int) (h:Mk w0 hi w b vl L V m vt T):
  Calls prog 27 #[.pointer (some ⟨b,0,none⟩),.int .i64 n] w fun e w'=>∃vl' L' x,e= .returned (.int .i64 x)/\Mk w0 hi w' b vl' L' V m vt T/\w.grownBy w' (some b)/\w'.heap.size=w.heap.size/\0<=x/\(x=0\/x<n)/\(L=[]->x=0)/\Less L L':=by
 have HM:Hid (Mk w0 hi w b vl L V m vt T):=h;have hbx:=h.box.box;have x0:=hbx.c 0 rfl;have xf:=hbx.f;have hln:=h.lr.n;clear hbx;obtain⟨⟨la,ln,lc⟩,hvl⟩:∃s:Sli,vl=s:=⟨_,rfl⟩;subst hvl;dsimp only at x0 hln HM;clear h
 by_cases h0:ln=0
 ·subst h0;clear hln
  go_enter func27,ntmps27
  go_wp2;go_ret;exact⟨_,L,0,rfl,HM.out,World.grownBy.rfl' _ _,rfl,Int.le_refl _,.inl rfl,fun _=>rfl,Less.refl L⟩
 have h0e:((ln:Int) == 0)=false:=by simp;omega
 have h0f:(ln == 0)=false:=by simp[h0]
 by_cases h1:n<1
 ·clear h0 hln
  go_enter func27,ntmps27
  go_wp2;go_ret;exact⟨_,L,0,rfl,HM.out,World.grownBy.rfl' _ _,rfl,Int.le_refl _,.inl rfl,fun _=>rfl,Less.refl L⟩
 obtain⟨z,L',rfl⟩:∃z L',L=z :: L':=by
  cases L with
  | nil=>simp at hln;omega
  | cons z L'=>exact⟨z,L',rfl⟩
 have hz:=HM.out.lb z (by simp)
 obtain⟨hz0,hz1⟩:=hz;obtain⟨ad,rfl,hl⟩:=HM.out.lr.rowsAt 0 z rfl;have d0:w.cell? ad=some (.int .u8 z):=by
  have:=hl w HM.out.gr 0 _ rfl;rw[add_add']at this
  simpa [byE,Addr.add]using this
 obtain⟨k,rfl⟩:∃k,ln=k+1:=⟨ln - 1,by omega⟩
 have hcap:k+1<=lc:=HM.out.lc;have hrun:=run_rest (w:=w) (ad:=ad) (n:=k) (c:=lc);clear h0 hl;have hlt:(0:Int)< ((k+1:Nat):Int):=by omega
 obtain⟨ad',had⟩:∃ad',(if lc=1 then ad else ad.add 1)=ad':=⟨_,rfl⟩;rw[had]at hrun;have HL':Hid (RowAt byE w0 (.slice (some ad') k (lc - 1)) L'):=dD<|by
  obtain⟨⟨xa,xc,q1,q2,q3⟩,q4⟩:=HM.out.lr;dsimp only at q1;cases q1;have q5:=q3 ad rfl;refine⟨⟨some ad',lc - 1,rfl,fun h=>(by cases h),fun y hy=>?_⟩,?_⟩
  ·cases hy
   by_cases hc:lc=1
   ·have:L'=[]:=by
     have:L'.length=0:=by omega
     exact eN this
    subst this;intro j u hj
    simp at hj
   rw[if_neg hc]at had;subst had;intro j u hj;rw[add_add',Nat.add_comm 1 j];exact q5 (j+1) u (by simpa [byE]using hj)
  have:byE.bytes=1:=rfl;rw[this]at q4⊢
  simp at q4⊢
  omega
 have HBX:Hid (BoxT (w.setCell ⟨b,0,none⟩ (.slice (some ad') k (lc - 1))) b 87 [.slice (some ad') k (lc - 1),.slice V.f.a V.f.n V.f.c,.int .i64 m.hand,.slice V.s.a V.s.n V.s.c,.slice V.sb.a V.sb.n V.sb.c,.slice V.sq.a V.sq.n V.sq.c,.slice V.db.a V.db.n V.db.c,.slice V.dq.a V.dq.n V.dq.c,.slice V.fl.a V.fl.n V.fl.c,.int .i64 m.cnt,.slice V.ca.a V.ca.n V.ca.c,.slice V.sp.a V.sp.n V.sp.c,.slice vt.a vt.n vt.c]):=HM.out.box.set 0 _;have HGR:Hid (w.grownBy (w.setCell ⟨b,0,none⟩ (.slice (some ad') k (lc - 1))) (some b)):=⟨rfl,rfl,rfl,by simp[World.setCell],fun j _ hj=>Below.heap_setCell _ _ _ _ (fun e=>hj (by rw[e]))⟩
 have HSZ:Hid ((w.setCell ⟨b,0,none⟩ (.slice (some ad') k (lc - 1))).heap.size=w.heap.size):=dD<|by simp[World.setCell]
 have HMK:Hid (Mk w0 hi (w.setCell ⟨b,0,none⟩ (.slice (some ad') k (lc - 1))) b ⟨some ad',k,lc - 1⟩ L' V m vt T):=show Mk _ _ _ _ _ _ _ _ _ _ from
  ⟨grew_grown HM.out.gr HGR.out HM.out.hb,HM.out.hb,HBX.out,HL'.out,(show k<=lc - 1 by omega),fun y hy=>HM.out.lb y (by simp[hy]),HM.out.rows.var HGR.out HM.out.box (Nat.le_of_eq HSZ.out.symm) (.inl rfl)⟩
 have HX:Hid (0<=z % n/\z % n<n):=dD<|⟨Int.emod_nonneg _ (by omega),Int.emod_lt_of_pos _ (by omega)⟩
 clear hln hcap had
 go_enter func27,ntmps27
 go_wp2;go_ret;exact⟨_,L',z % n,rfl,HMK.out,HGR.out,HSZ.out,HX.out.1,.inr HX.out.2,fun h=>(by cases h)⟩
theorem pgc_set (q:List Int) (i:Nat) (z:Int):pgc (q.set i z)=(pgc q).set i (.int .u8 z):=by
 unfold pgc;rw[List.map_set]
theorem pgc_at {q:List Int} (h:q[i]? =some z):(pgc q)[i]? =some (.int .u8 z):=by
 unfold pgc;rw[List.getElem?_map,h];rfl
theorem Tryz.sizePg:(Tryz.prog.info? 50).map (·.size)=some 8:=by kernel_rfl
theorem page_any {w:World} (h:Mk w0 hi w b vl L V m vt T):
  Calls prog 30 #[.pointer (some ⟨b,0,none⟩)] w fun e w'=>∃vl' L' q,e= .returned (.agg (pgc q).toArray)/\q.length=8/\Mk w0 hi w' b vl' L' V m vt T/\w.grownBy w' (some b)/\Less L L':=by
 have HM:Hid (Mk w0 hi w b vl L V m vt T):=h;obtain⟨W0,hW0⟩:∃W0,(w.alloc (.cells #[.int .u8 0,.int .u8 0,.int .u8 0,.int .u8 0,.int .u8 0,.int .u8 0,.int .u8 0,.int .u8 0] 50)).alloc (.cells #[.int .u8 0,.int .u8 0,.int .u8 0,.int .u8 0,.int .u8 0,.int .u8 0,.int .u8 0,.int .u8 0] 50)=W0:=⟨_,rfl⟩;have HG0:=gD2 hW0
 have X0:Hid (BoxT W0 w.heap.size 50 (pgc zero8)):=dD<|by rw[<-hW0];exact(BoxT.top _ (pgc zero8) _ rfl).grew (grew_alloc _ _)
 have Y0:Hid (BoxT W0 (w.heap.size+1) 50 (pgc zero8)):=dD<|by rw[<-hW0];exact BoxT.top _ (pgc zero8) _ (by simp)
 have HB:Hid (b<w.heap.size):=dD<|h.box.box.lt
 have HH:Hid (hi<=w.heap.size):=dD<|h.rows.hw
 have HW0:Hid (_=W0):=hW0;clear hW0 h
 go_enter func30,ntmps30
 go_upto_region 2 with fail;rw[HW0.out];go_wp2
 go_loopg [5] 8 (fun gg s5 wr=>∃(kk:Nat) (vl':Sli) (L' q:List Int),kk<=8/\8 - kk<=gg/\s5= .int .i64 kk/\Hid (w.grownBy wr (some b))/\Hid (Mk w0 hi wr b vl' L' V m vt T)/\Hid (BoxT wr w.heap.size 50 (pgc zero8))/\Hid (BoxT wr (w.heap.size+1) 50 (pgc q))/\Hid (q.length=8)/\Hid (Less L L'))
 case atStart=>exact⟨0,vl,L,zero8,nZ _,by omega,rfl,grew_by HG0.out _,HM.out.grew HG0.out,X0.out,Y0.out,(show zero8.length=8 from rfl),Less.refl L⟩
 obtain⟨kk,vl',L',q,hkk,hgg,rfl,BW,MW,XW,YW,QL,LL⟩:=hrel
 by_cases hlt:kk<8
 ·have hltz:(kk:Int)<8:=by omega
  have hpk:=pick_any 4 MW.out;go_wp2_with fail;refine hpk.mono ?_;clear hpk;rintro e W1 ⟨vl2,L2,x,rfl,mk1,gr1,sz1,x0,x1,xn,ll⟩;have hx4:x<4:=by rcases x1 with h|h <;> omega
  have M1:Hid (Mk w0 hi W1 b vl2 L2 V m vt T):=mk1;have B1:Hid (w.grownBy W1 (some b)):=grown_trans BW.out gr1;have X1:Hid (BoxT W1 w.heap.size 50 (pgc zero8)):=XW.out.beside gr1 (fun g e=>by cases e;have:=HB.out;omega)
  have Y1:Hid (BoxT W1 (w.heap.size+1) 50 (pgc q)):=YW.out.beside gr1 (fun g e=>by cases e;have:=HB.out;omega)
  have LL1:=dD (LL.out.trans ll);clear mk1 gr1 sz1 x1 xn ll;obtain⟨z,hz⟩:∃z,q[kk]? =some z:=⟨_,gE (by rw[QL.out];exact hlt)⟩
  have y0:=Y1.out.box.c kk (pgc_at hz);have yf:=Y1.out.box.f;have GS:Hid (W1.grownBy (W1.setCell ⟨w.heap.size+1,kk,none⟩ (.int .u8 x)) (some (w.heap.size+1))):=⟨rfl,rfl,rfl,by simp[World.setCell],fun j _ hj=>Below.heap_setCell _ _ _ _ (fun e=>hj (by rw[e]))⟩
  have Y2:Hid (BoxT (W1.setCell ⟨w.heap.size+1,kk,none⟩ (.int .u8 x)) (w.heap.size+1) 50 (pgc (q.set kk x))):=dD<|by rw[pgc_set];exact Y1.out.set kk _
  have X2:Hid (BoxT (W1.setCell ⟨w.heap.size+1,kk,none⟩ (.int .u8 x)) w.heap.size 50 (pgc zero8)):=X1.out.beside GS.out (fun g e=>by cases e;omega)
  have M2:Hid (Mk w0 hi (W1.setCell ⟨w.heap.size+1,kk,none⟩ (.int .u8 x)) b vl2 L2 V m vt T):=show Mk _ _ _ _ _ _ _ _ _ _ from
   ⟨grew_grown M1.out.gr GS.out (by have:=bS HM.out.gr;omega),M1.out.hb,M1.out.box.beside GS.out (fun g e=>by cases e;have:=HB.out;omega),M1.out.lr,M1.out.lc,M1.out.lb,M1.out.rows.var GS.out Y1.out (by simp[World.setCell]) (.inr ⟨rfl,by have:=HH.out;omega⟩)⟩
  have B2:Hid (w.grownBy (W1.setCell ⟨w.heap.size+1,kk,none⟩ (.int .u8 x)) (some b)):=dD<|⟨B1.out.os,B1.out.tape,B1.out.output,by simp[World.setCell];exact B1.out.size,fun j hj hn=>by
   rw[Below.heap_setCell _ _ _ _ (by simp;omega)]
   exact B1.out.block j hj hn⟩
  clear hz;go_wp2
  go_roundg (8 -(kk+1))
  case measure=>omega
  exact⟨kk+1,vl2,L2,q.set kk x,by omega,by omega,by go_num,B2.out,M2.out,X2.out,Y2.out,(show _=_ by rw[List.length_set];exact QL.out),LL1.out⟩
 have hltz:¬(kk:Int)<8:=by omega
 have:kk=8:=by omega
 subst this;have HP:Hid ((pgc q).length=8):=dD<|by rw[pgc_len];exact QL.out
 go_wp2_with (first | (refine wp_loadAll rfl 50 (.tmp 3) rfl (w.heap.size+1) rfl YW.out.box underlying50 rfl (by rw[HP.out];exact Tryz.sizePg) ?_) | (refine wp_storeAll rfl 50 (.tmp 2) (.tmp 14) rfl w.heap.size rfl (pgc q) rfl XW.out.box (by rw[HP.out];rfl) Tryz.sizePg (pgc_one q) ?_))
 intro W5 hb5 hg5 sz5;have M5:Hid (Mk w0 hi W5 b vl' L' V m vt T):=show Mk _ _ _ _ _ _ _ _ _ _ from
  ⟨grew_grown MW.out.gr hg5 (bS HM.out.gr),MW.out.hb,MW.out.box.beside hg5 (fun g e=>by cases e;have:=HB.out;omega),MW.out.lr,MW.out.lc,MW.out.lb,MW.out.rows.var hg5 XW.out (Nat.le_of_eq sz5.symm) (.inr ⟨rfl,HH.out⟩)⟩
 have B5:Hid (w.grownBy W5 (some b)):=dD<|⟨hg5.os.trans BW.out.os,hg5.tape.trans BW.out.tape,hg5.output.trans BW.out.output,nT BW.out.size hg5.size,fun j hj hn=>by
  rw[hg5.block j (Nat.lt_of_lt_of_le hj BW.out.size) (fun e=>by cases e;omega)]
  exact BW.out.block j hj hn⟩
 go_wp2;refine bodyPost_ret (ret_cell rfl _ rfl hb5 underlying50 rfl (by rw[HP.out];exact Tryz.sizePg)) rfl ⟨vl',L',q,rfl,QL.out,M5.out,B5.out,LL.out⟩
theorem run_nilc {P:Program} {a:Act} {w:World} (x:Operand) (p:Addr) (ho:o.op= .nilCheck x) (hx:a.eval x= .pointer (some p)):(execOp a.eval o).run P w= .ok (.value (.pointer (some p))) w:=by
 simp[execOp,ho,hx]
section
variable{I:World->Prop} {P:Program} {ops:Array Oper} {o:Oper} {rest:List Oper} {k:Nat} {F:Nat->World->Prop} {a:Act} {Q:Act->World->Prop}
theorem laxC_nilc {S:Nat->Option (Value->Prop)} (x:Operand) (p:Addr) (ho:o.op= .nilCheck x) (hx:a.eval x= .pointer (some p)) (hw:Region.wanted o (yielded ops a.tmps)=true) (hS:S k=none) (h:WLaxC I P ops S Q rest (k+1) F (a.put o.dst (.pointer (some p)))):WLaxC I P ops S Q (o :: rest) k F a:=by
 constructor;unfold wpLaxC;rw[if_pos hw];simp only[hS];exact⟨_,fun w _ _=>run_nilc x p ho hx,h.out⟩
theorem laxI_nilc {S:Nat->Option SpecI} (x:Operand) (p:Addr) (ho:o.op= .nilCheck x) (hx:a.eval x= .pointer (some p)) (hw:Region.wanted o (yielded ops a.tmps)=true) (hS:S k=none) (h:WLaxI I P ops S Q rest (k+1) F (a.put o.dst (.pointer (some p)))):WLaxI I P ops S Q (o :: rest) k F a:=by
 constructor;unfold wpLaxI;rw[if_pos hw];simp only[hS];exact⟨_,fun w _ _=>run_nilc x p ho hx,h.out⟩
end
def Loc (hi p:Nat) (t:TypeId):Prop:=t≠87/\t≠59/\t≠3/\t≠91/\t≠71/\t≠83/\t≠65/\t≠93/\(t=50->hi<=p)
def Keeps (hi:Nat) (w w':World):Prop:=(∀p t cs,BoxT w p t cs->Loc hi p t->BoxT w' p t cs)/\w.heap.size<=w'.heap.size
theorem Keeps.trans {a b c:World} (h:Keeps hi a b) (k:Keeps hi b c):Keeps hi a c:=⟨fun p t cs h1 h2=>k.1 p t cs (h.1 p t cs h1 h2) h2,nT h.2 k.2⟩
theorem Keeps.grew {a b:World} (h:Grew a b):Keeps hi a b:=⟨fun _ _ _ h1 _=>h1.grew h,bS h⟩
theorem Keeps.kind {g:Nat} {w:World} {cs:Array Value} (hg:w.grownBy w' (some g)) (ho:w.heap[g]? =some (.cells cs t (0,0))) (hn:∀p,Loc hi p t->p≠g):Keeps hi w w':=⟨fun p u ds h1 h2=>h1.beside hg (fun k e=>by
 cases e;intro he;subst he;have h3:w.heap[p]? =some (.cells ds.toArray u (0,0)):=h1;rw[ho]at h3;simp only[Option.some.injEq,Obj.cells.injEq]at h3;obtain⟨_,rfl,_⟩:=h3;exact hn p h2 rfl),hg.size⟩
theorem Mk.keeps {w:World} (h:Mk w0 hi w b vl L V m vt T) (hg:w.grownBy w' (some b)):Keeps hi w w':=Keeps.kind hg h.box (fun _ hl=>absurd rfl hl.1)
def MkE (w0:World) (hi b:Nat) (w:World) (L:List Int) (V:MaV) (m:Ma) (vt:Sli) (T:List (Nat->En)) (w':World):Prop:=∃vl' L',Mk w0 hi w' b vl' L' V m vt T/\Less L L'/\Keeps hi w w'
theorem emod_in {a n:Nat} (h:0<n):((a:Int) %(n:Int))=((a % n:Nat):Int)/\a % n<n:=⟨by omega,Nat.mod_lt _ h⟩
theorem frame_any {w:World} (f:Fr) (h:Mk w0 hi w b vl L V m vt T):
  Calls prog 128 #[.pointer (some ⟨b,0,none⟩),.agg (frv f).toArray] w fun e w'=>(e= .returned (.int .i64 (-1))/\MkE w0 hi b w L V m vt T w')\/∃(j:Nat) (q:Fr),e= .returned (.int .i64 (j:Int))/\m.fs[j]? =some q/\q.r=0/\MkE w0 hi b w L V { m with fs:=m.fs.set j f } vt T w':=by
 have HM:Hid (Mk w0 hi w b vl L V m vt T):=h;obtain⟨W0,hW0⟩:∃W0,w.alloc (.cells #[.int .u8 f.p.b0,.int .u8 f.p.b1,.int .u8 f.p.b2,.int .u8 f.p.b3,.int .u8 f.p.b4,.int .u8 f.p.b5,.int .u8 f.p.b6,.int .u8 f.p.b7,.int .i64 f.r,.bool f.u,.bool f.d,.int .i64 f.f,.int .i64 f.x] 59)=W0:=⟨_,rfl⟩;have HG0:=gA hW0
 have X0:Hid (BoxT W0 w.heap.size 59 (frv f)):=dD<|by rw[<-hW0];exact BoxT.top _ (frv f) _ rfl
 have M0:Hid (Mk w0 hi W0 b vl L V m vt T):=h.grew HG0.out;have HNF:Hid (V.f.n=m.fs.length):=h.rows.fs.n;have hbig:V.f.n<=140737488355328:=by
  have h1:=h.rows.fs.2;have h40:frmE.bytes=40:=rfl;rw[h40]at h1;have:=h.rows.fs.n;omega
 have HB:Hid (b<w.heap.size):=dD<|h.box.box.lt
 have HFG:Hid (∀g,(Value.slice V.f.a V.f.n V.f.c).ownBlock=some g->g<w.heap.size):=dD<|fun g hg=>(h.rows.fs.lt g hg).2
 have HW0:Hid (_=W0):=hW0;clear hW0 h
 go_enter func128,ntmps128
 go_upto_region 1 with fail;have hw:w.alloc (.cells (frv f).toArray 59)=W0:=HW0.out;try rw[hw]
 try rw[HW0.out]
 clear hw;have x1:=M0.out.box.box.c 1 rfl;go_upto_region 2 with fail;clear x1;obtain⟨n,HN⟩:∃n,Hid (V.f.n=n):=⟨_,rfl⟩;rw[HN.out]at hbig⊢;have hpk:=pick_any (n:Int) M0.out;go_wp2_with fail;refine hpk.mono ?_;clear hpk;rintro e W1 ⟨vl1,L1,x,rfl,mk1,gr1,sz1,x0,x1,xn,ll⟩;obtain⟨fr,rfl⟩:∃fr:Nat,x=(fr:Int):=⟨x.toNat,by omega⟩
 have hfr:fr<=n:=by rcases x1 with h | h <;> omega
 have M1:Hid (Mk w0 hi W1 b vl1 L1 V m vt T):=mk1;have K1:Hid (Keeps hi w W1):=(Keeps.grew HG0.out).trans (M0.out.keeps gr1);have X1:Hid (BoxT W1 w.heap.size 59 (frv f)):=X0.out.beside gr1 (fun g e=>by cases e;have:=HB.out;omega)
 have LL1:Hid (Less L L1):=ll;clear mk1 gr1 sz1 x1 xn ll x0;go_wp2
 go_loopg [20] n (fun gg s20 wr=>∃i:Nat,i<=n/\n - i<=gg/\s20= .int .i64 i/\wr=W1)
 case atStart=>exact⟨0,nZ _,by omega,rfl,rfl⟩
 obtain⟨i,hi',hgg,rfl,rfl⟩:=hrel
 by_cases hlt:i<n
 ·have hltz:(i:Int)< (n:Int):=by omega
  have hn0:¬(n:Int)=0:=by omega
  have hn1:((n:Int) == 0)=false:=by simp;omega
  obtain⟨j,hj⟩:∃j:Nat,(fr+i) % n=j:=⟨_,rfl⟩;have hjm:((fr:Int)+(i:Int)) %(n:Int)=(j:Int):=by
   rw[<-hj];have:=(emod_in (a:=fr+i) (n:=n) (by omega)).1
   rw[<-this];rfl
  have hjn:j<n:=by rw[<-hj];exact Nat.mod_lt _ (by omega)
  have hjz:(j:Int)< (n:Int):=by omega
  clear hj;obtain⟨q,HQ⟩:∃q,Hid (m.fs[j]? =some q):=⟨_,gE (by rw[<-HNF.out,HN.out];exact hjn)⟩
  obtain⟨g,c',heq⟩:=M1.out.rows.fs.formS (by rw[<-HNF.out,HN.out];omega)
  have hfl:m.fs.length=n:=by rw[<-HNF.out,HN.out]
  rw[hfl]at heq;have HEQ:Hid (Value.slice V.f.a V.f.n V.f.c= .slice (some ⟨g,0,none⟩) n c'):=heq;have x1:=M1.out.box.box.c 1 rfl;rw[HEQ.out]at x1;have hrw:=M1.out.rows.fs;rw[HEQ.out]at hrw;have HRW:Hid (OwnRow frmE w0.heap.size wr (.slice (some ⟨g,0,none⟩) n c') m.fs):=hrw;have HGL:Hid (g<w.heap.size):=HFG.out g (by rw[HEQ.out];rfl)
  have hce:=hrw.one HQ.out;have d8:wr.cell? ⟨g,j*13+8,none⟩=some (.int .i64 q.r):=by
   have:=hce 8 _ rfl;rw[add_add',Addr.add_lit,zA]at this;exact this
  clear hce hrw heq hfl
  by_cases hr:q.r=0
  ·have hre:(q.r == 0)=true:=by simp[hr]
   have HR0:Hid (q.r=0):=hr;clear hr;go_upto_region 8 with fail;clear d8;obtain⟨I,hI⟩:∃I:World->Prop,I=fun u=>Grew wr u:=⟨_,rfl⟩
   have HI:Hid (∀u,I u↔Grew wr u):=dD<|fun u=>by rw[hI]
   clear hI;have hI0:I wr.drew:=(HI.out _).2 (gW _)
   have hx1:∀y:HoldI I,y.world.cell? ⟨b,1,none⟩=some (.slice (some ⟨g,0,none⟩) n c'):=fun y=>by rw[<-HEQ.out];exact(M1.out.box.box.grew ((HI.out _).1 y.holds)).c 1 rfl
   have hf0:∀y:HoldI I,y.world.cell? ⟨w.heap.size,0,none⟩=some (.int .u8 f.p.b0):=fun y=>(X1.out.box.grew ((HI.out _).1 y.holds)).c 0 rfl
   have hf1:∀y:HoldI I,y.world.cell? ⟨w.heap.size,1,none⟩=some (.int .u8 f.p.b1):=fun y=>(X1.out.box.grew ((HI.out _).1 y.holds)).c 1 rfl
   have hf2:∀y:HoldI I,y.world.cell? ⟨w.heap.size,2,none⟩=some (.int .u8 f.p.b2):=fun y=>(X1.out.box.grew ((HI.out _).1 y.holds)).c 2 rfl
   have hf3:∀y:HoldI I,y.world.cell? ⟨w.heap.size,3,none⟩=some (.int .u8 f.p.b3):=fun y=>(X1.out.box.grew ((HI.out _).1 y.holds)).c 3 rfl
   have hf4:∀y:HoldI I,y.world.cell? ⟨w.heap.size,4,none⟩=some (.int .u8 f.p.b4):=fun y=>(X1.out.box.grew ((HI.out _).1 y.holds)).c 4 rfl
   have hf5:∀y:HoldI I,y.world.cell? ⟨w.heap.size,5,none⟩=some (.int .u8 f.p.b5):=fun y=>(X1.out.box.grew ((HI.out _).1 y.holds)).c 5 rfl
   have hf6:∀y:HoldI I,y.world.cell? ⟨w.heap.size,6,none⟩=some (.int .u8 f.p.b6):=fun y=>(X1.out.box.grew ((HI.out _).1 y.holds)).c 6 rfl
   have hf7:∀y:HoldI I,y.world.cell? ⟨w.heap.size,7,none⟩=some (.int .u8 f.p.b7):=fun y=>(X1.out.box.grew ((HI.out _).1 y.holds)).c 7 rfl
   have hf8:∀y:HoldI I,y.world.cell? ⟨w.heap.size,8,none⟩=some (.int .i64 f.r):=fun y=>(X1.out.box.grew ((HI.out _).1 y.holds)).c 8 rfl
   have hf9:∀y:HoldI I,y.world.cell? ⟨w.heap.size,9,none⟩=some (.bool f.u):=fun y=>(X1.out.box.grew ((HI.out _).1 y.holds)).c 9 rfl
   have hf10:∀y:HoldI I,y.world.cell? ⟨w.heap.size,10,none⟩=some (.bool f.d):=fun y=>(X1.out.box.grew ((HI.out _).1 y.holds)).c 10 rfl
   have hf11:∀y:HoldI I,y.world.cell? ⟨w.heap.size,11,none⟩=some (.int .i64 f.f):=fun y=>(X1.out.box.grew ((HI.out _).1 y.holds)).c 11 rfl
   have hf12:∀y:HoldI I,y.world.cell? ⟨w.heap.size,12,none⟩=some (.int .i64 f.x):=fun y=>(X1.out.box.grew ((HI.out _).1 y.holds)).c 12 rfl
   have hne:Nonempty (HoldI I):=⟨⟨_,hI0⟩⟩;refine wp_lax_tailC (I:=I) 9 [] hI0 mixed (by kernel_rfl) rfl rfl (by decide) (by simp) (by kernel_rfl) ?_
   simp only[List.take,List.drop];iterate 1 (refine laxC_quiet rfl rfl rfl (fun K hK=>?_);go_big_quiet_op;refine hK _ ?_;clear hK)
   refine laxC_nilc (.tmp 39) ⟨b,0,none⟩ rfl rfl rfl rfl ?_;simp only[Act.put,sB,sS,sZ];iterate 7 (refine laxC_quiet rfl rfl rfl (fun K hK=>?_);go_big_quiet_op;refine hK _ ?_;clear hK)
   refine laxC_nil fun W2 hI2 hF=>?_
   have hg2:=(HI.out _).1 hI2;have M2:=dD (M1.out.grew hg2);have R2:=dD (HRW.out.grew hg2);have K2:=dD (K1.out.trans (Keeps.grew hg2));clear hg2 hI2 hF hx1 hf0 hf1 hf2 hf3 hf4 hf5 hf6 hf7 hf8 hf9 hf10 hf11 hf12 hne hI0;refine wpList_store_elt (E:=frmE) rfl (.tmp 47) (.tmp 46) rfl w0.heap.size _ m.fs R2.out g j rfl f (by rw[<-HNF.out,HN.out];exact hjn) ⟨g,j*13,none⟩ rfl rfl (.agg (frv f).toArray) rfl rfl ?_
   intro W3 ow3 gr3 sz3;have M3:Hid (Mk w0 hi W3 b vl1 L1 V { m with fs:=m.fs.set j f } vt T):=dD<|by
    have hob:(Value.slice V.f.a V.f.n V.f.c).ownBlock=some g:=by rw[HEQ.out];rfl
    have h2:=M2.out;refine⟨grew_grown h2.gr gr3 (R2.out.lt g rfl).1,h2.hb,h2.box.beside gr3 (fun k e=>?_),h2.lr,h2.lc,h2.lb,h2.rows.setF hob gr3 sz3 (by rw[HEQ.out];exact ow3)⟩
    cases e;exact R2.out.ne h2.box (by decide) g rfl
   have K3:Hid (Keeps hi w W3):=dD<|by
    obtain⟨cs,hcs⟩:=R2.out.obj (g:=g) rfl;exact K2.out.trans (Keeps.kind gr3 hcs (fun _ hl=>absurd rfl hl.2.1))
   clear ow3 gr3 sz3;go_wp2;go_ret;exact .inr ⟨j,q,rfl,HQ.out,HR0.out,vl1,L1,M3.out,LL1.out,K3.out⟩
  have hre:(q.r == 0)=false:=by simp[hr]
  clear hr;go_wp2
  go_roundg (n -(i+1))
  case measure=>omega
  exact⟨i+1,by omega,by omega,by go_num,rfl⟩
 have hltz:¬(i:Int)< (n:Int):=by omega
 go_wp2;go_ret;exact .inl ⟨rfl,vl1,L1,M1.out,LL1.out,K1.out⟩
theorem mem_set_len {ps:List (List Int)} {l:List Int} (h:∀p∈ps,p.length=8) (hl:l.length=8):∀p∈ps.set i l,p.length=8:=fun p hp=>by
 rcases List.mem_or_eq_of_mem_set hp with h1|h1
 ·exact h p h1
 rw[h1];exact hl
theorem wpList_store_page {w:World} {rest:List Oper} {a:Act} (hgd:o.guard=none) (p x:Operand) (ho:o.op= .store 50 p x)
  (base:Nat) (v:Value) (ps:List (List Int)) (hown:OwnPages base w v ps) (g i:Nat) (hg:v.ownBlock=some g) (hi:i<ps.length) (l:List Int) (hl:l.length=8)
  (ad:Addr) (hp:a.eval p= .pointer (some ad)) (had:ad=⟨g,i*8,none⟩) (hx:a.eval x= .agg (pgc l).toArray)
  (h:∀w',OwnPages base w' v (ps.set i l)->w.grownBy w' (some g)->w'.heap.size=w.heap.size->wpList prog ops Q rest (a.put o.dst undef) w'):wpList prog ops Q (o :: rest) a w:=by
 refine wpList_store_row hgd p x 50 ho 8 (by kernel_rfl) base v ps.length _ hown.1 g i hg hi (pgc l) (by rw[pgc_len,hl]) (pgc_one l) ad hp had hx fun w' h1 h2 h3=>?_
 rw[splice_set l (by rw[pgc_len,hl]) ps i (fun b hb=>by rw[pgc_len,hown.2.1 b hb]) hi]at h1
 refine h w' ⟨by rw[List.length_set];exact h1,mem_set_len hown.2.1 hl,by rw[List.length_set];exact hown.2.2⟩ h2 h3
theorem nilDisk (base:Nat) (w:World):NewDisk base w (.agg #[.slice none 0 0,.slice none 0 0]) [] []:=
 ⟨_,_,rfl,⟨⟨none,0,rfl,fun _=>rfl,fun x hx=>by cases hx⟩,by simp,by simp⟩,⟨⟨none,0,rfl,fun _=>rfl,fun x hx=>by cases hx⟩,by simp,by simp⟩,fresh_nil _,fresh_nil _⟩
theorem nilPuts (w:World):PutsAt w (.slice none 0 0) []:=⟨⟨none,0,rfl,fun _=>rfl,fun x hx=>by cases hx⟩,by simp,by simp⟩
def newErr (n:Int):Int:=if 0<=n/\n<=80 then 0 else 4
def newD (n:Int):List (List Int):=if 0<=n/\n<=80 then List.replicate n.toNat zero8 else []
theorem made_pages (n:Nat):(madeCells #[.int .u8 0,.int .u8 0,.int .u8 0,.int .u8 0,.int .u8 0,.int .u8 0,.int .u8 0,.int .u8 0] (n*8)).toList=(List.replicate n zero8).flatMap pgc:=by
 have hl:((List.replicate n zero8).flatMap pgc).length=n*8:=by rw[flatMap_len (k:=8) _ (fun a ha=>by rw[List.eq_of_mem_replicate ha];rfl)];simp
 apply List.ext_getElem?
 intro j
 rcases Nat.lt_or_ge j (n*8)with h|h
 ·have hj:j=j / 8*8+j % 8:=by omega
  have h8:j % 8<8:=Nat.mod_lt _ (by decide)
  have hq:j / 8<n:=by omega
  have hz:(pgc zero8)[j % 8]? =some (.int .u8 0):=by
   generalize j % 8=k at h8
   match k,h8 with
   | 0,_=>rfl
   | 1,_=>rfl
   | 2,_=>rfl
   | 3,_=>rfl
   | 4,_=>rfl
   | 5,_=>rfl
   | 6,_=>rfl
   | 7,_=>rfl
  have h1:=flatMap_elem (enc:=pgc) (k:=8) (List.replicate n zero8) (j / 8) zero8 (fun a ha=>by rw[List.eq_of_mem_replicate ha];rfl) (by simp[hq]) (j % 8) _ hz
  rw[<-hj]at h1;rw[h1];have:(#[Value.int .u8 0,.int .u8 0,.int .u8 0,.int .u8 0,.int .u8 0,.int .u8 0,.int .u8 0,.int .u8 0]:Array Value)[j % 8]! = .int .u8 0:=by
   generalize j % 8=k at h8
   match k,h8 with
   | 0,_=>rfl
   | 1,_=>rfl
   | 2,_=>rfl
   | 3,_=>rfl
   | 4,_=>rfl
   | 5,_=>rfl
   | 6,_=>rfl
   | 7,_=>rfl
  simp[madeCells,h]
  simpa using this
 rw[gN (by simp[madeCells];exact h),gN (by rw[hl];exact h)]
theorem wpList_make_pages {w:World} {rest:List Oper} {a:Act} (hgd:o.guard=none) (l:Operand) (ho:o.op= .makeSlice 30 l l) (n:Nat) (hl:a.eval l= .int .i64 n) (hn:n<=80)
  (h:∀C,OwnPages w.heap.size (w.alloc (.cells C 50)) (.slice (some ⟨w.heap.size,0,none⟩) n n) (List.replicate n zero8)->wpList prog ops Q rest (a.put o.dst (.slice (some ⟨w.heap.size,0,none⟩) n n)) (w.alloc (.cells C 50))):wpList prog ops Q (o :: rest) a w:=by
 refine wpList_plain hgd fun K hK=>?_
 obtain⟨i0,hi,hz0,hz1,hz2⟩:=info_parts Tryz.infoPage;have hrun:=run_make (P:=prog) w 30 50 i0 _ underlying30 hi hz0 .i64 .i64 n n (by omega) (Int.le_refl _) (by rw[hz2];omega) (by omega)
 rw[hz1,tN]at hrun;unfold Oper.wp;simp only[execOp,ho,hl,Sem.run_bind,hrun,Result.andThen,Sem.run_pure,Oper.upon];refine hK _ _ (h _ ⟨⟨?_,.inr ⟨w.heap.size,n,madeCells #[.int .u8 0,.int .u8 0,.int .u8 0,.int .u8 0,.int .u8 0,.int .u8 0,.int .u8 0,.int .u8 0] (n*8),by rw[lR],nR _,?_,?_,?_,?_,?_⟩⟩,fun p hp=>by rw[List.eq_of_mem_replicate hp];rfl,by rw[lR];omega⟩)
 ·rw[flatMap_len (k:=8) _ (fun a ha=>by rw[List.eq_of_mem_replicate ha];rfl)]
 ·show(w.heap.push _)[w.heap.size]? =_
  simp[Value.cells]
 ·rw[lR];exact nR _
 ·exact maxLen_of (by omega)
 ·rw[size_madeCells]
 rw[lR]
 show(madeCells #[.int .u8 0,.int .u8 0,.int .u8 0,.int .u8 0,.int .u8 0,.int .u8 0,.int .u8 0,.int .u8 0] (n*8)).toList.take (n*8)=_
 rw[List.take_of_length_le (by simp[madeCells]),made_pages]
theorem new_any (n:Int) (w:World):
  Calls prog 69 #[.int .i64 n] w fun e w'=>∃d',e= .returned (.tuple #[d',.int .i64 (newErr n)])/\NewDisk w.heap.size w' d' (newD n) []/\Grew w w':=by
 by_cases h:0<=n/\n<=80
 ·have HE:Hid (newErr n=0):=dD<|by unfold newErr;rw[if_pos h]
  have HD:Hid (newD n=List.replicate n.toNat zero8):=dD<|by unfold newD;rw[if_pos h]
  obtain⟨k,rfl⟩:=Int.eq_ofNat_of_zero_le h.1;have h0:¬(k:Int)<0:=by omega
  have h1:¬(80:Int)< (k:Int):=by omega
  have hk:k<=80:=by omega
  have HG0:Hid (Grew w (w.alloc (.cells #[.slice none 0 0,.slice none 0 0] 33))):=grew_alloc _ _;rw[HE.out]
  go_enter func69,ntmps69
  go_wp2_with (refine wpList_make_pages rfl (.tmp 11) rfl k rfl hk ?_;intro C ow;have OW:Hid (OwnPages (w.alloc (.cells #[.slice none 0 0,.slice none 0 0] 33)).heap.size ((w.alloc (.cells #[.slice none 0 0,.slice none 0 0] 33)).alloc (.cells C 50)) (.slice (some ⟨(w.alloc (.cells #[.slice none 0 0,.slice none 0 0] 33)).heap.size,0,none⟩) k k) (List.replicate k zero8)):=ow;clear ow)
  refine bodyPost_ret (v:= .tuple #[.agg #[.slice (some ⟨w.heap.size+1,0,none⟩) k k,.slice none 0 0],.int .i64 0]) (by simp[results,Tryz.results69,go_sem, *]) rfl ⟨_,rfl,?_,?_⟩
  ·rw[HD.out];have ho:=OW.out;rw[World.size_alloc]at ho;exact⟨_,_,rfl,OwnPages.at (base:=w.heap.size+1) ⟨ownsRow_same ho.1 (fun k hk=>alloc2_same w _ _ _ k hk),ho.2⟩,nilPuts _,fun x n c e=>by cases e;simp,fresh_nil _⟩
  exact(grew_alloc _ _).trans (grew_alloc _ _)
 have HE:Hid (newErr n=4):=dD<|by unfold newErr;rw[if_neg h]
 have HD:Hid (newD n=[]):=dD<|by unfold newD;rw[if_neg h]
 rw[HE.out,HD.out]
 by_cases h0:n<0
 ·clear h
  go_enter func69,ntmps69
  go_wp2;refine bodyPost_ret (v:= .tuple #[.agg #[.slice none 0 0,.slice none 0 0],.int .i64 4]) (by simp[results,Tryz.results69,go_sem]) rfl ⟨_,rfl,nilDisk _ _,?_⟩
  exact grew_alloc _ _
 have h1:(80:Int)<n:=by omega
 clear h
 go_enter func69,ntmps69
 go_wp2;refine bodyPost_ret (v:= .tuple #[.agg #[.slice none 0 0,.slice none 0 0],.int .i64 4]) (by simp[results,Tryz.results69,go_sem]) rfl ⟨_,rfl,nilDisk _ _,?_⟩
 exact grew_alloc _ _
end
section
open Go.RowKit Go.Shelf
section
attribute [local go_sem] Oper.semAt_some
structure P9 where
 (i m b0 b1 b2 b3 b4 b5 b6 b7:Int)
end
section
attribute [local go_sem] Oper.semAt_some
theorem wrongAtL_zero {n : Nat} {qs : List (Int × List Int)} {m : Int} (h : wrongAtL n qs m = 0) : wrongL n qs = 0 /\ ∃ i : Nat, m = (i : Int) /\ i < n := by
  unfold wrongAtL at h
  by_cases h1 : wrongL n qs = 0
  · rw [if_pos h1] at h
    refine ⟨h1, ?_⟩
    cases hb : dkInB m n with
    | false => rw [hb] at h; simp at h
    | true =>
      unfold dkInB at hb
      simp at hb
      obtain ⟨i, hi⟩ := Int.eq_ofNat_of_zero_le hb.1
      exact ⟨i, hi, by omega⟩
  · rw [if_neg h1] at h; exact absurd h h1
end
end
section
open Go.RowKit
def writeB (ps : List (List Int)) (qs : List (Int × List Int)) : List (List Int) := if qs.length = 400 then ps.set (qs.headD (0, [])).1.toNat (qs.headD (0, [])).2 else ps
def writeDP (ps : List (List Int)) (qs : List (Int × List Int)) (m : Int) : List (List Int) := if wrongAtL ps.length qs m = 0 then writeB ps qs else []
theorem al1:newErr 3=0:=by decide
theorem al2:newD 3=[zero8,zero8,zero8]:=by decide
theorem al3:wrongAtL [zero8,zero8,zero8].length [] 1=0:=by decide
theorem al4:writeDP [zero8,zero8,zero8] [] 1=[zero8,zero8,zero8]:=by decide
def pickQ:Option (Int × List Int)->List Int->List Int
 | some q,_=>q.2
 | none,d=>d
theorem readL_of {ps:List (List Int)} {qs:List (Int × List Int)} {m:Int} (h:wrongAtL ps.length qs m=0):readL ps qs m=pickQ (qs.reverse.find? (fun q=>q.1 == m)) (ps.getD m.toNat zero8):=by
 unfold readL;rw[if_pos h]
 cases qs.reverse.find? (fun q=>q.1 == m) <;> rfl
theorem refWrong_any (a:Option Addr) (n c:Nat) (qv:Value) (qs:List (Int × List Int)) (w:World) (hq:PutsAt w qv qs):
  Calls prog 98 #[.agg #[.slice a n c,qv]] w fun e w'=>e= .returned (.int .i64 (wrongL n qs))/\Grew w w':=by
 have HL:Hid (wrongL n qs=if 80<n then 4 else if 400<qs.length then 4 else if qs.any (fun q=>!dkInB q.1 n)then 3 else 0):=rfl
 have hbig:qs.length<=9223372036854775807:=by have:=hq.2.2;omega
 obtain⟨a2,c2,rfl,hrow⟩:=hq.rows;have HRQ:Hid (PutRows w a2 qs):=hrow;clear hq hrow;obtain⟨kq,HN⟩:∃kq,Hid (qs.length=kq):=⟨_,rfl⟩;rw[HN.out]at HL hbig⊢
 by_cases h1:80<n
 ·have h1':(80:Int)< (n:Int):=by omega
  rw[if_pos h1]at HL
  go_enter func98,ntmps98
  go_wp2;go_ret;exact⟨by rw[HL.out];rfl,grew_alloc _ _⟩
 have h1':¬(80:Int)< (n:Int):=by omega
 rw[if_neg h1]at HL
 by_cases h2:400<kq
 ·have h2':(400:Int)< (kq:Int):=by omega
  rw[if_pos h2]at HL
  go_enter func98,ntmps98
  go_wp2;go_ret;exact⟨by rw[HL.out];rfl,grew_alloc _ _⟩
 have h2':¬(400:Int)< (kq:Int):=by omega
 rw[if_neg h2]at HL;obtain⟨W0,hW0⟩:∃W0,w.alloc (.cells #[.slice a n c,.slice a2 kq c2] 33)=W0:=⟨_,rfl⟩;have HG0:=gA hW0
 have X0:=xA hW0
 have HW0:Hid (_=W0):=hW0;clear hW0
 go_enter func98,ntmps98
 go_wp2;rw[HW0.out]
 go_loopg [4,18] kq (fun gg _ s18 wr=>∃kk:Nat,kk<=kq/\kq - kk<=gg/\s18= .int .i64 kk/\Hid (Grew W0 wr)/\Hid (∀(j:Nat) q,j<kk->qs[j]? =some q->dkInB q.1 n=true))
 case atStart=>exact⟨0,nZ _,by omega,rfl,Grew.refl _,fun j q hj=>absurd hj (nL _)⟩
 obtain⟨kk,hkk,hg,rfl,BW,A⟩:=hrel
 by_cases hlt:kk<kq
 ·have hltz:(kk:Int)< (kq:Int):=by omega
  obtain⟨q,HQ⟩:∃q,Hid (qs[kk]? =some q):=⟨_,gE (by rw[HN.out];exact hlt)⟩
  obtain⟨x,m,b0,b1,b2,b3,b4,b5,b6,b7,rfl,rfl,hl⟩:=HRQ.out kk q HQ.out;obtain⟨d0,d1,d2,d3,d4,d5,d6,d7,d8⟩:=hl wr (HG0.out.trans BW.out);have X:=X0.out.grew BW.out;have z0:=X.c 0 rfl;have zl:=X.lt;clear hl
  by_cases hb:dkInB m n=true
  ·have hb':=hb;unfold dkInB at hb'
   simp at hb'
   have hm0:¬m<0:=by omega
   have hmn:¬(n:Int)<=m:=by omega
   have HB:Hid (dkInB m n=true):=hb;clear hb hb';go_wp2
   go_roundg (kq -(kk+1))
   case measure=>omega
   refine⟨kk+1,by omega,by omega,by go_num,BW.out.trans (grew_alloc _ _),(show Hid _ from fun j q' hj hq'=>?_)⟩
   by_cases e:j=kk
   ·subst e;rw[HQ.out]at hq';cases hq';exact HB.out
   exact A.out j q' (by omega) hq'
  have hany:(qs.any fun q=>!dkInB q.1 n)=true:=List.any_eq_true.2 ⟨_,mG HQ.out,by simpa using hb⟩
  rw[if_pos hany]at HL;unfold dkInB at hb
  simp at hb
  clear hany
  by_cases hm0:m<0
  ·clear hb;go_wp2;go_ret;exact⟨by rw[HL.out];rfl,(HG0.out.trans BW.out).trans (grew_alloc _ _)⟩
  have hmn:(n:Int)<=m:=hb (by omega)
  clear hb;go_wp2;go_ret;exact⟨by rw[HL.out];rfl,(HG0.out.trans BW.out).trans (grew_alloc _ _)⟩
 have hltz:¬(kk:Int)< (kq:Int):=by omega
 have:kk=kq:=by omega
 subst this;have hany:¬(qs.any fun q=>!dkInB q.1 n)=true:=fun h=>by
  obtain⟨q,hq,hb⟩:=List.any_eq_true.1 h;obtain⟨j,hj⟩:=List.getElem?_of_mem hq;have:=A.out j q (by rw[<-HN.out];exact(gS.1 hj).1) hj
  rw[this]at hb
  simp at hb
 rw[if_neg hany]at HL;clear hany;go_wp2;go_ret;exact⟨by rw[HL.out];rfl,HG0.out.trans BW.out⟩
theorem pick_snoc {r : List (Int × List Int)} {q : Int × List Int} {m : Int} {d : List Int} : pickQ ((r ++ [q]).reverse.find? (fun q => q.1 == m)) d = if q.1 == m then q.2 else pickQ (r.reverse.find? (fun q => q.1 == m)) d := by
  rw [List.reverse_append]
  simp only [List.reverse_cons, List.reverse_nil, List.nil_append, List.cons_append, List.find?_cons]
  cases hq : (q.1 == m) <;> simp [pickQ]
theorem refRead_err (d : Value) (ps : List (List Int)) (qs : List (Int × List Int)) (m : Int) (w : World) (hd : DiskAt w d ps qs) (hr0 : ¬ wrongAtL ps.length qs m = 0) :
    Calls Tryz.prog 110 #[d, .int .i64 m] w fun e w' => e = .returned (.tuple #[.agg (pgc zero8).toArray, .int .i64 (wrongAtL ps.length qs m)]) /\ Grew w w' := by
  obtain ⟨b, q, rfl, hb, hq⟩ := hd
  have HQ : Hid (PutsAt w q qs) := hq
  obtain ⟨ab, cb, rfl, _⟩ := hb.rows
  obtain ⟨aq, cq, rfl, _⟩ := hq.rows
  clear hb hq
  have HWA : Hid (wrongAtL ps.length qs m = if wrongL ps.length qs = 0 then (if dkInB m ps.length then 0 else 3) else wrongL ps.length qs) := rfl
  obtain ⟨W0, hW0⟩ : ∃ W0, (w.alloc (.cells #[.slice ab ps.length cb, .slice aq qs.length cq] 33)).alloc (.cells #[.int .u8 0, .int .u8 0, .int .u8 0, .int .u8 0, .int .u8 0, .int .u8 0, .int .u8 0, .int .u8 0] 50) = W0 := ⟨_, rfl⟩
  have HG0 : Hid (Grew w W0) := show Grew w W0 by rw [<- hW0]; exact (grew_alloc _ _).trans (grew_alloc _ _)
  have X0 : Hid (Box W0 w.heap.size [.slice ab ps.length cb, .slice aq qs.length cq]) := show Box _ _ _ by rw [<- hW0]; exact (Box.top w [.slice ab ps.length cb, .slice aq qs.length cq] _ rfl).alloc _
  have X1 : Hid (Box W0 (w.heap.size + 1) [.int .u8 0, .int .u8 0, .int .u8 0, .int .u8 0, .int .u8 0, .int .u8 0, .int .u8 0, .int .u8 0]) := show Box _ _ _ by rw [<- hW0]; exact Box.top _ [.int .u8 0, .int .u8 0, .int .u8 0, .int .u8 0, .int .u8 0, .int .u8 0, .int .u8 0, .int .u8 0] _ (by simp)
  have hcon := refWrong_any ab ps.length cb (.slice aq qs.length cq) qs W0 (HQ.out.grew HG0.out)
  obtain ⟨r, HR⟩ : ∃ r, Hid (wrongL ps.length qs = r) := ⟨_, rfl⟩
  rw [HR.out] at hcon HWA
  obtain ⟨nb, HNB⟩ : ∃ nb, Hid (ps.length = nb) := ⟨_, rfl⟩
  obtain ⟨kq, HNQ⟩ : ∃ kq, Hid (qs.length = kq) := ⟨_, rfl⟩
  rw [HNB.out] at HWA hr0
  rw [HNB.out, HNQ.out] at hcon hW0 X0 ⊢
  have HW0 : Hid (_ = W0) := hW0
  clear hW0
  have hcases : (Hid (wrongAtL nb qs m = r) /\ (r != 0) = true) \/ (Hid (wrongAtL nb qs m = 3) /\ (r != 0) = false /\ Hid (r = 0) /\ m < 0) \/ (Hid (wrongAtL nb qs m = 3) /\ (r != 0) = false /\ Hid (r = 0) /\ ¬ m < 0 /\ (nb : Int) <= m) := by
    by_cases h1 : r = 0
    · subst h1
      rw [if_pos rfl] at HWA
      have hnb : ¬ dkInB m nb = true := fun e => by rw [HWA.out, if_pos e] at hr0; exact hr0 rfl
      rw [if_neg hnb] at HWA
      unfold dkInB at hnb
      simp at hnb
      by_cases h2 : m < 0
      · exact .inr (.inl ⟨HWA, rfl, rfl, h2⟩)
      · exact .inr (.inr ⟨HWA, rfl, rfl, h2, hnb (by omega)⟩)
    · rw [if_neg h1] at HWA
      exact .inl ⟨HWA, by simpa using h1⟩
  clear HWA hr0
  rcases hcases with ⟨HE, h1⟩ | ⟨HE, h1, h0, h2⟩ | ⟨HE, h1, h0, h2, h3⟩
  · rw [HE.out]
    go_enter Tryz.func110, Tryz.ntmps110
    go_wp2_with (go_at_call 98; rw [HW0.out]; refine hcon.mono ?_; clear hcon; rintro e W1 ⟨rfl, g1⟩
                 have e0 := (X0.out.grew g1).c 0 rfl
                 have Y := X1.out.grew g1
                 have c0 := Y.c 0 rfl
                 have c1 := Y.c 1 rfl
                 have c2 := Y.c 2 rfl
                 have c3 := Y.c 3 rfl
                 have c4 := Y.c 4 rfl
                 have c5 := Y.c 5 rfl
                 have c6 := Y.c 6 rfl
                 have c7 := Y.c 7 rfl
                 have f0 := Y.f
                 clear Y)
    refine bodyPost_ret (v := .tuple #[.agg #[.int .u8 0, .int .u8 0, .int .u8 0, .int .u8 0, .int .u8 0, .int .u8 0, .int .u8 0, .int .u8 0], .int .i64 r]) (by simp [results, Tryz.results110, go_sem, *]) rfl ⟨rfl, ?_⟩
    have HG1 : Grew w W1 := HG0.out.trans g1
    iterate 8 (refine grew_set ?_ (by simp) _)
    exact HG1
  all_goals
    rw [HE.out]
    have hr := h0.out
    subst hr
    go_enter Tryz.func110, Tryz.ntmps110
    go_wp2_with (go_at_call 98; rw [HW0.out]; refine hcon.mono ?_; clear hcon; rintro e W1 ⟨rfl, g1⟩
                 have e0 := (X0.out.grew g1).c 0 rfl
                 have Y := X1.out.grew g1
                 have c0 := Y.c 0 rfl
                 have c1 := Y.c 1 rfl
                 have c2 := Y.c 2 rfl
                 have c3 := Y.c 3 rfl
                 have c4 := Y.c 4 rfl
                 have c5 := Y.c 5 rfl
                 have c6 := Y.c 6 rfl
                 have c7 := Y.c 7 rfl
                 have f0 := Y.f
                 clear Y)
    refine bodyPost_ret (v := .tuple #[.agg #[.int .u8 0, .int .u8 0, .int .u8 0, .int .u8 0, .int .u8 0, .int .u8 0, .int .u8 0, .int .u8 0], .int .i64 3]) (by simp [results, Tryz.results110, go_sem, *]) rfl ⟨rfl, ?_⟩
    have HG1 : Grew w W1 := HG0.out.trans g1
    iterate 8 (refine grew_set ?_ (by simp) _)
    exact HG1
theorem refRead_ok (d : Value) (ps : List (List Int)) (qs : List (Int × List Int)) (i : Nat) (w : World) (hd : DiskAt w d ps qs) (hr0 : wrongAtL ps.length qs (i : Int) = 0) :
    Calls Tryz.prog 110 #[d, .int .i64 (i : Int)] w fun e w' => e = .returned (.tuple #[.agg (pgc (readL ps qs (i : Int))).toArray, .int .i64 0]) /\ Grew w w' := by
  obtain ⟨hw0, i', hii, hib⟩ := wrongAtL_zero hr0
  have hi : i < ps.length := by omega
  have HRL := readL_of hr0
  simp only [Int.toNat_natCast] at HRL
  obtain ⟨b, q, rfl, hb, hq⟩ := hd
  have HQ : Hid (PutsAt w q qs) := hq
  have hbig : qs.length <= 9223372036854775807 := by have := hq.2.2; omega
  obtain ⟨ab, cb, rfl, hrb⟩ := hb.rows
  obtain ⟨aq, cq, rfl, hrq⟩ := hq.rows
  have HRQ : Hid (PutRows w aq qs) := hrq
  obtain ⟨pg, hpg⟩ : ∃ pg, ps[i]? = some pg := ⟨_, List.getElem?_eq_getElem hi⟩
  obtain ⟨xa, b0, b1, b2, b3, b4, b5, b6, b7, hxa, rfl, hrow⟩ := hrb i pg hpg
  subst hxa
  have HROW : Hid (∀ W, Grew w W -> PageCells W (xa.add (i * 8)) b0 b1 b2 b3 b4 b5 b6 b7) := hrow
  rw [show ps.getD i zero8 = [b0, b1, b2, b3, b4, b5, b6, b7] from by rw [List.getD_eq_getElem?_getD, hpg]; rfl] at HRL
  have HL : Hid (readL ps qs (i : Int) = pickQ (qs.reverse.find? (fun q => q.1 == (i : Int))) [b0, b1, b2, b3, b4, b5, b6, b7]) := HRL
  clear hb hq hrb hrq hrow hpg HRL
  obtain ⟨W0, hW0⟩ : ∃ W0, (w.alloc (.cells #[.slice (some xa) ps.length cb, .slice aq qs.length cq] 33)).alloc (.cells #[.int .u8 0, .int .u8 0, .int .u8 0, .int .u8 0, .int .u8 0, .int .u8 0, .int .u8 0, .int .u8 0] 50) = W0 := ⟨_, rfl⟩
  have HG0 : Hid (Grew w W0) := show Grew w W0 by rw [<- hW0]; exact (grew_alloc _ _).trans (grew_alloc _ _)
  have X0 : Hid (Box W0 w.heap.size [.slice (some xa) ps.length cb, .slice aq qs.length cq]) := show Box _ _ _ by rw [<- hW0]; exact (Box.top w [.slice (some xa) ps.length cb, .slice aq qs.length cq] _ rfl).alloc _
  have X1 : Hid (Box W0 (w.heap.size + 1) [.int .u8 0, .int .u8 0, .int .u8 0, .int .u8 0, .int .u8 0, .int .u8 0, .int .u8 0, .int .u8 0]) := show Box _ _ _ by rw [<- hW0]; exact Box.top _ [.int .u8 0, .int .u8 0, .int .u8 0, .int .u8 0, .int .u8 0, .int .u8 0, .int .u8 0, .int .u8 0] _ (by simp)
  have hcon := refWrong_any (some xa) ps.length cb (.slice aq qs.length cq) qs W0 (HQ.out.grew HG0.out)
  rw [hw0] at hcon
  obtain ⟨nb, HNB⟩ : ∃ nb, Hid (ps.length = nb) := ⟨_, rfl⟩
  obtain ⟨kq, HNQ⟩ : ∃ kq, Hid (qs.length = kq) := ⟨_, rfl⟩
  rw [HNB.out] at hi
  rw [HNQ.out] at hbig
  rw [HNB.out, HNQ.out] at hcon hW0 X0 ⊢
  have HW0 : Hid (_ = W0) := hW0
  have h2 : ¬ (i : Int) < 0 := by omega
  have h3 : ¬ (nb : Int) <= (i : Int) := by omega
  have h4 : (i : Int) < (nb : Int) := by omega
  clear hW0 hw0 hii hib hr0
  go_enter Tryz.func110, Tryz.ntmps110
  go_wp2_with (go_at_call 98; rw [HW0.out]; refine hcon.mono ?_; clear hcon; rintro e W1 ⟨rfl, g1⟩
               have G1 : Hid (Grew W0 W1) := g1
               have e0 := (X0.out.grew g1).c 0 rfl
               have e1 := (X0.out.grew g1).c 1 rfl
               have el := (X0.out.grew g1).lt
               obtain ⟨d0, d1, d2, d3, d4, d5, d6, d7⟩ := HROW.out W1 (HG0.out.trans g1))
  have HT : Hid (∀ (j : Nat) q, qs[j]? = some q -> qs.take (j + 1) = qs.take j ++ [q]) := show ∀ (j : Nat) q, _ from fun j q h => by
    obtain ⟨hlt, rfl⟩ := List.getElem?_eq_some_iff.1 h
    exact List.take_succ_eq_append_getElem hlt
  clear e0 e1 el d0 d1 d2 d3 d4 d5 d6 d7
  go_loopg [9, 34] kq (fun gg _ s34 wr => ∃ (kk : Nat) (c0 c1 c2 c3 c4 c5 c6 c7 : Int), kk <= kq /\ kq - kk <= gg /\ s34 = .int .i64 kk /\ Hid (Grew w wr) /\ Hid (Box wr W1.heap.size [.int .u8 c0, .int .u8 c1, .int .u8 c2, .int .u8 c3, .int .u8 c4, .int .u8 c5, .int .u8 c6, .int .u8 c7]) /\ Hid (Box wr (w.heap.size + 1) [.int .u8 0, .int .u8 0, .int .u8 0, .int .u8 0, .int .u8 0, .int .u8 0, .int .u8 0, .int .u8 0]) /\ Hid (pickQ ((qs.take kk).reverse.find? (fun q => q.1 == (i : Int))) [b0, b1, b2, b3, b4, b5, b6, b7] = [c0, c1, c2, c3, c4, c5, c6, c7]))
  case atStart => exact ⟨0, b0, b1, b2, b3, b4, b5, b6, b7, Nat.zero_le _, by omega, rfl, (HG0.out.trans G1.out).trans (grew_alloc _ _), Box.top W1 [.int .u8 b0, .int .u8 b1, .int .u8 b2, .int .u8 b3, .int .u8 b4, .int .u8 b5, .int .u8 b6, .int .u8 b7] _ rfl, (X1.out.grew G1.out).alloc _, rfl⟩
  case round =>
    obtain ⟨kk, c0, c1, c2, c3, c4, c5, c6, c7, hkk, hg, rfl, GW, BP, BR, HPK⟩ := hrel
    have hW1w : w.heap.size + 2 <= W1.heap.size := by have h1 := Below.size G1.out; have h2 := X1.out.lt; omega
    by_cases hlt : kk < kq
    · have hltz : (kk : Int) < (kq : Int) := by omega
      obtain ⟨q, HQK⟩ : ∃ q, Hid (qs[kk]? = some q) := ⟨_, List.getElem?_eq_getElem (by rw [HNQ.out]; exact hlt)⟩
      obtain ⟨x, m, a0, a1, a2, a3, a4, a5, a6, a7, rfl, rfl, hl⟩ := HRQ.out kk q HQK.out
      obtain ⟨d0, d1, d2, d3, d4, d5, d6, d7, d8⟩ := hl wr GW.out
      have HST := HT.out kk _ HQK.out
      clear hl
      by_cases hm : m = (i : Int)
      · subst hm
        have k0 := BP.out.c 0 rfl
        have k1 := BP.out.c 1 rfl
        have k2 := BP.out.c 2 rfl
        have k3 := BP.out.c 3 rfl
        have k4 := BP.out.c 4 rfl
        have k5 := BP.out.c 5 rfl
        have k6 := BP.out.c 6 rfl
        have k7 := BP.out.c 7 rfl
        have kf := BP.out.f
        have kl := BP.out.lt
        have HST' : Hid (pickQ ((qs.take (kk + 1)).reverse.find? (fun q => q.1 == (i : Int))) [b0, b1, b2, b3, b4, b5, b6, b7] = [a0, a1, a2, a3, a4, a5, a6, a7]) := show _ = _ by rw [HST, pick_snoc]; simp
        clear HST
        go_wp2
        go_roundg (kq - (kk + 1))
        case measure => omega
        case rel =>
          refine ⟨kk + 1, a0, a1, a2, a3, a4, a5, a6, a7, by omega, by omega, by go_num, ?_, ?_, ?_, HST'.out⟩
          · show Grew _ _
            refine Grew.trans ?_ (grew_alloc _ _)
            iterate 8 (refine grew_set ?_ (by simp; omega) _)
            exact GW.out
          · exact ((((((((BP.out.set 0 _).set 1 _).set 2 _).set 3 _).set 4 _).set 5 _).set 6 _).set 7 _).alloc _
          · show Box _ _ _
            refine Box.alloc ?_ _
            iterate 8 (refine Box.other ?_ (by simp; omega) _)
            exact BR.out
      · have hmb : (m == (i : Int)) = false := by simpa using hm
        have HST' : Hid (pickQ ((qs.take (kk + 1)).reverse.find? (fun q => q.1 == (i : Int))) [b0, b1, b2, b3, b4, b5, b6, b7] = [c0, c1, c2, c3, c4, c5, c6, c7]) := show _ = _ by rw [HST, pick_snoc]; simp only [hmb]; exact HPK.out
        clear HST hm
        go_wp2
        go_roundg (kq - (kk + 1))
        case measure => omega
        case rel => exact ⟨kk + 1, c0, c1, c2, c3, c4, c5, c6, c7, by omega, by omega, by go_num, GW.out.trans (grew_alloc _ _), BP.out.alloc _, BR.out.alloc _, HST'.out⟩
    · have hltz : ¬ (kk : Int) < (kq : Int) := by omega
      have : kk = kq := by omega
      subst this
      have k0 := BP.out.c 0 rfl
      have k1 := BP.out.c 1 rfl
      have k2 := BP.out.c 2 rfl
      have k3 := BP.out.c 3 rfl
      have k4 := BP.out.c 4 rfl
      have k5 := BP.out.c 5 rfl
      have k6 := BP.out.c 6 rfl
      have k7 := BP.out.c 7 rfl
      have r0 := BR.out.c 0 rfl
      have r1 := BR.out.c 1 rfl
      have r2 := BR.out.c 2 rfl
      have r3 := BR.out.c 3 rfl
      have r4 := BR.out.c 4 rfl
      have r5 := BR.out.c 5 rfl
      have r6 := BR.out.c 6 rfl
      have r7 := BR.out.c 7 rfl
      have rf := BR.out.f
      have HF : Hid (readL ps qs (i : Int) = [c0, c1, c2, c3, c4, c5, c6, c7]) := show _ = _ by rw [HL.out, <- HPK.out, List.take_of_length_le (by rw [HNQ.out]; exact Nat.le_refl _)]
      go_wp2
      refine bodyPost_ret (v := .tuple #[.agg #[.int .u8 c0, .int .u8 c1, .int .u8 c2, .int .u8 c3, .int .u8 c4, .int .u8 c5, .int .u8 c6, .int .u8 c7], .int .i64 0]) (by simp [results, Tryz.results110, go_sem, *]) rfl ⟨by rw [HF.out]; rfl, ?_⟩
      iterate 8 (refine grew_set ?_ (by simp) _)
      exact GW.out
theorem refRead_any (d : Value) (ps : List (List Int)) (qs : List (Int × List Int)) (m : Int) (w : World) (hd : DiskAt w d ps qs) :
    Calls Tryz.prog 110 #[d, .int .i64 m] w fun e w' => e = .returned (.tuple #[.agg (pgc (readL ps qs m)).toArray, .int .i64 (wrongAtL ps.length qs m)]) /\ Grew w w' := by
  by_cases hr : wrongAtL ps.length qs m = 0
  · obtain ⟨_, i, rfl, _⟩ := wrongAtL_zero hr
    rw [hr]
    exact refRead_ok d ps qs i w hd hr
  · rw [show readL ps qs m = zero8 from if_neg hr]
    exact refRead_err d ps qs m w hd hr
def cutTo (p:List Int) (idx size:Int) (k:Nat):List Int:=p.mapIdx fun i z=>if i<k/\size<=8*idx+(i:Int)then 0 else z
theorem cutTo_zero (p:List Int) (idx size:Int):cutTo p idx size 0=p:=by
 unfold cutTo
 apply List.ext_getElem?
 intro i;rw[List.getElem?_mapIdx]
 cases p[i]? <;> simp
theorem cutTo_len (p:List Int) (idx size:Int) (k:Nat):(cutTo p idx size k).length=p.length:=by unfold cutTo;simp
theorem cutTo_all {p:List Int} {idx size:Int} {k:Nat} (h:p.length<=k):cutTo p idx size k=cutP p idx size:=by
 unfold cutTo cutP
 apply List.ext_getElem?
 intro i;rw[List.getElem?_mapIdx,List.getElem?_mapIdx]
 cases hp:p[i]? with
 | none=>rfl
 | some z=>
  have:=(gS.1 hp).1;have hk:i<k:=by omega
  simp[hk]
theorem cutTo_cut {p:List Int} {idx size:Int} {k:Nat} (hk:k<p.length) (h:size<=8*idx+(k:Int)):(cutTo p idx size k).set k 0=cutTo p idx size (k+1):=by
 unfold cutTo
 apply List.ext_getElem?
 intro i
 by_cases e:i=k
 ·subst e;rw[sF (by simpa using hk),List.getElem?_mapIdx,gE hk]
  simp[h]
 rw[sN (fun h=>e h.symm),List.getElem?_mapIdx,List.getElem?_mapIdx]
 cases p[i]? with
 | none=>rfl
 | some z=>
  have:i<k↔i<k+1:=by omega
  simp[this]
theorem cutTo_not {p:List Int} {idx size:Int} {k:Nat} (h:¬size<=8*idx+(k:Int)):cutTo p idx size k=cutTo p idx size (k+1):=by
 unfold cutTo
 apply List.ext_getElem?
 intro i;rw[List.getElem?_mapIdx,List.getElem?_mapIdx]
 cases p[i]? with
 | none=>rfl
 | some z=>
  by_cases e:i=k
  ·subst e
   simp[h]
  have:i<k↔i<k+1:=by omega
  simp[this]
theorem readL8 {ps:List (List Int)} {qs:List (Int × List Int)} {b:Int} (h1:∀p∈ps,p.length=8) (h2:∀q∈qs,q.2.length=8):(readL ps qs b).length=8:=by
 unfold readL
 split
 ·cases h:qs.reverse.find? (fun q=>q.1 == b)with
  | some q=>exact h2 q (by have:=List.mem_of_find?_eq_some h;simpa using this)
  | none=>
   simp only;rw[gD]
   cases h3:ps[b.toNat]? with
   | none=>rfl
   | some p=>exact h1 p (mG h3)
 rfl
theorem content_any (V:MaV) (m:Ma) (fi ix:Nat) (f:Fl) (bk:Int) (w:World) (hm:MachAt w V m) (hca:∀c∈m.ca,hitC fi ix c=true->0<=c.fr/\c.fr<m.fs.length) (hf:m.fl[fi]? =some f) (hbk:f.bl[ix]? =some bk) (hix:ix<=1000):
  Calls prog 62 #[.agg #[.slice V.f.a V.f.n V.f.c,.int .i64 m.hand,.slice V.s.a V.s.n V.s.c,.slice V.sb.a V.sb.n V.sb.c,.slice V.sq.a V.sq.n V.sq.c,.slice V.db.a V.db.n V.db.c,.slice V.dq.a V.dq.n V.dq.c,.slice V.fl.a V.fl.n V.fl.c,.int .i64 m.cnt,.slice V.ca.a V.ca.n V.ca.c,.slice V.sp.a V.sp.n V.sp.c],.int .i64 (fi:Int),.int .i64 (ix:Int)] w fun e w'=>e= .returned (.agg (pgc (contL m fi ix)).toArray)/\(contL m fi ix).length=8/\Grew w w':=by
 have HRD:Hid (∀W,Grew w W->Calls prog 110 #[.agg #[.slice V.db.a V.db.n V.db.c,.slice V.dq.a V.dq.n V.dq.c],.int .i64 bk] W fun e w'=>e= .returned (.tuple #[.agg (pgc (readL m.db m.dq bk)).toArray,.int .i64 (wrongAtL m.db.length m.dq bk)])/\Grew W w'):=dD<|fun W hW=>refRead_any _ m.db m.dq bk W ⟨_,_,rfl,(hm.grew hW).db,(hm.grew hW).dq⟩
 have HRL:Hid ((readL m.db m.dq bk).length=8):=readL8 hm.db.2.1 hm.dq.2.1;obtain⟨⟨fa,fn,fc⟩,vs,vsb,vsq,vdb,vdq,⟨fla,fln,flc⟩,⟨caa,can,cac⟩,vsp⟩:=V;dsimp only at HRD⊢;obtain⟨n1,-,-,-,-,-,n7,n8,-⟩:=hm.ns;dsimp only at n1 n7 n8;have HFR:Hid (FrRows w fa m.fs):=hm.frs;have HCA:Hid (CaRows w caa m.ca):=hm.cas;have HN1:Hid (m.fs.length=fn):=n1.symm;have HN8:Hid (m.ca.length=can):=n8.symm;have hbc:can<=9223372036854775807:=by have:=hm.ca.short;omega
 obtain⟨_,_,hfe,_,hfr⟩:=FilesAt.rows hm.fl;have HFL:Hid (FlRows w fla m.fl):=dD<|by
  simp only[vJ]at hfe;rw[hfe.1];exact hfr
 have HIN:Hid (∀c∈m.ca,hitC fi ix c=true->0<=c.fr/\c.fr<m.fs.length):=hca;have hfn:fi<fln:=by rw[n7];exact(gS.1 hf).1
 obtain⟨ad,rfl,ba,bc,hbr,hfl⟩:=HFL.out fi f hf;have HBL:Hid (∀W,Grew w W->FlCells W (ad.add (fi*2)) f.size (.slice ba f.bl.length bc)):=hfl;obtain⟨_,_,hbe,hbn⟩:=hbr.nums;have hbl:ix<f.bl.length:=(gS.1 hbk).1;obtain⟨ad2,had2,hb2⟩:=hbn ix bk hbk;have HB2:Hid (ba=some ad2/\∀W,Grew w W->W.cell? (ad2.add ix)=some (.int .i64 bk)):=show _/\_ from⟨by simp only[vJ]at hbe;rw[hbe.1];exact had2,hb2⟩
 obtain⟨bn,HBN⟩:∃bn,Hid (f.bl.length=bn):=⟨_,rfl⟩;rw[HBN.out]at hbl HBL;have HCO1:Hid (∀c,m.ca.find? (hitC fi ix)=some c->contL m fi ix=pgL (frAt m c.fr).p):=dD<|fun c hc=>by unfold contL;rw[hc]
 have HCO2:Hid (m.ca.find? (hitC fi ix)=none->contL m fi ix=if bk<0 then zero8 else cutP (readL m.db m.dq bk) ix f.size):=dD<|fun hc=>by
  have hg:m.fl.getD ((fi:Int).toNat) ⟨0,[]⟩=f:=by rw[tN,gD,hf];rfl
  have e1:blAt m fi ix=bk:=by unfold blAt;rw[hg,tN,gD,hbk];rfl
  have e2:szAt m fi=f.size:=by unfold szAt;rw[hg]
  unfold contL;rw[hc];simp only[e1,e2]
 obtain⟨C,HC⟩:∃C,Hid (contL m fi ix=C):=⟨_,rfl⟩;rw[HC.out]at HCO1 HCO2⊢;clear hm n1 n7 n8 hfe hfr hca hf hbk hfl hbr hbe hbn had2 hb2;have hfz:(fi:Int)< (fln:Int):=by omega
 have hbz:(ix:Int)< (bn:Int):=by omega
 obtain⟨W0,hW0⟩:∃W0,(w.alloc (.cells #[.slice fa fn fc,.int .i64 m.hand,.slice vs.a vs.n vs.c,.slice vsb.a vsb.n vsb.c,.slice vsq.a vsq.n vsq.c,.slice vdb.a vdb.n vdb.c,.slice vdq.a vdq.n vdq.c,.slice (some ad) fln flc,.int .i64 m.cnt,.slice caa can cac,.slice vsp.a vsp.n vsp.c] 40)).alloc (.cells #[.int .u8 0,.int .u8 0,.int .u8 0,.int .u8 0,.int .u8 0,.int .u8 0,.int .u8 0,.int .u8 0] 50)=W0:=⟨_,rfl⟩;have HG0:=gD2 hW0
 have X0:=x2a hW0
 have Y0:Hid (Box W0 (w.heap.size+1) (pgc zero8)):=dD<|by rw[<-hW0];exact Box.top _ (pgc zero8) _ (by simp)
 have HW0:Hid (_=W0):=hW0;clear hW0
 go_enter func62,ntmps62
 go_upto_region 1 with fail;rw[HW0.out];have x9:=X0.out.c 9 rfl;go_wp2;clear x9
 go_loopg [16] can (fun gg s16 wr=>∃kk:Nat,kk<=can/\can - kk<=gg/\s16= .int .i64 kk/\Hid (Grew W0 wr)/\Hid (∀(j:Nat) c,j<kk->m.ca[j]? =some c->hitC fi ix c=false))
 case atStart=>exact⟨0,nZ _,by omega,rfl,Grew.refl _,fun j c hj=>absurd hj (nL _)⟩
 obtain⟨kk,hkk,hgg,rfl,BW,OW⟩:=hrel
 by_cases hlt:kk<can
 ·have hltz:(kk:Int)< (can:Int):=by omega
  obtain⟨c,HC⟩:∃c,Hid (m.ca[kk]? =some c):=⟨_,gE (by rw[HN8.out];exact hlt)⟩
  obtain⟨adc,rfl,hl⟩:=HCA.out kk c HC.out;obtain⟨d0,d1,d2⟩:=hl wr (HG0.out.trans BW.out);clear hl;go_upto_region 4 with fail;obtain⟨W1,hW1⟩:∃W1,wr.alloc (.cells #[.int .i64 c.file,.int .i64 c.idx,.int .i64 c.fr] 83)=W1:=⟨_,rfl⟩;have HG1:=gT hW1 BW
  have C1:=xA hW1
  rw[hW1];clear hW1 d0 d1 d2;obtain⟨c0,c1,c2⟩:=C1.out.c3;have HNX:Hid (hitC fi ix c=false->∀(j:Nat) c,j<kk+1->m.ca[j]? =some c->hitC fi ix c=false):=dD<|fun h0 j c' hj hc'=>by
   by_cases e:j=kk
   ·subst e;rw[HC.out]at hc';cases hc';exact h0
   exact OW.out j c' (by omega) hc'
  by_cases h1:c.file=(fi:Int)
  ·have h1e:(c.file ==(fi:Int))=true:=by simp[h1]
   by_cases h2:c.idx=(ix:Int)
   ·have h2e:(c.idx ==(ix:Int))=true:=by simp[h2]
    have HHT:Hid (hitC fi ix c=true):=dD<|by simp[hitC,h1,h2]
    have HFD:Hid (m.ca.find? (hitC fi ix)=some c):=dD<|by
     rw[List.find?_eq_some_iff_getElem];refine⟨HHT.out,kk,(gS.1 HC.out).1,(gS.1 HC.out).2,fun j hj=>?_⟩
     have:=OW.out j _ hj (gE (by have:=(gS.1 HC.out).1;omega))
     simp[this]
    obtain⟨r0,r1⟩:=HIN.out c (mG HC.out) HHT.out;obtain⟨k,hk⟩:∃k:Nat,c.fr=(k:Int):=⟨c.fr.toNat,by omega⟩
    have hkn:k<fn:=by rw[<-HN1.out];omega
    have hkz:(k:Int)< (fn:Int):=by omega
    obtain⟨q,HQ⟩:∃q,Hid (m.fs[k]? =some q):=⟨_,gE (by rw[HN1.out];exact hkn)⟩
    have HCE:Hid (C=pgL q.p):=dD<|by
     rw[HCO1.out c HFD.out,hk];unfold frAt;rw[tN,gD,HQ.out];rfl
    rw[hk]at c2;clear h1 h2 r0 r1 hk;go_upto_region 5 with fail;obtain⟨adf,hva,hl⟩:=HFR.out k q HQ.out;obtain⟨d0,d1,d2,d3,d4,d5,d6,d7,-⟩:=hl W1 (HG0.out.trans HG1.out);have x0:=(X0.out.grew HG1.out).c 0 rfl;rw[hva]at x0;have Y1:=dD (Y0.out.grew HG1.out);clear hl hva
    go_wp2_with (refine wp_storeAll rfl 50 (.tmp 6) (.tmp 37) rfl (w.heap.size+1) rfl (pgc (pgL q.p)) rfl Y1.out rfl Tryz.sizePg (pgc_one _) ?_)
    intro W2 hb2 hg2 _;have HG2:Hid (Grew w W2):=dD<|grew_grown (HG0.out.trans HG1.out) hg2 (by omega)
    go_wp2;refine bodyPost_ret (ret_cell rfl _ rfl hb2 underlying50 rfl Tryz.sizePg) rfl ⟨by rw[HCE.out],by rw[HCE.out];rfl,HG2.out⟩
   have h2e:(c.idx ==(ix:Int))=false:=by simp[h2]
   have OW':Hid (∀(j:Nat) c,j<kk+1->m.ca[j]? =some c->hitC fi ix c=false):=HNX.out (by simp[hitC,h2])
   clear h1 h2;go_wp2
   go_roundg (can -(kk+1))
   case measure=>omega
   exact⟨kk+1,by omega,by omega,by go_num,HG1.out,OW'.out⟩
  have h1e:(c.file ==(fi:Int))=false:=by simp[h1]
  have OW':Hid (∀(j:Nat) c,j<kk+1->m.ca[j]? =some c->hitC fi ix c=false):=HNX.out (by simp[hitC,h1])
  clear h1;go_wp2
  go_roundg (can -(kk+1))
  case measure=>omega
  exact⟨kk+1,by omega,by omega,by go_num,HG1.out,OW'.out⟩
 have hltz:¬(kk:Int)< (can:Int):=by omega
 have hke:kk=can:=by omega
 have HNO:Hid (m.ca.find? (hitC fi ix)=none):=dD<|by
  rw[List.find?_eq_none];intro c hc;obtain⟨j,hj⟩:=List.getElem?_of_mem hc;have:=OW.out j c (by rw[hke,<-HN8.out];exact(gS.1 hj).1) hj
  simp[this]
 have HCE:Hid (C=if bk<0 then zero8 else cutP (readL m.db m.dq bk) ix f.size):=HCO2.out HNO.out;clear hke;go_upto_region 7 with fail;have x7:=(X0.out.grew BW.out).c 7 rfl;obtain⟨d0,d1⟩:=HBL.out wr (HG0.out.trans BW.out);obtain⟨hba,hb2⟩:=HB2.out;rw[hba]at d1;have e0:=hb2 wr (HG0.out.trans BW.out);clear hba hb2 d0;have YW:=dD (Y0.out.grew BW.out)
 by_cases hb:bk<0
 ·rw[if_pos hb]at HCE
  go_wp2_with (refine wp_storeAll rfl 50 (.tmp 6) (.tmp 51) rfl (w.heap.size+1) rfl (pgc zero8) rfl YW.out rfl Tryz.sizePg (pgc_one _) ?_)
  intro W2 hb2 hg2 _;have HG2:Hid (Grew w W2):=dD<|grew_grown (HG0.out.trans BW.out) hg2 (by omega)
  go_wp2;refine bodyPost_ret (ret_cell rfl _ rfl hb2 underlying50 rfl Tryz.sizePg) rfl ⟨by rw[HCE.out],by rw[HCE.out];rfl,HG2.out⟩
 rw[if_neg hb]at HCE;have x5:=(X0.out.grew BW.out).c 5 rfl;have x6:=(X0.out.grew BW.out).c 6 rfl;have hrd:=HRD.out wr (HG0.out.trans BW.out);go_wp2_with fail;refine hrd.mono ?_;clear hrd x5 x6 x7 d1 e0;rintro e W2 ⟨rfl,g2⟩;obtain⟨p,HP⟩:∃p,Hid (readL m.db m.dq bk=p):=⟨_,rfl⟩;rw[HP.out]at HCE HRL⊢;have HG2:=dD (BW.out.trans g2);clear g2;obtain⟨p0,p1,p2,p3,p4,p5,p6,p7,rfl⟩:=len8 p HRL.out;simp only[pgc,mP,List.map_nil];go_upto_region 11 with fail;obtain⟨W3,hW3⟩:∃W3,W2.alloc (.cells #[.int .u8 p0,.int .u8 p1,.int .u8 p2,.int .u8 p3,.int .u8 p4,.int .u8 p5,.int .u8 p6,.int .u8 p7] 50)=W3:=⟨_,rfl⟩;have HG3:=gT hW3 HG2
 have P3:Hid (Box W3 W2.heap.size (pgc (cutTo [p0,p1,p2,p3,p4,p5,p6,p7] ix f.size 0))):=dD<|by rw[<-hW3,cutTo_zero];exact Box.top _ (pgc [p0,p1,p2,p3,p4,p5,p6,p7]) _ rfl
 have HPL:Hid (w.heap.size+1<W2.heap.size):=dD<|(Y0.out.grew HG2.out).lt
 rw[hW3];clear hW3;obtain⟨pp,HPP⟩:∃pp,Hid (W2.heap.size=pp):=⟨_,rfl⟩;rw[HPP.out]at P3 HPL⊢;go_wp2
 go_loopg [59] 8 (fun gg s59 wr=>∃i:Nat,i<=8/\8 - i<=gg/\s59= .int .i64 i/\Hid (Grew w wr)/\Hid (Box wr w.heap.size [.slice fa fn fc,.int .i64 m.hand,.slice vs.a vs.n vs.c,.slice vsb.a vsb.n vsb.c,.slice vsq.a vsq.n vsq.c,.slice vdb.a vdb.n vdb.c,.slice vdq.a vdq.n vdq.c,.slice (some ad) fln flc,.int .i64 m.cnt,.slice caa can cac,.slice vsp.a vsp.n vsp.c])/\Hid (Box wr (w.heap.size+1) (pgc zero8))/\Hid (Box wr pp (pgc (cutTo [p0,p1,p2,p3,p4,p5,p6,p7] ix f.size i))))
 case atStart=>exact⟨0,nZ _,by omega,rfl,HG0.out.trans HG3.out,X0.out.grew HG3.out,Y0.out.grew HG3.out,P3.out⟩
 obtain⟨i,hi,hg3,rfl,BW2,XW,YW2,PW⟩:=hrel
 by_cases hlt2:i<8
 ·have hltz2:(i:Int)<8:=by omega
  obtain⟨d0,d1⟩:=HBL.out wr BW2.out;have x7:=XW.out.c 7 rfl;clear d1;obtain⟨z,hz⟩:∃z,(cutTo [p0,p1,p2,p3,p4,p5,p6,p7] ix f.size i)[i]? =some z:=⟨_,gE (by rw[cutTo_len];exact hlt2)⟩
  have z0:=PW.out.c i (pgc_at hz);have zf:=PW.out.f
  by_cases hc:f.size<=8*(ix:Int)+(i:Int)
  ·have hcd:decide (f.size<=8*(ix:Int)+(i:Int))=true:=by simpa using hc
   have P4:Hid (Box (wr.setCell ⟨pp,i,none⟩ (.int .u8 0)) pp (pgc (cutTo [p0,p1,p2,p3,p4,p5,p6,p7] ix f.size (i+1)))):=dD<|by rw[<-cutTo_cut (by exact hlt2) hc,pgc_set];exact PW.out.set i _
   have X4:Hid (Box (wr.setCell ⟨pp,i,none⟩ (.int .u8 0)) w.heap.size [.slice fa fn fc,.int .i64 m.hand,.slice vs.a vs.n vs.c,.slice vsb.a vsb.n vsb.c,.slice vsq.a vsq.n vsq.c,.slice vdb.a vdb.n vdb.c,.slice vdq.a vdq.n vdq.c,.slice (some ad) fln flc,.int .i64 m.cnt,.slice caa can cac,.slice vsp.a vsp.n vsp.c]):=dD<|XW.out.other (by have:=HPL.out;simp;omega) _
   have Y4:Hid (Box (wr.setCell ⟨pp,i,none⟩ (.int .u8 0)) (w.heap.size+1) (pgc zero8)):=dD<|YW2.out.other (by have:=HPL.out;simp;omega) _
   have G4:Hid (Grew w (wr.setCell ⟨pp,i,none⟩ (.int .u8 0))):=dD<|grew_set BW2.out (by have:=HPL.out;simp;omega) _
   clear hz;go_wp2
   go_roundg (8 -(i+1))
   case measure=>omega
   exact⟨i+1,by omega,by omega,by go_num,G4.out,X4.out,Y4.out,P4.out⟩
  have hcd:decide (f.size<=8*(ix:Int)+(i:Int))=false:=by simpa using hc
  have P4:Hid (Box wr pp (pgc (cutTo [p0,p1,p2,p3,p4,p5,p6,p7] ix f.size (i+1)))):=dD<|by rw[<-cutTo_not hc];exact PW.out
  clear hz;go_wp2
  go_roundg (8 -(i+1))
  case measure=>omega
  exact⟨i+1,by omega,by omega,by go_num,BW2.out,XW.out,YW2.out,P4.out⟩
 have hltz2:¬(i:Int)<8:=by omega
 have:i=8:=by omega
 subst this;have PE:Hid (Box wr pp (pgc C)):=dD<|by
  have:=PW.out;rw[cutTo_all (by exact nR 8),<-HCE.out]at this
  exact this
 have HCL:Hid (C.length=8):=dD<|by rw[HCE.out];unfold cutP;simp
 have HCP:Hid ((pgc C).length=8):=dD<|by rw[pgc_len];exact HCL.out
 go_wp2_with (first | (refine wp_loadAll rfl 50 (.tmp 10) rfl pp rfl PE.out underlying50 rfl (by rw[HCP.out];exact Tryz.sizePg) ?_) | (refine wp_storeAll rfl 50 (.tmp 6) (.tmp 77) rfl (w.heap.size+1) rfl (pgc C) rfl YW2.out (by rw[HCP.out];rfl) Tryz.sizePg (pgc_one _) ?_))
 intro W5 hb5 hg5 _;have HG5:Hid (Grew w W5):=dD<|grew_grown BW2.out hg5 (by omega)
 go_wp2;refine bodyPost_ret (ret_cell rfl _ rfl hb5 underlying50 rfl (by rw[HCP.out];exact Tryz.sizePg)) rfl ⟨rfl,HCL.out,HG5.out⟩
section
variable(I:World->Prop) (P:Program) (ops:Array Oper) (S:Nat->Option (Value->Prop))
def ClauseD (i:Nat) (F:World->Prop) (a:Act) (K:(World->Prop)->Act->Prop):Prop:=
 match ops[i]? with
 | none=>False
 | some o=>
  if Region.wanted o (yielded ops a.tmps)then
   match S i with
   | none=>∃v,(∀w,I w->(execOp a.eval o).run P w= .ok (.value v) w)/\K F (a.put o.dst v)
   | some s=>∃p:Value->World->Prop,(∀w,I w->F w->Does P o a w fun v w'=>I w'/\s v/\p v w')/\∀v,s v->K (p v) (a.put o.dst v)
  else K F (a.put o.dst undef)
def LexD (Q:Act->World->Prop):List Nat->(World->Prop)->Act->Prop
 | [],F,a=>∀w,I w->F w->Q a w
 | i :: l,F,a=>ClauseD I P ops S i F a (LexD Q l)
end
section
variable{I:World->Prop} {P:Program} {ops:Array Oper} {S:Nat->Option (Value->Prop)} {T:Nat}
theorem ClauseD.mono {F:World->Prop} {a:Act} {K K':(World->Prop)->Act->Prop}
  (h:∀F' a',K F' a'->K' F' a') (hc:ClauseD I P ops S i F a K):ClauseD I P ops S i F a K':=by
 unfold ClauseD at*
 split
 ·rename_i ho;simp only[ho]at hc
 rename_i o ho
 simp only[ho]at hc
 split
 ·rename_i hw
  simp only[hw,if_true]at hc
  split
  ·rename_i hs
   simp only[hs]at hc;obtain⟨v,h1,h2⟩:=hc;exact⟨v,h1,h _ _ h2⟩
  rename_i s hs
  simp only[hs]at hc;obtain⟨p,hd,hc⟩:=hc;exact⟨p,hd,fun v hv=>h _ _ (hc v hv)⟩
 rename_i hw
 simp only[hw]at hc;exact h _ _ hc
theorem ClauseD.swap {F:World->Prop} {a:Act} {K:(World->Prop)->Act->Prop} {w:World}
  (hi:ops[i]? =some oi) (hj:ops[j]? =some oj) (hap:oi.apart ops oj=true)
  (hsi:∀cs b,oi.op≠.select cs b) (hsj:∀cs b,oj.op≠.select cs b)
  (hij:anc ops 9 i j=false) (hji:anc ops 9 j i=false) (hS:∀s,S i=some s->∃v,s v) (hch:S i≠none->S j≠none->anc ops 9 i j=true\/anc ops 9 j i=true)
  (hw0:I w)
  (h:ClauseD I P ops S i F a fun F' a'=>ClauseD I P ops S j F' a' K):ClauseD I P ops S j F a fun F' a'=>ClauseD I P ops S i F' a' K:=by
 obtain⟨h1,h2,h3⟩:=Oper.apart_spec hap;have ei:∀v,execOp (a.put oj.dst v).eval oi=execOp a.eval oi:=fun v=>execOp_put oi hsi a oj.dst v h3
 have ej:∀v,execOp (a.put oi.dst v).eval oj=execOp a.eval oj:=fun v=>execOp_put oj hsj a oi.dst v h1
 have wi:∀v,Region.wanted oi (yielded ops (a.put oj.dst v).tmps)=Region.wanted oi (yielded ops a.tmps):=fun v=>wanted_put oi a oj.dst v h3
 have wj:∀v,Region.wanted oj (yielded ops (a.put oi.dst v).tmps)=Region.wanted oj (yielded ops a.tmps):=fun v=>wanted_put oj a oi.dst v h1
 have di:∀v w K,Does P oi (a.put oj.dst v) w K=Does P oi a w K:=fun v w K=>by unfold Does;rw[ei]
 have dj:∀v w K,Does P oj (a.put oi.dst v) w K=Does P oj a w K:=fun v w K=>by unfold Does;rw[ej]
 have pc:∀v u,(a.put oi.dst v).put oj.dst u=(a.put oj.dst u).put oi.dst v:=fun v u=>Act.put_comm a v u h2
 unfold ClauseD at h⊢;simp only[hi,hj,ei,ej,wi,wj,di,dj,pc]at h⊢
 cases hwi:Region.wanted oi (yielded ops a.tmps) <;> cases hwj:Region.wanted oj (yielded ops a.tmps) <;>
  simp only[hwi,hwj,if_true,if_false,Bool.false_eq_true]at h⊢
 ·exact h
 ·cases hsj':S j with
  | none=>simp only[hsj']at h⊢;exact h
  | some s=>simp only[hsj']at h⊢;exact h
 ·cases hsi':S i with
  | none=>simp only[hsi']at h⊢;exact h
  | some s=>simp only[hsi']at h⊢;exact h
 cases hsi':S i with
 | none=>
  simp only[hsi']at h;obtain⟨vi,hri,h⟩:=h
  cases hsj':S j with
  | none=>
   simp only[hsj']at h⊢;obtain⟨vj,hrj,h⟩:=h;exact⟨vj,hrj,vi,hri,h⟩
  | some s=>
   simp only[hsj']at h⊢;obtain⟨p,hd,hk⟩:=h;exact⟨p,hd,fun vj hvj=>⟨vi,hri,hk vj hvj⟩⟩
 | some si=>
  simp only[hsi']at h;obtain⟨p,hdi,h⟩:=h;obtain⟨v1,hv1⟩:=hS si hsi'
  cases hsj':S j with
  | none=>
   simp only[hsj']at h⊢;obtain⟨vj,hrj,_⟩:=h v1 hv1;refine⟨vj,hrj,p,hdi,fun vi hvi=>?_⟩
   obtain⟨vj',hrj',hl⟩:=h vi hvi;have e1:=hrj w hw0;have e2:=hrj' w hw0;rw[e1]at e2;simp only[Result.ok.injEq,Next.value.injEq,and_true]at e2;subst e2;exact hl
  | some sj=>
   exfalso
   rcases hch (by rw[hsi'];simp) (by rw[hsj'];simp)with h1|h1
   ·rw[hij]at h1;cases h1
   rw[hji]at h1;cases h1
theorem LexD.commute {Q:Act->World->Prop} {j:Nat} {oj:Oper} {w:World} (hj:ops[j]? =some oj) (hw0:I w)
  (hsel:∀(k:Nat) (o:Oper) cs b,ops[k]? =some o->o.op≠.select cs b) (hS:∀k s,S k=some s->∃v,s v) (hch:∀i k,i<k->S i≠none->S k≠none->anc ops 9 i k=true):
  ∀(l:List Nat) (F:World->Prop) (a:Act),l.Nodup->j∈l->
   (∀i∈l,i≠j->∃oi,ops[i]? =some oi/\(i<j->oi.apart ops oj=true)/\anc ops 9 i j=false/\(i<j->anc ops 9 j i=false))->
   (l.Pairwise (·< ·))->LexD I P ops S Q l F a->LexD I P ops S Q (j :: l.filter (· != j)) F a
 | [],_,_,_,hm,_,_,_=>by cases hm
 | i :: l,F,a,hnd,hm,hall,hsorted,h=>by
  by_cases hij:i=j
  ·subst hij;have:(i :: l).filter (· != i)=l:=by
    rw[List.filter_cons];simp only[bne_self_eq_false,Bool.false_eq_true,if_false];refine List.filter_eq_self.2 fun x hx=>?_
    have:x≠i:=fun e=>(List.nodup_cons.1 hnd).1 (e ▸ hx)
    simpa using this
   rw[this];exact h
  have hjl:j∈l:=by
   rcases mC.1 hm with e|e
   ·exact absurd e.symm hij
   exact e
  have hlt:i<j:=(List.pairwise_cons.1 hsorted).1 j hjl;obtain⟨oi,hoi,hap,haij,haji⟩:=hall i (by simp) hij
  have hf:(i :: l).filter (· != j)=i :: l.filter (· != j):=by
   rw[List.filter_cons];have:(i != j)=true:=by simpa using hij
   simp[this]
  rw[hf];refine ClauseD.swap hoi hj (hap hlt) (fun cs b=>hsel i oi cs b hoi) (fun cs b=>hsel j oj cs b hj) haij (haji hlt) (hS i) (fun q1 q2=> .inl (hch i j hlt q1 q2)) hw0 ?_
  refine ClauseD.mono (fun F' a' hl=>?_) h
  exact LexD.commute hj hw0 hsel hS hch l F' a' (List.nodup_cons.1 hnd).2 hjl (fun k hk=>hall k (by simp[hk])) (List.pairwise_cons.1 hsorted).2 hl
theorem wpAny_of_lexD {Q:Act->World->Prop} {l:List Oper} {m:Nat} (hB:laxTB ops T=true) (hTl:T+m=ops.size) (hll:l.length=m) (hops:∀j,l[j]? =ops[T+j]?) (hS:∀k s,S k=some s->∃v,s v)
  (hch:∀i k,i<k->S i≠none->S k≠none->anc ops 9 i k=true) (hQ:∀a w,Q a w->wpList P ops Q' l a w):
  ∀(fuel:Nat) (listed:Array Bool) (F:World->Prop) (a:Act) (w:World),listed.size=ops.size->(∀i,T<=i->i<ops.size->listed.getD i true=false)->(unlistedT listed T).length=fuel->closed ops listed->I w->
   F w->LexD I P ops S Q (unlistedT listed T) F a->wpAny P .any ops Q' (fuel+m) listed a w:=by
 have hsel:=Region.noSelect_spec (ops:=ops) (by simp only[laxTB,Bool.and_eq_true]at hB;exact hB.1.1)
 intro fuel
 induction fuel with
 | zero=>
  intro listed F a w hsz hout hl hc hw hF h;have hnil:unlistedT listed T=[]:=eN hl;rw[hnil]at h;rw[zA];refine wpAny_last hB m l T listed a w (nR _) hsz hTl hll hops (fun i hi=>?_) hout (hQ _ _ (h w hw hF))
  cases hg:listed.getD i true with
  | true=>rfl
  | false=>
   have:i∈unlistedT listed T:=List.mem_filter.2 ⟨List.mem_range.2 hi,by simp only[hg,beq_self_eq_true]⟩
   rw[hnil]at this;cases this
 | succ fuel ih=>
  intro listed F a w hsz hout hl hc hw hF h;rw[Nat.add_right_comm];refine⟨fun hr=>?_,fun j hj=>?_⟩
  ·exfalso
   cases hu:unlistedT listed T with
   | nil=>simp[hu]at hl
   | cons x xs=>
    have hx:x∈unlistedT listed T:=by rw[hu];simp
    have hx':=List.mem_filter.1 hx;have hxT:x<T:=List.mem_range.1 hx'.1;have hxs:x<ops.size:=by omega
    have ho:ops[x]? =some ops[x]:=Array.getElem?_eq_getElem hxs;have hsorted:(unlistedT listed T).Pairwise (·< ·):=List.Pairwise.filter _ List.pairwise_lt_range;have:x∈Region.ready .any ops listed:=by
     refine mem_ready.2 ⟨by simpa using hx'.2,ops[x],ho,fun e he hb=>?_⟩
     have hed:edge ops e.on x=true:=(edge_of ho).2 ⟨e,he,hb,rfl⟩;have hlt:=laxTB_edge hB ho _ hed
     cases hg:listed.getD e.on true with
     | true=>exact getD_up (by omega) hg
     | false=>
      have hmem:e.on∈unlistedT listed T:=List.mem_filter.2 ⟨List.mem_range.2 (by omega),by simp only[hg,beq_self_eq_true]⟩
      rw[hu]at hmem hsorted
      rcases mC.1 hmem with e1|e1
      ·omega
      have:=(List.pairwise_cons.1 hsorted).1 _ e1;omega
    rw[hr]at this;cases this
  obtain⟨h0,oj,hoj,hall⟩:=mem_ready.1 hj;have hjs:j<ops.size:=(aS.1 hoj).1;have hdir:∀k,edge ops k j=true->listed.getD k false=true:=fun k hk=>by
   obtain⟨e,he,hb,rfl⟩:=(edge_of hoj).1 hk;exact hall e he hb
  have hjT:j<T:=by
   rcases Nat.lt_or_ge j T with h1|h1
   ·exact h1
   exfalso
   cases hu:unlistedT listed T with
   | nil=>simp[hu]at hl
   | cons x xs=>
    have hx:x∈unlistedT listed T:=by rw[hu];simp
    have hx':=List.mem_filter.1 hx;have hxT:x<T:=List.mem_range.1 hx'.1;have:=anc_listed hc j x j hdir (laxTB_last hB hoj h1 x (by omega))
    rw[getD_flip (by simpa using hx'.2)]at this
    cases this
  have hju:j∈unlistedT listed T:=List.mem_filter.2 ⟨List.mem_range.2 hjT,by simp only[h0,beq_self_eq_true]⟩
  have hnd:(unlistedT listed T).Nodup:=List.Pairwise.filter _ List.nodup_range;have hsorted:(unlistedT listed T).Pairwise (·< ·):=List.Pairwise.filter _ List.pairwise_lt_range;have hcm:=LexD.commute hoj hw hsel hS hch (unlistedT listed T) F a hnd hju (fun i hi hij=>by
   have hi':=List.mem_filter.1 hi;have hun:listed.getD i false=false:=getD_flip (by simpa using hi'.2)
   have his:i<ops.size:=by have:=List.mem_range.1 hi'.1;omega
   have hoi:ops[i]? =some ops[i]:=Array.getElem?_eq_getElem his;refine⟨ops[i],hoi,fun hlt=>?_,?_,fun hlt=>?_⟩
   ·rcases laxTB_apart hB hoj hjT i hlt with he|⟨oi,hoi',hap⟩
    ·have:=hdir i he;rw[hun]at this;cases this
    rw[hoi]at hoi';cases hoi';exact hap
   ·cases ha:anc ops 9 i j with
    | false=>rfl
    | true=>
     have:=anc_listed hc 9 i j hdir ha;rw[hun]at this;cases this
   cases ha:anc ops 9 j i with
   | false=>rfl
   | true=>
    have:=ancT_lt hB 9 j i ha
    omega) hsorted h
  have hsz':(listed.setIfInBounds j true).size=ops.size:=by simp[hsz]
  have hout':∀i,T<=i->i<ops.size->(listed.setIfInBounds j true).getD i true=false:=fun i hi hi'=>by rw[getD_set_ne true (by omega)];exact hout i hi hi'
  have hlen':(unlistedT (listed.setIfInBounds j true) T).length=fuel:=by
   rw[unlistedT_set (by omega)]
   have he:(unlistedT listed T).filter (· != j)=(unlistedT listed T).erase j:=by
    rw[List.Nodup.erase_eq_filter hnd]
   rw[he,List.length_erase_of_mem hju];omega
  have hc':closed ops (listed.setIfInBounds j true):=fun i k hk hik=>by
   by_cases hkj:j=k
   ·subst hkj;exact getD_set_true (hdir i hik)
   rw[getD_set_ne false hkj]at hk;exact getD_set_true (hc i k hk hik)
  unfold wpOp;simp only[hoj];simp only[LexD,ClauseD,hoj]at hcm;rw[<-unlistedT_set (by omega)]at hcm
  split
  ·rename_i hwant
   simp only[hwant,if_true]at hcm;refine .inl ?_
   cases hs:S j with
   | none=>
    simp only[hs]at hcm;obtain⟨v,hrun,hk⟩:=hcm;have hr:=hrun w hw;unfold Oper.wp;rw[hr];exact ih _ F _ w hsz' hout' hlen' hc' hw hF hk
   | some s=>
    simp only[hs]at hcm;obtain⟨p,hd,hk⟩:=hcm;refine(hd w hw hF).wp fun v w' ⟨hi',hpv,hpost⟩=>?_
    exact ih _ (p v) _ w' hsz' hout' hlen' hc' hi' hpost (hk v hpv)
  rename_i hwant
  simp only[hwant]at hcm;exact ih _ F _ w hsz' hout' hlen' hc' hw hF hcm
end
section
variable{I:World->Prop} {P:Program} {ops:Array Oper} {S:Nat->Option (Value->Prop)} {Q:Act->World->Prop}
variable(I P ops S Q)in
def wpLaxD:List Oper->Nat->(World->Prop)->Act->Prop
 | [],_,F,a=>∀w,I w->F w->Q a w
 | o :: rest,k,F,a=>
  if Region.wanted o (yielded ops a.tmps)then
   match S k with
   | none=>∃v,(∀w,I w->(execOp a.eval o).run P w= .ok (.value v) w)/\wpLaxD rest (k+1) F (a.put o.dst v)
   | some s=>∃p:Value->World->Prop,(∀w,I w->F w->Does P o a w fun v w'=>I w'/\s v/\p v w')/\∀v,s v->wpLaxD rest (k+1) (p v) (a.put o.dst v)
  else wpLaxD rest (k+1) F (a.put o.dst undef)
theorem lexD_of_lax:∀(l:List Oper) (k:Nat) (F:World->Prop) (a:Act),(∀j,l[j]? =ops[k+j]?\/l.length<=j)->wpLaxD I P ops S Q l k F a->LexD I P ops S Q (List.range' k l.length) F a
 | [],_,_,_,_,h=>h
 | o :: l,k,F,a,hl,h=>by
  have h0:ops[k]? =some o:=by
   rcases hl 0 with e|e
   ·simpa using e.symm
   simp at e
  have hnext:∀j,l[j]? =ops[k+1+j]?\/l.length<=j:=fun j=>by
   rcases hl (j+1)with e|e
   ·left;rw[List.getElem?_cons_succ]at e;rw[e];congr 1;omega
   right;simpa using e
  simp only[List.length_cons,List.range'_succ,LexD,ClauseD,h0];unfold wpLaxD at h
  split
  ·rename_i hw
   simp only[hw,if_true]at h
   cases hs:S k with
   | none=>
    simp only[hs]at h;obtain⟨v,h1,h2⟩:=h;exact⟨v,h1,lexD_of_lax l (k+1) _ _ hnext h2⟩
   | some s=>
    simp only[hs]at h;obtain⟨p,hd,hk⟩:=h;exact⟨p,hd,fun v hv=>lexD_of_lax l (k+1) _ _ hnext (hk v hv)⟩
  rename_i hw
  simp only[hw]at h;exact lexD_of_lax l (k+1) _ _ hnext h
variable(I P ops S Q)in
structure WLaxD (l:List Oper) (k:Nat) (F:World->Prop) (a:Act):Prop where
 out:wpLaxD I P ops S Q l k F a
theorem wp_lax_tailD {Q:Exit->Act->World->Prop} {a:Act} {w:World} {L l r:List Oper} (T:Nat) (S:List (Nat ×(Value->Prop))) (F:World->Prop) (hI:I w.drew) (hF:F w.drew) (hm:P.follows .mixedOrders=true) (hB:laxTB L.toArray T=true) (hl:L.take T=l) (hr:L.drop T=r) (hT:T<=L.length)
  (hS:∀x∈S,∃v,x.2 v) (hch:((S.map (·.1)).all fun i=>(S.map (·.1)).all fun k=>!decide (i<k) || anc L.toArray 9 i k)=true)
  (h:WLaxD I P L.toArray (fun k=>S.lookup k) (fun a w=>wpList P L.toArray Q r a w) l 0 F a):(Code.region id L.toArray true).wp P Q a w:=by
 have hlook:∀(S:List (Nat ×(Value->Prop))) k s,S.lookup k=some s->∃x∈S,x.2=s/\x.1=k:=by
  intro S
  induction S with
  | nil=>intro k s h;simp at h
  | cons x S ih=>
   intro k s h;rw[List.lookup_cons]at h
   split at h
   ·rename_i he
    exact⟨x,by simp,by simpa using h,by simpa using(by simpa using he:k=x.1).symm⟩
   obtain⟨y,hy,he⟩:=ih k s h;exact⟨y,by simp[hy],he⟩
 have hlT:l.length=T:=by rw[<-hl,List.length_take];omega
 have hrT:r.length=L.length - T:=by rw[<-hr,List.length_drop]
 refine wp_region_any hm ?_;have hu:unlistedT (Array.replicate L.toArray.size false) T=List.range T:=by
  unfold unlistedT;refine List.filter_eq_self.2 fun i hi=>?_
  have:i<T:=by simpa using hi
  simp[show i<L.length by omega]
 have h':=lexD_of_lax (ops:=L.toArray) l 0 _ a (fun j=>by
  rcases Nat.lt_or_ge j T with hj|hj
  ·left;rw[<-hl,List.getElem?_take_of_lt hj];simp
  right;omega) h.out
 rw[hlT,<-List.range_eq_range']at h';have hfin:=wpAny_of_lexD (I:=I) (P:=P) (S:=fun k=>S.lookup k) (F:=F) (ops:=L.toArray) (T:=T) (l:=r) (m:=L.length - T) (Q:=fun a w=>wpList P L.toArray Q r a w) (Q':=Q) hB (by simp;omega) hrT (fun j=>by rw[<-hr,List.getElem?_drop];simp) (fun k s hs=>by obtain⟨x,hx,rfl,_⟩:=hlook S k s hs;exact hS x hx) (fun i k hik hi hk=>by
   obtain⟨si,hsi⟩:=Option.ne_none_iff_exists'.1 hi;obtain⟨sk,hsk⟩:=Option.ne_none_iff_exists'.1 hk;obtain⟨x,hx,_,rfl⟩:=hlook S i si hsi;obtain⟨y,hy,_,rfl⟩:=hlook S k sk hsk;have h1:=List.all_eq_true.1 (List.all_eq_true.1 hch x.1 (List.mem_map.2 ⟨x,hx,rfl⟩)) y.1 (List.mem_map.2 ⟨y,hy,rfl⟩)
   simpa [hik]using h1) (fun _ _ h=>h)
  T (Array.replicate L.toArray.size false) a w.drew (by simp) (fun i hi hi'=>by simp at hi';simp[hi']) (by rw[hu];simp) (fun i j hj _=>by
   exfalso;rw[Array.getD_eq_getD_getElem?,Array.getElem?_replicate]at hj
   split at hj <;> simp at hj)
  hI hF (by rw[hu];exact h')
 have hsz:T+(L.length - T)=L.toArray.size:=by simp;omega
 rw[hsz]at hfin;exact hfin
variable{o:Oper} {rest:List Oper} {k:Nat} {F:World->Prop} {a:Act}
theorem laxD_quiet (ht:tame o=true) (hw:Region.wanted o (yielded ops a.tmps)=true) (hS:S k=none)
  (h:∀K:Act->Prop,(∀a,WLaxD I P ops S Q rest (k+1) F a->K a)->o.quiet P a (fun w'=>∃x:HoldI I,w'=x.world) K):WLaxD I P ops S Q (o :: rest) k F a:=by
 obtain⟨v,h1,h2⟩:=h _ fun _ h=>h
 constructor;unfold wpLaxD;rw[if_pos hw];simp only[hS];refine⟨v,fun w hg=>?_,h2.out⟩
 have h3:=h1 w ⟨⟨w,hg⟩,rfl⟩;unfold Oper.quietAt at h3;have hne:=fun n w'=>@tame_value P o ht a.eval w w' n
 generalize(execOp a.eval o).run P w=r at*
 cases r with
 | ok n w'=>
  cases n <;> simp only[Oper.quietUpon]at h3
  case value u=>rw[h3.1,h3.2]
  case skip=>obtain⟨_,he⟩:=hne _ _ rfl;cases he
  case enter f args=>obtain⟨_,he⟩:=hne _ _ rfl;cases he
 | halt x w'=>simp only[Oper.quietUpon]at h3
theorem laxD_skip (hw:Region.wanted o (yielded ops a.tmps)=false) (h:WLaxD I P ops S Q rest (k+1) F (a.put o.dst undef)):WLaxD I P ops S Q (o :: rest) k F a:=by
 constructor;unfold wpLaxD;rw[if_neg (by rw[hw];exact Bool.false_ne_true)]
 exact h.out
theorem laxD_spec {s:Value->Prop} (hw:Region.wanted o (yielded ops a.tmps)=true) (hS:S k=some s) (p:Value->World->Prop)
  (h:∀w,I w->F w->Does P o a w fun v w'=>I w'/\s v/\p v w')
  (hn:∀v,s v->WLaxD I P ops S Q rest (k+1) (p v) (a.put o.dst v)):WLaxD I P ops S Q (o :: rest) k F a:=by
 constructor;unfold wpLaxD;rw[if_pos hw];simp only[hS];exact⟨p,h,fun v hv=>(hn v hv).out⟩
theorem laxD_nilc (x:Operand) (p:Addr) (ho:o.op= .nilCheck x) (hx:a.eval x= .pointer (some p)) (hw:Region.wanted o (yielded ops a.tmps)=true) (hS:S k=none) (h:WLaxD I P ops S Q rest (k+1) F (a.put o.dst (.pointer (some p)))):WLaxD I P ops S Q (o :: rest) k F a:=by
 constructor;unfold wpLaxD;rw[if_pos hw];simp only[hS];exact⟨_,fun w _=>run_nilc x p ho hx,h.out⟩
theorem laxD_nil (h:∀w,I w->F w->Q a w):WLaxD I P ops S Q [] k F a:=⟨h⟩
end
theorem Keeps.own {g:Nat} {a b c:World} (h:Keeps hi a b) (hg:b.grownBy c (some g)) (ha:a.heap.size<=g):Keeps hi a c:=⟨fun p t cs h1 h2=>(h.1 p t cs h1 h2).beside hg (fun k e=>by cases e;have:=h1.box.lt;omega),nT h.2 hg.size⟩
theorem lookup_in {α:Type} {k:Nat} {s:α}:∀{S:List (Nat × α)},S.lookup k=some s->(k,s)∈S
 | [],h=>by simp at h
 | (p,a) :: S,h=>by
  by_cases h1:k=p
  ·subst h1
   simp at h
   subst h;simp
  have e1:(k == p)=false:=by simpa using h1
  rw[List.lookup_cons,e1]at h;exact List.mem_cons_of_mem _ (lookup_in h)
theorem tw_split {α:Type} {p:α->Bool}:∀{l:List α} {k:Nat},(∀(j:Nat) x,j<k->l[j]? =some x->p x=true)->(∀x,l[k]? =some x->p x=false)->k<=l.length->l.takeWhile p=l.take k/\l.dropWhile p=l.drop k
 | [],0,_,_,_=>⟨rfl,rfl⟩
 | [],k+1,_,_,h=>by simp at h
 | x :: l,0,_,h,_=>by
  have:=h x rfl
  simp[this]
 | x :: l,k+1,h1,h2,h3=>by
  have hx:=h1 0 x (Nat.zero_lt_succ _) rfl;obtain⟨e1,e2⟩:=tw_split (l:=l) (k:=k) (fun j y hj hy=>h1 (j+1) y (by omega) (by simpa using hy)) (fun y hy=>h2 y (by simpa using hy)) (by simpa using h3)
  simp[hx,e1,e2]
theorem Tryz.sizeCached:(Tryz.prog.info? 83).map (·.size)=some 3:=by kernel_rfl
theorem size_cached (w:World):(Go.sizeOf 83).run prog w= .ok 3 w:=by
 obtain⟨i0,h1,h2⟩:∃i0,Tryz.prog.info? 83=some i0/\i0.size=3:=by
  have:=Tryz.sizeCached
  cases hq:Tryz.prog.info? 83 with
  | none=>rw[hq]at this;cases this
  | some i0=>rw[hq]at this;exact⟨i0,rfl,by simpa using this⟩
 simp[Go.sizeOf,typeInfo,h1,h2]
theorem run_upto {w:World} {a:Option Addr} {n c k:Nat} (hk:k<=c):(Instr.sliceAt 37 (.slice a n c) none (some (.int .i64 (k:Int))) none).run prog w= .ok (.slice a k c) w:=by
 have h1:(0:Int)<=(k:Int)/\(k:Int)<=(c:Int):=by omega
 simp only[Instr.sliceAt,Instr.slice,Instr.sliceBounds,Instr.sliceBound,asIntOf,Sem.run_bind,Sem.run_pure,rA,run_underlying underlying37];rw[if_pos h1];simp only[Sem.run_pure,rA,size_cached,tN]
 cases a with
 | none=>simp
 | some ad=>by_cases hc:c=0 <;> simp[hc,Addr.add]
theorem run_from {w:World} {a:Option Addr} {n c k:Nat} (hk:k<=n):(Instr.sliceAt 37 (.slice a n c) (some (.int .i64 (k:Int))) none none).run prog w= .ok (.slice (a.map fun ad=>if c=k then ad else ad.add (k*3)) (n - k) (c - k)) w:=by
 have h1:(0:Int)<=(k:Int)/\(k:Int)<=(n:Int):=by omega
 simp only[Instr.sliceAt,Instr.slice,Instr.sliceBounds,Instr.sliceBound,asIntOf,Sem.run_bind,Sem.run_pure,rA,run_underlying underlying37];rw[if_pos h1];simp only[Sem.run_pure,rA,size_cached,tN]
 cases a with
 | none=>simp
 | some ad=>by_cases hc:c=k <;> simp[hc]
theorem RowAt.upto {w:World} {a:Option Addr} {n c k:Nat} {l:List Ca} (h:RowAt cchE w (.slice a n c) l) (hk:k<=n):RowAt cchE w (.slice a k c) (l.take k):=by
 have hn:=h.n;obtain⟨⟨xa,xc,q1,q2,q3⟩,q4⟩:=h;cases q1;refine⟨⟨a,c,by rw[List.length_take,Nat.min_eq_left (by omega)],fun e=>by rw[q2 e];simp,fun ad e=>?_⟩,?_⟩
 ·intro j u hj;refine q3 ad e j u ?_;have hs:l.flatMap cchE.enc=(l.take k).flatMap cchE.enc++(l.drop k).flatMap cchE.enc:=by rw[<-List.flatMap_append,List.take_append_drop]
  rw[hs,List.getElem?_append_left (gS.1 hj).1];exact hj
 refine nT (Nat.mul_le_mul_right _ ?_) q4;rw[List.length_take];omega
theorem RowAt.from {w:World} {a:Option Addr} {n c k:Nat} {l:List Ca} (h:RowAt cchE w (.slice a n c) l) (hk:k<=n) (hc:n<=c):RowAt cchE w (.slice (a.map fun ad=>if c=k then ad else ad.add (k*3)) (n - k) (c - k)) (l.drop k):=by
 have hn:=h.n;obtain⟨⟨xa,xc,q1,q2,q3⟩,q4⟩:=h;cases q1;refine⟨⟨_,_,by rw[List.length_drop],fun e=>?_,fun ad e=>?_⟩,?_⟩
 ·cases a with
  | none=>rw[q2 rfl];simp
  | some ad=>cases e
 ·cases a with
  | none=>cases e
  | some ad0=>
   simp only[Option.map_some,Option.some.injEq]at e;intro j u hj
   by_cases hck:c=k
   ·have:l.drop k=[]:=List.drop_eq_nil_of_le (by omega)
    rw[this]at hj
    simp at hj
   rw[if_neg hck]at e;subst e;rw[add_add'];refine q3 ad0 rfl _ u ?_;have hs:l.flatMap cchE.enc=(l.take k).flatMap cchE.enc++(l.drop k).flatMap cchE.enc:=by rw[<-List.flatMap_append,List.take_append_drop]
   have hl:((l.take k).flatMap cchE.enc).length=k*3:=by rw[row_len,List.length_take,Nat.min_eq_left (by omega)];rfl
   rw[hs,aR (by rw[hl];omega),hl,show k*3+j - k*3=j by omega]
   exact hj
 refine nT (Nat.mul_le_mul_right _ ?_) q4;rw[List.length_drop];omega
theorem own_cached (w:World) (c:Ca):OwnRow cchE w.heap.size (w.alloc (.cells #[.int .i64 c.file,.int .i64 c.idx,.int .i64 c.fr] 83)) (.slice (some ⟨w.heap.size,0,none⟩) 1 1) [c]:=by
 refine⟨⟨rfl,.inr ⟨w.heap.size,1,#[.int .i64 c.file,.int .i64 c.idx,.int .i64 c.fr],rfl,nR _,?_,nR _,maxLen_of (by omega),rfl,rfl⟩⟩,by show 1*24<=_;omega⟩
 show(w.heap.push _)[w.heap.size]? =_
 simp[cchE]
theorem BoxT.part {w:World}:∀{ds cs:List Value} {o:Nat},BoxT w b t cs->o+ds.length<=cs.length->BoxT (w.setCells b o ds) b t (splice cs o ds):=by
 have key:∀(ds cs:List Value) (o:Nat) (w:World),BoxT w b t cs->o+ds.length<=cs.length->BoxT (w.setCells b o ds) b t (splice cs o ds):=fun ds=>by
  induction ds with
  | nil=>
   intro cs o w h hl;have:splice cs o []=cs:=by simp[splice]
   rw[this];exact h
  | cons d ds ih=>
   intro cs o w h hl;simp only[List.length_cons]at hl;have h1:=h.set o d;have h2:=ih (cs.set o d) (o+1) (w.setCell ⟨b,o,none⟩ d) h1 (by simp;omega)
   have h3:splice (cs.set o d) (o+1) ds=splice cs o (d :: ds):=by
    unfold splice;rw[List.take_set,List.drop_set,if_pos (by omega),List.take_add_one,gE (by omega)]
    simp only[List.length_cons,Option.toList_some];rw[List.set_append_right _ _ (by simp;omega),show o+1+ds.length=o+(ds.length+1) by omega]
    simp[List.length_take,Nat.min_eq_left (show o<=cs.length by omega)]
   rw[h3]at h2;exact h2
 exact fun{ds cs o} h hl=>key ds cs o w h hl
theorem wp_storeAllT {rest:List Oper} {a:Act} {w:World} (hgd:o.guard=none) (ty:TypeId) (p x:Operand) (ho:o.op= .store ty p x) (b:Nat) (hp:a.eval p= .pointer (some ⟨b,0,none⟩)) (vs:List Value) (hx:a.eval x= .agg vs.toArray)
  {cs:List Value} {t:TypeId} (hb:BoxT w b t cs) (hl:vs.length=cs.length) (hi:(Tryz.prog.info? ty).map (·.size)=some cs.length) (h1:∀v∈vs,v.oneCell'=true)
  (h:∀w',BoxT w' b t vs->w.grownBy w' (some b)->w'.heap.size=w.heap.size->wpList prog ops Q rest (a.put o.dst undef) w'):wpList prog ops Q (o :: rest) a w:=by
 refine wpList_store_mid hgd ty p x ho b 0 vs.toArray hp hx ?_ ?_ (all_oneCell_toArray h1) ?_
 ·simpa [hl]using hb.box.there
 ·simpa [hl]using hi
 have:=hb.part (ds:=vs) (o:=0) (by omega)
 rw[splice_all hl]at this;exact h _ this (setCells_grown b vs 0 w).1 (setCells_grown b vs 0 w).2
theorem MkE.trans {w w1:World} {L1:List Int} {V':MaV} {m':Ma} {vt':Sli} {T':List (Nat->En)} (h1:Less L L1) (h2:Keeps hi w w1) (h:MkE w0 hi b w1 L1 V' m' vt' T' w'):MkE w0 hi b w L V' m' vt' T' w':=by
 obtain⟨vl',L',k1,k2,k3⟩:=h;exact⟨vl',L',k1,h1.trans k2,h2.trans k3⟩
theorem Mk.page {w:World} {pp:Nat} {cs:List Value} (h:Mk w0 hi w b vl L V m vt T) (hp:BoxT w pp 50 cs) (hh:hi<=pp) (hg:w.grownBy w' (some pp)):Mk w0 hi w' b vl L V m vt T:=by
 have hne:b≠pp:=fun e=>by
  subst e;have h1:w.heap[b]? =_:=h.box;rw[show w.heap[b]? =_ from hp]at h1
  cases h1
 exact⟨grew_grown h.gr hg (nT h.rows.bh hh),h.hb,h.box.beside hg (fun k e=>by cases e;exact hne),h.lr,h.lc,h.lb,h.rows.var hg hp hg.size (.inr ⟨rfl,hh⟩)⟩
theorem loc_page {pp:Nat} (h:hi<=pp):Loc hi pp 50:=⟨by decide,by decide,by decide,by decide,by decide,by decide,by decide,by decide,fun _=>h⟩
theorem MkR.setCa {base:Nat} {w:World} (h:MkR base hi w V m vt T) {s:Sli} {ca:List Ca} (ho:OwnRow cchE base w (.slice s.a s.n s.c) ca):MkR base hi w { V with ca:=s } { m with ca:=ca } vt T:=⟨h.hw,h.bh,h.fs,h.sl,h.slh,h.sb,h.sbh,h.sq,h.db,h.dbh,h.dq,h.fl,ho,h.sp,h.tt,h.ap⟩
end
end Go.Proofs.YtangilolcekceaaGreat
