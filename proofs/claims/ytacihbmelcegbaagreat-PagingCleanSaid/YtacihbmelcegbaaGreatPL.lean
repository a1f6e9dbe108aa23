/- PagingClean,proved:as often as there are dirty pages one is clean;if there are blocks enough none is dirty then:whatever the numbers and bytes. No condition. -/
import Derived.Test.YtacihbmelcegbaaGreatPL8
import Derived.Test.YtacihbmelcegbaaGreatRows
import Derived.WalkKit
import Derived.ProofKit
import Derived.OpenShut
import Derived.ShutString
import Derived.ChangeOld
import Derived.Below
import Derived.Carry
import Derived.SizedLaws
import Derived.Deep.Slices
import Derived.Test.YtacihbmelcegbaaGreatChecked
namespace Go.Proofs.YtacihbmelcegbaaGreat
set_option maxRecDepth 100000
set_option maxHeartbeats 4000000
variable{Q':Exit->Act->World->Prop} {V:MaV} {W w0:World} {b fi i id j:Nat} {e t:TypeId} {m m':Ma} {o oi oj:Oper}
open Go.Proofs.Tryz
section
open Go.RowKit
section
variable(I:World->Prop) (P:Program) (ops:Array Oper) (S:Nat->Option (Value->Prop)) (R:Nat->Bool)
def jF (i:Nat) (F:World->Prop) (a:Act) (K:(World->Prop)->Act->Prop):Prop:=
 match ops[i]? with
 | none=>False
 | some o=>
  if Region.wanted o (yielded ops a.tmps)then
   match S i with
   | none=>∃v,(∀w,I w->(R i=true->F w)->(execOp a.eval o).run P w= .ok (.value v) w)/\K F (a.put o.dst v)
   | some s=>∃p:Value->World->Prop,(∀w,I w->F w->zK P o a w fun v w'=>I w'/\s v/\p v w')/\∀v,s v->K (p v) (a.put o.dst v)
  else K F (a.put o.dst undef)
def ziR (Q:Act->World->Prop):List Nat->(World->Prop)->Act->Prop
 | [],F,a=>∀w,I w->F w->Q a w
 | i :: l,F,a=>jF I P ops S R i F a (ziR Q l)
end
section
variable{I:World->Prop} {P:Program} {ops:Array Oper} {S:Nat->Option (Value->Prop)} {R:Nat->Bool} {T:Nat}
theorem jF.mono {F:World->Prop} {a:Act} {K K':(World->Prop)->Act->Prop}
  (h:∀F' a',K F' a'->K' F' a') (hc:jF I P ops S R i F a K):jF I P ops S R i F a K':=by
 unfold jF at*
 split
 ·rename_i ho;simp only[ho]at hc
 rename_i o ho
 simp only[ho]at hc
 split
 ·rename_i hw
  simp only[hw,if_true]at hc
  split
  ·rename_i hs
   simp only[hs]at hc;obtain⟨v,h1,h2⟩:=hc;exact⟨v,h1,h _ _ h2⟩
  rename_i s hs
  simp only[hs]at hc;obtain⟨p,hd,hc⟩:=hc;exact⟨p,hd,fun v hv=>h _ _ (hc v hv)⟩
 rename_i hw
 simp only[hw]at hc;exact h _ _ hc
theorem jF.swap {F:World->Prop} {a:Act} {K:(World->Prop)->Act->Prop} {w:World}
  (hi:ops[i]? =some oi) (hj:ops[j]? =some oj) (hap:oi.apart ops oj=true)
  (hsi:∀cs b,oi.op≠.select cs b) (hsj:∀cs b,oj.op≠.select cs b)
  (hij:anc ops 9 i j=false) (hji:anc ops 9 j i=false) (hS:∀s,S i=some s->∃v,s v) (hch:S i≠none->(S j≠none\/R j=true)->anc ops 9 i j=true\/anc ops 9 j i=true) (hrd:R i=true->S j≠none->anc ops 9 i j=true\/anc ops 9 j i=true)
  (hw0:I w)
  (h:jF I P ops S R i F a fun F' a'=>jF I P ops S R j F' a' K):jF I P ops S R j F a fun F' a'=>jF I P ops S R i F' a' K:=by
 obtain⟨h1,h2,h3⟩:=Oper.apart_spec hap;have ei:∀v,execOp (a.put oj.dst v).eval oi=execOp a.eval oi:=fun v=>execOp_put oi hsi a oj.dst v h3
 have ej:∀v,execOp (a.put oi.dst v).eval oj=execOp a.eval oj:=fun v=>execOp_put oj hsj a oi.dst v h1
 have wi:∀v,Region.wanted oi (yielded ops (a.put oj.dst v).tmps)=Region.wanted oi (yielded ops a.tmps):=fun v=>wanted_put oi a oj.dst v h3
 have wj:∀v,Region.wanted oj (yielded ops (a.put oi.dst v).tmps)=Region.wanted oj (yielded ops a.tmps):=fun v=>wanted_put oj a oi.dst v h1
 have di:∀v w K,zK P oi (a.put oj.dst v) w K=zK P oi a w K:=fun v w K=>by unfold zK;rw[ei]
 have dj:∀v w K,zK P oj (a.put oi.dst v) w K=zK P oj a w K:=fun v w K=>by unfold zK;rw[ej]
 have pc:∀v u,(a.put oi.dst v).put oj.dst u=(a.put oj.dst u).put oi.dst v:=fun v u=>Act.put_comm a v u h2
 unfold jF at h⊢;simp only[hi,hj,ei,ej,wi,wj,di,dj,pc]at h⊢
 cases hwi:Region.wanted oi (yielded ops a.tmps) <;> cases hwj:Region.wanted oj (yielded ops a.tmps) <;>
  simp only[hwi,hwj,if_true,if_false,Bool.false_eq_true]at h⊢
 ·exact h
 ·cases hsj':S j with
  | none=>simp only[hsj']at h⊢;exact h
  | some s=>simp only[hsj']at h⊢;exact h
 ·cases hsi':S i with
  | none=>simp only[hsi']at h⊢;exact h
  | some s=>simp only[hsi']at h⊢;exact h
 cases hsi':S i with
 | none=>
  simp only[hsi']at h;obtain⟨vi,hri,h⟩:=h
  cases hsj':S j with
  | none=>
   simp only[hsj']at h⊢;obtain⟨vj,hrj,h⟩:=h;exact⟨vj,hrj,vi,hri,h⟩
  | some s=>
   simp only[hsj']at h⊢;obtain⟨p,hd,hk⟩:=h;have hRi:R i≠true:=fun e=>by
    rcases hrd e (by rw[hsj'];simp)with h1|h1
    ·rw[hij]at h1;cases h1
    rw[hji]at h1;cases h1
   exact⟨p,hd,fun vj hvj=>⟨vi,fun w hw _=>hri w hw (fun e=>absurd e hRi),hk vj hvj⟩⟩
 | some si=>
  simp only[hsi']at h;obtain⟨p,hdi,h⟩:=h;obtain⟨v1,hv1⟩:=hS si hsi'
  cases hsj':S j with
  | none=>
   simp only[hsj']at h⊢;have hRj:R j≠true:=fun e=>by
    rcases hch (by rw[hsi'];simp) (.inr e)with h1|h1
    ·rw[hij]at h1;cases h1
    rw[hji]at h1;cases h1
   obtain⟨vj,hrj,_⟩:=h v1 hv1;refine⟨vj,fun w hw _=>hrj w hw (fun e=>absurd e hRj),p,hdi,fun vi hvi=>?_⟩
   obtain⟨vj',hrj',hl⟩:=h vi hvi;have e1:=hrj w hw0 (fun e=>absurd e hRj)
   have e2:=hrj' w hw0 (fun e=>absurd e hRj)
   rw[e1]at e2;simp only[Result.ok.injEq,Next.value.injEq,and_true]at e2;subst e2;exact hl
  | some sj=>
   exfalso
   rcases hch (by rw[hsi'];simp) (.inl (by rw[hsj'];simp))with h1|h1
   ·rw[hij]at h1;cases h1
   rw[hji]at h1;cases h1
theorem ziR.commute {Q:Act->World->Prop} {j:Nat} {oj:Oper} {w:World} (hj:ops[j]? =some oj) (hw0:I w)
  (hsel:∀(k:Nat) (o:Oper) cs b,ops[k]? =some o->o.op≠.select cs b) (hS:∀k s,S k=some s->∃v,s v) (hch:∀i k,i<k->(S i≠none/\(S k≠none\/R k=true))\/(R i=true/\S k≠none)->anc ops 9 i k=true):
  ∀(l:List Nat) (F:World->Prop) (a:Act),l.Nodup->j∈l->
   (∀i∈l,i≠j->∃oi,ops[i]? =some oi/\(i<j->oi.apart ops oj=true)/\anc ops 9 i j=false/\(i<j->anc ops 9 j i=false))->
   (l.Pairwise (·< ·))->ziR I P ops S R Q l F a->ziR I P ops S R Q (j :: l.filter (· != j)) F a
 | [],_,_,_,hm,_,_,_=>by cases hm
 | i :: l,F,a,hnd,hm,hall,hsorted,h=>by
  by_cases hij:i=j
  ·subst hij;have:(i :: l).filter (· != i)=l:=by
    rw[List.filter_cons];simp only[bne_self_eq_false,Bool.false_eq_true,if_false];refine List.filter_eq_self.2 fun x hx=>?_
    have:x≠i:=fun e=>(List.nodup_cons.1 hnd).1 (e ▸ hx)
    simpa using this
   rw[this];exact h
  have hjl:j∈l:=by
   rcases mC.1 hm with e|e
   ·exact absurd e.symm hij
   exact e
  have hlt:i<j:=(List.pairwise_cons.1 hsorted).1 j hjl;obtain⟨oi,hoi,hap,haij,haji⟩:=hall i (by simp) hij
  have hf:(i :: l).filter (· != j)=i :: l.filter (· != j):=by
   rw[List.filter_cons];have:(i != j)=true:=by simpa using hij
   simp[this]
  rw[hf];refine jF.swap hoi hj (hap hlt) (fun cs b=>hsel i oi cs b hoi) (fun cs b=>hsel j oj cs b hj) haij (haji hlt) (hS i) (fun q1 q2=> .inl (hch i j hlt (.inl ⟨q1,q2⟩))) (fun q1 q2=> .inl (hch i j hlt (.inr ⟨q1,q2⟩))) hw0 ?_
  refine jF.mono (fun F' a' hl=>?_) h
  exact ziR.commute hj hw0 hsel hS hch l F' a' (List.nodup_cons.1 hnd).2 hjl (fun k hk=>hall k (by simp[hk])) (List.pairwise_cons.1 hsorted).2 hl
theorem zcP {Q:Act->World->Prop} {l:List Oper} {m:Nat} (hB:j4 ops T=true) (hTl:T+m=ops.size) (hll:l.length=m) (hops:∀j,l[j]? =ops[T+j]?) (hS:∀k s,S k=some s->∃v,s v)
  (hch:∀i k,i<k->(S i≠none/\(S k≠none\/R k=true))\/(R i=true/\S k≠none)->anc ops 9 i k=true) (hQ:∀a w,Q a w->wpList P ops Q' l a w):
  ∀(fuel:Nat) (listed:Array Bool) (F:World->Prop) (a:Act) (w:World),listed.size=ops.size->(∀i,T<=i->i<ops.size->listed.getD i true=false)->(zd listed T).length=fuel->Zm ops listed->I w->
   F w->ziR I P ops S R Q (zd listed T) F a->wpAny P .any ops Q' (fuel+m) listed a w:=by
 have hsel:=Region.noSelect_spec (ops:=ops) (by simp only[j4,Bool.and_eq_true]at hB;exact hB.1.1)
 intro fuel
 induction fuel with
 | zero=>
  intro listed F a w hsz hout hl hc hw hF h;have hnil:zd listed T=[]:=eN hl;rw[hnil]at h;rw[zA];refine Zw hB m l T listed a w (nR _) hsz hTl hll hops (fun i hi=>?_) hout (hQ _ _ (h w hw hF))
  cases hg:listed.getD i true with
  | true=>rfl
  | false=>
   have:i∈zd listed T:=List.mem_filter.2 ⟨List.mem_range.2 hi,by simp only[hg,beq_self_eq_true]⟩
   rw[hnil]at this;cases this
 | succ fuel ih=>
  intro listed F a w hsz hout hl hc hw hF h;rw[Nat.add_right_comm];refine⟨fun hr=>?_,fun j hj=>?_⟩
  ·exfalso
   cases hu:zd listed T with
   | nil=>simp[hu]at hl
   | cons x xs=>
    have hx:x∈zd listed T:=by rw[hu];simp
    have hx':=List.mem_filter.1 hx;have hxT:x<T:=List.mem_range.1 hx'.1;have hxs:x<ops.size:=by omega
    have ho:ops[x]? =some ops[x]:=Array.getElem?_eq_getElem hxs;have hsorted:(zd listed T).Pairwise (·< ·):=List.Pairwise.filter _ List.pairwise_lt_range;have:x∈Region.ready .any ops listed:=by
     refine mem_ready.2 ⟨by simpa using hx'.2,ops[x],ho,fun e he hb=>?_⟩
     have hed:zaf ops e.on x=true:=(jg ho).2 ⟨e,he,hb,rfl⟩;have hlt:=js hB ho _ hed
     cases hg:listed.getD e.on true with
     | true=>exact Ja (by omega) hg
     | false=>
      have hmem:e.on∈zd listed T:=List.mem_filter.2 ⟨List.mem_range.2 (by omega),by simp only[hg,beq_self_eq_true]⟩
      rw[hu]at hmem hsorted
      rcases mC.1 hmem with e1|e1
      ·omega
      have:=(List.pairwise_cons.1 hsorted).1 _ e1;omega
    rw[hr]at this;cases this
  obtain⟨h0,oj,hoj,hall⟩:=mem_ready.1 hj;have hjs:j<ops.size:=(aS.1 hoj).1;have hdir:∀k,zaf ops k j=true->listed.getD k false=true:=fun k hk=>by
   obtain⟨e,he,hb,rfl⟩:=(jg hoj).1 hk;exact hall e he hb
  have hjT:j<T:=by
   rcases Nat.lt_or_ge j T with h1|h1
   ·exact h1
   exfalso
   cases hu:zd listed T with
   | nil=>simp[hu]at hl
   | cons x xs=>
    have hx:x∈zd listed T:=by rw[hu];simp
    have hx':=List.mem_filter.1 hx;have hxT:x<T:=List.mem_range.1 hx'.1;have:=qf hc j x j hdir (jX hB hoj h1 x (by omega))
    rw[qz (by simpa using hx'.2)]at this
    cases this
  have hju:j∈zd listed T:=List.mem_filter.2 ⟨List.mem_range.2 hjT,by simp only[h0,beq_self_eq_true]⟩
  have hnd:(zd listed T).Nodup:=List.Pairwise.filter _ List.nodup_range;have hsorted:(zd listed T).Pairwise (·< ·):=List.Pairwise.filter _ List.pairwise_lt_range;have hcm:=ziR.commute hoj hw hsel hS hch (zd listed T) F a hnd hju (fun i hi hij=>by
   have hi':=List.mem_filter.1 hi;have hun:listed.getD i false=false:=qz (by simpa using hi'.2)
   have his:i<ops.size:=by have:=List.mem_range.1 hi'.1;omega
   have hoi:ops[i]? =some ops[i]:=Array.getElem?_eq_getElem his;refine⟨ops[i],hoi,fun hlt=>?_,?_,fun hlt=>?_⟩
   ·rcases jY hB hoj hjT i hlt with he|⟨oi,hoi',hap⟩
    ·have:=hdir i he;rw[hun]at this;cases this
    rw[hoi]at hoi';cases hoi';exact hap
   ·cases ha:anc ops 9 i j with
    | false=>rfl
    | true=>
     have:=qf hc 9 i j hdir ha;rw[hun]at this;cases this
   cases ha:anc ops 9 j i with
   | false=>rfl
   | true=>
    have:=JP hB 9 j i ha
    omega) hsorted h
  have hsz':(listed.setIfInBounds j true).size=ops.size:=by simp[hsz]
  have hout':∀i,T<=i->i<ops.size->(listed.setIfInBounds j true).getD i true=false:=fun i hi hi'=>by rw[getD_set_ne true (by omega)];exact hout i hi hi'
  have hlen':(zd (listed.setIfInBounds j true) T).length=fuel:=by
   rw[z8 (by omega)]
   have he:(zd listed T).filter (· != j)=(zd listed T).erase j:=by
    rw[List.Nodup.erase_eq_filter hnd]
   rw[he,List.length_erase_of_mem hju];omega
  have hc':Zm ops (listed.setIfInBounds j true):=fun i k hk hik=>by
   by_cases hkj:j=k
   ·subst hkj;exact getD_set_true (hdir i hik)
   rw[getD_set_ne false hkj]at hk;exact getD_set_true (hc i k hk hik)
  unfold wpOp;simp only[hoj];simp only[ziR,jF,hoj]at hcm;rw[<-z8 (by omega)]at hcm
  split
  ·rename_i hwant
   simp only[hwant,if_true]at hcm;refine .inl ?_
   cases hs:S j with
   | none=>
    simp only[hs]at hcm;obtain⟨v,hrun,hk⟩:=hcm;have hr:=hrun w hw (fun _=>hF)
    unfold Oper.wp;rw[hr];exact ih _ F _ w hsz' hout' hlen' hc' hw hF hk
   | some s=>
    simp only[hs]at hcm;obtain⟨p,hd,hk⟩:=hcm;refine(hd w hw hF).wp fun v w' ⟨hi',hpv,hpost⟩=>?_
    exact ih _ (p v) _ w' hsz' hout' hlen' hc' hi' hpost (hk v hpv)
  rename_i hwant
  simp only[hwant]at hcm;exact ih _ F _ w hsz' hout' hlen' hc' hw hF hcm
end
section
variable{I:World->Prop} {P:Program} {ops:Array Oper} {S:Nat->Option (Value->Prop)} {R:Nat->Bool} {Q:Act->World->Prop}
variable(I P ops S R Q)in
def QQ:List Oper->Nat->(World->Prop)->Act->Prop
 | [],_,F,a=>∀w,I w->F w->Q a w
 | o :: rest,k,F,a=>
  if Region.wanted o (yielded ops a.tmps)then
   match S k with
   | none=>∃v,(∀w,I w->(R k=true->F w)->(execOp a.eval o).run P w= .ok (.value v) w)/\QQ rest (k+1) F (a.put o.dst v)
   | some s=>∃p:Value->World->Prop,(∀w,I w->F w->zK P o a w fun v w'=>I w'/\s v/\p v w')/\∀v,s v->QQ rest (k+1) (p v) (a.put o.dst v)
  else QQ rest (k+1) F (a.put o.dst undef)
theorem Qw:∀(l:List Oper) (k:Nat) (F:World->Prop) (a:Act),(∀j,l[j]? =ops[k+j]?\/l.length<=j)->QQ I P ops S R Q l k F a->ziR I P ops S R Q (List.range' k l.length) F a
 | [],_,_,_,_,h=>h
 | o :: l,k,F,a,hl,h=>by
  have h0:ops[k]? =some o:=by
   rcases hl 0 with e|e
   ·simpa using e.symm
   simp at e
  have hnext:∀j,l[j]? =ops[k+1+j]?\/l.length<=j:=fun j=>by
   rcases hl (j+1)with e|e
   ·left;rw[List.getElem?_cons_succ]at e;rw[e];congr 1;omega
   right;simpa using e
  simp only[List.length_cons,List.range'_succ,ziR,jF,h0];unfold QQ at h
  split
  ·rename_i hw
   simp only[hw,if_true]at h
   cases hs:S k with
   | none=>
    simp only[hs]at h;obtain⟨v,h1,h2⟩:=h;exact⟨v,h1,Qw l (k+1) _ _ hnext h2⟩
   | some s=>
    simp only[hs]at h;obtain⟨p,hd,hk⟩:=h;exact⟨p,hd,fun v hv=>Qw l (k+1) _ _ hnext (hk v hv)⟩
  rename_i hw
  simp only[hw]at h;exact Qw l (k+1) _ _ hnext h
variable(I P ops S R Q)in
structure zaU (l:List Oper) (k:Nat) (F:World->Prop) (a:Act):Prop where
 out:QQ I P ops S R Q l k F a
theorem zdy {Q:Exit->Act->World->Prop} {a:Act} {w:World} {L l r:List Oper} (T:Nat) (S:List (Nat ×(Value->Prop))) (Rl:List Nat) (F:World->Prop) (hI:I w.drew) (hF:F w.drew) (hm:P.follows .mixedOrders=true) (hB:j4 L.toArray T=true) (hl:L.take T=l) (hr:L.drop T=r) (hT:T<=L.length)
  (hS:∀x∈S,∃v,x.2 v) (hch:((S.map (·.1)++Rl).all fun i=>(S.map (·.1)++Rl).all fun k=>!decide (i<k) || anc L.toArray 9 i k || (Rl.contains i && Rl.contains k))=true) (hRS:(Rl.all fun i=>(S.lookup i).isNone)=true)
  (h:zaU I P L.toArray (fun k=>S.lookup k) (fun k=>Rl.contains k) (fun a w=>wpList P L.toArray Q r a w) l 0 F a):(Code.region id L.toArray true).wp P Q a w:=by
 have hlook:∀(S:List (Nat ×(Value->Prop))) k s,S.lookup k=some s->∃x∈S,x.2=s/\x.1=k:=by
  intro S
  induction S with
  | nil=>intro k s h;simp at h
  | cons x S ih=>
   intro k s h;rw[List.lookup_cons]at h
   split at h
   ·rename_i he
    exact⟨x,by simp,by simpa using h,by simpa using(by simpa using he:k=x.1).symm⟩
   obtain⟨y,hy,he⟩:=ih k s h;exact⟨y,by simp[hy],he⟩
 have hlT:l.length=T:=by rw[<-hl,List.length_take];omega
 have hrT:r.length=L.length - T:=by rw[<-hr,List.length_drop]
 refine wp_region_any hm ?_;have hu:zd (Array.replicate L.toArray.size false) T=List.range T:=by
  unfold zd;refine List.filter_eq_self.2 fun i hi=>?_
  have:i<T:=by simpa using hi
  simp[show i<L.length by omega]
 have h':=Qw (ops:=L.toArray) l 0 _ a (fun j=>by
  rcases Nat.lt_or_ge j T with hj|hj
  ·left;rw[<-hl,List.getElem?_take_of_lt hj];simp
  right;omega) h.out
 rw[hlT,<-List.range_eq_range']at h';have hfin:=zcP (I:=I) (P:=P) (S:=fun k=>S.lookup k) (R:=fun k=>Rl.contains k) (F:=F) (ops:=L.toArray) (T:=T) (l:=r) (m:=L.length - T) (Q:=fun a w=>wpList P L.toArray Q r a w) (Q':=Q) hB (by simp;omega) hrT (fun j=>by rw[<-hr,List.getElem?_drop];simp) (fun k s hs=>by obtain⟨x,hx,rfl,_⟩:=hlook S k s hs;exact hS x hx) (fun i k hik hi=>by
   have mem:∀q,S.lookup q≠none->q∈S.map (·.1)++Rl:=fun q hq=>by
    obtain⟨sq,hsq⟩:=Option.ne_none_iff_exists'.1 hq;obtain⟨x,hx,_,rfl⟩:=hlook S q sq hsq;exact List.mem_append.2 (.inl (List.mem_map.2 ⟨x,hx,rfl⟩))
   have memR:∀q,Rl.contains q=true->q∈S.map (·.1)++Rl:=fun q hq=>List.mem_append.2 (.inr (by simpa using hq))
   have notR:∀q,S.lookup q≠none->Rl.contains q=false:=fun q hq=>by
    cases hc:Rl.contains q with
    | false=>rfl
    | true=>
     have h1:=List.all_eq_true.1 hRS q (by simpa using hc)
     simp only[Option.isNone_iff_eq_none]at h1;exact absurd h1 hq
   have fin:∀(_:i∈S.map (·.1)++Rl) (_:k∈S.map (·.1)++Rl),(Rl.contains i && Rl.contains k)=false->anc L.toArray 9 i k=true:=fun m1 m2 hf=>by
    have h1:=List.all_eq_true.1 (List.all_eq_true.1 hch i m1) k m2;simp only[hf,Bool.or_false,decide_eq_true hik,Bool.not_true,Bool.false_or]at h1;exact h1
   rcases hi with⟨hi,hk|hk⟩|⟨hi,hk⟩
   ·exact fin (mem i hi) (mem k hk) (by rw[notR i hi];rfl)
   ·exact fin (mem i hi) (memR k hk) (by rw[notR i hi];rfl)
   exact fin (memR i hi) (mem k hk) (by rw[notR k hk,Bool.and_false])) (fun _ _ h=>h)
  T (Array.replicate L.toArray.size false) a w.drew (by simp) (fun i hi hi'=>by simp at hi';simp[hi']) (by rw[hu];simp) (fun i j hj _=>by
   exfalso;rw[Array.getD_eq_getD_getElem?,Array.getElem?_replicate]at hj
   split at hj <;> simp at hj)
  hI hF (by rw[hu];exact h')
 have hsz:T+(L.length - T)=L.toArray.size:=by simp;omega
 rw[hsz]at hfin;exact hfin
variable{o:Oper} {rest:List Oper} {k:Nat} {F:World->Prop} {a:Act}
theorem jZ (ht:zkl o=true) (hw:Region.wanted o (yielded ops a.tmps)=true) (hS:S k=none)
  (h:∀K:Act->Prop,(∀a,zaU I P ops S R Q rest (k+1) F a->K a)->o.quiet P a (fun w'=>∃x:zj I,w'=x.world) K):zaU I P ops S R Q (o :: rest) k F a:=by
 obtain⟨v,h1,h2⟩:=h _ fun _ h=>h
 constructor;unfold QQ;rw[if_pos hw];simp only[hS];refine⟨v,fun w hg _=>?_,h2.out⟩
 have h3:=h1 w ⟨⟨w,hg⟩,rfl⟩;unfold Oper.quietAt at h3;have hne:=fun n w'=>@Qg P o ht a.eval w w' n
 generalize(execOp a.eval o).run P w=r at*
 cases r with
 | ok n w'=>
  cases n <;> simp only[Oper.quietUpon]at h3
  case value u=>rw[h3.1,h3.2]
  case skip=>obtain⟨_,he⟩:=hne _ _ rfl;cases he
  case enter f args=>obtain⟨_,he⟩:=hne _ _ rfl;cases he
 | halt x w'=>simp only[Oper.quietUpon]at h3
theorem zd2 (hw:Region.wanted o (yielded ops a.tmps)=true) (hS:S k=none) (hR:R k=true) (v:Value) (h1:∀w,I w->F w->(execOp a.eval o).run P w= .ok (.value v) w) (h2:zaU I P ops S R Q rest (k+1) F (a.put o.dst v)):zaU I P ops S R Q (o :: rest) k F a:=by
 constructor;unfold QQ;rw[if_pos hw];simp only[hS];exact⟨v,fun w hI hF=>h1 w hI (hF hR),h2.out⟩
theorem zhZ (hw:Region.wanted o (yielded ops a.tmps)=false) (h:zaU I P ops S R Q rest (k+1) F (a.put o.dst undef)):zaU I P ops S R Q (o :: rest) k F a:=by
 constructor;unfold QQ;rw[if_neg (by rw[hw];exact Bool.false_ne_true)]
 exact h.out
theorem zhY {s:Value->Prop} (hw:Region.wanted o (yielded ops a.tmps)=true) (hS:S k=some s) (p:Value->World->Prop)
  (h:∀w,I w->F w->zK P o a w fun v w'=>I w'/\s v/\p v w')
  (hn:∀v,s v->zaU I P ops S R Q rest (k+1) (p v) (a.put o.dst v)):zaU I P ops S R Q (o :: rest) k F a:=by
 constructor;unfold QQ;rw[if_pos hw];simp only[hS];exact⟨p,h,fun v hv=>(hn v hv).out⟩
theorem zh0 (x:Operand) (p:Addr) (ho:o.op= .nilCheck x) (hx:a.eval x= .pointer (some p)) (hw:Region.wanted o (yielded ops a.tmps)=true) (hS:S k=none) (h:zaU I P ops S R Q rest (k+1) F (a.put o.dst (.pointer (some p)))):zaU I P ops S R Q (o :: rest) k F a:=by
 constructor;unfold QQ;rw[if_pos hw];simp only[hS];exact⟨_,fun w _ _=>zaZ x p ho hx,h.out⟩
theorem zfO (h:∀w,I w->F w->Q a w):zaU I P ops S R Q [] k F a:=⟨h⟩
end
theorem zgm {a:Act} {w:World} (ty:TypeId) (x:Operand) (ho:o.op= .load ty x) (b off:Nat) (hx:a.eval x= .pointer (some ⟨b,off,none⟩)) (v:Value) (hc:w.cell? ⟨b,off,none⟩=some v) {d:TypeDesc} (hu:Tryz.prog.underlying ty=some d) (hd:d.isRow=false):(execOp a.eval o).run prog w= .ok (.value v) w:=by
 have hagg:(isAgg ty).run prog w= .ok false w:=by
  unfold isAgg;rw[Sem.run_bind,run_underlying hu w]
  cases d <;> simp_all [TypeDesc.isRow]
 have h2:(loadVar ty ⟨b,off,none⟩).run prog w= .ok v w:=by simp[loadVar,Sem.run_bind,hagg,hc]
 simp only[execOp,ho,hx,Instr.loadAt,Instr.sureAddr,Sem.run_bind,Sem.run_pure,h2,rA]
theorem zlr {p:Option Ca} {c:Ca} (h:caE m p c=0):(0<=c.file/\c.file< (m.fl.length:Int)/\0<=c.idx/\c.idx<bkN m c.file/\0<=c.fr/\c.fr< (m.fs.length:Int))/\((zV m c.fr).r≠0/\(zV m c.fr).f=c.file/\(zV m c.fr).x=c.idx)/\∀q,p=some q->¬jJ c<=jJ q:=by
 unfold caE at h
 split at h
 ·cases h
 rename_i h1
 split at h
 ·cases h
 rename_i h2
 refine⟨by omega,⟨fun e=>h2 (.inl e),Classical.byContradiction fun e=>h2 (.inr (.inl e)),Classical.byContradiction fun e=>h2 (.inr (.inr e))⟩,fun q e k=>?_⟩
 subst e;have h:(if jJ c<=jJ q then(2:Int)else 0)=0:=h;rw[if_pos k]at h;cases h
theorem zgl {a:Act} {w:World} (ty:TypeId) (x:Operand) (ho:o.op= .load ty x) (ad:Addr) (hx:a.eval x= .pointer (some ad)) (v:Value) (hc:w.cell? ad=some v) {d:TypeDesc} (hu:Tryz.prog.underlying ty=some d) (hd:d.isRow=false):(execOp a.eval o).run prog w= .ok (.value v) w:=by
 have hagg:(isAgg ty).run prog w= .ok false w:=by
  unfold isAgg;rw[Sem.run_bind,run_underlying hu w]
  cases d <;> simp_all [TypeDesc.isRow]
 have h2:(loadVar ty ad).run prog w= .ok v w:=by simp[loadVar,Sem.run_bind,hagg,hc]
 simp only[execOp,ho,hx,Instr.loadAt,Instr.sureAddr,Sem.run_bind,Sem.run_pure,h2,rA]
theorem ChW.doneD {w:World} {p:Nat} (h:ChW w0 p w V m) (o:jv (fun k=>k<w0.heap.size) w W):zD W V m:=by
 have o':jv (Dr w0.heap.size p V) w W:=o.wide fun k hk=> .inl hk
 have r:=h.rest W o';obtain⟨xs,s1,s2,s3⟩:=h.sp;have far:∀{α:Type} {E:Elt α} {v:Value} {l:List α},zb E w0.heap.size w v l->zr E W v l:=fun hr=>zb.at (base:=w0.heap.size) ⟨zhF hr.1 o (fun g hg e=>by have:=(hr.lt g hg).1;have e:g<w0.heap.size:=e;omega),hr.2⟩
 exact⟨far h.fs,r.sl,r.sb,r.sq,r.db,r.dq,r.fl,far h.ca,⟨xs,far s1,s2,fun i x s hx hs=>s3 i x s hx hs W o'⟩⟩
structure zhj (m:Ma) (c:Ca) (k fi ix:Nat) (f:Fr) (F:Fl):Prop where
 fr:c.fr=(k:Int)
 file:c.file=(fi:Int)
 idx:c.idx=(ix:Int)
 fa:m.fs[k]? =some f
 ff:f.f=(fi:Int)
 fx:f.x=(ix:Int)
 fl:m.fl[fi]? =some F
 sz:0<=F.size/\F.size<=96
 lo:ix<=12
 r:f.r≠0
 bl:ix<F.bl.length
theorem ziB (h0:maW m=0) {c:Ca} (hc:c∈m.ca):∃k fi ix f F,zhj m c k fi ix f F:=by
 obtain⟨⟨a1,a2,a3,a4,a5,a6⟩,⟨b1,b2,b3⟩,-⟩:=zlr ((zO.1 (zbh h0).1.ca).1 c hc);obtain⟨k,hk⟩:∃k:Nat,c.fr=(k:Int):=⟨c.fr.toNat,by omega⟩
 obtain⟨fi,hfi⟩:∃fi:Nat,c.file=(fi:Int):=⟨c.file.toNat,by omega⟩
 obtain⟨ix,hix⟩:∃ix:Nat,c.idx=(ix:Int):=⟨c.idx.toNat,by omega⟩
 obtain⟨f,hf⟩:∃f,m.fs[k]? =some f:=⟨_,gE (by omega)⟩
 obtain⟨F,hF⟩:∃F,m.fl[fi]? =some F:=⟨_,gE (by omega)⟩
 have hfa:zV m c.fr=f:=by unfold zV;rw[hk,tN,gD,hf];rfl
 have hbk:bkN m c.file=(F.bl.length:Int):=by unfold bkN;rw[hfi,tN,gD,hF];rfl
 rw[hfa]at b1 b2 b3;rw[hbk]at a4;obtain⟨s1,s2⟩:=zlz h0 hF;have:=zdj s1.1 s1.2;exact⟨k,fi,ix,f,F,hk,hfi,hix,hf,b2.trans hfi,b3.trans hix,hF,s1,by omega,b1,by omega⟩
def zgd (m:Ma) (bo:Bool) (m':Ma):Prop:=
 (bo=false/\m'=m/\∀(j:Nat) c k fi ix f F,m.ca[j]? =some c->zhj m c k fi ix f F->f.d=true->ZM m.fl m.cnt f.f f.x≠0)\/
 (bo=true/\∃c k fi ix f F,c∈m.ca/\zhj m c k fi ix f F/\f.d=true/\ZM m.fl m.cnt f.f f.x=0/\m'=clM m k f F)
theorem zhj.same {c:Ca} {k ix k' fi' ix':Nat} {f f':Fr} {F F':Fl} (h:zhj m c k fi ix f F) (h':zhj m c k' fi' ix' f' F'):f=f':=by
 have e:k=k':=by have:=h.fr;have:=h'.fr;omega
 subst e;have:=h.fa.symm.trans h'.fa;cases this;rfl
theorem zgZ (V:MaV) (m:Ma) (w:World) (hm:zD w V m) (h0:maW m=0):
  Calls prog 30 #[.agg #[.slice V.f.a V.f.n V.f.c,.int .i64 m.hand,.slice V.s.a V.s.n V.s.c,.slice V.sb.a V.sb.n V.sb.c,.slice V.sq.a V.sq.n V.sq.c,.slice V.db.a V.db.n V.db.c,.slice V.dq.a V.dq.n V.dq.c,.slice V.fl.a V.fl.n V.fl.c,.int .i64 m.cnt,.slice V.ca.a V.ca.n V.ca.c,.slice V.sp.a V.sp.n V.sp.c]] w fun e w'=>(∃(bo:Bool) (m':Ma) (V':MaV),zgd m bo m'/\e= .returned (.tuple #[.agg #[.slice V'.f.a V'.f.n V'.f.c,.int .i64 m'.hand,.slice V'.s.a V'.s.n V'.s.c,.slice V'.sb.a V'.sb.n V'.sb.c,.slice V'.sq.a V'.sq.n V'.sq.c,.slice V'.db.a V'.db.n V'.db.c,.slice V'.dq.a V'.dq.n V'.dq.c,.slice V'.fl.a V'.fl.n V'.fl.c,.int .i64 m'.cnt,.slice V'.ca.a V'.ca.n V'.ca.c,.slice V'.sp.a V'.sp.n V'.sp.c],.bool bo,.int .i64 0])/\∀W,jv (fun k=>k<w.heap.size) w' W->zD W V' m')/\zc w w':=by
 obtain⟨W1,hW1⟩:∃W1,(w.alloc (.cells #[.slice V.f.a V.f.n V.f.c,.int .i64 m.hand,.slice V.s.a V.s.n V.s.c,.slice V.sb.a V.sb.n V.sb.c,.slice V.sq.a V.sq.n V.sq.c,.slice V.db.a V.db.n V.db.c,.slice V.dq.a V.dq.n V.dq.c,.slice V.fl.a V.fl.n V.fl.c,.int .i64 m.cnt,.slice V.ca.a V.ca.n V.ca.c,.slice V.sp.a V.sp.n V.sp.c] 41)).alloc (.cells #[.slice none 0 0,.int .i64 0,.slice none 0 0,.slice none 0 0,.slice none 0 0,.slice none 0 0,.slice none 0 0,.slice none 0 0,.int .i64 0,.slice none 0 0,.slice none 0 0] 41)=W1:=⟨_,rfl⟩;have G1:=gD2 hW1
 obtain⟨b,HB⟩:∃b,Hid (w.heap.size=b):=⟨_,rfl⟩;have X1:Hid (zp W1 b 41 [.slice V.f.a V.f.n V.f.c,.int .i64 m.hand,.slice V.s.a V.s.n V.s.c,.slice V.sb.a V.sb.n V.sb.c,.slice V.sq.a V.sq.n V.sq.c,.slice V.db.a V.db.n V.db.c,.slice V.dq.a V.dq.n V.dq.c,.slice V.fl.a V.fl.n V.fl.c,.int .i64 m.cnt,.slice V.ca.a V.ca.n V.ca.c,.slice V.sp.a V.sp.n V.sp.c]):=dD<|by rw[<-hW1];exact(zp.top w [.slice V.f.a V.f.n V.f.c,.int .i64 m.hand,.slice V.s.a V.s.n V.s.c,.slice V.sb.a V.sb.n V.sb.c,.slice V.sq.a V.sq.n V.sq.c,.slice V.db.a V.db.n V.db.c,.slice V.dq.a V.dq.n V.dq.c,.slice V.fl.a V.fl.n V.fl.c,.int .i64 m.cnt,.slice V.ca.a V.ca.n V.ca.c,.slice V.sp.a V.sp.n V.sp.c] _ HB.out.symm).grew (za _ _)
 have Z1:Hid (zp W1 (b+1) 41 Zc):=dD<|by rw[<-hW1];exact zp.top _ Zc _ (by have:=HB.out;simp;omega)
 have A1:Hid (zD W1 V m):=hm.grew G1.out;have HW1:Hid (_=W1):=hW1;have hwr:=Qf V m W1 A1.out;rw[h0]at hwr;have H0:Hid (maW m=0):=h0;clear hW1 hm h0
 go_enter func30,ntmps30
 go_upto_region 1 with fail;rw[HW1.out,HB.out];obtain⟨x0,x1,x2,x3,x4,x5,x6,x7,x8,x9,x10⟩:=X1.out.box.c11;go_wp2_with fail;refine hwr.mono ?_;clear hwr x0 x1 x2 x3 x4 x5 x6 x7 x8 x9 x10;rintro e W2 ⟨rfl,g2⟩;have X2:=dD (X1.out.grew g2);have Z2:=dD (Z1.out.grew g2);have A2:=dD (A1.out.grew g2);have G2:=dD (G1.out.trans g2);clear g2;have hof:=zdi V m W2 A2.out;obtain⟨x0,x1,x2,x3,x4,x5,x6,x7,x8,x9,x10⟩:=X2.out.box.c11;go_wp2_with fail;refine hof.mono ?_;clear hof x0 x1 x2 x3 x4 x5 x6 x7 x8 x9 x10;rintro e W3 ⟨p,V1,rfl,hc⟩;have C3:Hid (ChW W2 p W3 V1 m):=hc;have HBL:Hid (b+1<W2.heap.size):=Z2.out.box.lt;have Z3:Hid (zp W3 (b+1) 41 Zc):=Z2.out.grew hc.gr;clear hc;obtain⟨⟨caa,can,cac⟩,HCA⟩:∃ca,Hid (V1.ca=ca):=⟨_,rfl⟩;obtain⟨-,-,-,-,-,-,-,n8,-⟩:=C3.out.at.ns;have x9:=C3.out.box.box.c 9 rfl;rw[HCA.out]at x9 n8;dsimp only at x9 n8;have HN8:Hid (can=m.ca.length):=n8;have hcan:can<=9223372036854775807:=by rw[n8];exact C3.out.ca.at.short
 clear n8;go_wp2;clear x9
 go_loopg [23] can (fun gg s23 wr=>∃i:Nat,i<=can/\can - i<=gg/\s23= .int .i64 i/\(∃V',Hid (V'.ca=⟨caa,can,cac⟩)/\Hid (ChW W2 p wr V' m))/\Hid (zp wr (b+1) 41 Zc)/\Hid (∀(j:Nat) c k fi ix f F,j<i->m.ca[j]? =some c->zhj m c k fi ix f F->f.d=true->ZM m.fl m.cnt f.f f.x≠0))
 case atStart=>exact⟨0,nZ _,by omega,rfl,⟨V1,HCA,C3⟩,Z3,fun j c k fi ix f F h=>absurd h (nL _)⟩
 obtain⟨i,hi,hgg,rfl,⟨V5,HCA,C5⟩,Z5,OW⟩:=hrel
 by_cases hlt:i<can
 rotate_left
 ·have hltz:¬(i:Int)< (can:Int):=by omega
  have HRR:Hid (zgd m false m):= .inl ⟨rfl,rfl,fun j c k fi ix f F hj=>OW.out j c k fi ix f F (by have:=(gS.1 hj).1;have:=HN8.out;omega) hj⟩
  obtain⟨r0,r1,r2,r3,r4,r5,r6,r7,r8,r9,r10⟩:=C5.out.box.box.c11;have HZL:Hid (∀v∈chL V5 m,v.oneCell'=true):=dD<|by simp[chL,Value.oneCell']
  go_wp2_with (refine qe rfl 41 (.tmp 2) (.tmp 52) rfl (b+1) rfl (chL V5 m) rfl Z5.out rfl (by kernel_rfl) HZL.out ?_)
  clear r0 r1 r2 r3 r4 r5 r6 r7 r8 r9 r10;intro W6 bx gr6 _;have G6:Hid (zc w W6):=dD<|ze (G2.out.trans C5.out.gr) gr6 (by have:=HB.out;omega)
  have B6:Hid (zp W6 (b+1) 41 (chL V5 m)):=bx;have HF:Hid (∀W,jv (fun k=>k<w.heap.size) W6 W->zD W V5 m):=show∀W,_ from fun W hW=>C5.out.doneD ((jv.grown gr6 (show b+1<W2.heap.size from HBL.out)).trans (hW.wide fun k hk=>Nat.lt_of_lt_of_le hk (bS G2.out)))
  clear bx gr6;go_wp2;refine bodyPost_ret (Zo rfl _ rfl B6.out.box underlying41 rfl (by kernel_rfl)) rfl ⟨⟨false,m,V5,HRR.out,rfl,HF.out⟩,G6.out⟩
 have hltz:(i:Int)< (can:Int):=by omega
 obtain⟨c,HCI⟩:∃c,Hid (m.ca[i]? =some c):=⟨_,gE (by have:=HN8.out;omega)⟩
 obtain⟨k,fi,ix,f,F,his⟩:=ziB H0.out (mG HCI.out);have HIS:Hid (zhj m c k fi ix f F):=his;obtain⟨ad,had,hcl⟩:=C5.out.at.cas i c HCI.out;rw[HCA.out]at had;dsimp only at had;subst had;obtain⟨d0,d1,d2⟩:=hcl wr (zc.refl _);rw[his.fr]at d2;rw[his.file]at d0;rw[his.idx]at d1;clear hcl his;go_upto_region 8 with fail;obtain⟨q,HQ⟩:∃q,Hid (wr.heap.size=q):=⟨_,rfl⟩;obtain⟨W4,hW4⟩:∃W4,wr.alloc (.cells #[.int .i64 (fi:Int),.int .i64 (ix:Int),.int .i64 (k:Int)] 120)=W4:=⟨_,rfl⟩;have G4:=gA hW4
 have Y4:=xPT hW4 HQ
 have hq:¬Dw p V5 q:=fun e=>absurd (C5.out.dlt _ e) (by have:=HQ.out;omega)
 rw[hW4,HQ.out];clear hW4 d0 d1 d2;obtain⟨adf,hadf,hfl⟩:=C5.out.at.frs k f HIS.out.fa;obtain⟨n1,-⟩:=C5.out.at.ns;have hklt:(k:Int)< (V5.f.n:Int):=by
  have:=(gS.1 HIS.out.fa).1;omega
 have HX0:Hid (∀W,zc W4 W->W.cell? ⟨p,0,none⟩=some (.slice (some adf) V5.f.n V5.f.c)):=dD<|fun W hW=>by
  have:=(C5.out.box.box.grew (G4.out.trans hW)).c 0 rfl;rw[hadf]at this;exact this
 obtain⟨fd,HFD⟩:∃fd,Hid (f.d=fd):=⟨_,rfl⟩;have HDC:Hid (∀W,zc W4 W->W.cell? { block:=(adf.add (k*13)).block,off:=(adf.add (k*13)).off+10 }=some (.bool fd)):=dD<|fun W hW=>by
  obtain⟨_,_,_,_,_,_,_,_,_,_,d10,_,_⟩:=hfl W (G4.out.trans hW);rw[<-HFD.out];exact d10
 obtain⟨R,HR⟩:∃R:Bool,Hid (decide (ZM m.fl m.cnt f.f f.x=0)=R):=⟨_,rfl⟩;obtain⟨N,HN⟩:∃N,Hid (clM m k f F=N):=⟨_,rfl⟩;have HCL:Hid (∀W,zc W4 W->Calls prog 74 #[.pointer (some ⟨p,0,none⟩),.int .i64 (k:Int)] W fun e w'=>e= .returned (.bool R)/\JS W2 p W V5 N w'):=dD<|fun W hW=>by
  rw[<-HR.out,<-HN.out];exact zfl (C5.out.grew (G4.out.trans hW)) k f HIS.out.fa fi ix F HIS.out.ff HIS.out.fx HIS.out.fl HIS.out.sz HIS.out.lo
 clear hadf hfl n1;have gd:zc W4 W4.drew:=show Below _ _ _ from(bR _ _).drew
 obtain⟨I,HI⟩:∃I:World->Prop,Hid (∀u,I u↔zp u q 120 [.int .i64 (fi:Int),.int .i64 (ix:Int),.int .i64 (k:Int)]):=⟨fun u=>_,fun _=>Iff.rfl⟩
 have hI0:I W4.drew:=(HI.out _).2 (Y4.out.grew gd);have hF0:zc W4 W4.drew:=gd;have hy2:∀y:zj I,y.world.cell? ⟨q,2,none⟩=some (.int .i64 (k:Int)):=fun y=>((HI.out _).1 y.holds).box.c 2 rfl
 have hne:Nonempty (zj I):=⟨⟨_,hI0⟩⟩;refine zdy (I:=I) 17 [(15,fun v=>v= .bool R)] [5,10] (fun u=>zc W4 u) hI0 hF0 qn (by kernel_rfl) rfl rfl (by decide) ?hS (by kernel_rfl) (by kernel_rfl) ?_
 case hS=>
  intro x hx;simp only[mC,nM,or_false]at hx;subst hx;exact⟨_,rfl⟩
 simp only[List.take,List.drop];refine jZ rfl rfl rfl (fun K hK=>?_);go_big_quiet_op;refine hK _ ?_;clear hK
 refine zh0 (.tmp 27) ⟨p,0,none⟩ rfl rfl rfl rfl ?_;simp only[Act.put,sB,sS,sZ];iterate 3 (refine jZ rfl rfl rfl (fun K hK=>?_);go_big_quiet_op;refine hK _ ?_;clear hK)
 refine zd2 rfl rfl rfl (.slice (some adf) V5.f.n V5.f.c) (fun w' _ hF'=>?_) ?_
 ·exact zgm 26 (.tmp 31) rfl p 0 rfl (.slice (some adf) V5.f.n V5.f.c) (HX0.out w' hF') underlying26 rfl
 simp only[Act.put,sB,sS,sZ];iterate 4 (refine jZ rfl rfl rfl (fun K hK=>?_);go_big_quiet_op;refine hK _ ?_;clear hK)
 refine zd2 rfl rfl rfl (.bool fd) (fun w' _ hF'=>?_) ?_
 ·exact zgl 4 (.tmp 36) rfl _ rfl (.bool fd) (HDC.out w' hF') underlying4 rfl
 simp only[Act.put,sB,sS,sZ];refine jZ rfl rfl rfl (fun K hK=>?_);go_big_quiet_op;refine hK _ ?_;clear hK
 cases fd with
 | false=>
  iterate 4 (refine zhZ rfl ?_;simp only[Act.put,sB,sS,sZ])
  refine jZ rfl rfl rfl (fun K hK=>?_);go_big_quiet_op;refine hK _ ?_;clear hK
  refine zfO fun W9 hI8 hF8=>?_
  have G9:=dD (G4.out.trans hF8);have OW':Hid (∀(j:Nat) c k fi ix f F,j<i+1->m.ca[j]? =some c->zhj m c k fi ix f F->f.d=true->ZM m.fl m.cnt f.f f.x≠0):=show∀j,_ from fun j c' k' fi' ix' f' F' hj hc' his' hd'=>by
   by_cases e:j=i
   ·subst e;rw[HCI.out]at hc';cases hc';rw[<-HIS.out.same his',HFD.out]at hd';cases hd'
   exact OW.out j c' k' fi' ix' f' F' (by omega) hc' his' hd'
  clear hI8 hF8 hI0 hF0 hy2 hne gd hq;go_wp2
  go_roundg (can -(i+1))
  case measure=>omega
  exact⟨i+1,by omega,by omega,by go_num,⟨V5,HCA,C5.out.grew G9.out⟩,Z5.out.grew G9.out,OW'⟩
 | true=>
  iterate 3 (refine jZ rfl rfl rfl (fun K hK=>?_);go_big_quiet_op;refine hK _ ?_;clear hK)
  refine zhY rfl rfl (fun _ u=>JS W2 p wr V5 N u) (fun w' hI' hF'=>?_) (fun v1 hv=>?_)
  ·refine zK.call [.pointer (some ⟨p,0,none⟩),.int .i64 (k:Int)] rfl func74 rfl rfl rfl ?_;refine(HCL.out w' hF').mono ?_;rintro e w'' ⟨rfl,hch⟩;have g9:=JS.of_grew (G4.out.trans hF') hch;obtain⟨V2,_,_,o2,_⟩:=hch;exact⟨_,rfl,(HI.out _).2 (((HI.out _).1 hI').chg o2 hq),rfl,g9⟩
  subst hv;simp only[Act.put,sB,sS,sZ];refine jZ rfl rfl rfl (fun K hK=>?_);go_big_quiet_op;refine hK _ ?_;clear hK
  refine zfO fun W9 hI8 hF8=>?_
  obtain⟨V9,e9,c9,o9,d9⟩:=hF8;have C9:Hid (ChW W2 p W9 V9 N):=c9;have E9:Hid (V9.ca=⟨some ad,can,cac⟩):=show _=_ from e9.trans HCA.out
  have Z9:Hid (zp W9 (b+1) 41 Zc):=Z5.out.outD o9 (fun e=>by have:=C5.out.dlo _ e;have:=HBL.out;omega)
  clear hI8 e9 c9 o9 d9 hI0 hF0 hy2 hne gd hq
  cases R with
  | true=>
   have HRR:Hid (zgd m true N):= .inr ⟨rfl,c,k,fi,ix,f,F,mG HCI.out,HIS.out,HFD.out,of_decide_eq_true HR.out,HN.out.symm⟩;have Z5:Hid (zp W9 (b+1) 41 Zc):=Z9;obtain⟨r0,r1,r2,r3,r4,r5,r6,r7,r8,r9,r10⟩:=C9.out.box.box.c11;have HZL:Hid (∀v∈chL V9 N,v.oneCell'=true):=show∀v∈chL V9 N,_ by simp[chL,Value.oneCell']
   go_wp2_with (refine qe rfl 41 (.tmp 2) (.tmp 47) rfl (b+1) rfl (chL V9 N) rfl Z5.out rfl (by kernel_rfl) HZL.out ?_)
   clear r0 r1 r2 r3 r4 r5 r6 r7 r8 r9 r10;intro W6 bx gr6 _;have G6:Hid (zc w W6):=dD<|ze (G2.out.trans C9.out.gr) gr6 (by have:=HB.out;omega)
   have B6:Hid (zp W6 (b+1) 41 (chL V9 N)):=bx;have HF:Hid (∀W,jv (fun k=>k<w.heap.size) W6 W->zD W V9 N):=show∀W,_ from fun W hW=>C9.out.doneD ((jv.grown gr6 (show b+1<W2.heap.size from HBL.out)).trans (hW.wide fun k hk=>Nat.lt_of_lt_of_le hk (bS G2.out)))
   clear bx gr6;go_wp2;refine bodyPost_ret (Zo rfl _ rfl B6.out.box underlying41 rfl (by kernel_rfl)) rfl ⟨⟨true,N,V9,HRR.out,rfl,HF.out⟩,G6.out⟩
  | false=>
   have HNM:Hid (N=m):=dD<|by
    rw[<-HN.out];unfold clM;rw[if_neg (of_decide_eq_false HR.out)]
   rw[HNM.out]at C9;have OW':Hid (∀(j:Nat) c k fi ix f F,j<i+1->m.ca[j]? =some c->zhj m c k fi ix f F->f.d=true->ZM m.fl m.cnt f.f f.x≠0):=dD<|fun j c' k' fi' ix' f' F' hj hc' his' hd'=>by
    by_cases e:j=i
    ·subst e;rw[HCI.out]at hc';cases hc';rw[<-HIS.out.same his'];exact of_decide_eq_false HR.out
    exact OW.out j c' k' fi' ix' f' F' (by omega) hc' his' hd'
   go_wp2
   go_roundg (can -(i+1))
   case measure=>omega
   exact⟨i+1,by omega,by omega,by go_num,⟨V9,E9,C9⟩,Z9,OW'⟩
end
section
theorem zeo {α:Type} (P:α->Bool):∀{l:List α} {k:Nat} {x y:α},l[k]? =some x->(l.set k y).countP P+(P x).toNat=l.countP P+(P y).toNat
 | [],k,x,y,h=>by simp at h
 | a :: l,0,x,y,h=>by
  have:a=x:=by simpa using h
  subst this;rw[sZ,List.countP_cons,List.countP_cons]
  cases P a <;> cases P y <;> simp
 | a :: l,k+1,x,y,h=>by
  have:=zeo P (l:=l) (k:=k) (x:=x) (y:=y) (by rw[List.getElem?_cons_succ]at h;exact h)
  rw[sS,List.countP_cons,List.countP_cons];omega
def jo (fs:List Fr):Nat:=fs.countP fun f=>f.d
theorem zfj {fs:List Fr} {k:Nat} {fr:Fr} (hk:fs[k]? =some fr) (hd:fr.d=true):jo (fs.set k { fr with d:=false })+1=jo fs:=by
 have h:jo (fs.set k { fr with d:=false })+fr.d.toNat=jo fs+(false).toNat:=zeo _ hk;rw[hd]at h;exact h
theorem jd {fs:List Fl} {b:Int}:zT fs b=true↔∃(i:Nat) (f:Fl) (j:Nat),fs[i]? =some f/\f.bl[j]? =some b:=by
 unfold zT;rw[List.any_eq_true];constructor
 ·rintro⟨f,hf,h⟩;obtain⟨i,hi⟩:=List.getElem?_of_mem hf;obtain⟨j,hj⟩:=List.getElem?_of_mem (List.contains_iff_mem.1 h);exact⟨i,f,j,hi,hj⟩
 rintro⟨i,f,j,hi,hj⟩;exact⟨f,mG hi,List.contains_iff_mem.2 (mG hj)⟩
theorem Qh {l:List Int} {b:Int} (h:b∈l) (hb:b≠-1):b∈jV l:=List.mem_filter.2 ⟨h,by simpa using hb⟩
theorem zbj {b:Int} (hb:b≠-1):∀{l:List Int} {j k:Nat},(jV l).Nodup->l[j]? =some b->l[k]? =some b->j=k
 | [],j,k,_,h,_=>by simp at h
 | a :: l,j,k,hn,h1,h2=>by
  have hn':(jV l).Nodup:=by
   unfold jV at hn⊢;rw[List.filter_cons]at hn
   split at hn
   ·exact(List.nodup_cons.1 hn).2
   exact hn
  have key:a=b->b∉l:=fun e hm=>by
   subst e;unfold jV at hn;rw[List.filter_cons,if_pos (by simpa using hb)]at hn
   exact(List.nodup_cons.1 hn).1 (Qh hm hb)
  cases j with
  | zero=>
   cases k with
   | zero=>rfl
   | succ k=>
    rw[List.getElem?_cons_succ]at h2;exact absurd (mG h2) (key (by simpa using h1))
  | succ j=>
   cases k with
   | zero=>
    rw[List.getElem?_cons_succ]at h1;exact absurd (mG h1) (key (by simpa using h2))
   | succ k=>
    rw[List.getElem?_cons_succ]at h1 h2;rw[zbj hb hn' h1 h2]
theorem zbT {fs:List Fl} {f:Fl} {b:Int} (h1:fs[i]? =some f) (h2:f.bl[j]? =some b):b∈Za fs:=List.mem_flatMap.2 ⟨f,mG h1,mG h2⟩
theorem zcA {b:Int} (hb:b≠-1):∀{fs:List Fl} {i k j l:Nat} {f g:Fl},(jV (Za fs)).Nodup->fs[i]? =some f->f.bl[j]? =some b->fs[k]? =some g->g.bl[l]? =some b->i=k/\j=l
 | [],i,k,j,l,f,g,_,h,_,_,_=>by simp at h
 | a :: fs,i,k,j,l,f,g,hn,h1,h2,h3,h4=>by
  have hsp:jV (Za (a :: fs))=jV a.bl++jV (Za fs):=by
   unfold jV Za;rw[List.flatMap_cons,List.filter_append]
  rw[hsp,List.nodup_append]at hn;obtain⟨n1,n2,n3⟩:=hn
  cases i with
  | zero=>
   have ea:a=f:=by simpa using h1
   subst ea
   cases k with
   | zero=>
    have eg:a=g:=by simpa using h3
    subst eg;exact⟨rfl,zbj hb n1 h2 h4⟩
   | succ k=>
    rw[List.getElem?_cons_succ]at h3;exact absurd rfl (n3 b (Qh (mG h2) hb) b (Qh (zbT h3 h4) hb))
  | succ i=>
   rw[List.getElem?_cons_succ]at h1
   cases k with
   | zero=>
    have eg:a=g:=by simpa using h3
    subst eg;exact absurd rfl (n3 b (Qh (mG h4) hb) b (Qh (zbT h1 h2) hb))
   | succ k=>
    rw[List.getElem?_cons_succ]at h3;obtain⟨e1,e2⟩:=zcA hb n2 h1 h2 h3 h4;exact⟨by rw[e1],e2⟩
theorem ziC {fs:List Fl} {cnt:Int} {file idx:Nat} {f:Fl} (h:stW fs cnt=0) (hf:fs[file]? =some f) (hj:f.bl[idx]? =some (b:Int)):
  fs.set file ⟨f.size,f.bl.set idx (b:Int)⟩=fs/\(∀x,zT fs x=true↔(zT fs x=true/\x≠-1)\/x=(b:Int)\/(x=-1/\zT fs x=true))/\∀(i j:Nat) g,fs[i]? =some g->g.bl[j]? =some (b:Int)->i=file/\j=idx:=by
 obtain⟨_,_,h5⟩:=(qg fs cnt).1 h;have hb:(b:Int)≠-1:=by omega
 refine⟨?_,fun x=>?_,fun i j g h1 h2=>zcA hb h5 h1 h2 hf hj⟩
 ·have e1:f.bl.set idx (b:Int)=f.bl:=by
   apply List.ext_getElem?
   intro q;rw[List.getElem?_set]
   split
   ·rename_i e
    subst e;rw[if_pos (gS.1 hj).1,hj]
   rfl
  rw[e1]
  apply List.ext_getElem?
  intro q;rw[List.getElem?_set]
  split
  ·rename_i e
   subst e;rw[if_pos (gS.1 hf).1,hf]
  rfl
 constructor
 ·intro hu
  by_cases e:x=-1
  ·exact .inr (.inr ⟨e,hu⟩)
  exact .inl ⟨hu,e⟩
 rintro(⟨hu,_⟩|rfl|⟨_,hu⟩)
 ·exact hu
 ·exact jd.2 ⟨file,f,idx,hf,hj⟩
 exact hu
theorem ziD {fs:List Fl} {cnt:Int} {file idx:Nat} {f:Fl} (h:stW fs cnt=0) (hf:fs[file]? =some f) (hj:f.bl[idx]? =some (-1)) (hb:b∈jW fs cnt):
  stW (fs.set file ⟨f.size,f.bl.set idx (b:Int)⟩) cnt=0/\(∀x,zT (fs.set file ⟨f.size,f.bl.set idx (b:Int)⟩) x=true↔(zT fs x=true/\x≠-1)\/x=(b:Int)\/(x=-1/\zT (fs.set file ⟨f.size,f.bl.set idx (b:Int)⟩) x=true))/\zT fs (b:Int)=false/\∀(i j:Nat) g,fs[i]? =some g->g.bl[j]? =some (b:Int)->i=file/\j=idx:=by
 have hu:zT fs (b:Int)=false:=by
  have:=(List.mem_filter.1 hb).2
  simpa using this
 have hfl:=(gS.1 hf).1;have hjl:=(gS.1 hj).1;refine⟨(zgM h hf hj hb).1,fun x=>?_,hu,fun i j g h1 h2=>?_⟩
 ·constructor
  ·intro hx
   by_cases e:x=-1
   ·exact .inr (.inr ⟨e,hx⟩)
   obtain⟨i,g,j,h1,h2⟩:=jd.1 hx
   by_cases e1:file=i
   ·subst e1;rw[sF hfl]at h1;cases h1;simp only at h2
    by_cases e2:idx=j
    ·subst e2;rw[sF hjl]at h2;cases h2;exact .inr (.inl rfl)
    rw[sN e2]at h2;exact .inl ⟨jd.2 ⟨file,f,j,hf,h2⟩,e⟩
   rw[sN e1]at h1;exact .inl ⟨jd.2 ⟨i,g,j,h1,h2⟩,e⟩
  rintro(⟨hx,e⟩|rfl|⟨_,hx⟩)
  ·obtain⟨i,g,j,h1,h2⟩:=jd.1 hx
   by_cases e1:i=file
   ·subst e1;rw[hf]at h1;cases h1;have hne:idx≠j:=fun e2=>by
     subst e2;rw[hj]at h2;cases h2;exact e rfl
    exact jd.2 ⟨i,⟨f.size,f.bl.set idx (b:Int)⟩,j,by rw[sF hfl],by simp only;rw[sN hne];exact h2⟩
   exact jd.2 ⟨i,g,j,by rw[sN (fun e2=>e1 e2.symm)];exact h1,h2⟩
  ·exact jd.2 ⟨file,⟨f.size,f.bl.set idx (b:Int)⟩,idx,by rw[sF hfl],by simp only;rw[sF hjl]⟩
  exact hx
 have:=jd.2 ⟨i,g,j,h1,h2⟩;rw[hu]at this;cases this
end
section
open Go.RowKit
theorem zls (h:Rt m) {ix:Nat} {F:Fl} (hF:m.fl[fi]? =some F) (hb:ix<F.bl.length) (h0:ZM m.fl m.cnt (fi:Int) (ix:Int)=0):
  ∃b:Nat,(b:Int)<m.cnt/\zft m.fl m.cnt (fi:Int) (ix:Int)=(b:Int)/\zhi m.fl m.cnt (fi:Int) (ix:Int)=m.cnt/\zdm m.fl m.cnt (fi:Int) (ix:Int)=m.fl.set fi ⟨F.size,F.bl.set ix (b:Int)⟩/\(F.bl[ix]? =some (b:Int)\/(F.bl[ix]? =some (-1)/\b∈jW m.fl m.cnt)):=by
 have hst:=h.inv.st;have e1:zg9 m.fl (fi:Int)=F.bl:=by unfold zg9;rw[tN,hF]
 have e2:zlb m.fl (fi:Int)=F.size:=by unfold zlb;rw[tN,hF]
 obtain⟨z,hz⟩:∃z,F.bl[ix]? =some z:=⟨_,gE hb⟩;have e3:F.bl.getD ix 0=z:=by rw[gD,hz];rfl
 obtain⟨c1,c2,_⟩:=(qg _ _).1 hst;have key:∃b:Nat,(b:Int)<m.cnt/\zkg m.fl m.cnt (fi:Int) (ix:Int)=(b:Int)/\(z=(b:Int)\/(z=-1/\b∈jW m.fl m.cnt)):=by
  unfold zkg;rw[e1,tN,e3]
  by_cases ez:z=-1
  ·have hl:jW m.fl m.cnt≠[]:=fun e=>by
    unfold ZM at h0;have hfl:=(gS.1 hF).1;rw[if_pos hst,if_pos (Zh.2 ⟨by omega,by omega⟩),e1,if_pos (Zh.2 ⟨by omega,by omega⟩),tN,e3,if_pos ez,if_pos e]at h0
    cases h0
   cases hll:jW m.fl m.cnt with
   | nil=>exact absurd hll hl
   | cons b l=>
    have hm:b∈jW m.fl m.cnt:=by rw[hll];exact List.mem_cons_self ..
    have hbn:b<m.cnt.toNat:=List.mem_range.1 (List.mem_filter.1 hm).1;refine⟨b,by omega,by rw[if_pos ez];rfl,.inr ⟨ez,List.mem_cons_self ..⟩⟩
  rw[if_neg ez];obtain⟨_,_,k3⟩:=c2 F (mG hF);have:=k3 z (mG hz);exact⟨z.toNat,by omega,by omega,.inl (by omega)⟩
 obtain⟨b,k1,k2,k3⟩:=key;refine⟨b,k1,?_,?_,?_,?_⟩
 ·unfold zft;rw[if_pos h0,k2]
 ·unfold zhi;rw[if_pos h0]
 ·unfold zdm;rw[if_pos h0,e1,e2,k2,tN,tN]
 rw[hz]
 rcases k3 with e|⟨e,e'⟩
 ·exact .inl (by rw[e])
 exact .inr ⟨by rw[e],e'⟩
theorem zhr (ps:List (List Int)) (qs:List (Int × List Int)) (hin:∀q∈qs,∃i:Nat,q.1=(i:Int)/\i<ps.length) (i:Nat):(ju ps qs)[i]? =ps[i]?\/∃q∈qs,q.1=(i:Int):=by
 unfold ju
 split
 ·rename_i h4
  cases qs with
  | nil=>cases h4
  | cons q l=>
   simp only[List.headD_cons];obtain⟨j,hj,_⟩:=hin q (List.mem_cons_self ..)
   by_cases e:i=j
   ·exact .inr ⟨q,List.mem_cons_self ..,by rw[e];exact hj⟩
   rw[hj,tN,sN (fun h=>e h.symm)]
   exact .inl rfl
 exact .inl rfl
theorem zjY (h:Rt m) {c:Ca} {k ix:Nat} {f:Fr} {F:Fl} (hc:c∈m.ca) (hi:zhj m c k fi ix f F) (h0:ZM m.fl m.cnt f.f f.x=0):Rt (clM m k f F):=by
 have h0':=h0;rw[hi.ff,hi.fx]at h0;obtain⟨b,b1,b2,b3,b4,b5⟩:=zls h hi.fl hi.bl h0;obtain⟨d1,d2,d3⟩:=jT h.inv.dok;have hcnt:=h.inv.cnt;have hwa:zw m.db.length m.dq (b:Int)=0:=by
  unfold zw;rw[if_pos h.inv.dok,if_pos (by simp[jk];omega)]
 have hst:=h.inv.st;have hP:∀pg:List Int,wrM m pg f.f f.x=zhf m fi ix F (b:Int) (ju m.db m.dq) (jy m.dq (b:Int) pg):=fun pg=>by
  unfold wrM zhf;rw[if_pos h0',hi.ff,hi.fx,b2,b3,b4];unfold jD jK;rw[if_pos hwa,if_pos hwa]
 have hR:∀pg:List Int,Rt (zhf m fi ix F (b:Int) (ju m.db m.dq) (jy m.dq (b:Int) pg)):=fun pg=>by
  have hub:stW (m.fl.set fi ⟨F.size,F.bl.set ix (b:Int)⟩) m.cnt=0/\(∀x,zT (m.fl.set fi ⟨F.size,F.bl.set ix (b:Int)⟩) x=true↔(zT m.fl x=true/\x≠-1)\/x=(b:Int)\/(x=-1/\zT (m.fl.set fi ⟨F.size,F.bl.set ix (b:Int)⟩) x=true))/\(F.bl[ix]? =some (b:Int)\/zT m.fl (b:Int)=false)/\∀(i j:Nat) g,m.fl[i]? =some g->g.bl[j]? =some (b:Int)->i=fi/\j=ix:=by
   rcases b5 with e|⟨e,e'⟩
   ·obtain⟨q1,q2,q3⟩:=ziC hst hi.fl e;rw[q1];exact⟨hst,q2,.inl e,q3⟩
   obtain⟨q1,q2,q3,q4⟩:=ziD hst hi.fl e e';exact⟨q1,q2,.inr q3,q4⟩
  obtain⟨u1,u2,u3,u4⟩:=hub;exact(ziE h hi.fl u1 u2 (zah _ _) (zba hwa) (zhr _ _ d3) (fun q hq=>by
   unfold jy at hq
   rcases List.mem_append.1 hq with e|e
   ·refine .inr ⟨q,?_,rfl⟩
    split at e
    ·exact List.mem_of_mem_tail e
    exact e
   simp only[List.mem_singleton]at e;exact .inl (by rw[e])) (fun i hne=>zeN hwa hne) u3 ⟨c,hc,hi.file,hi.idx⟩ u4).1.1
 unfold clM;rw[if_pos h0',hP];have hk:(zhf m fi ix F (b:Int) (ju m.db m.dq) (jy m.dq (b:Int) (zag (pgL f.p) f.x F.size))).fs[k]? =some f:=hi.fa;exact(zjp (hR _) hk hi.r f.u false).1
theorem zf0 {k:Nat} {f:Fr} {F:Fl} (h0:ZM m.fl m.cnt f.f f.x=0):(clM m k f F).fs=m.fs.set k { f with d:=false }:=by
 unfold clM;rw[if_pos h0]
theorem ZJ (V:MaV) (m:Ma) (w:World) (hm:zD w V m) (hf:m.fs.length<=40):
  Calls prog 32 #[.agg #[.slice V.f.a V.f.n V.f.c,.int .i64 m.hand,.slice V.s.a V.s.n V.s.c,.slice V.sb.a V.sb.n V.sb.c,.slice V.sq.a V.sq.n V.sq.c,.slice V.db.a V.db.n V.db.c,.slice V.dq.a V.dq.n V.dq.c,.slice V.fl.a V.fl.n V.fl.c,.int .i64 m.cnt,.slice V.ca.a V.ca.n V.ca.c,.slice V.sp.a V.sp.n V.sp.c]] w fun e w'=>e= .returned (.int .i64 (jo m.fs:Int))/\zc w w':=by
 obtain⟨n1,-⟩:=hm.ns;obtain⟨fa,HFA⟩:∃fa,Hid (V.f.a=fa):=⟨_,rfl⟩;have HFR:Hid (zae w fa m.fs):=dD<|by rw[<-HFA.out];exact hm.frs
 obtain⟨fn,HFN⟩:∃fn,Hid (m.fs.length=fn):=⟨_,rfl⟩;rw[HFN.out]at n1 hf;have HN1:Hid (V.f.n=fn):=n1;clear n1;obtain⟨W0,hW0⟩:∃W0,w.alloc (.cells #[.slice V.f.a V.f.n V.f.c,.int .i64 m.hand,.slice V.s.a V.s.n V.s.c,.slice V.sb.a V.sb.n V.sb.c,.slice V.sq.a V.sq.n V.sq.c,.slice V.db.a V.db.n V.db.c,.slice V.dq.a V.dq.n V.dq.c,.slice V.fl.a V.fl.n V.fl.c,.int .i64 m.cnt,.slice V.ca.a V.ca.n V.ca.c,.slice V.sp.a V.sp.n V.sp.c] 41)=W0:=⟨_,rfl⟩;have G0:=gA hW0
 have X0:=xA hW0
 have HW0:Hid (_=W0):=hW0;have HZF:Hid (jo m.fs=(m.fs.take fn).countP fun f=>f.d):=show _=_ by rw[<-HFN.out,List.take_length];rfl
 clear hW0 hm
 go_enter func32,ntmps32
 go_upto_region 2 with fail;rw[HW0.out];have x0:=X0.out.c 0 rfl;rw[HN1.out,HFA.out]at x0;go_wp2;clear x0
 go_loopg [3,10] fn (fun gg s3 s10 wr=>∃kk:Nat,kk<=fn/\fn - kk<=gg/\s3= .int .i64 (((m.fs.take kk).countP fun f=>f.d:Nat):Int)/\s10= .int .i64 kk/\Hid (zc w wr))
 case atStart=>exact⟨0,nZ _,by omega,rfl,rfl,G0.out⟩
 obtain⟨kk,hkk,hg,rfl,rfl,GW⟩:=hrel
 by_cases hlt:kk<fn
 ·have hltz:(kk:Int)< (fn:Int):=by omega
  obtain⟨f,HK⟩:∃f,Hid (m.fs[kk]? =some f):=⟨_,gE (by rw[HFN.out];exact hlt)⟩
  obtain⟨ad,rfl,hl⟩:=HFR.out kk f HK.out;obtain⟨d0,d1,d2,d3,d4,d5,d6,d7,d8,d9,d10,d11,d12⟩:=hl wr GW.out;clear hl;have HC:Hid ((m.fs.take (kk+1)).countP (fun f=>f.d)=(m.fs.take kk).countP (fun f=>f.d)+(if f.d=true then 1 else 0)):=zcv _ HK.out
  have HCL:Hid ((m.fs.take kk).countP (fun f=>f.d)<=kk):=dD<|nT List.countP_le_length (by simp;omega)
  generalize hcn:(m.fs.take kk).countP (fun f=>f.d)=cn at HC HCL
  clear hcn;have hcl:cn<=kk:=HCL.out;go_upto_region 5 with fail;clear d0 d1 d2 d3 d4 d5 d6 d7 d8 d9 d10 d11 d12;obtain⟨W1,hW1⟩:∃W1,wr.alloc (.cells #[.int .u8 f.p.b0,.int .u8 f.p.b1,.int .u8 f.p.b2,.int .u8 f.p.b3,.int .u8 f.p.b4,.int .u8 f.p.b5,.int .u8 f.p.b6,.int .u8 f.p.b7,.int .i64 f.r,.bool f.u,.bool f.d,.int .i64 f.f,.int .i64 f.x] 53)=W1:=⟨_,rfl⟩;have g1:=gP hW1
  have F1:=xA hW1
  have G1:=dD (GW.out.trans g1);rw[hW1];clear hW1 g1;obtain⟨fd,HFD⟩:∃fd,Hid (f.d=fd):=⟨_,rfl⟩;have f8:=F1.out.c 10 rfl;rw[HFD.out]at f8
  cases fd with
  | true=>
   have HC1:Hid ((m.fs.take (kk+1)).countP (fun f=>f.d)=cn+1):=dD<|by rw[HC.out,if_pos HFD.out]
   go_wp2
   go_roundg (fn -(kk+1))
   case measure=>omega
   exact⟨kk+1,by omega,by omega,by rw[HC1.out];go_num,by go_num,G1.out⟩
  | false=>
   have HC1:Hid ((m.fs.take (kk+1)).countP (fun f=>f.d)=cn):=dD<|by rw[HC.out,if_neg (by rw[HFD.out];decide)];rfl
   go_wp2
   go_roundg (fn -(kk+1))
   case measure=>omega
   exact⟨kk+1,by omega,by omega,by rw[HC1.out],by go_num,G1.out⟩
 have hltz:¬(kk:Int)< (fn:Int):=by omega
 have:kk=fn:=by omega
 subst this;rw[<-HZF.out];obtain⟨zf,HZ⟩:∃zf,Hid (jo m.fs=zf):=⟨_,rfl⟩;rw[HZ.out];go_wp2;go_ret;exact⟨by rw[HZ.out];rfl,GW.out⟩
def bkC (l:List Int):Nat:=l.countP fun b=>decide (0<=b)
def zaO:List Fl->Nat
 | []=>0
 | f :: l=>bkC f.bl+zaO l
theorem zdB:∀{fs:List Fl} {i:Nat} {f:Fl},fs[i]? =some f->zaO (fs.take (i+1))=zaO (fs.take i)+bkC f.bl
 | [],_,_,h=>by simp at h
 | g :: l,0,f,h=>by
  simp only[List.getElem?_cons_zero,Option.some.injEq]at h;subst h
  simp[zaO]
 | g :: l,i+1,f,h=>by
  simp only[List.getElem?_cons_succ]at h;have:=zdB h;simp only[List.take_succ_cons,zaO];omega
theorem zhw:∀{fs:List Fl},(∀f∈fs,f.bl.length<=12)->zaO fs<=12*fs.length
 | [],_=>nR _
 | f :: l,h=>by
  have h1:=zhw (fs:=l) fun g hg=>h g (List.mem_cons_of_mem _ hg)
  have h2:bkC f.bl<=f.bl.length:=List.countP_le_length;have h3:=h f (List.mem_cons_self ..);simp only[zaO,List.length_cons];omega
theorem zgN (V:MaV) (m:Ma) (w:World) (hm:zD w V m) (hst:stW m.fl m.cnt=0):
  Calls prog 33 #[.agg #[.slice V.f.a V.f.n V.f.c,.int .i64 m.hand,.slice V.s.a V.s.n V.s.c,.slice V.sb.a V.sb.n V.sb.c,.slice V.sq.a V.sq.n V.sq.c,.slice V.db.a V.db.n V.db.c,.slice V.dq.a V.dq.n V.dq.c,.slice V.fl.a V.fl.n V.fl.c,.int .i64 m.cnt,.slice V.ca.a V.ca.n V.ca.c,.slice V.sp.a V.sp.n V.sp.c]] w fun e w'=>e= .returned (.bool (decide (m.cnt -(zaO m.fl:Int)=0)))/\zc w w':=by
 obtain⟨⟨s1,s2,s3⟩,s4,_⟩:=(qg _ _).1 hst;have h12:∀f∈m.fl,f.bl.length<=12:=fun f hf=>by
  obtain⟨k1,k2,_⟩:=s4 f hf;have:=zdj k1.1 k1.2;omega
 have H12:Hid (∀f∈m.fl,f.bl.length<=12):=dD<|h12
 obtain⟨a,c,hfe,_,hrow⟩:=qd.rows hm.fl;simp only[vJ]at hfe;obtain⟨hfa,hfn,hfc⟩:=hfe;obtain⟨n,HN⟩:∃n,Hid (m.fl.length=n):=⟨_,rfl⟩;rw[HN.out]at hfn s1;have HR:Hid (Jh w a m.fl):=hrow;have HFE:Hid (V.fl.a=a/\V.fl.n=n):=show _/\_ from⟨hfa,hfn⟩
 obtain⟨R,HRR⟩:∃R:Bool,Hid (decide (m.cnt -(zaO m.fl:Int)=0)=R):=⟨_,rfl⟩;rw[HRR.out];have HZF:Hid (zaO (m.fl.take n)=zaO m.fl):=dD<|by rw[<-HN.out,List.take_length]
 have HUL:Hid (∀i,zaO (m.fl.take i)<=60):=dD<|fun i=>by
  have h1:=zhw (fs:=m.fl.take i) fun f hf=>h12 f (List.mem_of_mem_take hf)
  have h2:(m.fl.take i).length<=n:=by rw[List.length_take,HN.out];omega
  omega
 obtain⟨W0,hW0⟩:∃W0,w.alloc (.cells #[.slice V.f.a V.f.n V.f.c,.int .i64 m.hand,.slice V.s.a V.s.n V.s.c,.slice V.sb.a V.sb.n V.sb.c,.slice V.sq.a V.sq.n V.sq.c,.slice V.db.a V.db.n V.db.c,.slice V.dq.a V.dq.n V.dq.c,.slice V.fl.a V.fl.n V.fl.c,.int .i64 m.cnt,.slice V.ca.a V.ca.n V.ca.c,.slice V.sp.a V.sp.n V.sp.c] 41)=W0:=⟨_,rfl⟩;have G0:=gA hW0
 have X0:=xA hW0
 have HW0:Hid (_=W0):=hW0;obtain⟨cnt,HCN⟩:∃cnt,Hid (m.cnt=cnt):=⟨_,rfl⟩;rw[HCN.out]at s2 s3;clear hW0 hm hfa hfn hfc hrow hst s4 h12
 go_enter func33,ntmps33
 go_upto_region 1 with fail;rw[HW0.out];have x7:=X0.out.c 7 rfl;have x8:=X0.out.c 8 rfl;rw[HFE.out.1,HFE.out.2]at x7;rw[HCN.out]at x8;go_wp2;clear x7 x8
 go_loopg [3,15] n (fun gg s3 s15 wr=>∃i:Nat,i<=n/\n - i<=gg/\s3= .int .i64 (cnt -(zaO (m.fl.take i):Int))/\s15= .int .i64 i/\Hid (zc w wr))
 case atStart=>exact⟨0,nZ _,by omega,by simp[zaO],rfl,G0.out⟩
 obtain⟨i,hi,hg,rfl,rfl,BW⟩:=hrel
 by_cases hlt:i<n
 ·have hltz:(i:Int)< (n:Int):=by omega
  obtain⟨q,HQ⟩:∃q,Hid (m.fl[i]? =some q):=⟨_,gE (by rw[HN.out];exact hlt)⟩
  obtain⟨ad,rfl,xa,xc,hra,hl⟩:=HR.out i q HQ.out;obtain⟨d0,d1⟩:=hl wr BW.out;have hqbig:=hra.short;obtain⟨a',c',heq,hnum⟩:=hra.nums;cases heq;have HRA:Hid (zaA w xa q.bl):=hnum;clear hl hra hnum;obtain⟨nb,HNB⟩:∃nb,Hid (q.bl.length=nb):=⟨_,rfl⟩;rw[HNB.out]at d1 hqbig;have hnb:nb<=12:=by rw[<-HNB.out];exact H12.out q (mG HQ.out)
  have HTK:Hid (zaO (m.fl.take (i+1))=zaO (m.fl.take i)+bkC (q.bl.take nb)):=dD<|by rw[zdB HQ.out,<-HNB.out,List.take_length]
  obtain⟨U,HU⟩:∃U,Hid (zaO (m.fl.take i)=U):=⟨_,rfl⟩;have hul:U<=60:=by rw[<-HU.out];exact HUL.out i
  rw[HU.out]at HTK⊢;obtain⟨W2,hW2⟩:∃W2,wr.alloc (.cells #[.int .i64 q.size,.slice xa nb xc] 84)=W2:=⟨_,rfl⟩;have G2:=gT hW2 BW
  have HW2:Hid (_=W2):=hW2;clear hW2;go_wp2;rw[HW2.out]
  go_loopg [3,22] nb (fun g2 s3 s22 wr2=>∃j:Nat,j<=nb/\nb - j<=g2/\s3= .int .i64 (cnt -((U+bkC (q.bl.take j):Nat):Int))/\s22= .int .i64 j/\Hid (zc w wr2))
  case atStart=>exact⟨0,nZ _,by omega,by simp[bkC],rfl,G2.out⟩
  obtain⟨j,hj,hg2,rfl,rfl,BW2⟩:=hrel;clear d0 d1
  by_cases hlt2:j<nb
  ·have hltz2:(j:Int)< (nb:Int):=by omega
   obtain⟨z,HZ⟩:∃z,Hid (q.bl[j]? =some z):=⟨_,gE (by rw[HNB.out];exact hlt2)⟩
   obtain⟨ad2,rfl,hl2⟩:=HRA.out j z HZ.out;have d2:=hl2 _ BW2.out;clear hl2;have HC:Hid (bkC (q.bl.take (j+1))=bkC (q.bl.take j)+(if decide (0<=z)=true then 1 else 0)):=zcv _ HZ.out;have HCL:Hid (bkC (q.bl.take j)<=j):=show _<=_ from nT List.countP_le_length (by simp;omega)
   generalize hcn:bkC (q.bl.take j)=cn at HC HCL
   have hcl:cn<=j:=HCL.out
   by_cases hz:0<=z
   ·have HC1:Hid (bkC (q.bl.take (j+1))=cn+1):=dD<|by rw[HC.out,if_pos (by simpa using hz)]
    have hzb:decide (0<=z)=true:=by simpa using hz
    clear hcn;go_wp2
    go_roundg (nb -(j+1))
    case measure=>omega
    exact⟨j+1,by omega,by omega,by rw[HC1.out];simp only[Value.int.injEq,true_and];omega,by go_num,BW2.out⟩
   have HC1:Hid (bkC (q.bl.take (j+1))=cn):=dD<|by rw[HC.out,if_neg (by simpa using hz)];rfl
   have hzb:decide (0<=z)=false:=by simpa using hz
   clear hcn;go_wp2
   go_roundg (nb -(j+1))
   case measure=>omega
   exact⟨j+1,by omega,by omega,by rw[HC1.out];first | rfl | (simp only[Value.int.injEq,true_and];omega),by go_num,BW2.out⟩
  have hltz2:¬(j:Int)< (nb:Int):=by omega
  have:j=nb:=by omega
  subst this;go_wp2
  go_roundg (n -(i+1))
  case measure=>omega
  exact⟨i+1,by omega,by omega,by rw[HTK.out];first | rfl | (simp only[Value.int.injEq,true_and];omega),by go_num,BW2.out⟩
 have hltz:¬(i:Int)< (n:Int):=by omega
 have:i=n:=by omega
 subst this;rw[HZF.out];obtain⟨U,HU⟩:∃U,Hid (zaO m.fl=U):=⟨_,rfl⟩;rw[HU.out,HCN.out]at HRR;rw[HU.out];obtain⟨d,HD⟩:∃d,Hid (cnt -(U:Int)=d):=⟨_,rfl⟩;rw[HD.out]at HRR⊢
 cases R with
 | true=>
  have hd:d=0:=of_decide_eq_true HRR.out;have hdb:(d == 0)=true:=by simpa using hd
  clear hd;go_wp2;go_ret;exact⟨rfl,BW.out⟩
 | false=>
  have hd:¬d=0:=of_decide_eq_false HRR.out;have hdb:(d == 0)=false:=by simpa using hd
  clear hd;go_wp2;go_ret;exact⟨rfl,BW.out⟩
theorem zkv {fs:List Fl} {m:Nat} (h:jW fs (m:Int)=[]):∀j,j<m->zT fs (j:Int)=true:=fun j hj=>by
 unfold jW at h;have:=List.filter_eq_nil_iff.1 h j (List.mem_range.2 (by omega))
 simpa using this
theorem zj1 {l:List Int} (h:∀b∈l,b=-1\/0<=b):bkC l=(jV l).length:=by
 unfold bkC jV;rw[List.countP_eq_length_filter]
 congr 1
 refine List.filter_congr fun b hb=>?_
 have:=h b hb
 by_cases e:0<=b
 ·simp[e];omega
 simp[e];omega
theorem zdC:∀{fs:List Fl},(∀f∈fs,∀b∈f.bl,b=-1\/0<=b)->zaO fs=(jV (Za fs)).length
 | [],_=>rfl
 | f :: l,h=>by
  have h1:=zdC (fs:=l) fun g hg=>h g (List.mem_cons_of_mem _ hg)
  have h2:=zj1 (h f (List.mem_cons_self ..));have h3:jV (Za (f :: l))=jV f.bl++jV (Za l):=by
   unfold jV Za;rw[List.flatMap_cons,List.filter_append]
  rw[h3,lA,zaO,h1,h2]
theorem zjF {fs:List Fl} {cnt:Int} (h:stW fs cnt=0) (hl:jW fs cnt=[]):cnt -(zaO fs:Int)=0:=by
 obtain⟨⟨_,c1,c2⟩,c3,c4⟩:=(qg _ _).1 h;obtain⟨n,rfl⟩:∃n:Nat,cnt=(n:Int):=⟨cnt.toNat,by omega⟩
 have hn:=zkv hl;rw[zdC (fun f hf b hb=>by have:=(c3 f hf).2.2 b hb;omega)]
 have e1:(jV (Za fs)).length<=((List.range n).map fun(i:Nat)=>(i:Int)).length:=c4.length_le_of_subset (fun x hx=>by
  obtain⟨h1,h2⟩:=List.mem_filter.1 hx;obtain⟨f,hf,hb⟩:=List.mem_flatMap.1 h1;have:=(c3 f hf).2.2 x hb;have h3:x≠-1:=by simpa using h2
  exact List.mem_map.2 ⟨x.toNat,List.mem_range.2 (by omega),by omega⟩)
 have e2:((List.range n).map fun(i:Nat)=>(i:Int)).length<=(jV (Za fs)).length:=List.Nodup.length_le_of_subset (List.Pairwise.map _ (fun a b hab e=>hab (by omega)) List.nodup_range) (fun x hx=>by
  obtain⟨i,hi,rfl⟩:=List.mem_map.1 hx;have:=hn i (List.mem_range.1 hi);obtain⟨q,f,j,h1,h2⟩:=jd.1 this;exact Qh (zbT h1 h2) (by omega))
 simp only[List.length_map,List.length_range]at e1 e2;omega
theorem zkD (h:Rt m) (hcl:qF m.fs) (hd:0<jo m.fs) (hno:∀(j:Nat) c k fi ix f F,m.ca[j]? =some c->zhj m c k fi ix f F->f.d=true->ZM m.fl m.cnt f.f f.x≠0):m.cnt -(zaO m.fl:Int)=0:=by
 obtain⟨f,hf,hfd⟩:=List.countP_pos_iff.1 hd;obtain⟨k,hk⟩:=List.getElem?_of_mem hf;have hst:=h.inv.st;have hff:0<=f.f:=by
  obtain⟨_,_,h3,_⟩:=h.inv.fok f hf
  rcases h3 with e|e
  ·have:=hcl f hf e;rw[this]at hfd;cases hfd
  exact e.1
 have hcn:=(h.inv.cf k f hk).2 hff;obtain⟨c,hc,hck⟩:=List.countP_pos_iff.1 (Nat.pos_of_ne_zero hcn);have hck':c.fr=(k:Int):=by simpa using hck
 obtain⟨k',fi,ix,f',F,hi⟩:=ziB h.w hc;have hkk:k'=k:=by have:=hi.fr;omega
 have hi2:=hi.fa;rw[hkk,hk]at hi2;cases hi2;obtain⟨j,hj⟩:=List.getElem?_of_mem hc;have hne:=hno j c k' fi ix f F hj hi hfd;refine zjF hst ?_
 cases hl:jW m.fl m.cnt with
 | nil=>rfl
 | cons b l=>
  exfalso
  apply hne
  have hfl:=(gS.1 hi.fl).1;have hbl:=hi.bl;have e1:zg9 m.fl (fi:Int)=F.bl:=by unfold zg9;rw[tN,hi.fl]
  unfold ZM;rw[if_pos hst,hi.ff,hi.fx,if_pos (Zh.2 ⟨by omega,by omega⟩),e1,if_pos (Zh.2 ⟨by omega,by omega⟩),hl]
  split
  ·rfl
  rfl
theorem zcx {bo:Bool} (h:Rt m) (hcl:qF m.fs) (hr:zgd m bo m'):(bo=false->m'=m/\(0<jo m.fs->m.cnt -(zaO m.fl:Int)=0))/\(bo=true->Rt m'/\qF m'.fs/\jo m'.fs+1=jo m.fs):=by
 rcases hr with⟨rfl,rfl,hno⟩|⟨rfl,c,k,fi,ix,f,F,hc,hi,hd,h0,rfl⟩
 ·exact⟨fun _=>⟨rfl,fun hd=>zkD h hcl hd hno⟩,fun e=>by cases e⟩
 refine⟨fun e=>Bool.noConfusion e,fun _=>⟨zjY h hc hi h0,?_,?_⟩⟩
 ·rw[zf0 h0];exact hcl.set (fun _=>rfl) k
 rw[zf0 h0];exact zfj hi.fa hd
theorem zfZ (m:Ma):jo m.fs<=m.fs.length:=List.countP_le_length
theorem zes (F S B:Int) (vl:Sli) (L:List Int) (w:World) (lr:zr byE w (.slice vl.a vl.n vl.c) L) (lc:vl.n<=vl.c) (lb:∀z∈L,0<=z/\z<256):
  Calls prog 10 #[.agg #[.int .i64 F,.int .i64 S,.int .i64 B],.slice vl.a vl.n vl.c] w fun e w'=>e= .returned (.bool true)/\zc w w':=by
 obtain⟨W0,hW0⟩:∃W0,w.alloc (.cells #[.int .i64 F,.int .i64 S,.int .i64 B] 23)=W0:=⟨_,rfl⟩;have G0:=gA hW0
 have C0:=xA hW0
 have HW0:Hid (_=W0):=hW0;have HLR:Hid (zr byE w (.slice vl.a vl.n vl.c) L):=lr;have HLC:Hid (vl.n<=vl.c):=lc;have HLB:Hid (∀z∈L,0<=z/\z<256):=show∀z,_ from lb
 obtain⟨nf,HNF⟩:∃nf:Nat,Hid (max (min F 40) 0=(nf:Int)):=⟨(max (min F 40) 0).toNat,show _=_ by omega⟩
 obtain⟨ns,HNS⟩:∃ns:Nat,Hid (max (min S 60) 0=(ns:Int)):=⟨(max (min S 60) 0).toNat,show _=_ by omega⟩
 obtain⟨nb,HNB⟩:∃nb:Nat,Hid (max (min B 80) 0=(nb:Int)):=⟨(max (min B 80) 0).toNat,show _=_ by omega⟩
 clear hW0 lr lc lb;have hal:=zfw W0
 go_enter func10,ntmps10
 go_wp2_with fail;rw[HW0.out];refine hal.mono ?_;clear hal;rintro e W1 ⟨rfl,g1⟩;have G1:=dD (G0.out.trans g1);have C1:=dD (C0.out.grew g1);clear g1;have hbu:=zew F S B nf ns nb HNF.out HNS.out HNB.out vl L W1 (HLR.out.grew G1.out) HLC.out HLB.out;obtain⟨c0,c1,c2⟩:=C1.out.c3;go_wp2_with fail;refine hbu.mono ?_;clear hbu c0 c1 c2;rintro e W2 ⟨V,m0,T,hd,hi,ht,vt,rfl,hB⟩;obtain⟨at2,w2⟩:=hB.at;have HFI:Hid (∀s∈(jI m0 T hd).sp,jp m0.fl.length s.ars):=show∀s,_ from fun s hs=>by
  obtain⟨i,hi⟩:=List.getElem?_of_mem hs;have hi:(List.zipWith (fun s f=>{ s with tb:=Ze f }) m0.sp T)[i]? =some s:=hi
  rw[List.getElem?_zipWith]at hi
  cases h1:m0.sp[i]? with
  | none=>rw[h1]at hi;simp at hi
  | some s0=>
   cases h2:T[i]? with
   | none=>rw[h1,h2]at hi;simp at hi
   | some f=>
    rw[h1,h2]at hi;simp only[Option.some.injEq]at hi;rw[<-hi];exact(hB.fin s0 (mG h1)).1
 have HF2:Hid (m0.fl.length<=2):=hB.fl2.1;have HC0:Hid (qF m0.fs):=hB.rows.ap.2;have HSL:Hid ((jI m0 T hd).sp.length<=2):=show _<=_ by
  show(List.zipWith _ m0.sp T).length<=2
  rw[List.length_zipWith];have:=hB.sp.2;omega
 obtain⟨m,HM⟩:∃m,Hid (jI m0 T hd=m):=⟨_,rfl⟩;have A2:Hid (zD W2 V m):=dD<|by rw[<-HM.out];exact at2
 have HW:Hid (maW m=0):=dD<|by rw[<-HM.out];exact w2
 have HRT:Hid (Rt m):=dD<|⟨HW.out,fun s hs=>by
  obtain⟨i,hi⟩:=List.getElem?_of_mem hs;obtain⟨xs,_,s2,s3⟩:=A2.out.sp;have hx:i<xs.length:=by rw[s2];exact(gS.1 hi).1
  exact(s3 i _ s (gE hx) hi).tb.tlen⟩
 have G2:Hid (zc w W2):=G1.out.trans hB.gr;have hmh:hd=m.hand:=by rw[<-HM.out];rfl
 have hmc:m0.cnt=m.cnt:=by rw[<-HM.out];rfl
 rw[hmh,hmc];have HFS:Hid (∀s∈m.sp,jp m.fl.length s.ars):=dD<|fun s hs=>by
  rw[<-HM.out]at hs⊢;exact HFI.out s hs
 have HFL:Hid (m.fl.length<=5):=dD<|by rw[<-HM.out];have:=HF2.out;show m0.fl.length<=5;omega
 have HCC:Hid (qF m.fs):=dD<|by rw[<-HM.out];exact HC0.out
 have HS2:Hid (m.sp.length<=2):=dD<|by rw[<-HM.out];exact HSL.out
 clear hB at2 w2 hmh hmc;go_upto_region 4 with fail;obtain⟨pm,HPM⟩:∃pm,Hid (W2.heap.size=pm):=⟨_,rfl⟩;obtain⟨W2a,hW3⟩:∃W2a,W2.alloc (.cells #[.slice V.f.a V.f.n V.f.c,.int .i64 m.hand,.slice V.s.a V.s.n V.s.c,.slice V.sb.a V.sb.n V.sb.c,.slice V.sq.a V.sq.n V.sq.c,.slice V.db.a V.db.n V.db.c,.slice V.dq.a V.dq.n V.dq.c,.slice V.fl.a V.fl.n V.fl.c,.int .i64 m.cnt,.slice V.ca.a V.ca.n V.ca.c,.slice V.sp.a V.sp.n V.sp.c] 41)=W2a:=⟨_,rfl⟩;have g3:=gP hW3
 have P2:=xPT hW3 HPM
 have A2a:=dD (A2.out.grew g3);have G2a:=dD (G2.out.trans g3);have HPG:Hid (w.heap.size<=pm):=show _<=_ by have:=bS G2.out;have:=HPM.out;omega
 rw[hW3,HPM.out];clear hW3 g3;have HMF:Hid (m.fs.length<=40):=HRT.out.inv.fs40;obtain⟨x0,x1,x2,x3,x4,x5,x6,x7,x8,x9,x10⟩:=P2.out.box.c11;have hdi:=ZJ V m W2a A2a.out HMF.out;go_wp2_with fail;refine hdi.mono ?_;clear hdi x0 x1 x2 x3 x4 x5 x6 x7 x8 x9 x10;rintro e W3 ⟨rfl,g3⟩;obtain⟨N,HND⟩:∃N,Hid (jo m.fs=N):=⟨_,rfl⟩;rw[HND.out];have hN40:N<=40:=by rw[<-HND.out];exact nT (zfZ m) HMF.out
 have HPL:Hid (pm<W2a.heap.size):=P2.out.box.lt;have HPW:Hid (w.heap.size<=pm):=HPG;have G3:=dD (G2a.out.trans g3);have A3:=dD (A2a.out.grew g3);have P3:=dD (P2.out.grew g3);clear g3 A2a G2a;go_wp2
 go_loopg [26] N (fun gg s26 wr=>∃(i:Nat) (V':MaV) (M:Ma),i<=N/\N - i<=gg/\s26= .int .i64 i/\Hid (zc w wr)/\Hid (zp wr pm 41 [.slice V'.f.a V'.f.n V'.f.c,.int .i64 M.hand,.slice V'.s.a V'.s.n V'.s.c,.slice V'.sb.a V'.sb.n V'.sb.c,.slice V'.sq.a V'.sq.n V'.sq.c,.slice V'.db.a V'.db.n V'.db.c,.slice V'.dq.a V'.dq.n V'.dq.c,.slice V'.fl.a V'.fl.n V'.fl.c,.int .i64 M.cnt,.slice V'.ca.a V'.ca.n V'.ca.c,.slice V'.sp.a V'.sp.n V'.sp.c])/\Hid (zD wr V' M)/\Hid (Rt M)/\Hid (qF M.fs)/\Hid (jo M.fs+i=N))
 case atStart=>exact⟨0,V,m,nZ _,by omega,rfl,G3,P3,A3,HRT,HCC,HND.out⟩
 obtain⟨i,V1,M,hi,hgg,rfl,G3,P3,A3,HRT,HCC,HDN⟩:=hrel;have HMF:Hid (M.fs.length<=40):=HRT.out.inv.fs40;have hcl:=zgZ V1 M wr A3.out HRT.out.w
 by_cases hlt:i<N
 ·have hltz:(i:Int)< (N:Int):=by omega
  obtain⟨x0,x1,x2,x3,x4,x5,x6,x7,x8,x9,x10⟩:=P3.out.box.c11;go_wp2_with fail;refine hcl.mono ?_;clear hcl x0 x1 x2 x3 x4 x5 x6 x7 x8 x9 x10;rintro e W4 ⟨⟨bo,M',V4,hcr,rfl,hst4⟩,g4⟩;have HST:Hid (∀W,jv (fun k=>k<wr.heap.size) W4 W->zD W V4 M'):=dD<|hst4
  have HSP:=show Hid _ from zcx HRT.out HCC.out hcr
  have HML:Hid (pm<wr.heap.size):=P3.out.box.lt;clear hst4 hcr;go_upto_region 8 with fail;obtain⟨pk,HPK⟩:∃pk,Hid (W4.heap.size=pk):=⟨_,rfl⟩;obtain⟨W5,hW5⟩:∃W5,W4.alloc (.cells #[.slice V4.f.a V4.f.n V4.f.c,.int .i64 M'.hand,.slice V4.s.a V4.s.n V4.s.c,.slice V4.sb.a V4.sb.n V4.sb.c,.slice V4.sq.a V4.sq.n V4.sq.c,.slice V4.db.a V4.db.n V4.db.c,.slice V4.dq.a V4.dq.n V4.dq.c,.slice V4.fl.a V4.fl.n V4.fl.c,.int .i64 M'.cnt,.slice V4.ca.a V4.ca.n V4.ca.c,.slice V4.sp.a V4.sp.n V4.sp.c] 41)=W5:=⟨_,rfl⟩;have g5:=gP hW5
  have Q5:=xPT hW5 HPK
  have P5:=dD (P3.out.grew (g4.trans g5));have A5:=dD (A3.out.grew (g4.trans g5));have K5:Hid (zD W5 V4 M'):=HST.out W5 (jv.grew g5);have G5:=dD (G3.out.trans (g4.trans g5));have H45:Hid (zc W4 W5):=g5;rw[hW5,HPK.out];clear hW5 g4 g5
  cases bo with
  | false=>
   have HMM:Hid (M'=M/\(0<jo M.fs->M.cnt -(zaO M.fl:Int)=0)):=dD<|HSP.out.1 rfl
   obtain⟨hmm,hfu⟩:=HMM.out;subst hmm;have hdp:0<jo M'.fs:=by have:=HDN.out;omega
   have hdi:=ZJ V4 M' W5 K5.out HMF.out;have HFC:Hid (∀W,zc W5 W->Calls prog 33 #[.agg #[.slice V4.f.a V4.f.n V4.f.c,.int .i64 M'.hand,.slice V4.s.a V4.s.n V4.s.c,.slice V4.sb.a V4.sb.n V4.sb.c,.slice V4.sq.a V4.sq.n V4.sq.c,.slice V4.db.a V4.db.n V4.db.c,.slice V4.dq.a V4.dq.n V4.dq.c,.slice V4.fl.a V4.fl.n V4.fl.c,.int .i64 M'.cnt,.slice V4.ca.a V4.ca.n V4.ca.c,.slice V4.sp.a V4.sp.n V4.sp.c]] W fun e w'=>e= .returned (.bool true)/\zc W w'):=dD<|fun W hW=>by
    have k:=zgN V4 M' W (K5.out.grew hW) HRT.out.inv.st;rw[show decide (M'.cnt -(zaO M'.fl:Int)=0)=true from decide_eq_true (hfu hdp)]at k
    exact k
   obtain⟨D,HD⟩:∃D,Hid (jo M'.fs=D):=⟨_,rfl⟩;rw[HD.out]at hdi hdp;have hdz:(0:Int)< (D:Int):=by omega
   clear hfu;obtain⟨q0,q1,q2,q3,q4,q5,q6,q7,q8,q9,q10⟩:=Q5.out.box.c11;go_wp2_with fail;refine hdi.mono ?_;clear hdi q0 q1 q2 q3 q4 q5 q6 q7 q8 q9 q10;rintro e W6 ⟨rfl,g6⟩;have hfc:=HFC.out W6 g6;have Q6:=dD (Q5.out.grew g6);have G6:=dD (G5.out.trans g6);clear g6;obtain⟨q0,q1,q2,q3,q4,q5,q6,q7,q8,q9,q10⟩:=Q6.out.box.c11;go_wp2_with fail;refine hfc.mono ?_;clear hfc q0 q1 q2 q3 q4 q5 q6 q7 q8 q9 q10;rintro e W7 ⟨rfl,g7⟩;have G7:=dD (G6.out.trans g7);clear g7;go_wp2;go_ret;exact⟨rfl,G7.out⟩
  | true=>
   have HMM:Hid (Rt M'/\qF M'.fs/\jo M'.fs+1=jo M.fs):=dD<|HSP.out.2 rfl
   have HMF':Hid (M'.fs.length<=40):=HMM.out.1.inv.fs40;obtain⟨D,HD⟩:∃D,Hid (jo M'.fs=D):=⟨_,rfl⟩;obtain⟨E,HE⟩:∃E,Hid (jo M.fs=E):=⟨_,rfl⟩;have HDE:Hid (D+1=E):=show _=_ by rw[<-HD.out,<-HE.out];exact HMM.out.2.2
   have HC1:Hid (∀W,zc W5 W->Calls prog 32 #[.agg #[.slice V4.f.a V4.f.n V4.f.c,.int .i64 M'.hand,.slice V4.s.a V4.s.n V4.s.c,.slice V4.sb.a V4.sb.n V4.sb.c,.slice V4.sq.a V4.sq.n V4.sq.c,.slice V4.db.a V4.db.n V4.db.c,.slice V4.dq.a V4.dq.n V4.dq.c,.slice V4.fl.a V4.fl.n V4.fl.c,.int .i64 M'.cnt,.slice V4.ca.a V4.ca.n V4.ca.c,.slice V4.sp.a V4.sp.n V4.sp.c]] W fun e w'=>e= .returned (.int .i64 (D:Int))/\zc W w'):=dD<|fun W hW=>by rw[<-HD.out];exact ZJ V4 M' W (K5.out.grew hW) HMF'.out
   have HC2:Hid (∀W,zc W5 W->Calls prog 32 #[.agg #[.slice V1.f.a V1.f.n V1.f.c,.int .i64 M.hand,.slice V1.s.a V1.s.n V1.s.c,.slice V1.sb.a V1.sb.n V1.sb.c,.slice V1.sq.a V1.sq.n V1.sq.c,.slice V1.db.a V1.db.n V1.db.c,.slice V1.dq.a V1.dq.n V1.dq.c,.slice V1.fl.a V1.fl.n V1.fl.c,.int .i64 M.cnt,.slice V1.ca.a V1.ca.n V1.ca.c,.slice V1.sp.a V1.sp.n V1.sp.c]] W fun e w'=>e= .returned (.int .i64 ((D:Int)+1))/\zc W w'):=dD<|fun W hW=>by
    have k:=ZJ V1 M W (A5.out.grew hW) HMF.out;rw[HE.out,<-HDE.out]at k;exact k
   have hD40:D<=40:=by rw[<-HD.out];exact nT (zfZ M') HMF'.out
   have HDN':Hid (jo M'.fs+(i+1)=N):=dD<|by have:=HMM.out.2.2;have:=HDN.out;omega
   go_upto_region 12 with fail;have hu0:∀y:zE W5,y.world.cell? ⟨pk,0,none⟩=_:=fun y=>(Q5.out.box.grew y.grew).c 0 rfl
   have hu1:∀y:zE W5,y.world.cell? ⟨pk,1,none⟩=_:=fun y=>(Q5.out.box.grew y.grew).c 1 rfl
   have hu2:∀y:zE W5,y.world.cell? ⟨pk,2,none⟩=_:=fun y=>(Q5.out.box.grew y.grew).c 2 rfl
   have hu3:∀y:zE W5,y.world.cell? ⟨pk,3,none⟩=_:=fun y=>(Q5.out.box.grew y.grew).c 3 rfl
   have hu4:∀y:zE W5,y.world.cell? ⟨pk,4,none⟩=_:=fun y=>(Q5.out.box.grew y.grew).c 4 rfl
   have hu5:∀y:zE W5,y.world.cell? ⟨pk,5,none⟩=_:=fun y=>(Q5.out.box.grew y.grew).c 5 rfl
   have hu6:∀y:zE W5,y.world.cell? ⟨pk,6,none⟩=_:=fun y=>(Q5.out.box.grew y.grew).c 6 rfl
   have hu7:∀y:zE W5,y.world.cell? ⟨pk,7,none⟩=_:=fun y=>(Q5.out.box.grew y.grew).c 7 rfl
   have hu8:∀y:zE W5,y.world.cell? ⟨pk,8,none⟩=_:=fun y=>(Q5.out.box.grew y.grew).c 8 rfl
   have hu9:∀y:zE W5,y.world.cell? ⟨pk,9,none⟩=_:=fun y=>(Q5.out.box.grew y.grew).c 9 rfl
   have hu10:∀y:zE W5,y.world.cell? ⟨pk,10,none⟩=_:=fun y=>(Q5.out.box.grew y.grew).c 10 rfl
   have hv0:∀y:zE W5,y.world.cell? ⟨pm,0,none⟩=_:=fun y=>(P5.out.box.grew y.grew).c 0 rfl
   have hv1:∀y:zE W5,y.world.cell? ⟨pm,1,none⟩=_:=fun y=>(P5.out.box.grew y.grew).c 1 rfl
   have hv2:∀y:zE W5,y.world.cell? ⟨pm,2,none⟩=_:=fun y=>(P5.out.box.grew y.grew).c 2 rfl
   have hv3:∀y:zE W5,y.world.cell? ⟨pm,3,none⟩=_:=fun y=>(P5.out.box.grew y.grew).c 3 rfl
   have hv4:∀y:zE W5,y.world.cell? ⟨pm,4,none⟩=_:=fun y=>(P5.out.box.grew y.grew).c 4 rfl
   have hv5:∀y:zE W5,y.world.cell? ⟨pm,5,none⟩=_:=fun y=>(P5.out.box.grew y.grew).c 5 rfl
   have hv6:∀y:zE W5,y.world.cell? ⟨pm,6,none⟩=_:=fun y=>(P5.out.box.grew y.grew).c 6 rfl
   have hv7:∀y:zE W5,y.world.cell? ⟨pm,7,none⟩=_:=fun y=>(P5.out.box.grew y.grew).c 7 rfl
   have hv8:∀y:zE W5,y.world.cell? ⟨pm,8,none⟩=_:=fun y=>(P5.out.box.grew y.grew).c 8 rfl
   have hv9:∀y:zE W5,y.world.cell? ⟨pm,9,none⟩=_:=fun y=>(P5.out.box.grew y.grew).c 9 rfl
   have hv10:∀y:zE W5,y.world.cell? ⟨pm,10,none⟩=_:=fun y=>(P5.out.box.grew y.grew).c 10 rfl
   have hne:Nonempty (zE W5):=⟨⟨_,zc.refl _⟩⟩;refine Zy 6 [(1,⟨fun v=>v= .int .i64 (D:Int),fun _ _=>True⟩),(3,⟨fun v=>v= .int .i64 ((D:Int)+1),fun _ _=>True⟩)] qn (by kernel_rfl) rfl rfl (by decide) ?hS ?hp ?_
   case hS=>
    intro x hx;simp only[mC,nM,or_false]at hx
    rcases hx with rfl|rfl <;> exact⟨_,rfl⟩
   case hp=>
    intro x hx;simp only[mC,nM,or_false]at hx
    rcases hx with rfl|rfl <;> exact fun _ _ _ _ _=>trivial
   simp only[List.take,List.drop];refine zn rfl rfl rfl (fun K hK=>?_);go_big_quiet_op;refine hK _ ?_;clear hK
   refine zQ rfl rfl (fun w' hg hF=>?_) (fun v1 hv=>?_)
   ·refine zK.call [.agg #[.slice V4.f.a V4.f.n V4.f.c,.int .i64 M'.hand,.slice V4.s.a V4.s.n V4.s.c,.slice V4.sb.a V4.sb.n V4.sb.c,.slice V4.sq.a V4.sq.n V4.sq.c,.slice V4.db.a V4.db.n V4.db.c,.slice V4.dq.a V4.dq.n V4.dq.c,.slice V4.fl.a V4.fl.n V4.fl.c,.int .i64 M'.cnt,.slice V4.ca.a V4.ca.n V4.ca.c,.slice V4.sp.a V4.sp.n V4.sp.c]] rfl func32 rfl rfl rfl ?_;refine(HC1.out w' hg).mono ?_;rintro e w'' ⟨rfl,hg2⟩;exact⟨_,rfl,hg2,rfl,trivial⟩
   cases hv;simp only[Act.put,sB,sS,sZ];refine zn rfl rfl rfl (fun K hK=>?_);go_big_quiet_op;refine hK _ ?_;clear hK
   refine zQ rfl rfl (fun w' hg hF=>?_) (fun v1 hv=>?_)
   ·refine zK.call [.agg #[.slice V1.f.a V1.f.n V1.f.c,.int .i64 M.hand,.slice V1.s.a V1.s.n V1.s.c,.slice V1.sb.a V1.sb.n V1.sb.c,.slice V1.sq.a V1.sq.n V1.sq.c,.slice V1.db.a V1.db.n V1.db.c,.slice V1.dq.a V1.dq.n V1.dq.c,.slice V1.fl.a V1.fl.n V1.fl.c,.int .i64 M.cnt,.slice V1.ca.a V1.ca.n V1.ca.c,.slice V1.sp.a V1.sp.n V1.sp.c]] rfl func32 rfl rfl rfl ?_;refine(HC2.out w' hg).mono ?_;rintro e w'' ⟨rfl,hg2⟩;exact⟨_,rfl,hg2,rfl,trivial⟩
   cases hv;simp only[Act.put,sB,sS,sZ];iterate 2 (refine zn rfl rfl rfl (fun K hK=>?_);go_big_quiet_op;refine hK _ ?_;clear hK)
   refine qT fun W7 g7 _=>?_
   have g7:zc W5 W7:=show zc _ _ from g7
   have Q7:=dD (Q5.out.grew g7);have P7:=dD (P5.out.grew g7);have G7:=dD (G5.out.trans g7);have H47:=dD (H45.out.trans g7);clear g7 hne hu0 hu1 hu2 hu3 hu4 hu5 hu6 hu7 hu8 hu9 hu10 hv0 hv1 hv2 hv3 hv4 hv5 hv6 hv7 hv8 hv9 hv10;have HZL:Hid (∀v∈chL V4 M',v.oneCell'=true):=show∀v∈chL V4 M',_ by simp[chL,Value.oneCell']
   obtain⟨q0,q1,q2,q3,q4,q5,q6,q7,q8,q9,q10⟩:=Q7.out.box.c11
   go_wp2_with (refine qe rfl 41 (.tmp 5) (.tmp 51) rfl pm rfl [.slice V4.f.a V4.f.n V4.f.c,.int .i64 M'.hand,.slice V4.s.a V4.s.n V4.s.c,.slice V4.sb.a V4.sb.n V4.sb.c,.slice V4.sq.a V4.sq.n V4.sq.c,.slice V4.db.a V4.db.n V4.db.c,.slice V4.dq.a V4.dq.n V4.dq.c,.slice V4.fl.a V4.fl.n V4.fl.c,.int .i64 M'.cnt,.slice V4.ca.a V4.ca.n V4.ca.c,.slice V4.sp.a V4.sp.n V4.sp.c] rfl P7.out rfl (by kernel_rfl) HZL.out ?_)
   clear q0 q1 q2 q3 q4 q5 q6 q7 q8 q9 q10;intro W8 bx8 gr8 _;have P8:Hid (zp W8 pm 41 [.slice V4.f.a V4.f.n V4.f.c,.int .i64 M'.hand,.slice V4.s.a V4.s.n V4.s.c,.slice V4.sb.a V4.sb.n V4.sb.c,.slice V4.sq.a V4.sq.n V4.sq.c,.slice V4.db.a V4.db.n V4.db.c,.slice V4.dq.a V4.dq.n V4.dq.c,.slice V4.fl.a V4.fl.n V4.fl.c,.int .i64 M'.cnt,.slice V4.ca.a V4.ca.n V4.ca.c,.slice V4.sp.a V4.sp.n V4.sp.c]):=bx8;have A8:Hid (zD W8 V4 M'):=HST.out W8 ((jv.grew H47.out).trans (jv.grown gr8 HML.out));have G8:Hid (zc w W8):=show zc _ _ from ze G7.out gr8 HPW.out
   have HMT:Hid (Rt M'):=HMM.out.1;have HMC:Hid (qF M'.fs):=HMM.out.2.1;clear bx8 gr8;go_wp2
   go_roundg (N -(i+1))
   case measure=>omega
   exact⟨i+1,V4,M',by omega,by omega,by go_num,G8,P8,A8,HMT,HMC,HDN'⟩
 have hltz:¬(i:Int)< (N:Int):=by omega
 have HD0:Hid (jo M.fs=0):=dD<|by have:=HDN.out;omega
 have HC2:Hid (∀W,zc wr W->Calls prog 32 #[.agg #[.slice V1.f.a V1.f.n V1.f.c,.int .i64 M.hand,.slice V1.s.a V1.s.n V1.s.c,.slice V1.sb.a V1.sb.n V1.sb.c,.slice V1.sq.a V1.sq.n V1.sq.c,.slice V1.db.a V1.db.n V1.db.c,.slice V1.dq.a V1.dq.n V1.dq.c,.slice V1.fl.a V1.fl.n V1.fl.c,.int .i64 M.cnt,.slice V1.ca.a V1.ca.n V1.ca.c,.slice V1.sp.a V1.sp.n V1.sp.c]] W fun e w'=>e= .returned (.int .i64 0)/\zc W w'):=dD<|fun W hW=>by
  have k:=ZJ V1 M W (A3.out.grew hW) HMF.out;rw[HD0.out]at k;exact k
 obtain⟨x0,x1,x2,x3,x4,x5,x6,x7,x8,x9,x10⟩:=P3.out.box.c11;go_wp2_with fail;refine hcl.mono ?_;clear hcl x0 x1 x2 x3 x4 x5 x6 x7 x8 x9 x10;rintro e W4 ⟨⟨bo,M',V4,hcr,rfl,hst4⟩,g4⟩;have hbo:bo=false:=by
  cases bo with
  | false=>rfl
  | true=>
   have:=(zcx HRT.out HCC.out hcr).2 rfl;have:=HD0.out;omega
 subst hbo;clear hst4 hcr;go_upto_region 17 with fail;obtain⟨W5,hW5⟩:∃W5,W4.alloc (.cells #[.slice V4.f.a V4.f.n V4.f.c,.int .i64 M'.hand,.slice V4.s.a V4.s.n V4.s.c,.slice V4.sb.a V4.sb.n V4.sb.c,.slice V4.sq.a V4.sq.n V4.sq.c,.slice V4.db.a V4.db.n V4.db.c,.slice V4.dq.a V4.dq.n V4.dq.c,.slice V4.fl.a V4.fl.n V4.fl.c,.int .i64 M'.cnt,.slice V4.ca.a V4.ca.n V4.ca.c,.slice V4.sp.a V4.sp.n V4.sp.c] 41)=W5:=⟨_,rfl⟩;have g5:=gP hW5
 have P5:=dD (P3.out.grew (g4.trans g5));have G5:=dD (G3.out.trans (g4.trans g5));have hdi:=HC2.out W5 (g4.trans g5);rw[hW5];clear hW5 g4 g5;obtain⟨x0,x1,x2,x3,x4,x5,x6,x7,x8,x9,x10⟩:=P5.out.box.c11;go_wp2_with fail;refine hdi.mono ?_;clear hdi x0 x1 x2 x3 x4 x5 x6 x7 x8 x9 x10;rintro e W6 ⟨rfl,g6⟩;have G6:=dD (G5.out.trans g6);clear g6;go_wp2;go_ret;exact⟨rfl,G6.out⟩
end
section
open Go.ChangeShapes Go.WideShapes Go.ChangeAt Go.RowKit
theorem zl8:Tryz.prog.cellsOf 3=1:=by kernel_rfl
theorem zl9:Tryz.prog.cellsOf 5=1:=by kernel_rfl
theorem zma:Tryz.prog.cellsOf 23=3:=by kernel_rfl
theorem zmb:Tryz.prog.bytesOf 5=1:=by kernel_rfl
section
variable{H:Type} {enc:TypeId × Value->H} {w:World} {base:Nat} {spare:Nat->Bool} {held:Bool}
theorem zcy {α:Type} {enc0:α->List Value} {k:Nat}:∀(l:List α) (x:Addr),(∀a∈l,(enc0 a).length=k)->(∀(i:Nat) a,l[i]? =some a->jl w (x.add (i*k)) (enc0 a))->jl w x (l.flatMap enc0)
 | [],x,_,_=>fun j u hj=>by simp at hj
 | a :: l,x,hk,h=>fun j u hj=>by
  rw[List.flatMap_cons]at hj;have ha:=hk a (by simp)
  rcases Nat.lt_or_ge j k with hjk|hjk
  ·rw[List.getElem?_append_left (by omega)]at hj
   have:=h 0 a rfl j u hj;rw[zR]at this
   simpa using this
  rw[aR (by omega),ha]at hj
  have ih:=zcy l (x.add k) (fun b hb=>hk b (by simp[hb])) (fun i b hi=>by
   have:=h (i+1) b (by simpa using hi)
   rw[zR];rw[show k+i*k=(i+1)*k by rw[Nat.add_mul];omega]
   exact this) (j - k) u hj
  rw[zR,show k+(j - k)=j by omega]at ih
  exact ih
theorem zjb {α:Type} [Inhabited α] (enc0:α->List Value) (Q:α->Prop) (k:Nat) (hu:Tryz.prog.underlying t=some (.slice e)) (hk:Tryz.prog.cellsOf e=k) (helem:∀n cs (x:DataW H × List MemPlace),cs.length=k->DataW.trod enc prog w base spare held n e cs=some x->∃a,Q a/\cs=enc0 a)
  {fuel:Nat} {cs:List Value} {x:DataW H × List MemPlace} (h:DataW.trod enc prog w base spare held fuel t cs=some x):
  ∃v l,cs=[v]/\jh enc0 w v l/\(∀a∈l,Q a/\(enc0 a).length=k)/\(l=[]\/∃es sp,x.1= .slice es sp/\es.length=l.length):=by
 rcases Go.Deep.open_slice hu h with⟨rfl,_⟩|⟨a,len,cap,m,n,D,Pl,rfl,hb,hl,hm,hm',hx,hel⟩
 ·exact⟨_,[],rfl,⟨none,0,rfl,fun _=>rfl,fun x hx=>by cases hx⟩,by simp,.inl rfl⟩
 have hlm:len<=m:=by rw[hm'];split <;> omega
 have hex:∀i,i<len->∃a0,Q a0/\(enc0 a0).length=k/\jl w (a.add (i*k)) (enc0 a0):=fun i hi=>by
  obtain⟨cs',h1,h2⟩:=hel i (by omega)
  rw[hk]at h1;obtain⟨_,hcl,hcc⟩:=World.cells?_some h1;obtain⟨a0,hq,rfl⟩:=helem _ _ _ hcl h2;refine⟨a0,hq,hcl,fun j u hj=>?_⟩
  have hj':j<k:=by rw[<-hcl];exact(gS.1 hj).1
  rw[hcc j hj'];exact hj
 obtain⟨f,hf⟩:=Go.Deep.choose_lt hex;refine⟨_,(List.range len).map f,rfl,⟨some a,cap,by simp,fun h=>(by cases h),fun y hy=>?_⟩,fun b hb=>?_,.inr ⟨_,_,by rw[hx],by simp⟩⟩
 ·cases hy;refine zcy (k:=k) _ _ (fun b hb=>?_) (fun i b hi=>?_)
  ·obtain⟨i,hi,rfl⟩:=List.mem_map.1 hb;exact(hf i (List.mem_range.1 hi)).2.1
  have hil:i<len:=by have:=(gS.1 hi).1;simpa using this
  simp[hil]at hi
  subst hi;exact(hf i hil).2.2
 obtain⟨i,hi,rfl⟩:=List.mem_map.1 hb;have:=hf i (List.mem_range.1 hi);exact⟨this.1,this.2.1⟩
theorem zgv {b0:Nat} {r:Reach} {v:Value} {d:DataW H} {p:List MemPlace} (hv:Value.okWide prog w r b0 24 v) (h:DataW.Trod enc prog w base spare held 24 v d p) (hw:∀n∈d.weights prog 24,n<=reachBytes):
  ∃(vl:Sli) (s:List Int),v= .slice vl.a vl.n vl.c/\zr byE w (.slice vl.a vl.n vl.c) s/\vl.n<=vl.c/\∀z∈s,0<=z/\z<256:=by
 obtain⟨fuel,hf⟩:=h;obtain⟨v0,ps,e0,s0,q0,w0⟩:=zjb byE.enc (fun z=>0<=z/\z<256) 1 underlying24 zl9 (fun n cs x _ ht=>by
  obtain⟨z,hz,hz2,hz3⟩:=DataW.trod_int underlying5 ht;refine⟨z,?_,hz⟩;have:=hz3;simp only[Lit.wf,Bool.and_eq_true,decide_eq_true_eq]at this;have e1:IntKind.u8.min=0:=rfl;have e2:IntKind.u8.max=255:=rfl;rw[e1,e2]at this;exact⟨this.1,by have:=this.2;omega⟩) hf
 obtain⟨a,c,rfl,s2,s3⟩:=s0;obtain⟨a1,l1,c1,rfl⟩:=okWide_slice underlying24 hv;have e1:Value.slice a1 l1 c1= .slice a ps.length c:=by simpa [Value.cells]using e0
 cases e1;refine⟨⟨a,ps.length,c⟩,ps,rfl,⟨⟨a,c,rfl,s2,s3⟩,?_⟩,?_,fun z hz=>(q0 z hz).1⟩
 ·rcases w0 with rfl|⟨es,sp,he,hel⟩
  ·show 0*1<=_
   omega
  have he':d= .slice es sp:=he;have:=hw ((es.length+sp.length)*Tryz.prog.bytesOf 5) (by rw[he'];simp[DataW.weights,underlying24])
  rw[zmb]at this;unfold reachBytes at this
  show ps.length*1<=_
  omega
 rcases Go.Deep.open_slice underlying24 hf with⟨h1,_⟩|⟨a',len,cap,_,_,_,_,h1,_,hl,_⟩
 ·have e2:Value.slice a ps.length c= .slice none 0 0:=by simpa [Value.cells]using h1
  simp only[vJ]at e2
  show ps.length<=c
  omega
 have e2:Value.slice a ps.length c= .slice (some a') len cap:=by simpa [Value.cells]using h1
 simp only[vJ]at e2
 show ps.length<=c
 omega
theorem ze4 {b0:Nat} {r:Reach} {v:Value} {d:DataW H} {p:List MemPlace} (hv:Value.okWide prog w r b0 23 v) (h:DataW.Trod enc prog w base spare held 23 v d p):∃F S B:Int,v= .agg #[.int .i64 F,.int .i64 S,.int .i64 B]:=by
 obtain⟨cs,rfl,hsz,_⟩:∃cs,v= .agg cs/\cs.size=Tryz.prog.cellsOf 23/\Row.okWide prog w r b0 23 cs:=by
  simpa [Value.okWide,underlying23]using hv
 obtain⟨fuel,hf⟩:=h;obtain⟨xs,n,_,_,hlen,hl,hf⟩:=DataW.trod_struct underlying23 hf;rw[zma]at hlen;have hxl:xs.length=3:=hl;obtain⟨cs⟩:=cs;simp only[Value.cells]at hlen hf;have h0:DataW.trod enc prog w base spare held n 3 ((cs.drop 0).take (Tryz.prog.cellsOf 3))=xs[0]?:=hf 0 _ rfl;have h1:DataW.trod enc prog w base spare held n 3 ((cs.drop 1).take (Tryz.prog.cellsOf 3))=xs[1]?:=hf 1 _ rfl;have h2:DataW.trod enc prog w base spare held n 3 ((cs.drop 2).take (Tryz.prog.cellsOf 3))=xs[2]?:=hf 2 _ rfl;rw[zl8]at h0 h1 h2;rw[gE (by omega)]at h0 h1 h2
 obtain⟨r0,e0,_,_⟩:=DataW.trod_int underlying3 h0;obtain⟨r1,e1,_,_⟩:=DataW.trod_int underlying3 h1;obtain⟨r2,e2,_,_⟩:=DataW.trod_int underlying3 h2;obtain⟨c0,c1,c2,rfl⟩:∃c0 c1 c2,cs=[c0,c1,c2]:=by
  match cs,hlen with
  | [c0,c1,c2],_=>exact⟨c0,c1,c2,rfl⟩
 simp only[List.drop_succ_cons,List.drop_zero,List.take_succ_cons,List.take_zero,List.cons.injEq,and_true]at e0 e1 e2;subst e0 e1 e2;exact⟨r0,r1,r2,rfl⟩
end
theorem own:ownKnob Tryz.prog.godebug=none:=by kernel_rfl
theorem laidOut:laidOutB prog=true:=by kernel_rfl
theorem J1 (os:Os) (started:os.Started) (H:Type) (enc:TypeId × Value->H):
  ReturnsInHanded {} Tryz.checked os 10 .any (Rows.pagingCleanSpec.pre6 enc prog Tryz.f10 Rows.pagingCleanRow.domain false) (Rows.pagingCleanSpec.post enc prog Tryz.f10 false true false false):=by
 refine returnsInHanded_of_change_sized (C:=Tryz.checked) own started (by kernel_rfl) func10
  (ChangeSpec.witness6 (enc:=enc) (C:=Tryz.checked) false ⟨#[],#[.agg #[.int .i64 0,.int .i64 0,.int .i64 0],.slice none 0 0],[]⟩ 8 (by kernel_rfl) (by kernel_rfl) (by kernel_rfl) (by kernel_rfl)) ?_
 intro W base args ds gs before hval0 hW hcnd hsz0 _;have hsz:(DataW.weightsEach prog (Tryz.f10.params.toList++Rows.pagingCleanSpec.plain.varTypes prog) (ds++gs)).all (·<=reachBytes)=true:=hsz0;have hval:∀(j:Nat) t v,Tryz.f10.params[j]? =some t->args[j]? =some v->Value.okWide prog W .any base t v:=hval0;have hW':=hW;obtain⟨p,q,hA0,hV,rfl,hfz,hnd⟩:=hW;have hA:DataW.TrodAll enc prog W 0 (fun _=>true) true Tryz.f10.params.toList args.toList ds p:=hA0
 rw[Tryz.params10]at hA hval hsz;obtain⟨v0,vs0,d0,ds0,p0,q0,hargs,rfl,rfl,k0,r0⟩:=trodAll_cons hA;obtain⟨v1,vs1,d1,ds1,p1,q1,rfl,rfl,rfl,k1,r1⟩:=trodAll_cons r0;obtain⟨rfl,rfl,rfl⟩:=trodAll_nil r1;obtain rfl:args=#[v0,v1]:=by cases args;simp_all
 obtain⟨rfl,rfl⟩:=trodVars_none hV;have lt0:∀x∈p0,x.block<W.heap.size:=by obtain⟨m,hm⟩:=k0;exact DataW.trod_lt m _ _ _ hm
 have lt1:∀x∈p1,x.block<W.heap.size:=by obtain⟨m,hm⟩:=k1;exact DataW.trod_lt m _ _ _ hm
 obtain⟨cF,cS,cB,hce⟩:=ze4 (hval 0 23 v0 rfl rfl) k0;subst hce;obtain⟨vl,ll,hvl,hrow,hcap,hbyt⟩:=zgv (hval 1 24 v1 rfl rfl) k1 (fun n hn=>by
  have:=List.all_eq_true.1 hsz n (DataW.weights_mem_each (j:=1) (t:=24) (d:=d1) rfl rfl n hn)
  simpa using this)
 subst hvl;clear hA0 hval0 hsz0;refine(zes cF cS cB vl ll W hrow hcap hbyt).mono fun e W' ⟨he,bel⟩=>?_
 subst he;have stay:∀{t:TypeId} {v:Value} {d:DataW H} {ps:List MemPlace},Tryz.prog.readableRec t=true->t<Tryz.prog.types.size->DataW.Trod enc prog W 0 (fun _=>true) true t v d ps->(∀x∈ps,x.block<W.heap.size)->DataW.Trod enc prog W' 0 (fun b=>decide (b<W.heap.size)) true t v d ps:=
  fun h1 h2 h3 h4=>Below.trod laidOut h1 h2 h3 bel h4
 exact⟨_,rfl,_,_,_,[],_,[],hW',trodAll_mk1 (shut_bool underlying4 _),(trodAll_cons_mk (stay (by kernel_rfl) (of_decide_eq_true (by kernel_rfl)) k0 lt0) (trodAll_cons_mk (stay (by kernel_rfl) (of_decide_eq_true (by kernel_rfl)) k1 lt1) trodAll_mk0)),rfl,Below.frame bel _,fun h=>by cases h⟩
theorem zaP:Rows.pagingCleanRow.holds Tryz.pinned (OpenSpec.ofChange Rows.pagingCleanSpec):=
 OpenClaim.holds_of_wide 10 Tryz.f10 rfl rfl rfl rfl rfl rfl rfl ⟨rfl,rfl,rfl,rfl,rfl⟩ rfl rfl rfl rfl rfl (by kernel_rfl) func10 (by kernel_rfl)
  (of_decide_eq_true (by kernel_rfl)) (by unfold Func.isWrapper;first | (rw[if_pos (by decide+kernel)];kernel_rfl) | (rw[if_neg (by decide+kernel)];exact⟨rfl,rfl⟩))
  (fun os started H enc _=>J1 os started H enc)
theorem pagingClean_holds:Rows.PagingCleanSaid:=zaP
#print axioms pagingClean_holds
end
end Go.Proofs.YtacihbmelcegbaaGreat
