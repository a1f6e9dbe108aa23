import Derived.Test.YtdgccecjbpgmfaaGreatPS2
import Derived.BigQuiet
import Derived.Deep.Cut
import Derived.Laws.CopyRow
import Derived.Laws.CopyOwn
import Derived.Laws.MakeOwn
import Derived.RangeFuncNested
import Derived.RangeFuncBound
import Derived.RangeFuncCalls
import Derived.RangeFuncLeaves
import Derived.Shelf.Abstract
import Derived.Shelf.RegionOpen
import Derived.WalkKit
import Derived.OwnWalkIn
import Derived.TacticsInMore
import Derived.LoopNIn
import Derived.LoopIn
namespace Go.Proofs.YtdgccecjbpgmfaaGreat
set_option maxRecDepth 100000
set_option maxHeartbeats 4000000
variable{B B0 B1 b base' hi i id j q:Nat} {L:List Int} {Q Q':Exit->Act->World->Prop} {T:List (Nat->En)} {V:MaV} {W w' w0:World} {e t:TypeId} {m:Ma} {o oi oj:Oper} {ops:Array Oper} {us xs:List Value} {vl vt:Sli} {z:Int}
open Go.Proofs.Tryz
section
open Go.RowKit
theorem zc6 (v:Value) (fs:List Int) (w:World) (hv:zr slE w v fs):
  Calls prog 71 #[v] w fun e w'=>∃v',e= .returned v'/\zb slE w.heap.size w' v' fs/\zc w w':=by
 have HV:Hid (zr slE w v fs):=hv;obtain⟨⟨a,c,rfl,hnone,hcells⟩,hbytes⟩:=hv;have q22:∀(w:World) (a:Option Addr) (n c n' c':Nat),(binOp .eql 30 (.slice a n c) (.slice none n' c')).run prog w= .ok (.bool a.isNone) w:=fun w a n c n' c'=>Lib.run_eql_slice_nil w _ _ a n c n' c' underlying30
 cases a with
 | none=>
  have hps:=hnone rfl;subst hps;clear hcells hnone hbytes
  go_enter func71,ntmps71
  go_wp2;go_ret;exact⟨_,rfl,zb.nil _ _ _,zc.refl w⟩
 | some x=>
  have HB:Hid (fs.length*8<=140737488355328):=hbytes;clear hcells hnone hbytes
  go_enter func71,ntmps71
  go_wp2_with (at_builtin;refine zD (E:=slE) rfl (.tmp 5) (.tmp 6) rfl w.heap.size _ [] rfl (zb.made slE w) _ fs rfl (HV.grew (za _ _)) ?qb (by simp) ?_)
  case qb=>rw[List.length_nil,zA];exact HB.out
  intro v' w1 hown hgrow;go_wp2;go_ret;exact⟨v',rfl,by simpa using hown,((bR _ w).alloc (nR _) _).grown hgrow (by simp) (by intro k hk;simp[Value.ownBlock]at hk;omega)⟩
section
variable(I:World->Prop) (P:Program) (ops:Array Oper) (S:Nat->Option (Value->Prop))
def jK (i:Nat) (F:Nat->World->Prop) (a:Act) (K:(Nat->World->Prop)->Act->Prop):Prop:=
 match ops[i]? with
 | none=>False
 | some o=>
  if Region.wanted o (yielded ops a.tmps)then
   match S i with
   | none=>∃v,(∀w,I w->(∀m,anc ops 9 m i=true->F m w)->(execOp a.eval o).run P w= .ok (.value v) w)/\K F (a.put o.dst v)
   | some s=>∃p:Value->World->Prop,(∀v w w',zc w w'->p v w->p v w')/\(∀w,I w->(∀m,anc ops 9 m i=true->F m w)->zN P o a w fun v w'=>I w'/\zc w w'/\s v/\p v w')/\∀v,s v->K (Qa F i (p v)) (a.put o.dst v)
  else K F (a.put o.dst undef)
def zja (Q:Act->World->Prop):List Nat->(Nat->World->Prop)->Act->Prop
 | [],F,a=>∀w,I w->(∀i,F i w)->Q a w
 | i :: l,F,a=>jK I P ops S i F a (zja Q l)
end
section
variable{I:World->Prop} {P:Program} {ops:Array Oper} {S:Nat->Option (Value->Prop)} {T:Nat}
theorem jK.mono {F:Nat->World->Prop} {a:Act} {K K':(Nat->World->Prop)->Act->Prop}
  (h:∀F' a',(∀m,m≠i->F' m=F m)->K F' a'->K' F' a') (hc:jK I P ops S i F a K):jK I P ops S i F a K':=by
 unfold jK at*
 split
 ·rename_i ho;simp only[ho]at hc
 rename_i o ho
 simp only[ho]at hc
 split
 ·rename_i hw
  simp only[hw,if_true]at hc
  split
  ·rename_i hs
   simp only[hs]at hc;obtain⟨v,h1,h2⟩:=hc;exact⟨v,h1,h _ _ (fun _ _=>rfl) h2⟩
  rename_i s hs
  simp only[hs]at hc;obtain⟨p,hp,hd,hc⟩:=hc;exact⟨p,hp,hd,fun v hv=>h _ _ (fun m hm=>qf hm) (hc v hv)⟩
 rename_i hw
 simp only[hw]at hc;exact h _ _ (fun _ _=>rfl) hc
theorem jK.swap {F:Nat->World->Prop} {a:Act} {K:(Nat->World->Prop)->Act->Prop} {w:World}
  (hi:ops[i]? =some oi) (hj:ops[j]? =some oj) (hne:i≠j) (hap:oi.apart ops oj=true)
  (hsi:∀cs b,oi.op≠.select cs b) (hsj:∀cs b,oj.op≠.select cs b)
  (hij:anc ops 9 i j=false) (hji:anc ops 9 j i=false) (hS:∀s,S i=some s->∃v,s v) (hch:S i≠none->S j≠none->anc ops 9 i j=true\/anc ops 9 j i=true)
  (hw0:I w) (hF:∀m,anc ops 9 m j=true->F m w)
  (h:jK I P ops S i F a fun F' a'=>jK I P ops S j F' a' K):jK I P ops S j F a fun F' a'=>jK I P ops S i F' a' K:=by
 obtain⟨h1,h2,h3⟩:=Oper.apart_spec hap;have ei:∀v,execOp (a.put oj.dst v).eval oi=execOp a.eval oi:=fun v=>execOp_put oi hsi a oj.dst v h3
 have ej:∀v,execOp (a.put oi.dst v).eval oj=execOp a.eval oj:=fun v=>execOp_put oj hsj a oi.dst v h1
 have wi:∀v,Region.wanted oi (yielded ops (a.put oj.dst v).tmps)=Region.wanted oi (yielded ops a.tmps):=fun v=>wanted_put oi a oj.dst v h3
 have wj:∀v,Region.wanted oj (yielded ops (a.put oi.dst v).tmps)=Region.wanted oj (yielded ops a.tmps):=fun v=>wanted_put oj a oi.dst v h1
 have di:∀v w K,zN P oi (a.put oj.dst v) w K=zN P oi a w K:=fun v w K=>by unfold zN;rw[ei]
 have dj:∀v w K,zN P oj (a.put oi.dst v) w K=zN P oj a w K:=fun v w K=>by unfold zN;rw[ej]
 have pc:∀v u,(a.put oi.dst v).put oj.dst u=(a.put oj.dst u).put oi.dst v:=fun v u=>Act.put_comm a v u h2
 have fi:∀p,(fun m=>anc ops 9 m i=true->Qa F j p m w=F m w)=fun _=>True:=fun p=>by
  funext m
  simp only[eq_iff_iff,iff_true];intro hm;rw[qf (fun e=>by subst e;rw[hji]at hm;cases hm)]
 have faci:∀p w',(∀m,anc ops 9 m i=true->Qa F j p m w')↔(∀m,anc ops 9 m i=true->F m w'):=fun p w'=>by
  constructor <;> intro hh m hm <;> have:=hh m hm
  ·rwa [qf (fun e=>by subst e;rw[hji]at hm;cases hm)]at this
  rwa [qf (fun e=>by subst e;rw[hji]at hm;cases hm)]
 have facj:∀p w',(∀m,anc ops 9 m j=true->Qa F i p m w')↔(∀m,anc ops 9 m j=true->F m w'):=fun p w'=>by
  constructor <;> intro hh m hm <;> have:=hh m hm
  ·rwa [qf (fun e=>by subst e;rw[hij]at hm;cases hm)]at this
  rwa [qf (fun e=>by subst e;rw[hij]at hm;cases hm)]
 clear fi;unfold jK at h⊢;simp only[hi,hj,ei,ej,wi,wj,di,dj,pc]at h⊢
 cases hwi:Region.wanted oi (yielded ops a.tmps) <;> cases hwj:Region.wanted oj (yielded ops a.tmps) <;>
  simp only[hwi,hwj,if_true,if_false,Bool.false_eq_true]at h⊢
 ·exact h
 ·cases hsj':S j with
  | none=>simp only[hsj']at h⊢;exact h
  | some s=>simp only[hsj']at h⊢;exact h
 ·cases hsi':S i with
  | none=>simp only[hsi']at h⊢;exact h
  | some s=>simp only[hsi']at h⊢;exact h
 cases hsi':S i with
 | none=>
  simp only[hsi']at h;obtain⟨vi,hri,h⟩:=h
  cases hsj':S j with
  | none=>
   simp only[hsj']at h⊢;obtain⟨vj,hrj,h⟩:=h;exact⟨vj,hrj,vi,hri,h⟩
  | some s=>
   simp only[hsj']at h⊢;obtain⟨p,hp,hd,hk⟩:=h;exact⟨p,hp,hd,fun vj hvj=>⟨vi,fun w' hw' hf=>hri w' hw' ((faci _ _).1 hf),hk vj hvj⟩⟩
 | some si=>
  simp only[hsi']at h;obtain⟨p,hp,hdi,h⟩:=h;obtain⟨v1,hv1⟩:=hS si hsi'
  cases hsj':S j with
  | none=>
   simp only[hsj']at h⊢;obtain⟨vj,hrj,_⟩:=h v1 hv1;refine⟨vj,fun w' hw' hf=>hrj w' hw' ((facj _ _).2 hf),p,hp,hdi,fun vi hvi=>?_⟩
   obtain⟨vj',hrj',hl⟩:=h vi hvi;have e1:=hrj w hw0 ((facj _ _).2 hF);have e2:=hrj' w hw0 ((facj _ _).2 hF);rw[e1]at e2;simp only[Result.ok.injEq,Next.value.injEq,and_true]at e2;subst e2;exact hl
  | some sj=>
   exfalso
   rcases hch (by rw[hsi'];simp) (by rw[hsj'];simp)with h1|h1
   ·rw[hij]at h1;cases h1
   rw[hji]at h1;cases h1
theorem zja.commute {Q:Act->World->Prop} {j:Nat} {oj:Oper} {w:World} (hj:ops[j]? =some oj) (hw0:I w)
  (hsel:∀(k:Nat) (o:Oper) cs b,ops[k]? =some o->o.op≠.select cs b) (hS:∀k s,S k=some s->∃v,s v) (hch:∀i k,i<k->S i≠none->S k≠none->anc ops 9 i k=true):
  ∀(l:List Nat) (F:Nat->World->Prop) (a:Act),l.Nodup->j∈l->
   (∀i∈l,i≠j->∃oi,ops[i]? =some oi/\(i<j->oi.apart ops oj=true)/\anc ops 9 i j=false/\(i<j->anc ops 9 j i=false))->
   (l.Pairwise (·< ·))->(∀m,anc ops 9 m j=true->F m w)->zja I P ops S Q l F a->zja I P ops S Q (j :: l.filter (· != j)) F a
 | [],_,_,_,hm,_,_,_,_=>by cases hm
 | i :: l,F,a,hnd,hm,hall,hsorted,hF,h=>by
  by_cases hij:i=j
  ·subst hij;have:(i :: l).filter (· != i)=l:=by
    rw[List.filter_cons];simp only[bne_self_eq_false,Bool.false_eq_true,if_false];refine List.filter_eq_self.2 fun x hx=>?_
    have:x≠i:=fun e=>(List.nodup_cons.1 hnd).1 (e ▸ hx)
    simpa using this
   rw[this];exact h
  have hjl:j∈l:=by
   rcases mC.1 hm with e|e
   ·exact absurd e.symm hij
   exact e
  have hlt:i<j:=(List.pairwise_cons.1 hsorted).1 j hjl;obtain⟨oi,hoi,hap,haij,haji⟩:=hall i (by simp) hij
  have hf:(i :: l).filter (· != j)=i :: l.filter (· != j):=by
   rw[List.filter_cons];have:(i != j)=true:=by simpa using hij
   simp[this]
  rw[hf];refine jK.swap hoi hj hij (hap hlt) (fun cs b=>hsel i oi cs b hoi) (fun cs b=>hsel j oj cs b hj) haij (haji hlt) (hS i) (fun q1 q2=> .inl (hch i j hlt q1 q2)) hw0 hF ?_
  refine jK.mono (fun F' a' hF' hl=>?_) h
  refine zja.commute hj hw0 hsel hS hch l F' a' (List.nodup_cons.1 hnd).2 hjl (fun k hk=>hall k (by simp[hk])) (List.pairwise_cons.1 hsorted).2 (fun m hma=>?_) hl
  rw[hF' m (fun e=>by subst e;rw[haij]at hma;cases hma)]
  exact hF m hma
theorem zds {Q:Act->World->Prop} {l:List Oper} {m:Nat} (hB:ZI ops T=true) (hTl:T+m=ops.size) (hll:l.length=m) (hops:∀j,l[j]? =ops[T+j]?) (hS:∀k s,S k=some s->∃v,s v)
  (hch:∀i k,i<k->S i≠none->S k≠none->anc ops 9 i k=true) (hQ:∀a w,Q a w->wpList P ops Q' l a w):
  ∀(fuel:Nat) (listed:Array Bool) (F:Nat->World->Prop) (a:Act) (w:World),listed.size=ops.size->(∀i,T<=i->i<ops.size->listed.getD i true=false)->(zg listed T).length=fuel->Qc ops listed->I w->
   (∀i,F i w)->(∀i w w',zc w w'->F i w->F i w')->zja I P ops S Q (zg listed T) F a->wpAny P .any ops Q' (fuel+m) listed a w:=by
 have hsel:=Region.noSelect_spec (ops:=ops) (by simp only[ZI,Bool.and_eq_true]at hB;exact hB.1.1)
 intro fuel
 induction fuel with
 | zero=>
  intro listed F a w hsz hout hl hc hw hF hFp h;have hnil:zg listed T=[]:=eN hl;rw[hnil]at h;rw[zA];refine Qo hB m l T listed a w (nR _) hsz hTl hll hops (fun i hi=>?_) hout (hQ _ _ (h w hw hF))
  cases hg:listed.getD i true with
  | true=>rfl
  | false=>
   have:i∈zg listed T:=List.mem_filter.2 ⟨List.mem_range.2 hi,by simp only[hg,beq_self_eq_true]⟩
   rw[hnil]at this;cases this
 | succ fuel ih=>
  intro listed F a w hsz hout hl hc hw hF hFp h;rw[Nat.add_right_comm];refine⟨fun hr=>?_,fun j hj=>?_⟩
  ·exfalso
   cases hu:zg listed T with
   | nil=>simp[hu]at hl
   | cons x xs=>
    have hx:x∈zg listed T:=by rw[hu];simp
    have hx':=List.mem_filter.1 hx;have hxT:x<T:=List.mem_range.1 hx'.1;have hxs:x<ops.size:=by omega
    have ho:ops[x]? =some ops[x]:=Array.getElem?_eq_getElem hxs;have hsorted:(zg listed T).Pairwise (·< ·):=List.Pairwise.filter _ List.pairwise_lt_range;have:x∈Region.ready .any ops listed:=by
     refine mem_ready.2 ⟨by simpa using hx'.2,ops[x],ho,fun e he hb=>?_⟩
     have hed:zbj ops e.on x=true:=(jA ho).2 ⟨e,he,hb,rfl⟩;have hlt:=jM hB ho _ hed
     cases hg:listed.getD e.on true with
     | true=>exact zac (by omega) hg
     | false=>
      have hmem:e.on∈zg listed T:=List.mem_filter.2 ⟨List.mem_range.2 (by omega),by simp only[hg,beq_self_eq_true]⟩
      rw[hu]at hmem hsorted
      rcases mC.1 hmem with e1|e1
      ·omega
      have:=(List.pairwise_cons.1 hsorted).1 _ e1;omega
    rw[hr]at this;cases this
  obtain⟨h0,oj,hoj,hall⟩:=mem_ready.1 hj;have hjs:j<ops.size:=(aS.1 hoj).1;have hdir:∀k,zbj ops k j=true->listed.getD k false=true:=fun k hk=>by
   obtain⟨e,he,hb,rfl⟩:=(jA hoj).1 hk;exact hall e he hb
  have hjT:j<T:=by
   rcases Nat.lt_or_ge j T with h1|h1
   ·exact h1
   exfalso
   cases hu:zg listed T with
   | nil=>simp[hu]at hl
   | cons x xs=>
    have hx:x∈zg listed T:=by rw[hu];simp
    have hx':=List.mem_filter.1 hx;have hxT:x<T:=List.mem_range.1 hx'.1;have:=qt hc j x j hdir (Zy hB hoj h1 x (by omega))
    rw[qO (by simpa using hx'.2)]at this
    cases this
  have hju:j∈zg listed T:=List.mem_filter.2 ⟨List.mem_range.2 hjT,by simp only[h0,beq_self_eq_true]⟩
  have hnd:(zg listed T).Nodup:=List.Pairwise.filter _ List.nodup_range;have hsorted:(zg listed T).Pairwise (·< ·):=List.Pairwise.filter _ List.pairwise_lt_range;have hcm:=zja.commute hoj hw hsel hS hch (zg listed T) F a hnd hju (fun i hi hij=>by
   have hi':=List.mem_filter.1 hi;have hun:listed.getD i false=false:=qO (by simpa using hi'.2)
   have his:i<ops.size:=by have:=List.mem_range.1 hi'.1;omega
   have hoi:ops[i]? =some ops[i]:=Array.getElem?_eq_getElem his;refine⟨ops[i],hoi,fun hlt=>?_,?_,fun hlt=>?_⟩
   ·rcases ZH hB hoj hjT i hlt with he|⟨oi,hoi',hap⟩
    ·have:=hdir i he;rw[hun]at this;cases this
    rw[hoi]at hoi';cases hoi';exact hap
   ·cases ha:anc ops 9 i j with
    | false=>rfl
    | true=>
     have:=qt hc 9 i j hdir ha;rw[hun]at this;cases this
   cases ha:anc ops 9 j i with
   | false=>rfl
   | true=>
    have:=za9 hB 9 j i ha
    omega) hsorted (fun m _=>hF m) h
  have hsz':(listed.setIfInBounds j true).size=ops.size:=by simp[hsz]
  have hout':∀i,T<=i->i<ops.size->(listed.setIfInBounds j true).getD i true=false:=fun i hi hi'=>by rw[getD_set_ne true (by omega)];exact hout i hi hi'
  have hlen':(zg (listed.setIfInBounds j true) T).length=fuel:=by
   rw[qw (by omega)]
   have he:(zg listed T).filter (· != j)=(zg listed T).erase j:=by
    rw[List.Nodup.erase_eq_filter hnd]
   rw[he,List.length_erase_of_mem hju];omega
  have hc':Qc ops (listed.setIfInBounds j true):=fun i k hk hik=>by
   by_cases hkj:j=k
   ·subst hkj;exact getD_set_true (hdir i hik)
   rw[getD_set_ne false hkj]at hk;exact getD_set_true (hc i k hk hik)
  unfold wpOp;simp only[hoj];simp only[zja,jK,hoj]at hcm;rw[<-qw (by omega)]at hcm
  split
  ·rename_i hwant
   simp only[hwant,if_true]at hcm;refine .inl ?_
   cases hs:S j with
   | none=>
    simp only[hs]at hcm;obtain⟨v,hrun,hk⟩:=hcm;have hr:=hrun w hw (fun m _=>hF m)
    unfold Oper.wp;rw[hr];exact ih _ F _ w hsz' hout' hlen' hc' hw hF hFp hk
   | some s=>
    simp only[hs]at hcm;obtain⟨p,hp,hd,hk⟩:=hcm;refine(hd w hw (fun m _=>hF m)).wp fun v w' ⟨hi',hstep,hpv,hpost⟩=>?_
    refine ih _ (Qa F j (p v)) _ w' hsz' hout' hlen' hc' hi' (fun i=>?_) (fun i u u' hu h1=>?_) (hk v hpv)
    ·unfold Qa
     split
     ·exact hpost
     exact hFp i w w' hstep (hF i)
    unfold Qa at h1⊢
    split at h1
    ·rename_i e
     rw[if_pos e];exact hp v u u' hu h1
    rename_i e
    rw[if_neg e];exact hFp i u u' hu h1
  rename_i hwant
  simp only[hwant]at hcm;exact ih _ F _ w hsz' hout' hlen' hc' hw hF hFp hcm
end
section
variable{I:World->Prop} {P:Program} {ops:Array Oper} {S:Nat->Option (Value->Prop)} {Q:Act->World->Prop}
variable(I P ops S Q)in
def zav:List Oper->Nat->(Nat->World->Prop)->Act->Prop
 | [],_,F,a=>∀w,I w->(∀i,F i w)->Q a w
 | o :: rest,k,F,a=>
  if Region.wanted o (yielded ops a.tmps)then
   match S k with
   | none=>∃v,(∀w,I w->(∀m,anc ops 9 m k=true->F m w)->(execOp a.eval o).run P w= .ok (.value v) w)/\zav rest (k+1) F (a.put o.dst v)
   | some s=>∃p:Value->World->Prop,(∀v w w',zc w w'->p v w->p v w')/\(∀w,I w->(∀m,anc ops 9 m k=true->F m w)->zN P o a w fun v w'=>I w'/\zc w w'/\s v/\p v w')/\∀v,s v->zav rest (k+1) (Qa F k (p v)) (a.put o.dst v)
  else zav rest (k+1) F (a.put o.dst undef)
theorem QQ:∀(l:List Oper) (k:Nat) (F:Nat->World->Prop) (a:Act),(∀j,l[j]? =ops[k+j]?\/l.length<=j)->zav I P ops S Q l k F a->zja I P ops S Q (List.range' k l.length) F a
 | [],_,_,_,_,h=>h
 | o :: l,k,F,a,hl,h=>by
  have h0:ops[k]? =some o:=by
   rcases hl 0 with e|e
   ·simpa using e.symm
   simp at e
  have hnext:∀j,l[j]? =ops[k+1+j]?\/l.length<=j:=fun j=>by
   rcases hl (j+1)with e|e
   ·left;rw[List.getElem?_cons_succ]at e;rw[e];congr 1;omega
   right;simpa using e
  simp only[List.length_cons,List.range'_succ,zja,jK,h0];unfold zav at h
  split
  ·rename_i hw
   simp only[hw,if_true]at h
   cases hs:S k with
   | none=>
    simp only[hs]at h;obtain⟨v,h1,h2⟩:=h;exact⟨v,h1,QQ l (k+1) _ _ hnext h2⟩
   | some s=>
    simp only[hs]at h;obtain⟨p,hp,hd,hk⟩:=h;exact⟨p,hp,hd,fun v hv=>QQ l (k+1) _ _ hnext (hk v hv)⟩
  rename_i hw
  simp only[hw]at h;exact QQ l (k+1) _ _ hnext h
variable(I P ops S Q)in
structure zfk (l:List Oper) (k:Nat) (F:Nat->World->Prop) (a:Act):Prop where
 out:zav I P ops S Q l k F a
theorem ZU {Q:Exit->Act->World->Prop} {a:Act} {w:World} {L l r:List Oper} (T:Nat) (S:List (Nat ×(Value->Prop))) (hI:I w.drew) (hm:P.follows .mixedOrders=true) (hB:ZI L.toArray T=true) (hl:L.take T=l) (hr:L.drop T=r) (hT:T<=L.length)
  (hS:∀x∈S,∃v,x.2 v) (hch:((S.map (·.1)).all fun i=>(S.map (·.1)).all fun k=>!decide (i<k) || anc L.toArray 9 i k)=true)
  (h:zfk I P L.toArray (fun k=>S.lookup k) (fun a w=>wpList P L.toArray Q r a w) l 0 (fun _ _=>True) a):(Code.region id L.toArray true).wp P Q a w:=by
 have hlook:∀(S:List (Nat ×(Value->Prop))) k s,S.lookup k=some s->∃x∈S,x.2=s/\x.1=k:=by
  intro S
  induction S with
  | nil=>intro k s h;simp at h
  | cons x S ih=>
   intro k s h;rw[List.lookup_cons]at h
   split at h
   ·rename_i he
    exact⟨x,by simp,by simpa using h,by simpa using(by simpa using he:k=x.1).symm⟩
   obtain⟨y,hy,he⟩:=ih k s h;exact⟨y,by simp[hy],he⟩
 have hlT:l.length=T:=by rw[<-hl,List.length_take];omega
 have hrT:r.length=L.length - T:=by rw[<-hr,List.length_drop]
 refine wp_region_any hm ?_;have hu:zg (Array.replicate L.toArray.size false) T=List.range T:=by
  unfold zg;refine List.filter_eq_self.2 fun i hi=>?_
  have:i<T:=by simpa using hi
  simp[show i<L.length by omega]
 have h':=QQ (ops:=L.toArray) l 0 _ a (fun j=>by
  rcases Nat.lt_or_ge j T with hj|hj
  ·left;rw[<-hl,List.getElem?_take_of_lt hj];simp
  right;omega) h.out
 rw[hlT,<-List.range_eq_range']at h';have hfin:=zds (I:=I) (P:=P) (S:=fun k=>S.lookup k) (F:=fun _ _=>True) (ops:=L.toArray) (T:=T) (l:=r) (m:=L.length - T) (Q:=fun a w=>wpList P L.toArray Q r a w) (Q':=Q) hB (by simp;omega) hrT (fun j=>by rw[<-hr,List.getElem?_drop];simp) (fun k s hs=>by obtain⟨x,hx,rfl,_⟩:=hlook S k s hs;exact hS x hx) (fun i k hik hi hk=>by
   obtain⟨si,hsi⟩:=Option.ne_none_iff_exists'.1 hi;obtain⟨sk,hsk⟩:=Option.ne_none_iff_exists'.1 hk;obtain⟨x,hx,_,rfl⟩:=hlook S i si hsi;obtain⟨y,hy,_,rfl⟩:=hlook S k sk hsk;have h1:=List.all_eq_true.1 (List.all_eq_true.1 hch x.1 (List.mem_map.2 ⟨x,hx,rfl⟩)) y.1 (List.mem_map.2 ⟨y,hy,rfl⟩)
   simpa [hik]using h1) (fun _ _ h=>h)
  T (Array.replicate L.toArray.size false) a w.drew (by simp) (fun i hi hi'=>by simp at hi';simp[hi']) (by rw[hu];simp) (fun i j hj _=>by
   exfalso;rw[Array.getD_eq_getD_getElem?,Array.getElem?_replicate]at hj
   split at hj <;> simp at hj)
  hI (fun _=>trivial) (fun _ _ _ _ _=>trivial) (by rw[hu];exact h')
 have hsz:T+(L.length - T)=L.toArray.size:=by simp;omega
 rw[hsz]at hfin;exact hfin
variable{o:Oper} {rest:List Oper} {k:Nat} {F:Nat->World->Prop} {a:Act}
theorem qD (ht:zld o=true) (hw:Region.wanted o (yielded ops a.tmps)=true) (hS:S k=none)
  (h:∀K:Act->Prop,(∀a,zfk I P ops S Q rest (k+1) F a->K a)->o.quiet P a (fun w'=>∃x:zj I,w'=x.world) K):zfk I P ops S Q (o :: rest) k F a:=by
 obtain⟨v,h1,h2⟩:=h _ fun _ h=>h
 constructor;unfold zav;rw[if_pos hw];simp only[hS];refine⟨v,fun w hg _=>?_,h2.out⟩
 have h3:=h1 w ⟨⟨w,hg⟩,rfl⟩;unfold Oper.quietAt at h3;have hne:=fun n w'=>@JG P o ht a.eval w w' n
 generalize(execOp a.eval o).run P w=r at*
 cases r with
 | ok n w'=>
  cases n <;> simp only[Oper.quietUpon]at h3
  case value u=>rw[h3.1,h3.2]
  case skip=>obtain⟨_,he⟩:=hne _ _ rfl;cases he
  case enter f args=>obtain⟨_,he⟩:=hne _ _ rfl;cases he
 | halt x w'=>simp only[Oper.quietUpon]at h3
theorem ZJ {s:Value->Prop} (hw:Region.wanted o (yielded ops a.tmps)=true) (hS:S k=some s) (p:Value->World->Prop) (hp:∀v w w',zc w w'->p v w->p v w')
  (h:∀w,I w->(∀m,anc ops 9 m k=true->F m w)->zN P o a w fun v w'=>I w'/\zc w w'/\s v/\p v w')
  (hn:∀v,s v->zfk I P ops S Q rest (k+1) (Qa F k (p v)) (a.put o.dst v)):zfk I P ops S Q (o :: rest) k F a:=by
 constructor;unfold zav;rw[if_pos hw];simp only[hS];exact⟨p,hp,h,fun v hv=>(hn v hv).out⟩
theorem zbB (h:∀w,I w->(∀i,F i w)->Q a w):zfk I P ops S Q [] k F a:=⟨h⟩
end
structure zkb (base:Nat) (w:World) (V:MaV) (m:Ma):Prop where
 fs:zb zaq base w (V.f.x) m.fs
 sl:zb slE base w (V.s.x) m.sl
 sb:zw base w (V.sb.x) m.sb
 sq:z5 base w (V.sq.x) m.sq
 db:zw base w (V.db.x) m.db
 dq:z5 base w (V.dq.x) m.dq
 fl:∃lo,qY lo w (V.fl.x) m.fl/\base<=lo/\∀g,(V.s.x).ownBlock=some g->g<lo
 ca:zb jc base w (V.ca.x) m.ca
 sp:Qf base w (V.sp.x) m.sp
 ap:∀g,(V.sb.x).ownBlock=some g->(V.db.x).ownBlock≠some g
theorem JD.now0 {w:World} {v:Value} {fs:List Fl} (h:JD B0 B1 w v fs):qW w v fs:=by
 obtain⟨hc,xs,k1,k2,k3⟩:=h;exact⟨hc,xs,k1.now.s0,k2,fun i x f hx hf=>⟨(k3 i x f hx hf).1,(k3 i x f hx hf).2.now.s0⟩⟩
theorem zgu {base:Nat} {w:World} {v:Value} {l:List (List Int)} (h:zw base w v l):∀g,v.ownBlock=some g->base<=g/\g<w.heap.size:=h.1.lt
theorem ZD {w:World} {base size n g:Nat} {v:Value} (h:w.ownsRow base e size v n xs) (hg:w.grownBy w' (some g)) (hlt:g<base):w'.ownsRow base e size v n xs:=by
 refine⟨h.1,?_⟩
 rcases h.2 with h1|⟨b,cap,cur,rfl,h2,h3,h4⟩
 ·exact .inl h1
 exact .inr ⟨b,cap,cur,rfl,h2,by rw[hg.block b (aS.1 h3).1 (fun e=>by cases e;omega)];exact h3,h4⟩
theorem zb.low {α:Type} {E:Elt α} {base g:Nat} {w:World} {v:Value} {l:List α} (h:zb E base w v l) (hg:w.grownBy w' (some g)) (hlt:g<base):zb E base w' v l:=⟨ZD h.1 hg hlt,h.2⟩
theorem QT.low {lo g:Nat} {w:World} {x:SpV} {s:Sp} (h:QT lo hi w x s) (hg:w.grownBy w' (some g)) (hlt:g<lo):QT lo hi w' x s:=
 ⟨h.live,h.ar.low hg hlt,⟨h.tb.len,h.tb.tlen,fun i v y hv hy=>(h.tb.row i v y hv hy).low hg hlt,h.tb.two⟩,h.arh,h.tbh⟩
theorem zkb.below {base g:Nat} {w:World} (h:zkb base w V m) (hg:w.grownBy w' (some g)) (hlt:g<base) (hb:base'<=base):zkb base' w' V m:=by
 obtain⟨lo,⟨ys,f1,f2,f3,f4⟩,l1,l2⟩:=h.fl;obtain⟨xs,B,s1,s2,s3,s4,s5⟩:=h.sp;refine⟨(h.fs.low hg hlt).base hb,(h.sl.low hg hlt).base hb,⟨qK (ZD h.sb.1 hg hlt) hb,h.sb.2⟩,⟨qK (ZD h.sq.1 hg hlt) hb,h.sq.2⟩,⟨qK (ZD h.db.1 hg hlt) hb,h.db.2⟩,⟨qK (ZD h.dq.1 hg hlt) hb,h.dq.2⟩,⟨lo,⟨ys,f1.low hg (by omega),f2,fun i x f hx hf=>⟨(f3 i x f hx hf).1,(f3 i x f hx hf).2.low hg (by omega)⟩,f4⟩,by omega,l2⟩,(h.ca.low hg hlt).base hb,⟨xs,B,(s1.low hg hlt).base hb,s2,by omega,s4,fun i x s hx hs=>(s5 i x s hx hs).low hg ?_⟩,h.ap⟩
 have:=zdJ s4 (nZ i);omega
theorem zju (V:MaV) (m:Ma) (w:World) (hm:zF w V m):
  Calls prog 25 #[.agg (mL V m).toArray] w fun e w'=>∃V':MaV,e= .returned (.agg (mL V' m).toArray)/\zkb w.heap.size w' V' m/\zc w w':=by
 obtain⟨n1,n2,-⟩:=hm.ns;have HM:Hid (zF w V m):=hm;have HC1:Hid (∀W,zc w W->Calls prog 70 #[.agg #[V.f.x,I6 m.hand]] W fun e w'=>∃b,e= .returned (.agg #[b,I6 m.hand])/\zb zaq W.heap.size w' b m.fs/\zc W w'):=show∀W,_ from fun W hW=>by
  have h:=(hm.grew hW).fs;(try simp only[Sli.x]at h⊢);rw[n1]at h⊢;exact zaY _ _ m.fs m.hand W h
 have HC2:Hid (∀W,zc w W->Calls prog 71 #[V.s.x] W fun e w'=>∃v',e= .returned v'/\zb slE W.heap.size w' v' m.sl/\zc W w'):=dD<|fun W hW=>zc6 _ m.sl W (hm.grew hW).sl
 have HC3:Hid (∀W,zc w W->Calls prog 72 #[.agg #[V.sb.x,V.sq.x]] W fun e w'=>∃d',e= .returned d'/\zge W.heap.size w' d' m.sb m.sq/\zc W w'):=dD<|fun W hW=>zh1 _ m.sb m.sq W ⟨_,_,rfl,(hm.grew hW).sb,(hm.grew hW).sq⟩
 have HC4:Hid (∀W,zc w W->Calls prog 72 #[.agg #[V.db.x,V.dq.x]] W fun e w'=>∃d',e= .returned d'/\zge W.heap.size w' d' m.db m.dq/\zc W w'):=dD<|fun W hW=>zh1 _ m.db m.dq W ⟨_,_,rfl,(hm.grew hW).db,(hm.grew hW).dq⟩
 have HC5:Hid (∀W,zc w W->Calls prog 73 #[.agg #[V.fl.x,I6 m.cnt]] W fun e w'=>∃b,e= .returned (.agg #[b,I6 m.cnt])/\qY (W.heap.size+2) w' b m.fl/\zc W w'/\W.heap.size+2<=w'.heap.size):=dD<|fun W hW=>zh2 _ m.fl m.cnt W (hm.grew hW).fl
 have HC6:Hid (∀W,zc w W->Calls prog 74 #[V.ca.x] W fun e w'=>∃v',e= .returned v'/\zb jc W.heap.size w' v' m.ca/\zc W w'):=dD<|fun W hW=>zf7 _ m.ca W (hm.grew hW).ca
 have HC7:Hid (∀W,zc w W->Calls prog 75 #[V.sp.x] W fun e w'=>∃v',e= .returned v'/\Qf W.heap.size w' v' m.sp/\zc W w'):=dD<|fun W hW=>zdG _ m.sp W (hm.grew hW).sp
 clear hm n1 n2;obtain⟨W0,hW0⟩:∃W0,(w.alloc (.cells (mL V m).toArray 41)).alloc (.cells zM.toArray 41)=W0:=⟨_,rfl⟩;have HG0:=gD2 hW0
 have X0:=x2a hW0
 have Y0:=x2b hW0
 have HS0:Hid (W0.heap.size=(w.heap.size+1+1)):=dD<|by rw[<-hW0];simp
 have HW0:Hid (_=W0):=hW0;clear hW0
 go_enter func25,ntmps25
 go_upto_region 1 with fail;rw[HW0.out];obtain⟨I,hI⟩:∃I:World->Prop,I=fun u=>zc W0 u:=⟨_,rfl⟩
 have HI:Hid (∀u,I u↔zc W0 u):=dD<|fun u=>by rw[hI]
 clear hI;have hI0:I W0.drew:=(HI _).2 (gW _)
 have hx0:=X0.h HI 0 rfl
 have hx1:=X0.h HI 1 rfl
 have hx2:=X0.h HI 2 rfl
 have hx3:=X0.h HI 3 rfl
 have hx4:=X0.h HI 4 rfl
 have hx5:=X0.h HI 5 rfl
 have hx6:=X0.h HI 6 rfl
 have hx7:=X0.h HI 7 rfl
 have hx8:=X0.h HI 8 rfl
 have hx9:=X0.h HI 9 rfl
 have hx10:=X0.h HI 10 rfl
 have hne:Nonempty (zj I):=⟨⟨_,hI0⟩⟩;have HSZ:Hid (∀u,I u->(w.heap.size+1+1)<=u.heap.size):=dD<|fun u hu=>by rw[<-HS0.out];exact bS ((HI _).1 hu)
 refine ZU (I:=I) 22 [(2,fun v=>∃s:Sli,v= .agg #[s.x,I6 m.hand]),(5,fun v=>∃s:Sli,v=s.x),(8,fun v=>∃b q:Sli,v= .agg #[b.x,q.x]),(11,fun v=>∃b q:Sli,v= .agg #[b.x,q.x]),(14,fun v=>∃s:Sli,v= .agg #[s.x,I6 m.cnt]),(17,fun v=>∃s:Sli,v=s.x),(20,fun v=>∃s:Sli,v=s.x)] hI0 qh (by kernel_rfl) rfl rfl (by decide) ?hS (by kernel_rfl) ?_
 case hS=>
  intro x hx;simp only[mC,nM,or_false]at hx
  rcases hx with rfl|rfl|rfl|rfl|rfl|rfl|rfl
  ·exact⟨_,zx,rfl⟩
  ·exact⟨_,zx,rfl⟩
  ·exact⟨_,zx,zx,rfl⟩
  ·exact⟨_,zx,zx,rfl⟩
  ·exact⟨_,zx,rfl⟩
  ·exact⟨_,zx,rfl⟩
  exact⟨_,zx,rfl⟩
 simp only[List.take,List.drop];iterate 2 (refine qD rfl rfl rfl (fun K hK=>?_);go_big_quiet_op;refine hK _ ?_;clear hK)
 refine ZJ rfl rfl (fun v w'=>∃s:Sli,v= .agg #[s.x,I6 m.hand]/\zb zaq (w.heap.size+1+1) w' (s.x) m.fs) (fun v u u' hu h=>by obtain⟨s,h1,h2⟩:=h;exact⟨s,h1,h2.grew hu⟩) (fun w' hI' hF=>?_) (fun v1 hv=>?_)
 ·have hg':zc w w':=HG0.trans ((HI _).1 hI');have hsz:=HSZ.out w' hI';refine zN.call [.agg #[V.f.x,I6 m.hand]] rfl func70 rfl rfl rfl ?_;refine(HC1 w' hg').mono ?_;rintro e w'' ⟨b,rfl,ow,hg2⟩;obtain⟨a2,c2,rfl⟩:=ow.form;exact⟨_,rfl,(HI _).2 (((HI _).1 hI').trans hg2),hg2,⟨⟨a2,_,c2⟩,rfl⟩,⟨a2,_,c2⟩,rfl,ow.base hsz⟩
 obtain⟨sf,rfl⟩:=hv;simp only[Act.put,sB,sS,sZ];iterate 2 (refine qD rfl rfl rfl (fun K hK=>?_);go_big_quiet_op;refine hK _ ?_;clear hK)
 refine ZJ rfl rfl (fun v w'=>zb slE (w.heap.size+1+1) w' v m.sl) (fun v u u' hu h=>zb.grew h hu) (fun w' hI' hF=>?_) (fun v1 hv=>?_)
 ·have hg':zc w w':=HG0.trans ((HI _).1 hI');have hsz:=HSZ.out w' hI';refine zN.call [V.s.x] rfl func71 rfl rfl rfl ?_;refine(HC2 w' hg').mono ?_;rintro e w'' ⟨b,rfl,ow,hg2⟩;obtain⟨a2,c2,rfl⟩:=ow.form;exact⟨_,rfl,(HI _).2 (((HI _).1 hI').trans hg2),hg2,⟨⟨a2,_,c2⟩,rfl⟩,ow.base hsz⟩
 obtain⟨ss,rfl⟩:=hv;simp only[Act.put,sB,sS,sZ];iterate 2 (refine qD rfl rfl rfl (fun K hK=>?_);go_big_quiet_op;refine hK _ ?_;clear hK)
 refine ZJ rfl rfl (fun v w'=>∃b q:Sli,v= .agg #[b.x,q.x]/\zw (w.heap.size+1+1) w' (b.x) m.sb/\z5 (w.heap.size+1+1) w' (q.x) m.sq) (fun v u u' hu h=>by obtain⟨b,q,h1,h2,h3⟩:=h;exact⟨b,q,h1,h2.grew hu,h3.grew hu⟩) (fun w' hI' hF=>?_) (fun v1 hv=>?_)
 ·have hg':zc w w':=HG0.trans ((HI _).1 hI');have hsz:=HSZ.out w' hI';refine zN.call [.agg #[V.sb.x,V.sq.x]] rfl func72 rfl rfl rfl ?_;refine(HC3 w' hg').mono ?_;rintro e w'' ⟨d,rfl,⟨b,q,rfl,ob,oq⟩,hg2⟩;obtain⟨a2,n2,c2,rfl⟩:=ob.slice;obtain⟨a3,n3,c3,rfl⟩:=oq.slice;exact⟨_,rfl,(HI _).2 (((HI _).1 hI').trans hg2),hg2,⟨⟨a2,n2,c2⟩,⟨a3,n3,c3⟩,rfl⟩,⟨a2,n2,c2⟩,⟨a3,n3,c3⟩,rfl,ob.base hsz,oq.base hsz⟩
 obtain⟨sb,sq,rfl⟩:=hv;simp only[Act.put,sB,sS,sZ];iterate 2 (refine qD rfl rfl rfl (fun K hK=>?_);go_big_quiet_op;refine hK _ ?_;clear hK)
 refine ZJ rfl rfl (fun v w'=>∃b q:Sli,v= .agg #[b.x,q.x]/\zw (w.heap.size+1+1) w' (b.x) m.db/\z5 (w.heap.size+1+1) w' (q.x) m.dq/\∀g,(sb.x).ownBlock=some g->(b.x).ownBlock≠some g) (fun v u u' hu h=>by obtain⟨b,q,h1,h2,h3,h4⟩:=h;exact⟨b,q,h1,h2.grew hu,h3.grew hu,h4⟩) (fun w' hI' hF=>?_) (fun v1 hv=>?_)
 ·have hg':zc w w':=HG0.trans ((HI _).1 hI');have hsz:=HSZ.out w' hI';refine zN.call [.agg #[V.db.x,V.dq.x]] rfl func72 rfl rfl rfl ?_;refine(HC4 w' hg').mono ?_;rintro e w'' ⟨d,rfl,⟨b,q,rfl,ob,oq⟩,hg2⟩;obtain⟨a2,n2,c2,rfl⟩:=ob.slice;obtain⟨a3,n3,c3,rfl⟩:=oq.slice;obtain⟨b8,q8,e8,o8,_⟩:∃b q:Sli,(Value.agg #[sb.x,sq.x])= .agg #[b.x,q.x]/\zw (w.heap.size+1+1) w' (b.x) m.sb/\z5 (w.heap.size+1+1) w' (q.x) m.sq:=hF 8 (by kernel_rfl)
  refine⟨_,rfl,(HI _).2 (((HI _).1 hI').trans hg2),hg2,⟨⟨a2,n2,c2⟩,⟨a3,n3,c3⟩,rfl⟩,⟨a2,n2,c2⟩,⟨a3,n3,c3⟩,rfl,ob.base hsz,oq.base hsz,fun g h1 h2=>?_⟩
  simp only[Value.agg.injEq,Array.mk.injEq,List.cons.injEq]at e8;rw[e8.1]at h1;have q1:=(zgu o8 g h1).2;have q2:=(zgu ob g h2).1;omega
 obtain⟨db,dq,rfl⟩:=hv;simp only[Act.put,sB,sS,sZ];iterate 2 (refine qD rfl rfl rfl (fun K hK=>?_);go_big_quiet_op;refine hK _ ?_;clear hK)
 refine ZJ rfl rfl (fun v w'=>∃s:Sli,v= .agg #[s.x,I6 m.cnt]/\∃lo,qY lo w' (s.x) m.fl/\(w.heap.size+1+1)<=lo/\∀g,(ss.x).ownBlock=some g->g<lo) (fun v u u' hu h=>by obtain⟨s,h1,lo,h2,h3,h4⟩:=h;exact⟨s,h1,lo,h2.grew hu,h3,h4⟩) (fun w' hI' hF=>?_) (fun v1 hv=>?_)
 ·have hg':zc w w':=HG0.trans ((HI _).1 hI');have hsz:=HSZ.out w' hI';refine zN.call [.agg #[V.fl.x,I6 m.cnt]] rfl func73 rfl rfl rfl ?_;refine(HC5 w' hg').mono ?_;rintro e w'' ⟨b,rfl,of,hg2,_⟩;have hof:=of;obtain⟨ys,oy,_⟩:=of;obtain⟨a2,c2,rfl⟩:=oy.form;have o5:zb slE (w.heap.size+1+1) w' (ss.x) m.sl:=hF 5 (by kernel_rfl)
  exact⟨_,rfl,(HI _).2 (((HI _).1 hI').trans hg2),hg2,⟨⟨a2,_,c2⟩,rfl⟩,⟨a2,_,c2⟩,rfl,w'.heap.size+2,hof,by omega,fun g h1=>by have:=(o5.lt g h1).2;omega⟩
 obtain⟨sl,rfl⟩:=hv;simp only[Act.put,sB,sS,sZ];iterate 2 (refine qD rfl rfl rfl (fun K hK=>?_);go_big_quiet_op;refine hK _ ?_;clear hK)
 refine ZJ rfl rfl (fun v w'=>zb jc (w.heap.size+1+1) w' v m.ca) (fun v u u' hu h=>zb.grew h hu) (fun w' hI' hF=>?_) (fun v1 hv=>?_)
 ·have hg':zc w w':=HG0.trans ((HI _).1 hI');have hsz:=HSZ.out w' hI';refine zN.call [V.ca.x] rfl func74 rfl rfl rfl ?_;refine(HC6 w' hg').mono ?_;rintro e w'' ⟨b,rfl,ow,hg2⟩;obtain⟨a2,c2,rfl⟩:=ow.form;exact⟨_,rfl,(HI _).2 (((HI _).1 hI').trans hg2),hg2,⟨⟨a2,_,c2⟩,rfl⟩,ow.base hsz⟩
 obtain⟨sc,rfl⟩:=hv;simp only[Act.put,sB,sS,sZ];iterate 2 (refine qD rfl rfl rfl (fun K hK=>?_);go_big_quiet_op;refine hK _ ?_;clear hK)
 refine ZJ rfl rfl (fun v w'=>Qf (w.heap.size+1+1) w' v m.sp) (fun v u u' hu h=>Qf.grew h hu) (fun w' hI' hF=>?_) (fun v1 hv=>?_)
 ·have hg':zc w w':=HG0.trans ((HI _).1 hI');have hsz:=HSZ.out w' hI';refine zN.call [V.sp.x] rfl func75 rfl rfl rfl ?_;refine(HC7 w' hg').mono ?_;rintro e w'' ⟨b,rfl,os,hg2⟩;have hos:=os;obtain⟨ys,B,oy,_⟩:=os;obtain⟨a2,c2,rfl⟩:=oy.form;exact⟨_,rfl,(HI _).2 (((HI _).1 hI').trans hg2),hg2,⟨⟨a2,_,c2⟩,rfl⟩,hos.base hsz⟩
 obtain⟨sp,rfl⟩:=hv;simp only[Act.put,sB,sS,sZ];iterate 1 (refine qD rfl rfl rfl (fun K hK=>?_);go_big_quiet_op;refine hK _ ?_;clear hK)
 refine zbB fun W3 hI3 hF=>?_
 have hg3:=(HI _).1 hI3;have F2:∃s:Sli,(Value.agg #[sf.x,I6 m.hand])= .agg #[s.x,I6 m.hand]/\zb zaq (w.heap.size+1+1) W3 (s.x) m.fs:=hF 2;have F5:zb slE (w.heap.size+1+1) W3 (ss.x) m.sl:=hF 5;have F8:∃b q:Sli,(Value.agg #[sb.x,sq.x])= .agg #[b.x,q.x]/\zw (w.heap.size+1+1) W3 (b.x) m.sb/\z5 (w.heap.size+1+1) W3 (q.x) m.sq:=hF 8;have F11:∃b q:Sli,(Value.agg #[db.x,dq.x])= .agg #[b.x,q.x]/\zw (w.heap.size+1+1) W3 (b.x) m.db/\z5 (w.heap.size+1+1) W3 (q.x) m.dq/\∀g,(sb.x).ownBlock=some g->(b.x).ownBlock≠some g:=hF 11;have F14:∃s:Sli,(Value.agg #[sl.x,I6 m.cnt])= .agg #[s.x,I6 m.cnt]/\∃lo,qY lo W3 (s.x) m.fl/\(w.heap.size+1+1)<=lo/\∀g,(ss.x).ownBlock=some g->g<lo:=hF 14;have F17:zb jc (w.heap.size+1+1) W3 (sc.x) m.ca:=hF 17;have F20:Qf (w.heap.size+1+1) W3 (sp.x) m.sp:=hF 20;have HOM:Hid (zkb (w.heap.size+1+1) W3 ⟨sf,ss,sb,sq,db,dq,sl,sc,sp⟩ m):=dD<|by
  obtain⟨s2,e2,o2⟩:=F2;obtain⟨b8,q8,e8,o8,p8⟩:=F8;obtain⟨b11,q11,e11,o11,p11,a11⟩:=F11;obtain⟨s14,e14,lo,o14,l14,a14⟩:=F14;simp only[Value.agg.injEq,Array.mk.injEq,List.cons.injEq]at e2 e8 e11 e14;rw[<-e2.1]at o2;rw[<-e8.1]at o8;rw[<-e8.2.1]at p8;rw[<-e11.1]at o11 a11;rw[<-e11.2.1]at p11;rw[<-e14.1]at o14;exact⟨o2,F5,o8,p8,o11,p11,⟨lo,o14,l14,a14⟩,F17,F20,a11⟩
 have Y3:=dD (Y0.grew hg3);have HG3:=dD (HG0.trans hg3);clear hF hI3 hg3 hx0 hx1 hx2 hx3 hx4 hx5 hx6 hx7 hx8 hx9 hx10 hne hI0
 go_wp2_with (refine zy rfl 41 (.tmp 2) (.tmp 24) rfl (w.heap.size+1) rfl [sf.x,I6 m.hand,ss.x,sb.x,sq.x,db.x,dq.x,sl.x,I6 m.cnt,sc.x,sp.x] rfl Y3 rfl (by kernel_rfl) (fun v hv=>by
    simp only[mC,nM,or_false]at hv
    rcases hv with rfl|rfl|rfl|rfl|rfl|rfl|rfl|rfl|rfl|rfl|rfl <;> rfl) ?_)
 intro W4 hb4 hg4 sz4;have HG4:Hid (zc w W4):=dD<|zd HG3 hg4 (by omega)
 have HO4:Hid (zkb w.heap.size W4 ⟨sf,ss,sb,sq,db,dq,sl,sc,sp⟩ m):=dD<|HOM.below hg4 (by omega) (by omega)
 go_wp2;refine bodyPost_ret (qd rfl _ rfl hb4 underlying41 rfl (by kernel_rfl)) rfl ⟨⟨sf,ss,sb,sq,db,dq,sl,sc,sp⟩,rfl,HO4,HG4⟩
theorem zmh:(Tryz.prog.info? 75).map (·.size)=some 192:=by kernel_rfl
def qk (l:List En):List Value:=l.flatMap env
theorem Zz (l:List En):(qk l).length=l.length*3:=jh l (fun _ _=>rfl)
theorem zda (l:List En):∀v∈qk l,v.oneCell'=true:=qV enE.one l
theorem zcl {l:List En} {e:En} (h:l[j]? =some e):(qk l)[j*3]? =some (I6 e.kind)/\(qk l)[j*3+1]? =some (I6 e.n)/\(qk l)[j*3+2]? =some (.bool e.wr):=
 ⟨qL (enc:=env) (k:=3) l j e (fun _ _=>rfl) h 0 _ rfl,qL (enc:=env) (k:=3) l j e (fun _ _=>rfl) h 1 _ rfl,qL (enc:=env) (k:=3) l j e (fun _ _=>rfl) h 2 _ rfl⟩
theorem zhO {cs:List Value} (a b c:Value) (h:j+3<=cs.length):((cs.set j a).set (j+1) b).set (j+2) c=splice cs j [a,b,c]:=by
 apply List.ext_getElem?
 intro i;unfold splice
 by_cases h1:i<j
 ·rw[sN (by omega),sN (by omega),sN (by omega),List.getElem?_append_left (by simp;omega),List.getElem?_take_of_lt h1]
 have hl:(cs.take j).length=j:=by simp;omega
 rw[aR (by omega),hl]
 by_cases h2:i=j
 ·subst h2;rw[sN (by omega),sN (by omega),sF (by omega),Nat.sub_self]
  rfl
 by_cases h3:i=j+1
 ·subst h3;rw[sN (by omega),sF (by simp;omega),show j+1 - j=1 by omega]
  rfl
 by_cases h4:i=j+2
 ·subst h4;rw[sF (by simp;omega),show j+2 - j=2 by omega]
  rfl
 rw[sN (by omega),sN (by omega),sN (by omega),aR (by simp;omega),List.getElem?_drop]
 congr 1
 simp;omega
theorem zht {l:List En} (e:En) (h:j<l.length):(((qk l).set (j*3) (I6 e.kind)).set (j*3+1) (I6 e.n)).set (j*3+2) (.bool e.wr)=qk (l.set j e):=by
 rw[zhO _ _ _ (by rw[Zz];omega)]
 exact Qp (enc:=env) (k:=3) e rfl l j (fun _ _=>rfl) h
def ze3:List En:=List.replicate 64 en0
theorem zhi:(Tryz.prog.info? 75).map (·.zero)=some (some (.agg (qk ze3).toArray)):=by kernel_rfl
theorem zes (w:World):(zeroValue 75).run prog w= .ok (.agg (qk ze3).toArray) w:=by
 have h:=zhi
 cases hq:Tryz.prog.info? 75 with
 | none=>simp[hq]at h
 | some i=>
  simp[hq]at h
  simp[zeroValue,typeInfo,hq,h]
def zgg (t:List (List En)) (i k:Nat) (l:List En):Prop:=l.length=64/\∀a b,a<8->b<8->l[8*a+b]? =some (if a<i\/(a=i/\b<k)then zaJ t a b else en0)
theorem zgg.zero (t:List (List En)):zgg t 0 0 ze3:=⟨by simp[ze3],fun a b ha hb=>by
 rw[if_neg (by omega),ze3,List.getElem?_replicate,if_pos (by omega)]⟩
theorem zgg.step {t:List (List En)} {k:Nat} {l:List En} (h:zgg t i k l) (hi:i<8) (hk:k<8):zgg t i (k+1) (l.set (8*i+k) (zaJ t i k)):=by
 refine⟨by simp[h.1],fun a b ha hb=>?_⟩
 by_cases e:a=i/\b=k
 ·obtain⟨rfl,rfl⟩:=e;rw[sF (by rw[h.1];omega),if_pos (by omega)]
 rw[sN (by omega),h.2 a b ha hb]
 by_cases h1:a<i\/(a=i/\b<k)
 ·rw[if_pos h1,if_pos (by omega)]
 rw[if_neg h1,if_neg (by omega)]
theorem zgg.next {t:List (List En)} {l:List En} {n:Nat} (h:zgg t i n l) (hn:∀b,n<=b->zaJ t i b=en0):zgg t (i+1) 0 l:=by
 refine⟨h.1,fun a b ha hb=>?_⟩
 rw[h.2 a b ha hb]
 by_cases h1:a<i\/(a=i/\b<n)
 ·rw[if_pos h1,if_pos (by omega)]
 rw[if_neg h1]
 by_cases h2:a=i
 ·subst h2;rw[if_pos (by omega),hn b (by omega)]
 rw[if_neg (by omega)]
theorem zgg.all {t:List (List En)} {l:List En} (h:zgg t 8 0 l):l=Jb t:=by
 apply List.ext_getElem?
 intro j
 by_cases hj:j<64
 ·have:=h.2 (j / 8) (j % 8) (by omega) (by omega)
  rw[if_pos (by omega),show 8*(j / 8)+j % 8=j by omega]at this
  rw[this,zbE t hj]
 rw[gN (by rw[h.1];omega),gN (by rw[ze2];omega)]
theorem za3 (vs:List Value) (t:List (List En)) (w:World) (hv:Zx w vs t) (hok:∀h∈t,h.length<=8):
  Calls prog 28 #[.agg vs.toArray] w fun e w'=>e= .returned (.agg (qk (Jb t)).toArray)/\zc w w':=by
 have HV:Hid (Zx w vs t):=hv;have HL:Hid (vs.length=8):=hv.len;have HOK:Hid (∀h∈t,h.length<=8):=hok;clear hv hok;have hz:=zes;obtain⟨Z0,HZ0⟩:∃Z0,Hid (qk ze3=Z0):=⟨_,rfl⟩;rw[HZ0.out]at hz;have HZL:Hid (Z0.length=192):=show _=_ by rw[<-HZ0.out,Zz];rfl
 obtain⟨C,HC⟩:∃C,Hid (qk (Jb t)=C):=⟨_,rfl⟩;rw[HC.out];obtain⟨W0,hW0⟩:∃W0,((w.alloc (.cells vs.toArray 53)).alloc (.cells Z0.toArray 75)).alloc (.cells Z0.toArray 75)=W0:=⟨_,rfl⟩;have HG0:Hid (zc w W0):=dD<|by rw[<-hW0];exact((za _ _).trans (za _ _)).trans (za _ _)
 have X0:Hid (Box W0 w.heap.size vs):=dD<|by rw[<-hW0];exact((Box.top w _ _ rfl).alloc _).alloc _
 have Y0:Hid (Box W0 (w.heap.size+1) Z0):=dD<|by rw[<-hW0];exact(Box.top _ _ _ (by simp)).alloc _
 have L0:Hid (Box W0 (w.heap.size+2) (qk ze3)):=dD<|by rw[<-hW0,HZ0.out];exact Box.top _ _ _ (by simp)
 have HW0:Hid (_=W0):=hW0;clear hW0
 go_enter func28,ntmps28
 go_upto_region 2 with fail;rw[HW0.out];clear hz
 go_wp2_with (refine qA rfl (.tmp 1) rfl w.heap.size rfl X0 HL.out ?_)
 go_loopg [9] 8 (fun gg s9 wr=>∃(kk:Nat) (l:List En),kk<=8/\8 - kk<=gg/\s9=I6 kk/\Hid (zc w wr)/\Hid (Box wr (w.heap.size+1) Z0)/\Hid (Box wr (w.heap.size+2) (qk l))/\Hid (zgg t kk 0 l))
 case atStart=>exact⟨0,ze3,nZ _,by omega,rfl,HG0,Y0,L0,zgg.zero t⟩
 obtain⟨kk,l,hkk,hg,rfl,BW,YW,LW,DW⟩:=hrel
 by_cases hlt:kk<8
 ·have hltz:(kk:Int)<8:=by omega
  obtain⟨xa,xc,q,hq,hvk,hr⟩:=HV.half hlt;have hq8:=HOK.out q (mG hq);have HGN:Hid (∀b,zaJ t kk b=q[b]?.getD en0):=dD<|fun b=>by unfold zaJ;rw[hq];rfl
  obtain⟨_,_,heq,hens⟩:=hr.ens;cases heq;have HE:Hid (zdf w xa q):=hens;obtain⟨nq,HNQ⟩:∃nq,Hid (q.length=nq):=⟨_,rfl⟩;rw[HNQ.out]at hvk hq8;have HVK:Hid (vs[kk]? =some (.slice xa nq xc)):=hvk;clear hens hr hq hvk
  go_wp2_with (refine zbP rfl (.tmp 8) (.tmp 9) rfl vs rfl kk rfl hlt HVK.out ?_)
  go_loopg [15] nq (fun g2 s15 wr2=>∃(k2:Nat) (l2:List En),k2<=nq/\nq - k2<=g2/\s15=I6 k2/\Hid (zc w wr2)/\Hid (Box wr2 (w.heap.size+1) Z0)/\Hid (Box wr2 (w.heap.size+2) (qk l2))/\Hid (zgg t kk k2 l2))
  case atStart=>exact⟨0,l,nZ _,by omega,rfl,BW,YW,LW,DW⟩
  obtain⟨k2,l2,hk2,hg2,rfl,BW2,YW2,LW2,DW2⟩:=hrel
  by_cases hlt2:k2<nq
  ·have hltz2:(k2:Int)< (nq:Int):=by omega
   obtain⟨z,HZ⟩:∃z,Hid (q[k2]? =some z):=⟨_,gE (by rw[HNQ.out];exact hlt2)⟩
   obtain⟨ad,rfl,hl2⟩:=HE.out k2 z HZ.out;obtain⟨d0,d1,d2⟩:=hl2 wr BW2.out;clear hl2;go_upto_region 8 with fail;obtain⟨px,hpx⟩:∃px,wr.heap.size=px:=⟨_,rfl⟩;obtain⟨W3,hW3⟩:∃W3,wr.alloc (.cells #[I6 z.kind,I6 z.n,.bool z.wr] 74)=W3:=⟨_,rfl⟩;have G3:=gT hW3 BW2
   have P3:Hid (Box W3 px [I6 z.kind,I6 z.n,.bool z.wr]):=dD<|by rw[<-hW3];exact Box.top _ _ _ hpx.symm
   have Y3:=yA hW3 YW2
   have L3:=yA hW3 LW2
   rw[hW3];rw[hpx];clear hW3 hpx d0 d1 d2;obtain⟨p0,p1,p2⟩:=P3.c3;have hidx:(8:Int)*(kk:Int)+(k2:Int)=((8*kk+k2:Nat):Int):=by omega
   have hi64:8*kk+k2<64:=by omega
   obtain⟨ix,HIX⟩:∃ix,Hid (8*kk+k2=ix):=⟨_,rfl⟩;rw[HIX.out]at hidx hi64;have hi64z:(ix:Int)<64:=by omega
   obtain⟨z0,hz0⟩:∃z0,l2[ix]? =some z0:=⟨_,gE (by rw[DW2.1];exact hi64)⟩
   obtain⟨c0,c1,c2⟩:=zcl hz0;have l0:=L3.c _ c0;have l1:=L3.c _ c1;have l2':=L3.c _ c2;have lf:=L3.f;clear c0 c1 c2 hz0;go_upto_region 9 with fail;obtain⟨W4,hW4⟩:∃W4,((W3.setCell ⟨w.heap.size+2,ix*3,none⟩ (I6 z.kind)).setCell ⟨w.heap.size+2,ix*3+1,none⟩ (I6 z.n)).setCell ⟨w.heap.size+2,ix*3+2,none⟩ (.bool z.wr)=W4:=⟨_,rfl⟩;have L4:Hid (Box W4 (w.heap.size+2) (qk (l2.set ix z))):=dD<|by
    rw[<-hW4,<-zht z (by rw[DW2.1];exact hi64)]
    exact((L3.set _ _).set _ _).set _ _
   have Y4:Hid (Box W4 (w.heap.size+1) Z0):=dD<|by
    rw[<-hW4];exact((Y3.other (by simp) _).other (by simp) _).other (by simp) _
   have G4:Hid (zc w W4):=dD<|by
    rw[<-hW4];exact Below.setCell (Below.setCell (Below.setCell G3 (p:=⟨w.heap.size+2,ix*3,none⟩) (by simp) _) (p:=⟨w.heap.size+2,ix*3+1,none⟩) (by simp) _) (p:=⟨w.heap.size+2,ix*3+2,none⟩) (by simp) _
   have D4:Hid (zgg t kk (k2+1) (l2.set ix z)):=dD<|by
    have h1:=DW2.step hlt (show k2<8 by omega)
    rw[HGN.out,HZ.out,HIX.out]at h1;exact h1
   rw[hW4];clear hW4 l0 l1 l2' lf p0 p1 p2 hidx;go_wp2
   go_roundg (nq -(k2+1))
   case measure=>omega
   exact⟨k2+1,_,by omega,by omega,by go_num,G4,Y4,L4,D4⟩
  have hltz2:¬(k2:Int)< (nq:Int):=by omega
  have:k2=nq:=by omega
  subst this;have D4:Hid (zgg t (kk+1) 0 l2):=DW2.next (fun b hb=>by rw[HGN.out,gN (by rw[HNQ.out];exact hb)];rfl)
  go_wp2
  go_roundg (8 -(kk+1))
  case measure=>omega
  exact⟨kk+1,l2,by omega,by omega,by go_num,BW2,YW2,LW2,D4⟩
 have hltz:¬(kk:Int)<8:=by omega
 have:kk=8:=by omega
 subst this;have LE:Hid (Box wr (w.heap.size+2) C):=dD<|by rw[<-HC.out,<-DW.all];exact LW.out
 have HFL:Hid (C.length=192):=dD<|by rw[<-HC.out,Zz,ze2]
 have HFO:Hid (∀v∈C,v.oneCell'=true):=dD<|by rw[<-HC.out];exact zda _
 go_wp2_with (first | refine zO rfl 75 (.tmp 3) rfl (w.heap.size+2) rfl LE underlying75 rfl (by rw[HFL.out];exact zmh) ?_ | refine zy rfl 75 (.tmp 2) (.tmp 28) rfl (w.heap.size+1) rfl C rfl YW (by rw[HFL.out,HZL.out]) (by rw[HZL.out];exact zmh) HFO.out ?_)
 intro W3 b3 g3 s3;have G3:Hid (zc w W3):=dD<|zd BW g3 (by simp)
 have B3:Hid (Box W3 (w.heap.size+1) C):=b3;clear b3 g3 s3;go_wp2;refine bodyPost_ret (qd rfl _ rfl B3 underlying75 rfl (by rw[HFL.out];exact zmh)) rfl ⟨rfl,G3⟩
theorem zg4 {w:World} {l:List En} (i:Nat) (hi:i<64) {e:En} (he:l[i]? =some e):(Instr.index 75 (.agg (qk l).toArray) (I6 (i:Int))).run prog w= .ok (.agg #[I6 e.kind,I6 e.n,.bool e.wr]) w:=by
 have ha:(isAgg 74).run prog w= .ok true w:=by
  unfold isAgg;rw[Sem.run_bind,run_underlying underlying74 w];rfl
 have hs:(Go.sizeOf 74).run prog w= .ok 3 w:=by
  obtain⟨i0,h1,h2⟩:∃i0,Tryz.prog.info? 74=some i0/\i0.size=3:=by
   have:(Tryz.prog.info? 74).map (·.size)=some 3:=by kernel_rfl
   cases hq:Tryz.prog.info? 74 with
   | none=>rw[hq]at this;cases this
   | some i0=>rw[hq]at this;exact⟨i0,rfl,by simpa using this⟩
  simp[Go.sizeOf,typeInfo,h1,h2]
 have hlt:(0:Int)<=(i:Int)/\(i:Int)< ((64:Nat):Int):=by omega
 obtain⟨c0,c1,c2⟩:=zcl he;have hx:(qk l).toArray.extract (i*3) (i*3+3)=#[I6 e.kind,I6 e.n,.bool e.wr]:=by
  apply Array.ext_getElem?
  intro j;rw[Array.getElem?_extract];have hlen:i*3+3<=(qk l).toArray.size:=by
   have:=(gS.1 c2).1;simp;omega
  by_cases hj:j<3
  ·rw[if_pos (by omega)]
   obtain rfl|rfl|rfl:j=0\/j=1\/j=2:=by omega
   ·simpa using c0
   ·simpa using c1
   simpa using c2
  rw[if_neg (by omega)]
  simp;omega
 simp only[Instr.index,asIntOf,Sem.run_bind,Sem.run_pure,rA,run_underlying underlying75];rw[if_pos hlt];simp only[Sem.run_bind,hs,rA,part,ha,if_true,tN,Sem.run_pure,hx]
theorem zau {rest:List Oper} {a:Act} {w:World} (hgd:o.guard=none) (x ix:Operand) (ho:o.op= .index 75 x ix) (l:List En) (hx:a.eval x= .agg (qk l).toArray) (i:Nat) (hix:a.eval ix=I6 (i:Int)) (hi:i<64) {e:En} (he:l[i]? =some e)
  (h:wpList prog ops Q rest (a.put o.dst (.agg #[I6 e.kind,I6 e.n,.bool e.wr])) w):wpList prog ops Q (o :: rest) a w:=by
 refine wpList_plain hgd fun K hK=>?_
 unfold Oper.wp execOp;simp only[ho,hx,hix,Sem.run_bind,Sem.run_pure,rA,zg4 i hi he];exact hK _ _ h
theorem zmi:(Tryz.prog.info? 5).map (fun i=>(i.zero,i.size,i.bytes))=some (some (U8 0),1,1):=by kernel_rfl
def byE:Elt Int where
 enc:=fun z=>[U8 z]
 k:=1
 ty:=5
 st:=24
 bytes:=1
 zv:=U8 0
 zero:=0
 len:=fun _=>rfl
 one:=fun a u hu=>by
  simp only[mC,nM,or_false]at hu;rw[hu];rfl
 und:=underlying24
 info:=zmi
 zok:=rfl
 few:=by decide
 pos:=by decide
theorem zmj:(Tryz.prog.info? 75).map (fun i=>(i.zero,i.size,i.bytes))=some (some (.agg (qk (tab fun _=>en0)).toArray),192,1536):=by kernel_rfl
def QG:Elt (Nat->En) where
 enc:=fun f=>qk (tab f)
 k:=192
 ty:=75
 st:=96
 bytes:=1536
 zv:= .agg (qk (tab fun _=>en0)).toArray
 zero:=fun _=>en0
 len:=fun f=>by rw[Zz,Qj]
 one:=fun f=>zda _
 und:=underlying96
 info:=zmj
 zok:=rfl
 few:=by decide
 pos:=by decide
structure MkR (base hi:Nat) (w:World) (V:MaV) (m:Ma) (vt:Sli) (T:List (Nat->En)):Prop where
 hw:hi<=w.heap.size
 bh:base<=hi
 fs:zb zaq base w (V.f.x) m.fs
 sl:zb slE base w (V.s.x) m.sl
 slh:∀g,(V.s.x).ownBlock=some g->g<hi
 sb:zw base w (V.sb.x) m.sb
 sbh:∀g,(V.sb.x).ownBlock=some g->g<hi
 sq:V.sq=zx/\m.sq=[]
 db:zw base w (V.db.x) m.db
 dbh:∀g,(V.db.x).ownBlock=some g->g<hi
 dq:z5 base w (V.dq.x) m.dq
 fl:∃xs:List FlV,zb fvE base w (V.fl.x) xs/\xs.length=m.fl.length/\∀(i:Nat) x f,xs[i]? =some x->m.fl[i]? =some f->x.size=f.size/\zb blE hi w x.v f.bl
 ca:zb jc base w (V.ca.x) m.ca
 sp:∃xs:List SpV,zb jx base w (V.sp.x) xs/\xs.length=m.sp.length/\∀(i:Nat) x s,xs[i]? =some x->m.sp[i]? =some s->x.live=s.live/\zb arE base w x.ar.v s.ars/\x.tab=ZQ/\s.tb=z8
 tt:zb QG base w (vt.x) T
 ap:∀g,(V.sb.x).ownBlock=some g->(V.db.x).ownBlock≠some g
section
variable{base hi:Nat} {w w':World} {V:MaV} {m:Ma} {vt:Sli} {T:List (Nat->En)}
theorem MkR.grew (h:MkR base hi w V m vt T) (k:zc w w'):MkR base hi w' V m vt T:=by
 obtain⟨xs,f1,f2,f3⟩:=h.fl;obtain⟨ys,s1,s2,s3⟩:=h.sp;exact⟨nT h.hw (bS k),h.bh,h.fs.grew k,h.sl.grew k,h.slh,h.sb.grew k,h.sbh,h.sq,h.db.grew k,h.dbh,h.dq.grew k,⟨xs,f1.grew k,f2,fun i x f hx hf=>⟨(f3 i x f hx hf).1,(f3 i x f hx hf).2.grew k⟩⟩,h.ca.grew k,⟨ys,s1.grew k,s2,fun i x s hx hs=>⟨(s3 i x s hx hs).1,(s3 i x s hx hs).2.1.grew k,(s3 i x s hx hs).2.2⟩⟩,h.tt.grew k,h.ap⟩
theorem zb.kind {α:Type} {E:Elt α} {g:Nat} {v:Value} {l:List α} {cs:Array Value} (h:zb E b w v l) (hg:w.grownBy w' (some g)) (ho:w.heap[g]? =some (.cells cs t (0,0))) (ht:t≠E.ty):zb E b w' v l:=h.grown hg fun k hk e=>by
 cases e;obtain⟨ds,h3⟩:=h.obj hk;rw[ho]at h3;cases h3;exact ht rfl
theorem Qu {size n g:Nat} {v:Value} (h:w.ownsRow b e size v n xs) (hg:w.grownBy w' (some g)) (hne:v.ownBlock≠some g):w'.ownsRow b e size v n xs:=by
 refine⟨h.1,?_⟩
 rcases h.2 with h1|⟨k,cap,cur,rfl,h2,h3,h4⟩
 ·exact .inl h1
 exact .inr ⟨k,cap,cur,rfl,h2,by rw[hg.block k (aS.1 h3).1 (fun e=>by cases e;exact hne rfl)];exact h3,h4⟩
theorem qy {size n g:Nat} {cs:Array Value} {v:Value} (h:w.ownsRow b e size v n xs) (hg:w.grownBy w' (some g)) (ho:w.heap[g]? =some (.cells cs t (0,0))) (ht:t≠e):w'.ownsRow b e size v n xs:=by
 refine Qu h hg fun hv=>?_
 rcases h.2 with⟨rfl,_⟩|⟨k,cap,cur,rfl,h2,h3,h4⟩
 ·cases hv
 simp only[Value.ownBlock,Option.some.injEq]at hv;subst hv;rw[ho]at h3;cases h3;exact ht rfl
theorem MkR.kept (h:MkR base hi w V m vt T) {g:Nat} {cs:Array Value} (hg:w.grownBy w' (some g)) (ho:w.heap[g]? =some (.cells cs t (0,0))):
  (t≠69->zb zaq base w' (V.f.x) m.fs)/\(t≠3\/hi<=g->zb slE base w' (V.s.x) m.sl)/\
  (t≠67\/hi<=g\/(V.sb.x).ownBlock≠some g->zw base w' (V.sb.x) m.sb)/\(t≠67\/hi<=g\/(V.db.x).ownBlock≠some g->zw base w' (V.db.x) m.db)/\
  (t≠103->z5 base w' (V.dq.x) m.dq)/\
  (t≠88->(t≠3\/g<hi)->∃xs:List FlV,zb fvE base w' (V.fl.x) xs/\xs.length=m.fl.length/\∀(i:Nat) x f,xs[i]? =some x->m.fl[i]? =some f->x.size=f.size/\zb blE hi w' x.v f.bl)/\
  (t≠124->zb jc base w' (V.ca.x) m.ca)/\
  (t≠55->t≠114->∃xs:List SpV,zb jx base w' (V.sp.x) xs/\xs.length=m.sp.length/\∀(i:Nat) x s,xs[i]? =some x->m.sp[i]? =some s->x.live=s.live/\zb arE base w' x.ar.v s.ars/\x.tab=ZQ/\s.tb=z8)/\
  (t≠75->zb QG base w' (vt.x) T):=by
 obtain⟨xs,f1,f2,f3⟩:=h.fl;obtain⟨ys,s1,s2,s3⟩:=h.sp;refine⟨fun ht=>h.fs.kind hg ho ht,fun ht=>?_,fun ht=>?_,fun ht=>?_,fun ht=>⟨qy h.dq.1 hg ho ht,h.dq.2⟩,fun ht ht2=>⟨xs,f1.kind hg ho ht,f2,fun i x f hx hf=>⟨(f3 i x f hx hf).1,?_⟩⟩,fun ht=>h.ca.kind hg ho ht,fun ht ht2=>⟨ys,s1.kind hg ho ht,s2,fun i x s hx hs=>⟨(s3 i x s hx hs).1,(s3 i x s hx hs).2.1.kind hg ho ht2,(s3 i x s hx hs).2.2⟩⟩,fun ht=>h.tt.kind hg ho ht⟩
 ·rcases ht with ht|ht
  ·exact h.sl.kind hg ho ht
  exact h.sl.grown hg fun k hk e=>by cases e;have:=h.slh _ hk;omega
 ·rcases ht with ht|ht|ht
  ·exact⟨qy h.sb.1 hg ho ht,h.sb.2⟩
  ·exact⟨Qu h.sb.1 hg fun e=>by have:=h.sbh _ e;omega,h.sb.2⟩
  exact⟨Qu h.sb.1 hg ht,h.sb.2⟩
 ·rcases ht with ht|ht|ht
  ·exact⟨qy h.db.1 hg ho ht,h.db.2⟩
  ·exact⟨Qu h.db.1 hg fun e=>by have:=h.dbh _ e;omega,h.db.2⟩
  exact⟨Qu h.db.1 hg ht,h.db.2⟩
 rcases ht2 with ht2|ht2
 ·exact(f3 i x f hx hf).2.kind hg ho ht2
 exact(f3 i x f hx hf).2.grown hg fun k hk e=>by cases e;have:=((f3 i x f hx hf).2.lt _ hk).1;omega
theorem MkR.var (h:MkR base hi w V m vt T) {g:Nat} {cs:Array Value} (hg:w.grownBy w' (some g)) (ho:w.heap[g]? =some (.cells cs t (0,0))) (hs:w.heap.size<=w'.heap.size) (h1:t=98\/(t=67/\hi<=g)):MkR base hi w' V m vt T:=by
 obtain⟨k1,k2,k3,k4,k5,k6,k7,k8,k9⟩:=h.kept hg ho
 rcases h1 with rfl|⟨rfl,h1⟩
 ·exact⟨nT h.hw hs,h.bh,k1 (by decide),k2 (.inl (by decide)),h.slh,k3 (.inl (by decide)),h.sbh,h.sq,k4 (.inl (by decide)),h.dbh,k5 (by decide),k6 (by decide) (.inl (by decide)),k7 (by decide),k8 (by decide) (by decide),k9 (by decide),h.ap⟩
 exact⟨nT h.hw hs,h.bh,k1 (by decide),k2 (.inl (by decide)),h.slh,k3 (.inr (.inl h1)),h.sbh,h.sq,k4 (.inr (.inl h1)),h.dbh,k5 (by decide),k6 (by decide) (.inl (by decide)),k7 (by decide),k8 (by decide) (by decide),k9 (by decide),h.ap⟩
theorem MkR.setF (h:MkR base hi w V m vt T) {g:Nat} (hv:(V.f.x).ownBlock=some g) (hg:w.grownBy w' (some g)) (hs:w'.heap.size=w.heap.size) {fs:List Fr} (ho:zb zaq base w' (V.f.x) fs):MkR base hi w' V { m with fs:=fs } vt T:=by
 obtain⟨cs,hc⟩:=h.fs.obj hv;obtain⟨k1,k2,k3,k4,k5,k6,k7,k8,k9⟩:=h.kept hg hc;exact⟨by rw[hs];exact h.hw,h.bh,ho,k2 (.inl (by decide)),h.slh,k3 (.inl (by decide)),h.sbh,h.sq,k4 (.inl (by decide)),h.dbh,k5 (by decide),k6 (by decide) (.inl (by decide)),k7 (by decide),k8 (by decide) (by decide),k9 (by decide),h.ap⟩
theorem MkR.setS (h:MkR base hi w V m vt T) {g:Nat} (hv:(V.s.x).ownBlock=some g) (hg:w.grownBy w' (some g)) (hs:w'.heap.size=w.heap.size) {ls:List Int} (ho:zb slE base w' (V.s.x) ls):MkR base hi w' V { m with sl:=ls } vt T:=by
 obtain⟨cs,hc⟩:=h.sl.obj hv;obtain⟨k1,k2,k3,k4,k5,k6,k7,k8,k9⟩:=h.kept hg hc;exact⟨by rw[hs];exact h.hw,h.bh,k1 (by decide),ho,h.slh,k3 (.inl (by decide)),h.sbh,h.sq,k4 (.inl (by decide)),h.dbh,k5 (by decide),k6 (by decide) (.inr (h.slh g hv)),k7 (by decide),k8 (by decide) (by decide),k9 (by decide),h.ap⟩
theorem MkR.setSb (h:MkR base hi w V m vt T) {g:Nat} {cs:Array Value} (hc:w.heap[g]? =some (.cells cs 67 (0,0))) (hv:(V.sb.x).ownBlock=some g) (hg:w.grownBy w' (some g)) (hs:w'.heap.size=w.heap.size) {ls:List (List Int)} (ho:zw base w' (V.sb.x) ls):MkR base hi w' V { m with sb:=ls } vt T:=by
 obtain⟨k1,k2,k3,k4,k5,k6,k7,k8,k9⟩:=h.kept hg hc;exact⟨by rw[hs];exact h.hw,h.bh,k1 (by decide),k2 (.inl (by decide)),h.slh,ho,h.sbh,h.sq,k4 (.inr (.inr (h.ap g hv))),h.dbh,k5 (by decide),k6 (by decide) (.inl (by decide)),k7 (by decide),k8 (by decide) (by decide),k9 (by decide),h.ap⟩
theorem MkR.setDb (h:MkR base hi w V m vt T) {g:Nat} {cs:Array Value} (hc:w.heap[g]? =some (.cells cs 67 (0,0))) (hv:(V.db.x).ownBlock=some g) (hg:w.grownBy w' (some g)) (hs:w'.heap.size=w.heap.size) {ls:List (List Int)} (ho:zw base w' (V.db.x) ls):MkR base hi w' V { m with db:=ls } vt T:=by
 obtain⟨k1,k2,k3,k4,k5,k6,k7,k8,k9⟩:=h.kept hg hc;exact⟨by rw[hs];exact h.hw,h.bh,k1 (by decide),k2 (.inl (by decide)),h.slh,k3 (.inr (.inr (fun e=>h.ap g e hv))),h.sbh,h.sq,ho,h.dbh,k5 (by decide),k6 (by decide) (.inl (by decide)),k7 (by decide),k8 (by decide) (by decide),k9 (by decide),h.ap⟩
theorem MkR.setT (h:MkR base hi w V m vt T) {g:Nat} (hv:(vt.x).ownBlock=some g) (hg:w.grownBy w' (some g)) (hs:w'.heap.size=w.heap.size) {T':List (Nat->En)} (ho:zb QG base w' (vt.x) T'):MkR base hi w' V m vt T':=by
 obtain⟨cs,hc⟩:=h.tt.obj hv;obtain⟨k1,k2,k3,k4,k5,k6,k7,k8,k9⟩:=h.kept hg hc;exact⟨by rw[hs];exact h.hw,h.bh,k1 (by decide),k2 (.inl (by decide)),h.slh,k3 (.inl (by decide)),h.sbh,h.sq,k4 (.inl (by decide)),h.dbh,k5 (by decide),k6 (by decide) (.inl (by decide)),k7 (by decide),k8 (by decide) (by decide),ho,h.ap⟩
end
structure Mk (w0:World) (hi:Nat) (w:World) (b:Nat) (vl:Sli) (L:List Int) (V:MaV) (m:Ma) (vt:Sli) (T:List (Nat->En)):Prop where
 gr:zc w0 w
 hb:w0.heap.size<=b
 box:zp w b 98 [vl.x,V.f.x,I6 m.hand,V.s.x,V.sb.x,V.sq.x,V.db.x,V.dq.x,V.fl.x,I6 m.cnt,V.ca.x,V.sp.x,vt.x]
 lr:zr byE w0 (vl.x) L
 lc:vl.n<=vl.c
 lb:∀z∈L,0<=z/\z<256
 rows:MkR w0.heap.size hi w V m vt T
theorem Mk.grew {w:World} (h:Mk w0 hi w b vl L V m vt T) (k:zc w w'):Mk w0 hi w' b vl L V m vt T:=⟨h.gr.trans k,h.hb,h.box.grew k,h.lr,h.lc,h.lb,h.rows.grew k⟩
theorem MkR.at {base:Nat} {w:World} (h:MkR base hi w V m vt T):zF w V m:=by
 obtain⟨xs,f1,f2,f3⟩:=h.fl;obtain⟨ys,s1,s2,s3⟩:=h.sp;obtain⟨q1,q2⟩:=h.sq;refine⟨h.fs.at,h.sl.at,h.sb.at,?_,h.db.at,h.dq.at,⟨f1.cap,xs,f1.at.s0,f2,fun i x f hx hf=>⟨(f3 i x f hx hf).1,(f3 i x f hx hf).2.at.s0⟩⟩,h.ca.at,⟨ys,s1.at,s2,fun i x s hx hs=>?_⟩⟩
 ·rw[q1,q2];exact⟨⟨none,0,rfl,fun _=>rfl,fun x hx=>by cases hx⟩,by simp,by simp⟩
 obtain⟨a1,a2,a3,a4⟩:=s3 i x s hx hs;exact⟨a1,a2.at,a2.cap,by rw[a3,a4];exact ZM.nil 0 0 w⟩
def frH (q:Fr) (n:Int):Fr:=if q.r+n=0 then frF else{ q with r:=q.r+n }
def Qx (fs:List Fr) (h k n:Int):Int:=if j1 fs h=0 then(if inB k fs.length && !((fs.getD k.toNat fr0).r == 0)then(if -(fs.getD k.toNat fr0).r<=n/\n<=1000 -(fs.getD k.toNat fr0).r then 0 else 3)else 5)else j1 fs h
def zdV (fs:List Fr) (h k n:Int):List Fr:=if Qx fs h k n=0 then fs.set k.toNat (frH (fs.getD k.toNat fr0) n)else []
def zb7 (fs:List Fr) (h k n:Int):Int:=if Qx fs h k n=0 then h else 0
theorem zgE:∀{fs:List Fr},zap fs=0->∀q∈fs,frW q=0
 | [],_,_,hq=>by cases hq
 | a :: l,h,q,hq=>by
  unfold zap at h
  by_cases h0:frW a=0
  ·rw[if_pos h0]at h
   rcases mC.1 hq with rfl|h1
   ·exact h0
   exact zgE h q h1
  rw[if_neg h0]at h;exact absurd h h0
theorem Jm {fs:List Fr} {h:Int} (hz:j1 fs h=0):fs.length<=40/\(∀q∈fs,frW q=0)/\0<=h/\h<max (fs.length:Int) 1:=by
 unfold j1 at hz
 by_cases h1:40<fs.length
 ·rw[if_pos h1]at hz;omega
 rw[if_neg h1]at hz
 by_cases h2:zap fs=0
 ·rw[if_pos h2]at hz
  cases hb:inB h (max fs.length 1)with
  | false=>rw[hb]at hz;simp at hz
  | true=>
   unfold inB at hb
   simp at hb
   exact⟨by omega,zgE h2,by omega,by omega⟩
 rw[if_neg h2]at hz;exact absurd hz h2
theorem zaL {q:Fr} (h:frW q=0):0<=q.r/\q.r<=1000:=by
 unfold frW at h
 by_cases h1:(inB q.r 1001 && inB q.x 12)=false
 ·rw[if_pos h1]at h;omega
 have h2:inB q.r 1001=true:=by
  cases hb:inB q.r 1001 with
  | true=>rfl
  | false=>rw[hb]at h1;simp at h1
 unfold inB at h2
 simp at h2
 omega
theorem zE.frc {base:Nat} {w:World} {g n c:Nat} {fs:List Fr} (h:zE base w (.slice (some ⟨g,0,none⟩) n c) fs) {q:Fr} (hq:fs[i]? =some q) (j:Nat) {u:Value} (hu:(frv q)[j]? =some u):w.cell? ⟨g,i*13+j,none⟩=some u:=by
 obtain⟨a',c',he,hr⟩:=h.at.rows;obtain⟨ad,he2,hc⟩:=hr i q hq;cases he;cases he2;have:=hc w (zc.refl _) j u hu;rw[zU,Addr.add_lit,zA]at this;exact this
theorem hdA (a:Option Addr) (c:Nat) (fs:List Fr) (h:Int) (k:Int) (nn:Int) (w:World) (hv:zR w (.slice a fs.length c) fs) (z:Int) (hz:j1 fs h=z) (hzb:(z != 0)=true):
  Calls prog 138 #[.agg #[.slice a fs.length c,I6 h],I6 k,I6 nn] w fun e w'=>∃b,e= .returned (.tuple #[.agg #[b,I6 0],I6 z])/\qp w.heap.size w' b ([]:List Fr)/\zc w w':=by
 have HV:Hid (zR w (.slice a fs.length c) fs):=hv;have hw:∀W,zc w W->Calls prog 156 #[.agg #[.slice a fs.length c,I6 h]] W fun e w'=>e= .returned (I6 (j1 fs h))/\zc W w':=fun W hW=>jd a c fs h W (HV.grew hW)
 clear hv;simp only[hz]at hw;clear hz;obtain⟨n,HN⟩:∃n,Hid (fs.length=n):=⟨_,rfl⟩;simp only[HN.out]at hw HV⊢;obtain⟨W0,hW0⟩:∃W0,(w.alloc (.cells #[.slice a n c,I6 h] 28)).alloc (.cells #[eS,I6 0] 28)=W0:=⟨_,rfl⟩;have HG0:=gD2 hW0
 have X0:=x2a hW0
 have X2:=x2b hW0
 have HW0:Hid (_=W0):=hW0;clear hW0
 go_enter func138,ntmps138
 go_upto_region 1 with fail;rw[HW0.out];have e0:=X0.c 0 rfl;have e1:=X0.c 1 rfl;go_wp2_with fail;refine(hw _ HG0).mono ?_;rintro e W1 ⟨rfl,g1⟩;have G1:Hid (zc W0 W1):=g1;clear g1 e0 e1 hw;have r0:=(X2.grew G1).c 0 rfl;have r1:=(X2.grew G1).c 1 rfl;have rf:=(X2.grew G1).f;go_wp2;refine bodyPost_ret (v:= .tuple #[.agg #[eS,I6 0],I6 z]) (by simp[results,Tryz.results138,go_sem, *]) rfl ⟨_,rfl,qp.nil _ _,?_⟩
 exact zu (zu (HG0.trans G1) (by simp) _) (by simp) _
theorem hdB (a:Option Addr) (c:Nat) (fs:List Fr) (h:Int) (k:Int) (nn:Int) (w:World) (hv:zR w (.slice a fs.length c) fs) (hz:j1 fs h=0) (hkb:inB k fs.length=false):
  Calls prog 138 #[.agg #[.slice a fs.length c,I6 h],I6 k,I6 nn] w fun e w'=>∃b,e= .returned (.tuple #[.agg #[b,I6 0],I6 5])/\qp w.heap.size w' b ([]:List Fr)/\zc w w':=by
 have HV:Hid (zR w (.slice a fs.length c) fs):=hv;have hw:∀W,zc w W->Calls prog 156 #[.agg #[.slice a fs.length c,I6 h]] W fun e w'=>e= .returned (I6 (j1 fs h))/\zc W w':=fun W hW=>jd a c fs h W (HV.grew hW)
 have hbl:∀W,Calls prog 176 #[I6 k,I6 (fs.length:Int)] W fun e w'=>e= .returned (.bool (inB k fs.length))/\w'=W:=fun W=>qa k _ W
 simp only[hkb]at hbl;clear hkb;have hbig:=hv.short;clear hv;simp only[hz]at hw;clear hz;obtain⟨n,HN⟩:∃n,Hid (fs.length=n):=⟨_,rfl⟩;simp only[HN.out]at hw HV hbig hbl⊢;obtain⟨W0,hW0⟩:∃W0,(w.alloc (.cells #[.slice a n c,I6 h] 28)).alloc (.cells #[eS,I6 0] 28)=W0:=⟨_,rfl⟩;have HG0:=gD2 hW0
 have X0:=x2a hW0
 have X2:=x2b hW0
 have HW0:Hid (_=W0):=hW0;clear hW0
 go_enter func138,ntmps138
 go_upto_region 1 with fail;rw[HW0.out];have e0:=X0.c 0 rfl;have e1:=X0.c 1 rfl;go_wp2_with fail;refine(hw _ HG0).mono ?_;rintro e W1 ⟨rfl,g1⟩;have G1:Hid (zc W0 W1):=g1;clear g1 e0 e1 hw;have e0:=(X0.grew G1).c 0 rfl;have r0:=(X2.grew G1).c 0 rfl;have r1:=(X2.grew G1).c 1 rfl;have rf:=(X2.grew G1).f
 go_wp2_with (go_at_call 176;refine(hbl _).mono ?_;rintro e w' ⟨rfl,hw'⟩;rw[hw'];clear hw' w')
 refine bodyPost_ret (v:= .tuple #[.agg #[eS,I6 0],I6 5]) (by simp[results,Tryz.results138,go_sem, *]) rfl ⟨_,rfl,qp.nil _ _,?_⟩
 exact zu (zu (HG0.trans G1) (by simp) _) (by simp) _
theorem hdC (a:Option Addr) (c:Nat) (fs:List Fr) (h:Int) (i:Nat) (q:Fr) (nn:Int) (w:World) (hv:zR w (.slice a fs.length c) fs) (hz:j1 fs h=0) (hq:fs[i]? =some q) (hr:(q.r == 0)=true):
  Calls prog 138 #[.agg #[.slice a fs.length c,I6 h],I6 (i:Int),I6 nn] w fun e w'=>∃b,e= .returned (.tuple #[.agg #[b,I6 0],I6 5])/\qp w.heap.size w' b ([]:List Fr)/\zc w w':=by
 have HV:Hid (zR w (.slice a fs.length c) fs):=hv;have hw:∀W,zc w W->Calls prog 156 #[.agg #[.slice a fs.length c,I6 h]] W fun e w'=>e= .returned (I6 (j1 fs h))/\zc W w':=fun W hW=>jd a c fs h W (HV.grew hW)
 have hbl:∀W,Calls prog 176 #[I6 (i:Int),I6 (fs.length:Int)] W fun e w'=>e= .returned (.bool (inB (i:Int) fs.length))/\w'=W:=fun W=>qa (i:Int) _ W
 have hb1000:=zaL ((Jm hz).2.1 q (mG hq));have hil:i<fs.length:=(gS.1 hq).1;obtain⟨a',c',heq,hrow⟩:=hv.frs;cases heq;obtain⟨ad,rfl,hl⟩:=hrow i q hq;have HL:Hid (∀W,zc w W->JC W (ad.add (i*13)) q):=hl;have HQ:Hid (fs[i]? =some q):=hq;clear hrow hl hq;simp only[show inB (i:Int) fs.length=true from by simp[inB];exact hil]at hbl
 have hbig:=hv.short;clear hv;simp only[hz]at hw;clear hz;obtain⟨n,HN⟩:∃n,Hid (fs.length=n):=⟨_,rfl⟩;simp only[HN.out]at hw HV hbig hbl hil⊢;have hiz:(i:Int)< (n:Int):=by omega
 obtain⟨hb1,hb2⟩:=hb1000;obtain⟨W0,hW0⟩:∃W0,(w.alloc (.cells #[.slice (some ad) n c,I6 h] 28)).alloc (.cells #[eS,I6 0] 28)=W0:=⟨_,rfl⟩;have HG0:=gD2 hW0
 have X0:=x2a hW0
 have X2:=x2b hW0
 have HW0:Hid (_=W0):=hW0;clear hW0
 go_enter func138,ntmps138
 go_upto_region 1 with fail;rw[HW0.out];have e0:=X0.c 0 rfl;have e1:=X0.c 1 rfl;go_wp2_with fail;refine(hw _ HG0).mono ?_;rintro e W1 ⟨rfl,g1⟩;have G1:Hid (zc W0 W1):=g1;clear g1 e0 e1 hw;obtain⟨-,-,-,-,-,-,-,-,d8,-,-,-,-⟩:=HL.out W1 (HG0.trans G1);have e0:=(X0.grew G1).c 0 rfl;have r0:=(X2.grew G1).c 0 rfl;have r1:=(X2.grew G1).c 1 rfl;have rf:=(X2.grew G1).f
 go_wp2_with (go_at_call 176;refine(hbl _).mono ?_;rintro e w' ⟨rfl,hw'⟩;rw[hw'];clear hw' w')
 refine bodyPost_ret (v:= .tuple #[.agg #[eS,I6 0],I6 5]) (by simp[results,Tryz.results138,go_sem, *]) rfl ⟨_,rfl,qp.nil _ _,?_⟩
 exact zu (zu (HG0.trans G1) (by simp) _) (by simp) _
theorem hdD (a:Option Addr) (c:Nat) (fs:List Fr) (h:Int) (i:Nat) (q:Fr) (nn:Int) (w:World) (hv:zR w (.slice a fs.length c) fs) (hz:j1 fs h=0) (hq:fs[i]? =some q) (hr:(q.r == 0)=false) (hn:nn< -q.r):
  Calls prog 138 #[.agg #[.slice a fs.length c,I6 h],I6 (i:Int),I6 nn] w fun e w'=>∃b,e= .returned (.tuple #[.agg #[b,I6 0],I6 3])/\qp w.heap.size w' b ([]:List Fr)/\zc w w':=by
 have HV:Hid (zR w (.slice a fs.length c) fs):=hv;have hw:∀W,zc w W->Calls prog 156 #[.agg #[.slice a fs.length c,I6 h]] W fun e w'=>e= .returned (I6 (j1 fs h))/\zc W w':=fun W hW=>jd a c fs h W (HV.grew hW)
 have hbl:∀W,Calls prog 176 #[I6 (i:Int),I6 (fs.length:Int)] W fun e w'=>e= .returned (.bool (inB (i:Int) fs.length))/\w'=W:=fun W=>qa (i:Int) _ W
 have hb1000:=zaL ((Jm hz).2.1 q (mG hq));have hil:i<fs.length:=(gS.1 hq).1;obtain⟨a',c',heq,hrow⟩:=hv.frs;cases heq;obtain⟨ad,rfl,hl⟩:=hrow i q hq;have HL:Hid (∀W,zc w W->JC W (ad.add (i*13)) q):=hl;have HQ:Hid (fs[i]? =some q):=hq;clear hrow hl hq;simp only[show inB (i:Int) fs.length=true from by simp[inB];exact hil]at hbl
 have hbig:=hv.short;clear hv;simp only[hz]at hw;clear hz;obtain⟨n,HN⟩:∃n,Hid (fs.length=n):=⟨_,rfl⟩;simp only[HN.out]at hw HV hbig hbl hil⊢;have hiz:(i:Int)< (n:Int):=by omega
 obtain⟨hb1,hb2⟩:=hb1000;obtain⟨W0,hW0⟩:∃W0,(w.alloc (.cells #[.slice (some ad) n c,I6 h] 28)).alloc (.cells #[eS,I6 0] 28)=W0:=⟨_,rfl⟩;have HG0:=gD2 hW0
 have X0:=x2a hW0
 have X2:=x2b hW0
 have HW0:Hid (_=W0):=hW0;clear hW0
 go_enter func138,ntmps138
 go_upto_region 1 with fail;rw[HW0.out];have e0:=X0.c 0 rfl;have e1:=X0.c 1 rfl;go_wp2_with fail;refine(hw _ HG0).mono ?_;rintro e W1 ⟨rfl,g1⟩;have G1:Hid (zc W0 W1):=g1;clear g1 e0 e1 hw;obtain⟨-,-,-,-,-,-,-,-,d8,-,-,-,-⟩:=HL.out W1 (HG0.trans G1);have e0:=(X0.grew G1).c 0 rfl;have r0:=(X2.grew G1).c 0 rfl;have r1:=(X2.grew G1).c 1 rfl;have rf:=(X2.grew G1).f
 go_wp2_with (go_at_call 176;refine(hbl _).mono ?_;rintro e w' ⟨rfl,hw'⟩;rw[hw'];clear hw' w')
 refine bodyPost_ret (v:= .tuple #[.agg #[eS,I6 0],I6 3]) (by simp[results,Tryz.results138,go_sem, *]) rfl ⟨_,rfl,qp.nil _ _,?_⟩
 exact zu (zu (HG0.trans G1) (by simp) _) (by simp) _
theorem hdE (a:Option Addr) (c:Nat) (fs:List Fr) (h:Int) (i:Nat) (q:Fr) (nn:Int) (w:World) (hv:zR w (.slice a fs.length c) fs) (hz:j1 fs h=0) (hq:fs[i]? =some q) (hr:(q.r == 0)=false) (hn:¬nn< -q.r) (hn2:1000 - q.r<nn):
  Calls prog 138 #[.agg #[.slice a fs.length c,I6 h],I6 (i:Int),I6 nn] w fun e w'=>∃b,e= .returned (.tuple #[.agg #[b,I6 0],I6 3])/\qp w.heap.size w' b ([]:List Fr)/\zc w w':=by
 have HV:Hid (zR w (.slice a fs.length c) fs):=hv;have hw:∀W,zc w W->Calls prog 156 #[.agg #[.slice a fs.length c,I6 h]] W fun e w'=>e= .returned (I6 (j1 fs h))/\zc W w':=fun W hW=>jd a c fs h W (HV.grew hW)
 have hbl:∀W,Calls prog 176 #[I6 (i:Int),I6 (fs.length:Int)] W fun e w'=>e= .returned (.bool (inB (i:Int) fs.length))/\w'=W:=fun W=>qa (i:Int) _ W
 have hb1000:=zaL ((Jm hz).2.1 q (mG hq));have hil:i<fs.length:=(gS.1 hq).1;obtain⟨a',c',heq,hrow⟩:=hv.frs;cases heq;obtain⟨ad,rfl,hl⟩:=hrow i q hq;have HL:Hid (∀W,zc w W->JC W (ad.add (i*13)) q):=hl;have HQ:Hid (fs[i]? =some q):=hq;clear hrow hl hq;simp only[show inB (i:Int) fs.length=true from by simp[inB];exact hil]at hbl
 have hbig:=hv.short;clear hv;simp only[hz]at hw;clear hz;obtain⟨n,HN⟩:∃n,Hid (fs.length=n):=⟨_,rfl⟩;simp only[HN.out]at hw HV hbig hbl hil⊢;have hiz:(i:Int)< (n:Int):=by omega
 obtain⟨hb1,hb2⟩:=hb1000;obtain⟨W0,hW0⟩:∃W0,(w.alloc (.cells #[.slice (some ad) n c,I6 h] 28)).alloc (.cells #[eS,I6 0] 28)=W0:=⟨_,rfl⟩;have HG0:=gD2 hW0
 have X0:=x2a hW0
 have X2:=x2b hW0
 have HW0:Hid (_=W0):=hW0;clear hW0
 go_enter func138,ntmps138
 go_upto_region 1 with fail;rw[HW0.out];have e0:=X0.c 0 rfl;have e1:=X0.c 1 rfl;go_wp2_with fail;refine(hw _ HG0).mono ?_;rintro e W1 ⟨rfl,g1⟩;have G1:Hid (zc W0 W1):=g1;clear g1 e0 e1 hw;obtain⟨-,-,-,-,-,-,-,-,d8,-,-,-,-⟩:=HL.out W1 (HG0.trans G1);have e0:=(X0.grew G1).c 0 rfl;have r0:=(X2.grew G1).c 0 rfl;have r1:=(X2.grew G1).c 1 rfl;have rf:=(X2.grew G1).f
 go_wp2_with (go_at_call 176;refine(hbl _).mono ?_;rintro e w' ⟨rfl,hw'⟩;rw[hw'];clear hw' w')
 refine bodyPost_ret (v:= .tuple #[.agg #[eS,I6 0],I6 3]) (by simp[results,Tryz.results138,go_sem, *]) rfl ⟨_,rfl,qp.nil _ _,?_⟩
 exact zu (zu (HG0.trans G1) (by simp) _) (by simp) _
theorem hdF (a:Option Addr) (c:Nat) (fs:List Fr) (h:Int) (i:Nat) (q:Fr) (nn:Int) (w:World) (hv:zR w (.slice a fs.length c) fs) (hz:j1 fs h=0) (hq:fs[i]? =some q) (hr:(q.r == 0)=false) (hn:¬nn< -q.r) (hn2:¬1000 - q.r<nn) (hs:q.r+nn=0):
  Calls prog 138 #[.agg #[.slice a fs.length c,I6 h],I6 (i:Int),I6 nn] w fun e w'=>∃b,e= .returned (.tuple #[.agg #[b,I6 h],I6 0])/\qp w.heap.size w' b (fs.set i frF)/\zc w w':=by
 have HV:Hid (zR w (.slice a fs.length c) fs):=hv;have HS:Hid (q.r+nn=0):=hs;clear hs;have hw:∀W,zc w W->Calls prog 156 #[.agg #[.slice a fs.length c,I6 h]] W fun e w'=>e= .returned (I6 (j1 fs h))/\zc W w':=fun W hW=>jd a c fs h W (HV.grew hW)
 have hbl:∀W,Calls prog 176 #[I6 (i:Int),I6 (fs.length:Int)] W fun e w'=>e= .returned (.bool (inB (i:Int) fs.length))/\w'=W:=fun W=>qa (i:Int) _ W
 have ho:∀W,zc w W->Calls prog 70 #[.agg #[.slice a fs.length c,I6 h]] W fun e w'=>∃b,e= .returned (.agg #[b,I6 h])/\zE W.heap.size w' b fs/\zc W w':=fun W hW=>zaY a c fs h W (HV.grew hW)
 have hb1000:=zaL ((Jm hz).2.1 q (mG hq));have hil:i<fs.length:=(gS.1 hq).1;obtain⟨a',c',heq,hrow⟩:=hv.frs;cases heq;obtain⟨ad,rfl,hl⟩:=hrow i q hq;have HL:Hid (∀W,zc w W->JC W (ad.add (i*13)) q):=hl;have HQ:Hid (fs[i]? =some q):=hq;clear hrow hl hq;simp only[show inB (i:Int) fs.length=true from by simp[inB];exact hil]at hbl
 have hbig:=hv.short;clear hv;simp only[hz]at hw;clear hz;obtain⟨n,HN⟩:∃n,Hid (fs.length=n):=⟨_,rfl⟩;simp only[HN.out]at hw HV hbig hbl ho hil⊢;have hiz:(i:Int)< (n:Int):=by omega
 obtain⟨hb1,hb2⟩:=hb1000;obtain⟨W0,hW0⟩:∃W0,(w.alloc (.cells #[.slice (some ad) n c,I6 h] 28)).alloc (.cells #[eS,I6 0] 28)=W0:=⟨_,rfl⟩;have HG0:=gD2 hW0
 have X0:=x2a hW0
 have X2:=x2b hW0
 have HW0:Hid (_=W0):=hW0;clear hW0
 go_enter func138,ntmps138
 go_upto_region 1 with fail;rw[HW0.out];have e0:=X0.c 0 rfl;have e1:=X0.c 1 rfl;go_wp2_with fail;refine(hw _ HG0).mono ?_;rintro e W1 ⟨rfl,g1⟩;have G1:Hid (zc W0 W1):=g1;clear g1 e0 e1 hw;obtain⟨-,-,-,-,-,-,-,-,d8,-,-,-,-⟩:=HL.out W1 (HG0.trans G1);have e0:=(X0.grew G1).c 0 rfl;have e1:=(X0.grew G1).c 1 rfl
 go_wp2_with (go_at_call 176;refine(hbl _).mono ?_;rintro e w' ⟨rfl,hw'⟩;rw[hw'];clear hw' w')
 refine(ho _ (HG0.trans G1)).mono ?_;rintro e W4 ⟨b,rfl,hown,g4⟩;obtain⟨g,cv,rfl⟩:=hown.formS (by rw[HN.out];omega)
 rw[HN.out]at hown⊢;have OW:Hid (zE W1.heap.size W4 (.slice (some ⟨g,0,none⟩) n cv) fs):=hown;have G4:=dD (G1.trans g4);have g34:Hid (W1.heap.size<=W4.heap.size):=bS g4;clear hown g4 e0 e1 ho d8;have hgl:=OW.lt g rfl;have hne:g≠W4.heap.size:=by omega
 have u8:=(OW.grew (za W4 (.cells #[.slice (some ⟨g,0,none⟩) n cv,I6 h] 28))).frc HQ 8 rfl
 go_wp2_with (refine jH rfl (.tmp 61) (.tmp 59) 3 rfl W1.heap.size (.slice (some ⟨g,0,none⟩) n cv) fs (OW.grew (za _ _)) g i 8 rfl q { q with r:=q.r+nn } HQ.out [I6 (q.r+nn)] (by kernel_rfl) rfl (Nat.le_of_ble_eq_true rfl) (by intro u hu;simp at hu;subst hu;rfl) _ rfl (by simp) _ rfl rfl ?_)
 intro W5 ow5 gr5 sz5;have OW5:Hid (zE W1.heap.size W5 (.slice (some ⟨g,0,none⟩) n cv) (fs.set i { q with r:=q.r+nn })):=ow5;have h34:=g34.out;have h03:W0.heap.size<=W1.heap.size:=bS G1.out;have hx2:=X2.lt;have XO:Hid (Box W5 W4.heap.size [.slice (some ⟨g,0,none⟩) n cv,I6 h]):=(Box.top W4 _ _ rfl).beside gr5 (fun g' hg'=>by cases hg';omega)
 have X25:Hid (Box W5 (w.heap.size+1) [eS,I6 0]):=((X2.grew G4).alloc _).beside gr5 (fun g' hg'=>by cases hg';omega)
 have G5:Hid (zc W0 W5):=qm (G4.trans (za _ _)) gr5 (fun g' hg'=>by cases hg';omega)
 have HQ5:Hid ((fs.set i { q with r:=q.r+nn })[i]? =some { q with r:=q.r+nn }):=dD<|by rw[sF (by rw[HN.out];exact hil)]
 clear ow5 gr5 sz5 u8;have u8:=OW5.frc HQ5 8 rfl;have o0:=XO.c 0 rfl;have o1:=XO.c 1 rfl;have r0:=X25.c 0 rfl;have r1:=X25.c 1 rfl;have rf:=X25.f;simp only at u8;have hsb:(q.r+nn == 0)=true:=by simp[HS.out]
 go_wp2;have hx0:∀x:zh W5,x.world.cell? ⟨W4.heap.size,0,none⟩=some (.slice (some ⟨g,0,none⟩) n cv):=fun x=>(XO.grew x.grew).c 0 rfl
 have hne5:Nonempty (zh W5):=⟨⟨_,zc.refl _⟩⟩;clear u8 o0 o1 r0 r1 rf;refine jq 5 [(3,⟨fun v=>v= .agg (frv frF).toArray,fun _ _=>True⟩)] qh (by kernel_rfl) rfl rfl (by decide) ?_ ?_ ?_
 ·intro x hx
  simp at hx
  subst hx;exact⟨_,rfl⟩
 ·intro x hx
  simp at hx
  subst hx;exact fun _ _ _ _ h=>h
 simp only[List.take,List.drop];iterate 3 (refine zi rfl rfl rfl (fun K hK=>?_);go_big_quiet_op;refine hK _ ?_;clear hK)
 refine zK rfl rfl (fun w' hg hF=>?_) (fun v1 hv=>?_)
 ·refine zN.call [] rfl func173 rfl rfl rfl ?_;refine(Zv w').mono ?_;rintro e w'' ⟨rfl,hg2⟩;exact⟨_,rfl,hg2,rfl,trivial⟩
 subst hv;simp only[Act.put,sB,sS,sZ,frv,frF,pg0];iterate 1 (refine zi rfl rfl rfl (fun K hK=>?_);go_big_quiet_op;refine hK _ ?_;clear hK)
 refine qF fun W6 hg6 hF=>?_
 have OW6:=dD (OW5.grew hg6);have XO6:=dD (XO.grew hg6);have X26:=dD (X25.grew hg6);have G6:=dD (G5.trans hg6);clear hF hx0 hg6 hne5
 go_wp2_with (refine zaK rfl (.tmp 73) (.tmp 72) rfl W1.heap.size _ _ OW6 g i rfl frF (by rw[List.length_set,HN.out];exact hil) _ rfl (by simp) _ rfl rfl ?_)
 intro W7 ow7 gr7 sz7;have OW7:Hid (zE W1.heap.size W7 (.slice (some ⟨g,0,none⟩) n cv) (fs.set i frF)):=ow7;have XO7:Hid (Box W7 W4.heap.size [.slice (some ⟨g,0,none⟩) n cv,I6 h]):=XO6.beside gr7 (fun g' hg'=>by cases hg';omega)
 have X27:Hid (Box W7 (w.heap.size+1) [eS,I6 0]):=X26.beside gr7 (fun g' hg'=>by cases hg';omega)
 have G7:Hid (zc W0 W7):=qm G6 gr7 (fun g' hg'=>by cases hg';omega)
 clear ow7 gr7 sz7;have o0:=XO7.c 0 rfl;have o1:=XO7.c 1 rfl;have r0:=X27.c 0 rfl;have r1:=X27.c 1 rfl;have rf:=X27.f;go_wp2;refine bodyPost_ret (v:= .tuple #[.agg #[.slice (some ⟨g,0,none⟩) n cv,I6 h],I6 0]) (by simp[results,Tryz.results138,go_sem, *]) rfl ⟨_,rfl,?_,?_⟩
 ·exact((OW7.new.setCell (a:=⟨w.heap.size+1,0,none⟩) (by show w.heap.size+1<_;omega) _).setCell (a:=⟨w.heap.size+1,1,none⟩) (by show w.heap.size+1<_;omega) _).base (by have:=bS HG0.out;omega)
 exact zu (zu (HG0.trans G7) (by simp) _) (by simp) _
theorem hdG (a:Option Addr) (c:Nat) (fs:List Fr) (h:Int) (i:Nat) (q:Fr) (nn:Int) (w:World) (hv:zR w (.slice a fs.length c) fs) (hz:j1 fs h=0) (hq:fs[i]? =some q) (hr:(q.r == 0)=false) (hn:¬nn< -q.r) (hn2:¬1000 - q.r<nn) (hs:(q.r+nn == 0)=false):
  Calls prog 138 #[.agg #[.slice a fs.length c,I6 h],I6 (i:Int),I6 nn] w fun e w'=>∃b,e= .returned (.tuple #[.agg #[b,I6 h],I6 0])/\qp w.heap.size w' b (fs.set i { q with r:=q.r+nn })/\zc w w':=by
 have HV:Hid (zR w (.slice a fs.length c) fs):=hv;have hw:∀W,zc w W->Calls prog 156 #[.agg #[.slice a fs.length c,I6 h]] W fun e w'=>e= .returned (I6 (j1 fs h))/\zc W w':=fun W hW=>jd a c fs h W (HV.grew hW)
 have hbl:∀W,Calls prog 176 #[I6 (i:Int),I6 (fs.length:Int)] W fun e w'=>e= .returned (.bool (inB (i:Int) fs.length))/\w'=W:=fun W=>qa (i:Int) _ W
 have ho:∀W,zc w W->Calls prog 70 #[.agg #[.slice a fs.length c,I6 h]] W fun e w'=>∃b,e= .returned (.agg #[b,I6 h])/\zE W.heap.size w' b fs/\zc W w':=fun W hW=>zaY a c fs h W (HV.grew hW)
 have hb1000:=zaL ((Jm hz).2.1 q (mG hq));have hil:i<fs.length:=(gS.1 hq).1;obtain⟨a',c',heq,hrow⟩:=hv.frs;cases heq;obtain⟨ad,rfl,hl⟩:=hrow i q hq;have HL:Hid (∀W,zc w W->JC W (ad.add (i*13)) q):=hl;have HQ:Hid (fs[i]? =some q):=hq;clear hrow hl hq;simp only[show inB (i:Int) fs.length=true from by simp[inB];exact hil]at hbl
 have hbig:=hv.short;clear hv;simp only[hz]at hw;clear hz;obtain⟨n,HN⟩:∃n,Hid (fs.length=n):=⟨_,rfl⟩;simp only[HN.out]at hw HV hbig hbl ho hil⊢;have hiz:(i:Int)< (n:Int):=by omega
 obtain⟨hb1,hb2⟩:=hb1000;obtain⟨W0,hW0⟩:∃W0,(w.alloc (.cells #[.slice (some ad) n c,I6 h] 28)).alloc (.cells #[eS,I6 0] 28)=W0:=⟨_,rfl⟩;have HG0:=gD2 hW0
 have X0:=x2a hW0
 have X2:=x2b hW0
 have HW0:Hid (_=W0):=hW0;clear hW0
 go_enter func138,ntmps138
 go_upto_region 1 with fail;rw[HW0.out];have e0:=X0.c 0 rfl;have e1:=X0.c 1 rfl;go_wp2_with fail;refine(hw _ HG0).mono ?_;rintro e W1 ⟨rfl,g1⟩;have G1:Hid (zc W0 W1):=g1;clear g1 e0 e1 hw;obtain⟨-,-,-,-,-,-,-,-,d8,-,-,-,-⟩:=HL.out W1 (HG0.trans G1);have e0:=(X0.grew G1).c 0 rfl;have e1:=(X0.grew G1).c 1 rfl
 go_wp2_with (go_at_call 176;refine(hbl _).mono ?_;rintro e w' ⟨rfl,hw'⟩;rw[hw'];clear hw' w')
 refine(ho _ (HG0.trans G1)).mono ?_;rintro e W4 ⟨b,rfl,hown,g4⟩;obtain⟨g,cv,rfl⟩:=hown.formS (by rw[HN.out];omega)
 rw[HN.out]at hown⊢;have OW:Hid (zE W1.heap.size W4 (.slice (some ⟨g,0,none⟩) n cv) fs):=hown;have G4:=dD (G1.trans g4);have g34:Hid (W1.heap.size<=W4.heap.size):=bS g4;clear hown g4 e0 e1 ho d8;have hgl:=OW.lt g rfl;have hne:g≠W4.heap.size:=by omega
 have u8:=(OW.grew (za W4 (.cells #[.slice (some ⟨g,0,none⟩) n cv,I6 h] 28))).frc HQ 8 rfl
 go_wp2_with (refine jH rfl (.tmp 61) (.tmp 59) 3 rfl W1.heap.size (.slice (some ⟨g,0,none⟩) n cv) fs (OW.grew (za _ _)) g i 8 rfl q { q with r:=q.r+nn } HQ.out [I6 (q.r+nn)] (by kernel_rfl) rfl (Nat.le_of_ble_eq_true rfl) (by intro u hu;simp at hu;subst hu;rfl) _ rfl (by simp) _ rfl rfl ?_)
 intro W5 ow5 gr5 sz5;have OW5:Hid (zE W1.heap.size W5 (.slice (some ⟨g,0,none⟩) n cv) (fs.set i { q with r:=q.r+nn })):=ow5;have h34:=g34.out;have h03:W0.heap.size<=W1.heap.size:=bS G1.out;have hx2:=X2.lt;have XO:Hid (Box W5 W4.heap.size [.slice (some ⟨g,0,none⟩) n cv,I6 h]):=(Box.top W4 _ _ rfl).beside gr5 (fun g' hg'=>by cases hg';omega)
 have X25:Hid (Box W5 (w.heap.size+1) [eS,I6 0]):=((X2.grew G4).alloc _).beside gr5 (fun g' hg'=>by cases hg';omega)
 have G5:Hid (zc W0 W5):=qm (G4.trans (za _ _)) gr5 (fun g' hg'=>by cases hg';omega)
 have HQ5:Hid ((fs.set i { q with r:=q.r+nn })[i]? =some { q with r:=q.r+nn }):=dD<|by rw[sF (by rw[HN.out];exact hil)]
 clear ow5 gr5 sz5 u8;have u8:=OW5.frc HQ5 8 rfl;have o0:=XO.c 0 rfl;have o1:=XO.c 1 rfl;have r0:=X25.c 0 rfl;have r1:=X25.c 1 rfl;have rf:=X25.f;simp only at u8;go_wp2;refine bodyPost_ret (v:= .tuple #[.agg #[.slice (some ⟨g,0,none⟩) n cv,I6 h],I6 0]) (by simp[results,Tryz.results138,go_sem, *]) rfl ⟨_,rfl,?_,?_⟩
 ·exact((OW5.new.setCell (a:=⟨w.heap.size+1,0,none⟩) (by show w.heap.size+1<_;omega) _).setCell (a:=⟨w.heap.size+1,1,none⟩) (by show w.heap.size+1<_;omega) _).base (by have:=bS HG0.out;omega)
 exact zu (zu (HG0.trans G5) (by simp) _) (by simp) _
theorem zjK (a:Option Addr) (c:Nat) (fs:List Fr) (h k nn:Int) (w:World) (hv:zR w (.slice a fs.length c) fs):
  Calls prog 138 #[.agg #[.slice a fs.length c,I6 h],I6 k,I6 nn] w fun e w'=>∃b,e= .returned (.tuple #[.agg #[b,I6 (zb7 fs h k nn)],I6 (Qx fs h k nn)])/\qp w.heap.size w' b (zdV fs h k nn)/\zc w w':=by
 unfold zb7 zdV
 by_cases hz:j1 fs h=0
 ·cases hkb:inB k fs.length with
  | false=>
   rw[show Qx fs h k nn=5 from by unfold Qx;rw[if_pos hz,hkb];rfl,if_neg (by decide),if_neg (by decide)]
   exact hdB a c fs h k nn w hv hz hkb
  | true=>
   have hkb':=hkb;unfold inB at hkb'
   simp at hkb'
   obtain⟨i,rfl⟩:=Int.eq_ofNat_of_zero_le hkb'.1;have hil:i<fs.length:=by omega
   obtain⟨q,hq⟩:∃q,fs[i]? =some q:=⟨_,gE hil⟩;have hgd:fs.getD (i:Int).toNat fr0=q:=by rw[tN,gD,hq];rfl
   cases hr:(q.r == 0)with
   | true=>
    rw[show Qx fs h i nn=5 from by unfold Qx;rw[if_pos hz,hkb,hgd,hr];rfl,if_neg (by decide),if_neg (by decide)]
    exact hdC a c fs h i q nn w hv hz hq hr
   | false=>
    by_cases h1:nn< -q.r
    ·rw[show Qx fs h i nn=3 from by unfold Qx;rw[if_pos hz,hkb,hgd,hr,if_pos (by decide),if_neg (by omega)],if_neg (by decide),if_neg (by decide)]
     exact hdD a c fs h i q nn w hv hz hq hr h1
    by_cases h2:1000 - q.r<nn
    ·rw[show Qx fs h i nn=3 from by unfold Qx;rw[if_pos hz,hkb,hgd,hr,if_pos (by decide),if_neg (by omega)],if_neg (by decide),if_neg (by decide)]
     exact hdE a c fs h i q nn w hv hz hq hr h1 h2
    rw[show Qx fs h i nn=0 from by unfold Qx;rw[if_pos hz,hkb,hgd,hr,if_pos (by decide),if_pos (by omega)],if_pos rfl,if_pos rfl,hgd,tN]
    by_cases h3:q.r+nn=0
    ·rw[show frH q nn=frF from if_pos h3]
     exact hdF a c fs h i q nn w hv hz hq hr h1 h2 h3
    rw[show frH q nn={ q with r:=q.r+nn }from if_neg h3]
    exact hdG a c fs h i q nn w hv hz hq hr h1 h2 (by simpa using h3)
 rw[show Qx fs h k nn=j1 fs h from by unfold Qx;rw[if_neg hz],if_neg hz,if_neg hz]
 exact hdA a c fs h k nn w hv _ rfl (by simpa using hz)
def atS (s:List Int) (k:Int):Int:=if 0<=k then s.getD k.toNat 0 else 0
def jt (s:List Int) (k m:Int):Int:=if slW s=0 then(if atS s k=0 then 5 else if 0<=atS s k+m/\atS s k+m<=1000 then 0 else 3)else slW s
def Zo (s:List Int) (k m:Int):List Int:=if jt s k m=0 then s.set k.toNat (atS s k+m)else []
theorem zhN {s:List Int} (h:slW s=0) {k:Nat} {q:Int} (hq:s[k]? =some q):0<=q/\q<=1000:=by
 have h2:s.any zaj=false:=by
  cases hb:s.any zaj with
  | false=>rfl
  | true=>
   unfold slW at h;rw[hb]at h
   split at h
   ·cases h
   cases h
 have h3:=List.any_eq_false.1 h2 q (mG hq)
 simp[zaj]at h3
 omega
theorem zfY (s:List Int) (k m:Int):
  (slW s≠0/\jt s k m=slW s/\Zo s k m=[])\/
  (slW s=0/\(k<0\/(s.length:Int)<=k)/\jt s k m=5/\Zo s k m=[])\/
  (slW s=0/\∃i:Nat,k=(i:Int)/\s[i]? =some 0/\jt s k m=5/\Zo s k m=[])\/
  (slW s=0/\∃(i:Nat) (q:Int),k=(i:Int)/\s[i]? =some q/\q≠0/\0<=q/\q<=1000/\¬(0<=q+m/\q+m<=1000)/\jt s k m=3/\Zo s k m=[])\/
  (slW s=0/\∃(i:Nat) (q:Int),k=(i:Int)/\s[i]? =some q/\q≠0/\0<=q/\q<=1000/\(0<=q+m/\q+m<=1000)/\jt s k m=0/\Zo s k m=s.set i (q+m)):=by
 have no:∀z,jt s k m=z->z≠0->Zo s k m=[]:=fun z h hz=>if_neg (by rw[h];exact hz)
 by_cases h1:slW s=0
 ·by_cases h2:k<0\/(s.length:Int)<=k
  ·have hat:atS s k=0:=by
    unfold atS
    split
    ·rw[gD,gN (by omega)]
     rfl
    rfl
   have h:jt s k m=5:=by unfold jt;rw[if_pos h1,if_pos hat]
   exact .inr (.inl ⟨h1,h2,h,no _ h (by decide)⟩)
  obtain⟨i,rfl⟩:∃i:Nat,k=(i:Int):=⟨k.toNat,by omega⟩
  have hil:i<s.length:=by omega
  obtain⟨q,hq⟩:∃q,s[i]? =some q:=⟨_,gE hil⟩;have hat:atS s (i:Int)=q:=by
   unfold atS;rw[if_pos (by omega),gD,tN,hq]
   rfl
  by_cases h0:q=0
  ·subst h0;have h:jt s i m=5:=by unfold jt;rw[if_pos h1,if_pos hat]
   exact .inr (.inr (.inl ⟨h1,i,rfl,hq,h,no _ h (by decide)⟩))
  have hr:=zhN h1 hq
  by_cases h3:0<=q+m/\q+m<=1000
  ·have h:jt s i m=0:=by unfold jt;rw[if_pos h1,hat,if_neg h0,if_pos h3]
   exact .inr (.inr (.inr (.inr ⟨h1,i,q,rfl,hq,h0,hr.1,hr.2,h3,h,by unfold Zo;rw[if_pos h,hat,tN]⟩)))
  have h:jt s i m=3:=by unfold jt;rw[if_pos h1,hat,if_neg h0,if_neg h3]
  exact .inr (.inr (.inr (.inl ⟨h1,i,q,rfl,hq,h0,hr.1,hr.2,h3,h,no _ h (by decide)⟩)))
 have h:jt s k m=slW s:=by unfold jt;rw[if_neg h1]
 exact .inl ⟨h1,h,no _ h h1⟩
theorem zie (a:Option Addr) (c:Nat) (s:List Int) (k m:Int) (w:World) (hv:zr slE w (.slice a s.length c) s):
  Calls prog 139 #[.slice a s.length c,I6 k,I6 m] w fun e w'=>∃a' c',e= .returned (.tuple #[.slice a' (Zo s k m).length c',I6 (jt s k m)])/\qX slE w.heap.size w' (.slice a' (Zo s k m).length c') (Zo s k m)/\zc w w':=by
 have h1:=zcM a c s w hv;have h3:∀W,zc w W->Calls prog 71 #[.slice a s.length c] W fun e w'=>∃v',e= .returned v'/\zb slE W.heap.size w' v' s/\zc W w':=fun W hW=>zc6 _ s W (hv.grew hW)
 have hbig:=hv.short;obtain⟨a',c',heq,hrow⟩:=hv.sls;cases heq;have HR:Hid (zaT w a s):=hrow;clear hrow hv;obtain⟨n,HN⟩:∃n,Hid (s.length=n):=⟨_,rfl⟩
 rcases zfY s k m with⟨hw,e1,e2⟩|⟨hw,hk,e1,e2⟩|⟨hw,i,rfl,hq,e1,e2⟩|⟨hw,i,q,rfl,hq,h0,hr0,hr1,hno,e1,e2⟩|⟨hw,i,q,rfl,hq,h0,hr0,hr1,hyes,e1,e2⟩
 ·rw[e1,e2];clear e1 e2 h3
  generalize slW s=z at h1 hw⊢
  have hzb:(z != 0)=true:=by simpa using hw
  rw[HN.out]at h1 hbig⊢
  go_enter func139,ntmps139
  go_wp2_with fail;refine h1.mono ?_;rintro e W1 ⟨rfl,g1⟩;have G1:Hid (zc w W1):=g1;clear g1 h1 hw;go_wp2;refine bodyPost_ret (v:= .tuple #[eS,I6 z]) (by simp[results,Tryz.results139,go_sem, *]) rfl ⟨none,0,rfl,qX.nil _ _ _,G1⟩
 ·rw[hw]at h1;rw[e1,e2];clear e1 e2 h3 hw;rw[HN.out]at h1 hbig hk⊢
  by_cases hk0:k<0
  ·go_enter func139,ntmps139
   go_wp2_with fail;refine h1.mono ?_;rintro e W1 ⟨rfl,g1⟩;have G1:Hid (zc w W1):=g1;clear g1 h1 hk;go_wp2;refine bodyPost_ret (v:= .tuple #[eS,I6 5]) (by simp[results,Tryz.results139,go_sem, *]) rfl ⟨none,0,rfl,qX.nil _ _ _,G1⟩
  have hkn:(n:Int)<=k:=by omega
  go_enter func139,ntmps139
  go_wp2_with fail;refine h1.mono ?_;rintro e W1 ⟨rfl,g1⟩;have G1:Hid (zc w W1):=g1;clear g1 h1 hk;go_wp2;refine bodyPost_ret (v:= .tuple #[eS,I6 5]) (by simp[results,Tryz.results139,go_sem, *]) rfl ⟨none,0,rfl,qX.nil _ _ _,G1⟩
 ·rw[hw]at h1;rw[e1,e2];clear e1 e2 h3 hw;have hil:i<n:=by rw[<-HN.out];exact(gS.1 hq).1
  rw[HN.out]at h1 hbig⊢;have hilz:¬(n:Int)<=(i:Int):=by omega
  have hi0:¬(i:Int)<0:=by omega
  have hilz':(i:Int)< (n:Int):=by omega
  obtain⟨ad,rfl,hl⟩:=HR.out i 0 hq;clear hq
  go_enter func139,ntmps139
  go_wp2_with fail;refine h1.mono ?_;rintro e W1 ⟨rfl,g1⟩;have G1:Hid (zc w W1):=g1;have d0:=hl W1 g1;clear g1 h1 hl;go_wp2;refine bodyPost_ret (v:= .tuple #[eS,I6 5]) (by simp[results,Tryz.results139,go_sem, *]) rfl ⟨none,0,rfl,qX.nil _ _ _,G1⟩
 ·rw[hw]at h1;rw[e1,e2];clear e1 e2 h3 hw;have hil:i<n:=by rw[<-HN.out];exact(gS.1 hq).1
  rw[HN.out]at h1 hbig⊢;have hilz:¬(n:Int)<=(i:Int):=by omega
  have hi0:¬(i:Int)<0:=by omega
  have hilz':(i:Int)< (n:Int):=by omega
  obtain⟨ad,rfl,hl⟩:=HR.out i q hq;have hqb:(q == 0)=false:=by simpa using h0
  by_cases hlo:m< -q
  ·clear hq h0 hno
   go_enter func139,ntmps139
   go_wp2_with fail;refine h1.mono ?_;rintro e W1 ⟨rfl,g1⟩;have G1:Hid (zc w W1):=g1;have d0:=hl W1 g1;clear g1 h1 hl;go_wp2;refine bodyPost_ret (v:= .tuple #[eS,I6 3]) (by simp[results,Tryz.results139,go_sem, *]) rfl ⟨none,0,rfl,qX.nil _ _ _,G1⟩
  have hhi:1000 - q<m:=by omega
  clear hq h0 hno
  go_enter func139,ntmps139
  go_wp2_with fail;refine h1.mono ?_;rintro e W1 ⟨rfl,g1⟩;have G1:Hid (zc w W1):=g1;have d0:=hl W1 g1;clear g1 h1 hl;go_wp2;refine bodyPost_ret (v:= .tuple #[eS,I6 3]) (by simp[results,Tryz.results139,go_sem, *]) rfl ⟨none,0,rfl,qX.nil _ _ _,G1⟩
 rw[hw]at h1;rw[e1,e2,List.length_set];clear e1 e2 hw;have hil:i<n:=by rw[<-HN.out];exact(gS.1 hq).1
 rw[HN.out]at h1 h3 hbig⊢;have hilz:¬(n:Int)<=(i:Int):=by omega
 have hi0:¬(i:Int)<0:=by omega
 have hilz':(i:Int)< (n:Int):=by omega
 obtain⟨ad,rfl,hl⟩:=HR.out i q hq;have hqb:(q == 0)=false:=by simpa using h0
 have hlo:¬m< -q:=by omega
 have hhi:¬1000 - q<m:=by omega
 have HQ:Hid (s[i]? =some q):=hq;clear hq h0
 go_enter func139,ntmps139
 go_wp2_with fail;refine h1.mono ?_;rintro e W1 ⟨rfl,g1⟩;have G1:Hid (zc w W1):=g1;have d0:=hl W1 g1;clear g1 h1 hl;go_wp2_with fail;refine(h3 _ G1).mono ?_;rintro e W3 ⟨v',rfl,ow,g3⟩;obtain⟨g,cv,rfl⟩:=ow.formS (by rw[HN.out];omega)
 rw[HN.out]at ow⊢;have OW:Hid (zb slE W1.heap.size W3 (.slice (some ⟨g,0,none⟩) n cv) s):=ow;have G3:Hid (zc W1 W3):=g3;have d1:W3.cell? ⟨g,i,none⟩=some (I6 q):=by
  obtain⟨x,y,he,hr⟩:=ow.at.sls;cases he;obtain⟨x',he,hr⟩:=hr i q HQ.out;cases he;have:=hr W3 (zc.refl _);rw[Addr.add_lit,zA]at this;exact this
 clear g3 h3 ow d0
 go_wp2_with (refine qE (E:=slE) rfl (.tmp 54) (.tmp 53) rfl W1.heap.size _ s OW g i rfl (q+m) (by rw[HN.out];exact hil) _ rfl (by simp[slE]) _ rfl rfl ?_)
 intro w4 ow4 gr4 _;have hg2:=(OW.lt g rfl).1;have OW4:Hid (zb slE W1.heap.size w4 (.slice (some ⟨g,0,none⟩) n cv) (s.set i (q+m))):=ow4;have G4:Hid (zc W1 w4):=zd G3 gr4 hg2;clear ow4 gr4 d1;go_wp2;refine bodyPost_ret (v:= .tuple #[.slice (some ⟨g,0,none⟩) n cv,I6 0]) (by simp[results,Tryz.results139,go_sem, *]) rfl ⟨_,_,rfl,OW4.new.base (bS G1),G1.trans G4⟩
theorem zdu (xa:Option Addr) (xc:Nat) (h:List En) (k:Nat) (hk:k<8) (x:En) (base:Nat) (w:World) (hown:zb enE base w (.slice xa h.length xc) h) (hb:base<=w.heap.size) (h8:h.length=0\/h.length=8):
  Calls prog 179 #[.slice xa h.length xc,I6 (k:Int),.agg #[I6 x.kind,I6 x.n,.bool x.wr]] w fun e w'=>∃a' c',e= .returned (.slice a' (mk ((zao h).set k x)).length c')/\zb enE base w' (.slice a' (mk ((zao h).set k x)).length c') (mk ((zao h).set k x))/\w.grownBy w' (Value.slice xa h.length xc).ownBlock/\(∀g,(Value.slice a' (mk ((zao h).set k x)).length c').ownBlock=some g->(Value.slice xa h.length xc).ownBlock=some g\/w.heap.size<=g):=by
 have HOWN:Hid (zb enE base w (.slice xa h.length xc) h):=hown;have HB:Hid (base<=w.heap.size):=hb;have HMK:Hid (mk ((zao h).set k x)=if Zd ((zao h).set k x)=true then(zao h).set k x else []):=rfl;clear hown hb;obtain⟨W0,hW0⟩:∃W0,w.alloc (.cells #[I6 x.kind,I6 x.n,.bool x.wr] 74)=W0:=⟨_,rfl⟩;have HG0:=gA hW0
 have X0:=xA hW0
 have HS0:=sA hW0
 have HW0:Hid (_=W0):=hW0;clear hW0;have hkz:(k:Int)<8:=by omega
 rcases h8 with h0|h8
 ·have hnil:h=[]:=List.length_eq_zero_iff.1 h0;subst hnil;obtain⟨L,HL⟩:∃L,Hid ((zao []).set k x=L):=⟨_,rfl⟩;have HLL:Hid (L.length=8):=dD<|by rw[<-HL.out];simp[zao]
  rw[HL.out]at HMK⊢
  generalize mk L=M at HMK⊢
  simp only[List.length_nil]at HOWN⊢;clear h0
  go_enter func179,ntmps179
  go_upto_region 1 with fail;rw[HW0.out]
  go_wp2_with (refine Jc enE rfl (.const (I6 8)) rfl 8 rfl (by decide) ?_)
  intro C ow
  show wpList _ _ _ _ _ (W0.alloc (.cells C 74))
  have ow':zb enE W0.heap.size (W0.alloc (.cells C 74)) (.slice (some ⟨W0.heap.size,0,none⟩) 8 8) (zao []):=ow;obtain⟨W1,hW1⟩:∃W1,W0.alloc (.cells C 74)=W1:=⟨_,rfl⟩;have G1:=gA hW1
  rw[hW1]at ow'⊢;obtain⟨g,HGG⟩:∃g,Hid (W0.heap.size=g):=⟨_,rfl⟩;rw[HGG.out]at ow'⊢;have O1:Hid (zb enE g W1 (.slice (some ⟨g,0,none⟩) 8 8) (zao [])):=ow';have X1:=dD (X0.grew G1);have HBG:Hid (base<=g/\w.heap.size<=g):=show _/\_ by
   have:=HS0.out;have:=HB.out;have:=HGG.out
   constructor <;> omega
  clear hW1 ow ow';obtain⟨x0,x1,x2⟩:=X1.c3
  go_wp2_with (refine qE (E:=enE) rfl (.tmp 14) (.tmp 13) rfl g _ (zao []) O1 g k rfl x ?t1 ⟨g,k*3,none⟩ rfl rfl (.agg #[I6 x.kind,I6 x.n,.bool x.wr]) rfl rfl ?_)
  case t1=>exact hk
  intro W2 ow2 gr2 sz2;rw[HL.out]at ow2;have O2:Hid (zb enE base W2 (.slice (some ⟨g,0,none⟩) 8 8) L):=ow2.base HBG.1;have G2:Hid (zc w W2):=show zc _ _ from zd (HG0.trans G1) gr2 HBG.2
  have hcall:=Zl _ L W2 ow2.at;clear ow2 gr2 sz2 x0 x1 x2
  generalize Zd L=A at hcall HMK
  cases A with
  | true=>
   have HM:Hid (M=L):=dD<|by rw[HMK.out,if_pos rfl]
   go_wp2_with fail;refine hcall.mono ?_;rintro e W3 ⟨rfl,k1⟩;have G3:Hid (w.grownBy W3 _):=show World.grownBy _ _ (Value.ownBlock (.slice xa 0 xc))from za1 (G2.trans k1) _
   have O3:=dD (O2.grew k1);clear k1 hcall;go_wp2;go_ret;rw[HM.out,HLL.out];exact⟨some ⟨g,0,none⟩,8,rfl,O3,G3,fun g' hg=> .inr (by cases hg;exact HBG.2)⟩
  | false=>
   have HM:Hid (M=[]):=dD<|by rw[HMK.out,if_neg (by decide)]
   go_wp2_with fail;refine hcall.mono ?_;rintro e W3 ⟨rfl,k1⟩;have G3:Hid (w.grownBy W3 _):=show World.grownBy _ _ (Value.ownBlock (.slice xa 0 xc))from za1 (G2.trans k1) _
   clear k1 hcall;go_wp2;go_ret;rw[HM.out];exact⟨none,0,rfl,zb.nil _ _ _,G3,fun g' hg=>by cases hg⟩
 obtain⟨L,HL⟩:∃L,Hid ((zao h).set k x=L):=⟨_,rfl⟩;have HFU:Hid (zao h=h):=dD<|by unfold zao;rw[if_neg (by omega)]
 have HLL:Hid (L.length=8):=dD<|by rw[<-HL.out,HFU.out];simp[h8]
 rw[HL.out]at HMK⊢
 generalize mk L=M at HMK⊢
 have HH8:Hid (h.length=8):=h8;obtain⟨g,c',heq⟩:=HOWN.formS (by omega)
 cases heq;rw[h8]at HOWN⊢;clear h8
 go_enter func179,ntmps179
 go_upto_region 1 with fail;rw[HW0.out];have O1:=dD (HOWN.grew HG0);obtain⟨x0,x1,x2⟩:=X0.c3
 go_wp2_with (refine qE (E:=enE) rfl (.tmp 14) (.tmp 13) rfl base _ h O1 g k rfl x ?t1 ⟨g,k*3,none⟩ rfl rfl (.agg #[I6 x.kind,I6 x.n,.bool x.wr]) rfl rfl ?_)
 case t1=>rw[HH8.out];exact hk
 intro W2 ow2 gr2 sz2;rw[HFU.out]at HL;rw[HL.out]at ow2;have O2:Hid (zb enE base W2 (.slice (some ⟨g,0,none⟩) 8 xc) L):=ow2;have G2:Hid (w.grownBy W2 (some g)):=show World.grownBy _ _ _ from jZ (za1 HG0 _) gr2
 have hcall:=Zl _ L W2 ow2.at;clear ow2 gr2 sz2 x0 x1 x2
 generalize Zd L=A at hcall HMK
 cases A with
 | true=>
  have HM:Hid (M=L):=dD<|by rw[HMK.out,if_pos rfl]
  go_wp2_with fail;refine hcall.mono ?_;rintro e W3 ⟨rfl,k1⟩;have G3:Hid (w.grownBy W3 _):=show World.grownBy _ _ (Value.ownBlock (.slice (some ⟨g,0,none⟩) 8 xc))from jZ G2 (za1 k1 _)
  have O3:=dD (O2.grew k1);clear k1 hcall;go_wp2;go_ret;rw[HM.out,HLL.out];exact⟨some ⟨g,0,none⟩,xc,rfl,O3,G3,fun g' hg=> .inl hg⟩
 | false=>
  have HM:Hid (M=[]):=dD<|by rw[HMK.out,if_neg (by decide)]
  go_wp2_with fail;refine hcall.mono ?_;rintro e W3 ⟨rfl,k1⟩;have G3:Hid (w.grownBy W3 _):=show World.grownBy _ _ (Value.ownBlock (.slice (some ⟨g,0,none⟩) 8 xc))from jZ G2 (za1 k1 _)
  clear k1 hcall;go_wp2;go_ret;rw[HM.out];exact⟨none,0,rfl,zb.nil _ _ _,G3,fun g' hg=>by cases hg⟩
theorem zdI:∀v∈ZQ,v.oneCell'=true:=fun v hv=>by
 rw[ZQ,List.mem_replicate]at hv;rw[hv.2];rfl
theorem zhP (t:List (List En)) (n:Int) (x:En):
  (tbW t≠0/\zeq t n x=tbW t/\zep t n x=z8)\/
  (tbW t=0/\¬(0<=n/\n<64)/\zeq t n x=3/\zep t n x=z8)\/
  (tbW t=0/\(0<=n/\n<64)/\enW x≠0/\zeq t n x=enW x/\zep t n x=z8)\/
  (tbW t=0/\(0<=n/\n<64)/\enW x=0/\zeq t n x=0/\zep t n x=zgo t n.toNat x):=by
 by_cases h1:tbW t=0
 ·by_cases h2:0<=n/\n<64
  ·have e:zeq t n x=enW x:=by unfold zeq;rw[if_pos h1,if_pos h2]
   by_cases h3:enW x=0
   ·exact .inr (.inr (.inr ⟨h1,h2,h3,e.trans h3,by unfold zep;rw[if_pos (e.trans h3)]⟩))
   exact .inr (.inr (.inl ⟨h1,h2,h3,e,by unfold zep;rw[if_neg (by rw[e];exact h3)]⟩))
  have e:zeq t n x=3:=by unfold zeq;rw[if_pos h1,if_neg h2]
  exact .inr (.inl ⟨h1,h2,e,by unfold zep;rw[if_neg (by rw[e];decide)]⟩)
 have e:zeq t n x=tbW t:=by unfold zeq;rw[if_neg h1]
 exact .inl ⟨h1,e,by unfold zep;rw[if_neg (by rw[e];exact h1)]⟩
theorem zhQ (vs:List Value) (t:List (List En)) (n:Int) (x:En) (w:World) (hv:Zx w vs t):
  Calls prog 140 #[.agg vs.toArray,I6 n,.agg #[I6 x.kind,I6 x.n,.bool x.wr]] w fun e w'=>∃us,e= .returned (.tuple #[.agg us.toArray,I6 (zeq t n x)])/\ZM 0 w.heap.size w' us (zep t n x)/\zc w w':=by
 have HL:Hid (vs.length=8):=hv.len;have HT8:Hid (t.length=8):=hv.tlen;have h1:∀W,zc w W->Calls prog 177 #[.agg vs.toArray] W fun e w'=>e= .returned (I6 (tbW t))/\zc W w':=fun W hW=>zbI vs t W (hv.grew hW)
 have h2:∀W,zc w W->Calls prog 114 #[.agg vs.toArray] W fun e w'=>∃us,e= .returned (.agg us.toArray)/\jb (W.heap.size+2) w' us t/\zc W w'/\W.heap.size+2<=w'.heap.size:=fun W hW=>zeD vs t W (hv.grew hW)
 have h3:=fun W=>JQ x.kind x.n x.wr W
 clear hv;obtain⟨W0,hW0⟩:∃W0,((w.alloc (.cells vs.toArray 53)).alloc (.cells #[I6 x.kind,I6 x.n,.bool x.wr] 74)).alloc (.cells #[eS,eS,eS,eS,eS,eS,eS,eS] 53)=W0:=⟨_,rfl⟩;have HG0:Hid (zc w W0):=dD<|by rw[<-hW0];exact((za _ _).trans (za _ _)).trans (za _ _)
 have X0:Hid (Box W0 w.heap.size vs):=dD<|by rw[<-hW0];exact((Box.top w _ _ rfl).alloc _).alloc _
 have E0:Hid (Box W0 (w.heap.size+1) [I6 x.kind,I6 x.n,.bool x.wr]):=dD<|by rw[<-hW0];exact(Box.top _ _ _ (by simp)).alloc _
 have Y0:Hid (Box W0 (w.heap.size+2) ZQ):=dD<|by rw[<-hW0];exact Box.top _ ZQ _ (by simp)
 have HW0:Hid (_=W0):=hW0;clear hW0
 rcases zhP t n x with⟨hz,e1,e2⟩|⟨hz,hn,e1,e2⟩|⟨hz,hn,hx,e1,e2⟩|⟨hz,hn,hx,e1,e2⟩
 ·rw[e1,e2];have hzb:(tbW t != 0)=true:=by simpa using hz
  clear e1 e2 hz h2 h3
  generalize tbW t=z at h1 hzb⊢
  go_enter func140,ntmps140
  go_upto_region 1 with fail;rw[HW0.out]
  go_wp2_with (refine qA rfl (.tmp 3) rfl w.heap.size rfl X0 HL.out ?_)
  refine(h1 W0 HG0).mono ?_;rintro e W1 ⟨rfl,g1⟩;have G1:=dD (HG0.trans g1);have X1:=dD (X0.grew g1);have E1:=dD (E0.grew g1);have Y1:=dD (Y0.grew g1);clear g1 h1
  go_wp2_with (refine zy rfl 53 (.tmp 6) (.tmp 15) rfl (w.heap.size+2) rfl ZQ rfl Y1 rfl zl8 zdI ?_)
  intro W9 b9 g9 s9;have B9:Hid (Box W9 (w.heap.size+2) ZQ):=b9;have G9:Hid (zc w W9):=show zc _ _ from zd G1 g9 (by simp)
  clear b9 g9 s9;go_wp2;refine bodyPost_ret (jL rfl _ rfl B9 underlying53 rfl zl8) rfl ⟨ZQ,rfl,ZM.nil _ _ _,G9⟩
 ·rw[e1,e2];rw[hz]at h1;have hb:=fun W=>zaR (m:=n) (n:=64) hn W
  clear e1 e2 hz hn h2 h3
  go_enter func140,ntmps140
  go_upto_region 1 with fail;rw[HW0.out]
  go_wp2_with (refine qA rfl (.tmp 3) rfl w.heap.size rfl X0 HL.out ?_)
  refine(h1 W0 HG0).mono ?_;rintro e W1 ⟨rfl,g1⟩;have G1:=dD (HG0.trans g1);have X1:=dD (X0.grew g1);have E1:=dD (E0.grew g1);have Y1:=dD (Y0.grew g1);clear g1 h1;go_wp2_with fail;refine(hb _).mono ?_;rintro e w' ⟨rfl,hw'⟩;rw[hw'];clear hw' w'
  go_wp2_with (refine zy rfl 53 (.tmp 6) (.tmp 20) rfl (w.heap.size+2) rfl ZQ rfl Y1 rfl zl8 zdI ?_)
  intro W9 b9 g9 s9;have B9:Hid (Box W9 (w.heap.size+2) ZQ):=b9;have G9:Hid (zc w W9):=show zc _ _ from zd G1 g9 (by simp)
  clear b9 g9 s9;go_wp2;refine bodyPost_ret (jL rfl _ rfl B9 underlying53 rfl zl8) rfl ⟨ZQ,rfl,ZM.nil _ _ _,G9⟩
 ·rw[e1,e2];rw[hz]at h1;have hb:=fun W=>QF (m:=n) (n:=64) hn.1 hn.2 W
  change ∀W,Calls prog 178 _ W fun e w'=>e= .returned (I6 (enW x))/\zc W w' at h3
  have hzb:(enW x != 0)=true:=by simpa using hx
  clear e1 e2 hz hn hx h2
  generalize enW x=z at h3 hzb⊢
  go_enter func140,ntmps140
  go_upto_region 1 with fail;rw[HW0.out]
  go_wp2_with (refine qA rfl (.tmp 3) rfl w.heap.size rfl X0 HL.out ?_)
  refine(h1 W0 HG0).mono ?_;rintro e W1 ⟨rfl,g1⟩;have G1:=dD (HG0.trans g1);have X1:=dD (X0.grew g1);have E1:=dD (E0.grew g1);have Y1:=dD (Y0.grew g1);clear g1 h1;go_wp2_with fail;refine(hb _).mono ?_;rintro e w' ⟨rfl,hw'⟩;rw[hw'];clear hw' w';obtain⟨e0,e1,e2⟩:=E1.c3;go_wp2_with fail;refine(h3 W1).mono ?_;rintro e W2 ⟨rfl,g2⟩;have G2:=dD (G1.trans g2);have X2:=dD (X1.grew g2);have E2:=dD (E1.grew g2);have Y2:=dD (Y1.grew g2);clear g2 h3 e0 e1 e2
  go_wp2_with (refine zy rfl 53 (.tmp 6) (.tmp 25) rfl (w.heap.size+2) rfl ZQ rfl Y2 rfl zl8 zdI ?_)
  intro W9 b9 g9 s9;have B9:Hid (Box W9 (w.heap.size+2) ZQ):=b9;have G9:Hid (zc w W9):=show zc _ _ from zd G2 g9 (by simp)
  clear b9 g9 s9;go_wp2;refine bodyPost_ret (jL rfl _ rfl B9 underlying53 rfl zl8) rfl ⟨ZQ,rfl,ZM.nil _ _ _,G9⟩
 rw[e1,e2];rw[hz]at h1;have hb:=fun W=>QF (m:=n) (n:=64) hn.1 hn.2 W
 change ∀W,Calls prog 178 _ W fun e w'=>e= .returned (I6 (enW x))/\zc W w' at h3
 rw[hx]at h3;obtain⟨i,k,hi,hk,hnk,q1,q2,q3,q4,q5,q6⟩:=zcV hn.1 hn.2;obtain⟨q,HQ⟩:∃q,Hid (t[i]? =some q):=⟨_,gE (by rw[HT8.out];exact hi)⟩
 have H8:Hid (q.length=0\/q.length=8):=dD<|by
  rcases Zr.1 hz q (mG HQ)with h|⟨h,_⟩
  ·exact .inl (by rw[h];rfl)
  exact .inr h
 have HM:Hid (zgo t n.toNat x=t.set i (mk ((zao q).set k x))):=dD<|by
  unfold zgo;rw[q5,q6,HQ.out];rfl
 rw[HM.out];obtain⟨M,HMM⟩:∃M,Hid (mk ((zao q).set k x)=M):=⟨_,rfl⟩;rw[HMM.out];have hn0:=hn.1;have hiz:(i:Int)<8:=by omega
 clear e1 e2 hz hn hx hnk q5 q6
 go_enter func140,ntmps140
 go_upto_region 1 with fail;rw[HW0.out]
 go_wp2_with (refine qA rfl (.tmp 3) rfl w.heap.size rfl X0 HL.out ?_)
 refine(h1 W0 HG0).mono ?_;rintro e W1 ⟨rfl,g1⟩;have G1:=dD (HG0.trans g1);have X1:=dD (X0.grew g1);have E1:=dD (E0.grew g1);have Y1:=dD (Y0.grew g1);clear g1 h1;go_wp2_with fail;refine(hb _).mono ?_;rintro e w' ⟨rfl,hw'⟩;rw[hw'];clear hw' w';obtain⟨e0,e1,e2⟩:=E1.c3;go_wp2_with fail;refine(h3 W1).mono ?_;rintro e W2 ⟨rfl,g2⟩;have G2:=dD (G1.trans g2);have X2:=dD (X1.grew g2);have E2:=dD (E1.grew g2);have Y2:=dD (Y1.grew g2);clear g2 h3 e0 e1 e2
 go_wp2_with (refine qA rfl (.tmp 3) rfl w.heap.size rfl X2 HL.out ?_)
 refine(h2 W2 G2).mono ?_;rintro e W3 ⟨us,rfl,ot3,g3,s3⟩;have OT3:Hid (jb (W2.heap.size+2) W3 us t):=ot3;have G23:Hid (zc W2 W3):=g3;have HB3:Hid (W2.heap.size+2<=W3.heap.size):=s3;have HB2:Hid (w.heap.size+3<=W2.heap.size):=Y2.lt;clear ot3 g3 s3 h2;obtain⟨po,HPO⟩:∃po,Hid (W3.heap.size=po):=⟨_,rfl⟩
 go_wp2_with (refine zy rfl 53 (.tmp 10) (.tmp 28) rfl W3.heap.size rfl us rfl (Box.top W3 ZQ 53 rfl) OT3.len zl8 OT3.new.one ?_)
 intro W4 b4 g4 s4;rw[HPO.out]at b4 g4⊢;have P4:Hid (Box W4 po us):=b4;have G34:Hid (zc W3 W4):=show zc _ _ from zd (za W3 _) g4 (by rw[HPO.out];exact nR _)
 have HS4:Hid (po<W4.heap.size):=b4.lt;clear b4 g4 s4;have OT4:=dD (OT3.grew G34);have E4:=dD ((E2.grew G23).grew G34);have Y4:=dD ((Y2.grew G23).grew G34);have G4:=dD ((G2.trans G23).trans G34);have HLT:Hid (∀(j:Nat) u,us[j]? =some u->∀g,u.ownBlock=some g->W2.heap.size+2<=g/\g<po):=show∀(j:Nat) u,_ from fun j u hu g hg=>by
  obtain⟨y,hy⟩:∃y,t[j]? =some y:=⟨_,gE (by rw[HT8.out,<-OT3.len];exact(gS.1 hu).1)⟩
  rw[<-HPO.out];exact(OT3.row j u y hu hy).lt g hg
 obtain⟨xa,xc,q',hq',hvk,ho4⟩:=OT4.half hi;obtain rfl:q=q':=by rw[HQ.out]at hq';cases hq';rfl
 have HVK:Hid (us[i]? =some (.slice xa q.length xc)):=hvk;have O4:Hid (zb enE (W2.heap.size+2) W4 (.slice xa q.length xc) q):=ho4;clear hq' hvk ho4;go_upto_region 10 with fail;obtain⟨g,hg1,hg3,hg4,hg5⟩:∃g,(∀g',(Value.slice xa q.length xc).ownBlock=some g'->g'=g)/\g≠po/\W2.heap.size+2<=g/\((Value.slice xa q.length xc).ownBlock=none->W4.heap.size<=g):=by
  cases ho:(Value.slice xa q.length xc).ownBlock with
  | none=>exact⟨W4.heap.size,fun g' h=>(by cases h),by have:=HS4.out;omega,by have:=HS4.out;have:=HPO.out;have:=HB3.out;omega,fun _=>nR _⟩
  | some g=>
   have:=HLT.out i _ HVK g ho;exact⟨g,fun g' h=>by cases h;rfl,by omega,by omega,fun h=>by cases h⟩
 have HWP:Hid (W2.heap.size+2<=W4.heap.size):=dD<|by have:=HS4.out;have:=HPO.out;have:=HB3.out;omega
 obtain⟨I,HI⟩:∃I:World->Prop,Hid (∀w,I w↔Out g (g+1) W4 w):=⟨fun w=>Out g (g+1) W4 w,fun _=>Iff.rfl⟩
 obtain⟨nq,HNQ⟩:∃nq,Hid (q.length=nq):=⟨_,rfl⟩;rw[HNQ.out]at hg1 hg5 HVK O4;have hx0:∀y:zj I,y.world.cell? ⟨po,i,none⟩=some (.slice xa nq xc):=fun y=>(P4.out.out ((HI _).1 y.holds) (by omega)).c i HVK.out
 have hgE:w.heap.size+1<g:=by have:=HB2.out;omega
 have hx1:∀y:zj I,y.world.cell? ⟨w.heap.size+1,0,none⟩=some (I6 x.kind):=fun y=>(E4.out.out ((HI _).1 y.holds) (by omega)).c 0 rfl
 have hx2:∀y:zj I,y.world.cell? ⟨w.heap.size+1,1,none⟩=some (I6 x.n):=fun y=>(E4.out.out ((HI _).1 y.holds) (by omega)).c 1 rfl
 have hx3:∀y:zj I,y.world.cell? ⟨w.heap.size+1,2,none⟩=some (.bool x.wr):=fun y=>(E4.out.out ((HI _).1 y.holds) (by omega)).c 2 rfl
 have hne:Nonempty (zj I):=⟨⟨W4,(HI _).2 (Out.refl _ _ _)⟩⟩;obtain⟨nm,HNM⟩:∃nm,Hid (M.length=nm):=⟨_,rfl⟩;refine qJ (I:=I) 11 [(9,⟨fun v=>∃a' c',v= .slice a' nm c',fun v w'=>zb enE (W2.heap.size+2) w' v M/\∀g',v.ownBlock=some g'->(Value.slice xa nq xc).ownBlock=some g'\/W4.heap.size<=g',fun w w'=>w.grownBy w' (Value.slice xa nq xc).ownBlock,fun w=>zb enE (W2.heap.size+2) w (.slice xa nq xc) q/\W4.heap.size<=w.heap.size⟩)] ((HI _).2 (Out.drew _)) qh (by kernel_rfl) rfl rfl (by decide) ?hS ?hp ?hpre ?hpr0 ?_
 case hS=>
  intro y hy
  simp at hy
  subst hy;exact⟨_,none,0,rfl⟩
 case hp=>
  intro k' s j t' hk' hj hjk _ v w w' hst hpo;have a1:=(zaZ hk').1;have a2:=(zaZ hj).1;exact absurd (a2.trans a1.symm) hjk
 case hpre=>
  intro j t' k' s hj hk' hjk w w' hst hpr;have a1:=(zaZ hk').1;have a2:=(zaZ hj).1;exact absurd (a2.trans a1.symm) hjk
 case hpr0=>
  intro k' t' hk';obtain⟨rfl,rfl⟩:=zaZ hk';exact⟨O4.grew (gW _),nR _⟩
 simp only[List.take,List.drop];iterate 9 (refine zm rfl rfl rfl (fun K hK=>?_);go_big_quiet_op;refine hK _ ?_;clear hK)
 refine zL rfl rfl (fun w' hI' hpr hF=>?_) (fun v1 hv=>?_)
 ·refine zN.call [.slice xa nq xc,I6 (k:Int),.agg #[I6 x.kind,I6 x.n,.bool x.wr]] rfl func179 rfl rfl rfl ?_;have hpr':zb enE (W2.heap.size+2) w' (.slice xa nq xc) q/\W4.heap.size<=w'.heap.size:=hpr;have hcall:=zdu xa xc q k hk x (W2.heap.size+2) w' (by rw[HNQ.out];exact hpr'.1) (nT HWP hpr'.2) H8.out
  rw[HNQ.out,HMM.out,HNM.out]at hcall;refine hcall.mono ?_;rintro e w'' ⟨a',c',rfl,nr,gb,ho⟩;refine⟨_,rfl,(HI _).2 (((HI _).1 hI').trans (Out.grown gb (fun g' h=>by have:=hg1 g' h;omega))),gb,⟨a',c',rfl⟩,nr,fun g' hg'=>?_⟩
  rcases ho g' hg' with h|h
  ·exact .inl h
  exact .inr (nT hpr'.2 h)
 obtain⟨ra,rc,rfl⟩:=hv;simp only[Act.put,sB,sS,sZ];iterate 1 (refine zm rfl rfl rfl (fun K hK=>?_);go_big_quiet_op;refine hK _ ?_;clear hK)
 refine jF fun W5 hI5 hF=>?_
 have f9:zb enE (W2.heap.size+2) W5 (.slice ra nm rc) M/\∀g',(Value.slice ra nm rc).ownBlock=some g'->(Value.slice xa nq xc).ownBlock=some g'\/W4.heap.size<=g':=hF 9;have O5:Hid (Out g (g+1) W4 W5):=(HI _).1 hI5;have OT5:Hid (jb (W2.heap.size+2) W5 (us.set i (.slice ra nm rc)) (t.set i M)):=OT4.one hi HVK (by
  cases ho:(Value.slice xa nq xc).ownBlock with
  | none=>exact⟨O5.os,O5.tape,O5.output,O5.size,fun j hj _=>O5.block j hj (.inl (Nat.lt_of_lt_of_le hj (hg5 ho)))⟩
  | some g0=>
   have:=hg1 g0 ho;subst this;exact⟨O5.os,O5.tape,O5.output,O5.size,fun j hj hne=>O5.block j hj (by
    have:j≠g0:=fun e=>hne (by rw[e])
    omega)⟩) f9.1 f9.2
 have HNE:Hid (∀(j:Nat) u,(us.set i (.slice ra nm rc))[j]? =some u->∀g',u.ownBlock=some g'->po≠g'):=dD<|fun j u hu g' hg'=>by
  by_cases e:j=i
  ·subst e;rw[sF (by rw[OT4.len];exact hi)]at hu
   cases hu
   rcases f9.2 g' hg' with h|h
   ·have:=HLT.out j _ HVK g' h;omega
   have:=HS4.out;omega
  rw[sN (fun h=>e h.symm)]at hu
  have:=HLT.out j u hu g' hg';omega
 have P5:Hid (Box W5 po us):=P4.out.out O5 (by omega)
 have Y5:Hid (Box W5 (w.heap.size+2) ZQ):=Y4.out.out O5 (by have:=HB2.out;omega)
 have G5:Hid (zc w W5):=dD<|Out.grew_of G4 (by have:=HB2.out;omega) O5.out
 clear hF hx0 hx1 hx2 hx3 hI5 hne f9 hg1 hg5;have p0:=P5.c i HVK.out;have pf:=P5.f;go_upto_region 11 with fail;have hlen:(us.set i (.slice ra nm rc)).length=8:=by rw[List.length_set];exact OT4.len
 have HLEN:Hid ((us.set i (.slice ra nm rc)).length=8):=hlen;clear hlen;obtain⟨W6,hW6⟩:∃W6,W5.setCell ⟨po,i,none⟩ (.slice ra nm rc)=W6:=⟨_,rfl⟩;have P6:Hid (Box W6 po (us.set i (.slice ra nm rc))):=show Box _ _ _ by rw[<-hW6];exact P5.set i _
 have Y6:Hid (Box W6 (w.heap.size+2) ZQ):=dD<|by rw[<-hW6];exact Y5.other (by have:=HPO.out;have:=HB3.out;have:=HB2.out;simp;omega) _
 have G6:Hid (zc w W6):=dD<|by rw[<-hW6];exact Below.setCell G5 (p:=⟨po,i,none⟩) (by have:=HPO.out;have:=HB3.out;have:=HB2.out;simp;omega) _
 have OT6:Hid (jb (W2.heap.size+2) W6 (us.set i (.slice ra nm rc)) (t.set i M)):=dD<|by
  rw[<-hW6];exact⟨OT5.len,OT5.tlen,fun j v h hv hh=>(OT5.row j v h hv hh).setOther (fun g' hg'=>HNE.out j v hv g' hg') _,OT5.two⟩
 rw[hW6];clear hW6 p0 pf
 go_wp2_with (first | refine qA rfl (.tmp 10) rfl po rfl P6 HLEN.out ?_ | refine zy rfl 53 (.tmp 6) (.tmp 40) rfl (w.heap.size+2) rfl _ rfl Y6 HLEN zl8 OT6.new.one ?_)
 intro W7 b7 g7 s7;have B7:Hid (Box W7 (w.heap.size+2) (us.set i (.slice ra nm rc))):=b7;have G7:Hid (zc w W7):=show zc _ _ from zd G6 g7 (by simp)
 have T7:Hid (ZM 0 w.heap.size W7 (us.set i (.slice ra nm rc)) (t.set i M)):=show ZM _ _ _ _ _ from
  ⟨OT6.len,OT6.tlen,fun j v h hv hh=>(((OT6.row j v h hv hh).grown g7 (fun g' hg' e=>by
   cases e;have:=((OT6.row j v h hv hh).lt _ hg').1;have:=HB2.out
   omega)).new.stays).less (nR _) (by have:=HB2.out;omega)⟩
 clear b7 g7 s7;go_wp2;refine bodyPost_ret (jL rfl _ rfl B7 underlying53 rfl (by rw[HLEN.out];exact zl8)) rfl ⟨_,rfl,T7,G7⟩
def chL (V:MaV) (m:Ma):List Value:=(mL V m)
structure zkt (w:World) (V:MaV) (m:Ma):Prop where
 fs:zr zaq w (V.f.x) m.fs
 sl:zr slE w (V.s.x) m.sl
 sb:jI w (V.sb.x) m.sb
 sq:jy w (V.sq.x) m.sq
 db:jI w (V.db.x) m.db
 dq:jy w (V.dq.x) m.dq
 fl:qW w (V.fl.x) m.fl
 ca:zr jc w (V.ca.x) m.ca
def Dp (p:Nat) (s:Sli):Nat->Prop:=fun b=>b=p\/(s.x).ownBlock=some b
def Dq (B p:Nat) (s:Sli):Nat->Prop:=fun b=>b<B\/Dp p s b
theorem qR.big {p:Nat} {s:Sli} {w:World} (B:Nat) (h:qR (Dp p s) w w'):qR (Dq B p s) w w':=h.wide fun _ hk=> .inr hk
theorem qR.grown {D:Nat->Prop} {w:World} (hg:w.grownBy w' (some b)) (h:D b):qR D w w':=
 ⟨hg.os,hg.tape,hg.output,hg.size,fun k hk hb=>hg.block k hk (fun e=>by cases e;exact hb h)⟩
theorem zp.outD {D:Nat->Prop} {w:World} {cs:List Value} (h:zp w b t cs) (k:qR D w w') (hn:¬D b):zp w' b t cs:=(k.block b h.box.lt hn).trans h
theorem ZM.outD {D:Nat->Prop} {w:World} {t:List (List En)} (h:ZM 0 B w us t) (hd:∀k,D k->k<B) (k:qR D w W):Zx W us t:=
 (h.out ⟨k.os,k.tape,k.output,k.size,fun i hi hb=>k.block i hi (fun e=>by have:=hd i e;omega)⟩).now
structure ChM (w0:World) (p:Nat) (w:World) (V:MaV) (m:Ma):Prop where
 gr:zc w0 w
 lo:w0.heap.size<=p
 box:zp w p 111 (chL V m)
 rest:∀W,qR (Dq w0.heap.size p V.sp) w W->zkt W V m
 sp:∃xs:List SpV,zb jx w0.heap.size w (V.sp.x) xs/\xs.length=m.sp.length/\∀(i:Nat) x s,xs[i]? =some x->m.sp[i]? =some s->∀W,qR (Dq w0.heap.size p V.sp) w W->zZ W x s
section
variable{w0 w w1 w2:World} {p:Nat} {V:MaV} {m:Ma}
theorem ChM.dlt (h:ChM w0 p w V m):∀k,Dp p V.sp k->k<w.heap.size:=by
 rintro k (rfl|hk)
 ·exact h.box.box.lt
 obtain⟨xs,s1,_⟩:=h.sp;exact(s1.lt k hk).2
theorem ChM.dlo (h:ChM w0 p w V m):∀k,Dp p V.sp k->w0.heap.size<=k:=by
 rintro k (rfl|hk)
 ·exact h.lo
 obtain⟨xs,s1,_⟩:=h.sp;exact(s1.lt k hk).1
theorem ChM.dqt (h:ChM w0 p w V m):∀k,Dq w0.heap.size p V.sp k->k<w.heap.size:=by
 rintro k (hk|hk)
 ·exact Nat.lt_of_lt_of_le hk (bS h.gr)
 exact h.dlt k hk
theorem ChM.grew (h:ChM w0 p w V m) (k:zc w w1):ChM w0 p w1 V m:=by
 obtain⟨xs,s1,s2,s3⟩:=h.sp;exact⟨h.gr.trans k,h.lo,h.box.grew k,fun W hW=>h.rest W ((qR.grew k).trans hW),⟨xs,s1.grew k,s2,fun i x s hx hs W hW=>s3 i x s hx hs W ((qR.grew k).trans hW)⟩⟩
theorem ChM.at (h:ChM w0 p w V m):zF w V m:=by
 have r:=h.rest w (qR.refl _ _);obtain⟨xs,s1,s2,s3⟩:=h.sp;exact⟨r.fs,r.sl,r.sb,r.sq,r.db,r.dq,r.fl,r.ca,⟨xs,s1.at,s2,fun i x s hx hs=>s3 i x s hx hs w (qR.refl _ _)⟩⟩
theorem ChM.ne (h:ChM w0 p w V m):∀g,(V.sp.x).ownBlock=some g->p≠g:=by
 obtain⟨xs,s1,_⟩:=h.sp;exact s1.ne h.box (by decide)
theorem ChM.setF (h:ChM w0 p w V m) {b:Sli} {fs:List Fr} {hd:Int} (g1:zc w w1) (nr:qX zaq w.heap.size w1 (b.x) fs) (g2:w1.grownBy w2 (some p)) (bx:zp w2 p 111 (chL { V with f:=b } { m with fs:=fs,hand:=hd })):ChM w0 p w2 { V with f:=b } { m with fs:=fs,hand:=hd }:=by
 have o1:qR (Dq w0.heap.size p V.sp) w w1:=qR.grew g1;have o2:qR (Dq w0.heap.size p V.sp) w1 w2:=qR.grown g2 (.inr (.inl rfl));obtain⟨xs,s1,s2,s3⟩:=h.sp;refine⟨zd (h.gr.trans g1) g2 h.lo,h.lo,bx,fun W hW=>?_,⟨xs,(s1.grew g1).grown g2 (fun g hg e=>h.ne g hg (by cases e;rfl)),s2,fun i x s hx hs W hW=>s3 i x s hx hs W ((o1.trans o2).trans hW)⟩⟩
 have r:=h.rest W ((o1.trans o2).trans hW);exact⟨nr.staysD h.dqt W (o2.trans hW),r.sl,r.sb,r.sq,r.db,r.dq,r.fl,r.ca⟩
theorem ChM.setS (h:ChM w0 p w V m) {b:Sli} {sl:List Int} (g1:zc w w1) (nr:qX slE w.heap.size w1 (b.x) sl) (g2:w1.grownBy w2 (some p)) (bx:zp w2 p 111 (chL { V with s:=b } { m with sl:=sl })):ChM w0 p w2 { V with s:=b } { m with sl:=sl }:=by
 have o1:qR (Dq w0.heap.size p V.sp) w w1:=qR.grew g1;have o2:qR (Dq w0.heap.size p V.sp) w1 w2:=qR.grown g2 (.inr (.inl rfl));obtain⟨xs,s1,s2,s3⟩:=h.sp;refine⟨zd (h.gr.trans g1) g2 h.lo,h.lo,bx,fun W hW=>?_,⟨xs,(s1.grew g1).grown g2 (fun g hg e=>h.ne g hg (by cases e;rfl)),s2,fun i x s hx hs W hW=>s3 i x s hx hs W ((o1.trans o2).trans hW)⟩⟩
 have r:=h.rest W ((o1.trans o2).trans hW);exact⟨r.fs,nr.staysD h.dqt W (o2.trans hW),r.sb,r.sq,r.db,r.dq,r.fl,r.ca⟩
theorem ChM.setT (h:ChM w0 p w V m) {xs:List SpV} {g:Nat} {x y:SpV} {s:Sp} {t:List (List En)} (s2:xs.length=m.sp.length) (s3:∀(i:Nat) x s,xs[i]? =some x->m.sp[i]? =some s->∀W,qR (Dq w0.heap.size p V.sp) w W->zZ W x s) (hx:xs[q]? =some x) (hs:m.sp[q]? =some s) (hg:(V.sp.x).ownBlock=some g)
  (g1:zc w w1) (tb:ZM 0 w.heap.size w1 us t) (g2:w1.grownBy w2 (some g)) (ow:zb jx w0.heap.size w2 (V.sp.x) (xs.set q y)) (hy:y.live=x.live/\y.ar=x.ar/\y.tab=us):ChM w0 p w2 V { m with sp:=m.sp.set q { s with tb:=t } }:=by
 have o1:qR (Dq w0.heap.size p V.sp) w w1:=qR.grew g1;have o2:qR (Dq w0.heap.size p V.sp) w1 w2:=qR.grown g2 (.inr (.inr hg));refine⟨zd (h.gr.trans g1) g2 (h.dlo g (.inr hg)),h.lo,(h.box.grew g1).beside g2 (fun k e=>by cases e;exact h.ne g hg),fun W hW=>?_,⟨xs.set q y,ow,by simp[s2],fun i x' s' hx' hs' W hW=>?_⟩⟩
 ·have r:=h.rest W ((o1.trans o2).trans hW);exact⟨r.fs,r.sl,r.sb,r.sq,r.db,r.dq,r.fl,r.ca⟩
 by_cases e:i=q
 ·subst e;rw[sF (gS.1 hx).1]at hx';have hs':(m.sp.set i { s with tb:=t })[i]? =some s':=hs';rw[sF (gS.1 hs).1]at hs';cases hx';cases hs';have k:=s3 i x s hx hs W ((o1.trans o2).trans hW);obtain⟨y1,y2,y3⟩:=hy;refine⟨y1.trans k.live,by rw[y2];exact k.ar,by rw[y2];exact k.cap,?_⟩
  rw[y3];exact tb.outD h.dqt (o2.trans hW)
 rw[sN (fun h=>e h.symm)]at hx'
 have hs':(m.sp.set q { s with tb:=t })[i]? =some s':=hs';rw[sN (fun h=>e h.symm)]at hs'
 exact s3 i x' s' hx' hs' W ((o1.trans o2).trans hW)
end
def Zj (m:Ma) (e:En) (n:Int):Ma:=if e.kind=1 then{ m with fs:=zdV m.fs m.hand e.n n,hand:=zb7 m.fs m.hand e.n n }else if e.kind=2 then{ m with sl:=Zo m.sl e.n n }else m
def ziE (m:Ma) (q:Nat) (n:Int):En:=zf1 (m.sp.getD q ⟨false,[],[]⟩).tb n
def Zp (m:Ma) (q:Nat) (n:Int) (e:En):Ma:={ m with sp:=m.sp.set q { m.sp.getD q ⟨false,[],[]⟩with tb:=zep (m.sp.getD q ⟨false,[],[]⟩).tb n e } }
def Qq (m:Ma) (q p:Nat) (n:Int):Ma:=Zp (Zp (Zj m { ziE m p n with wr:=false } 1) p n { ziE m p n with wr:=false }) q n { ziE m p n with wr:=false }
def zd2 (m:Ma) (p:Nat) (n:Int):Ma:=Zp (Zj m (ziE m p n) (-1)) p n en0
def Chd (w0:World) (p:Nat) (w:World) (V:MaV) (m':Ma) (w':World):Prop:=∃V':MaV,V'.sp=V.sp/\ChM w0 p w' V' m'/\qR (Dp p V.sp) w w'
theorem Sp.getD_of {l:List Sp} {s d:Sp} (h:l[q]? =some s):l.getD q d=s:=by
 rw[gD,h];rfl
theorem zdA {P:Program} {a:Act} {w:World} (x:Operand) (p:Addr) (ho:o.op= .nilCheck x) (hx:a.eval x= .pointer (some p)):(execOp a.eval o).run P w= .ok (.value (.pointer (some p))) w:=by
 simp[execOp,ho,hx]
section
variable{I:World->Prop} {P:Program} {ops:Array Oper} {o:Oper} {rest:List Oper} {k:Nat} {F:Nat->World->Prop} {a:Act} {Q:Act->World->Prop}
theorem zb3 {S:Nat->Option (Value->Prop)} (x:Operand) (p:Addr) (ho:o.op= .nilCheck x) (hx:a.eval x= .pointer (some p)) (hw:Region.wanted o (yielded ops a.tmps)=true) (hS:S k=none) (h:zfk I P ops S Q rest (k+1) F (a.put o.dst (.pointer (some p)))):zfk I P ops S Q (o :: rest) k F a:=by
 constructor;unfold zav;rw[if_pos hw];simp only[hS];exact⟨_,fun w _ _=>zdA x p ho hx,h.out⟩
theorem jC {S:Nat->Option zcK} (x:Operand) (p:Addr) (ho:o.op= .nilCheck x) (hx:a.eval x= .pointer (some p)) (hw:Region.wanted o (yielded ops a.tmps)=true) (hS:S k=none) (h:zco I P ops S Q rest (k+1) F (a.put o.dst (.pointer (some p)))):zco I P ops S Q (o :: rest) k F a:=by
 constructor;unfold JR;rw[if_pos hw];simp only[hS];exact⟨_,fun w _ _=>zdA x p ho hx,h.out⟩
end
section
variable(I:World->Prop) (P:Program) (ops:Array Oper) (S:Nat->Option (Value->Prop))
def jJ (i:Nat) (F:World->Prop) (a:Act) (K:(World->Prop)->Act->Prop):Prop:=
 match ops[i]? with
 | none=>False
 | some o=>
  if Region.wanted o (yielded ops a.tmps)then
   match S i with
   | none=>∃v,(∀w,I w->(execOp a.eval o).run P w= .ok (.value v) w)/\K F (a.put o.dst v)
   | some s=>∃p:Value->World->Prop,(∀w,I w->F w->zN P o a w fun v w'=>I w'/\s v/\p v w')/\∀v,s v->K (p v) (a.put o.dst v)
  else K F (a.put o.dst undef)
def zi9 (Q:Act->World->Prop):List Nat->(World->Prop)->Act->Prop
 | [],F,a=>∀w,I w->F w->Q a w
 | i :: l,F,a=>jJ I P ops S i F a (zi9 Q l)
end
section
variable{I:World->Prop} {P:Program} {ops:Array Oper} {S:Nat->Option (Value->Prop)} {T:Nat}
theorem jJ.mono {F:World->Prop} {a:Act} {K K':(World->Prop)->Act->Prop}
  (h:∀F' a',K F' a'->K' F' a') (hc:jJ I P ops S i F a K):jJ I P ops S i F a K':=by
 unfold jJ at*
 split
 ·rename_i ho;simp only[ho]at hc
 rename_i o ho
 simp only[ho]at hc
 split
 ·rename_i hw
  simp only[hw,if_true]at hc
  split
  ·rename_i hs
   simp only[hs]at hc;obtain⟨v,h1,h2⟩:=hc;exact⟨v,h1,h _ _ h2⟩
  rename_i s hs
  simp only[hs]at hc;obtain⟨p,hd,hc⟩:=hc;exact⟨p,hd,fun v hv=>h _ _ (hc v hv)⟩
 rename_i hw
 simp only[hw]at hc;exact h _ _ hc
theorem jJ.swap {F:World->Prop} {a:Act} {K:(World->Prop)->Act->Prop} {w:World}
  (hi:ops[i]? =some oi) (hj:ops[j]? =some oj) (hap:oi.apart ops oj=true)
  (hsi:∀cs b,oi.op≠.select cs b) (hsj:∀cs b,oj.op≠.select cs b)
  (hij:anc ops 9 i j=false) (hji:anc ops 9 j i=false) (hS:∀s,S i=some s->∃v,s v) (hch:S i≠none->S j≠none->anc ops 9 i j=true\/anc ops 9 j i=true)
  (hw0:I w)
  (h:jJ I P ops S i F a fun F' a'=>jJ I P ops S j F' a' K):jJ I P ops S j F a fun F' a'=>jJ I P ops S i F' a' K:=by
 obtain⟨h1,h2,h3⟩:=Oper.apart_spec hap;have ei:∀v,execOp (a.put oj.dst v).eval oi=execOp a.eval oi:=fun v=>execOp_put oi hsi a oj.dst v h3
 have ej:∀v,execOp (a.put oi.dst v).eval oj=execOp a.eval oj:=fun v=>execOp_put oj hsj a oi.dst v h1
 have wi:∀v,Region.wanted oi (yielded ops (a.put oj.dst v).tmps)=Region.wanted oi (yielded ops a.tmps):=fun v=>wanted_put oi a oj.dst v h3
 have wj:∀v,Region.wanted oj (yielded ops (a.put oi.dst v).tmps)=Region.wanted oj (yielded ops a.tmps):=fun v=>wanted_put oj a oi.dst v h1
 have di:∀v w K,zN P oi (a.put oj.dst v) w K=zN P oi a w K:=fun v w K=>by unfold zN;rw[ei]
 have dj:∀v w K,zN P oj (a.put oi.dst v) w K=zN P oj a w K:=fun v w K=>by unfold zN;rw[ej]
 have pc:∀v u,(a.put oi.dst v).put oj.dst u=(a.put oj.dst u).put oi.dst v:=fun v u=>Act.put_comm a v u h2
 unfold jJ at h⊢;simp only[hi,hj,ei,ej,wi,wj,di,dj,pc]at h⊢
 cases hwi:Region.wanted oi (yielded ops a.tmps) <;> cases hwj:Region.wanted oj (yielded ops a.tmps) <;>
  simp only[hwi,hwj,if_true,if_false,Bool.false_eq_true]at h⊢
 ·exact h
 ·cases hsj':S j with
  | none=>simp only[hsj']at h⊢;exact h
  | some s=>simp only[hsj']at h⊢;exact h
 ·cases hsi':S i with
  | none=>simp only[hsi']at h⊢;exact h
  | some s=>simp only[hsi']at h⊢;exact h
 cases hsi':S i with
 | none=>
  simp only[hsi']at h;obtain⟨vi,hri,h⟩:=h
  cases hsj':S j with
  | none=>
   simp only[hsj']at h⊢;obtain⟨vj,hrj,h⟩:=h;exact⟨vj,hrj,vi,hri,h⟩
  | some s=>
   simp only[hsj']at h⊢;obtain⟨p,hd,hk⟩:=h;exact⟨p,hd,fun vj hvj=>⟨vi,hri,hk vj hvj⟩⟩
 | some si=>
  simp only[hsi']at h;obtain⟨p,hdi,h⟩:=h;obtain⟨v1,hv1⟩:=hS si hsi'
  cases hsj':S j with
  | none=>
   simp only[hsj']at h⊢;obtain⟨vj,hrj,_⟩:=h v1 hv1;refine⟨vj,hrj,p,hdi,fun vi hvi=>?_⟩
   obtain⟨vj',hrj',hl⟩:=h vi hvi;have e1:=hrj w hw0;have e2:=hrj' w hw0;rw[e1]at e2;simp only[Result.ok.injEq,Next.value.injEq,and_true]at e2;subst e2;exact hl
  | some sj=>
   exfalso
   rcases hch (by rw[hsi'];simp) (by rw[hsj'];simp)with h1|h1
   ·rw[hij]at h1;cases h1
   rw[hji]at h1;cases h1
theorem zi9.commute {Q:Act->World->Prop} {j:Nat} {oj:Oper} {w:World} (hj:ops[j]? =some oj) (hw0:I w)
  (hsel:∀(k:Nat) (o:Oper) cs b,ops[k]? =some o->o.op≠.select cs b) (hS:∀k s,S k=some s->∃v,s v) (hch:∀i k,i<k->S i≠none->S k≠none->anc ops 9 i k=true):
  ∀(l:List Nat) (F:World->Prop) (a:Act),l.Nodup->j∈l->
   (∀i∈l,i≠j->∃oi,ops[i]? =some oi/\(i<j->oi.apart ops oj=true)/\anc ops 9 i j=false/\(i<j->anc ops 9 j i=false))->
   (l.Pairwise (·< ·))->zi9 I P ops S Q l F a->zi9 I P ops S Q (j :: l.filter (· != j)) F a
 | [],_,_,_,hm,_,_,_=>by cases hm
 | i :: l,F,a,hnd,hm,hall,hsorted,h=>by
  by_cases hij:i=j
  ·subst hij;have:(i :: l).filter (· != i)=l:=by
    rw[List.filter_cons];simp only[bne_self_eq_false,Bool.false_eq_true,if_false];refine List.filter_eq_self.2 fun x hx=>?_
    have:x≠i:=fun e=>(List.nodup_cons.1 hnd).1 (e ▸ hx)
    simpa using this
   rw[this];exact h
  have hjl:j∈l:=by
   rcases mC.1 hm with e|e
   ·exact absurd e.symm hij
   exact e
  have hlt:i<j:=(List.pairwise_cons.1 hsorted).1 j hjl;obtain⟨oi,hoi,hap,haij,haji⟩:=hall i (by simp) hij
  have hf:(i :: l).filter (· != j)=i :: l.filter (· != j):=by
   rw[List.filter_cons];have:(i != j)=true:=by simpa using hij
   simp[this]
  rw[hf];refine jJ.swap hoi hj (hap hlt) (fun cs b=>hsel i oi cs b hoi) (fun cs b=>hsel j oj cs b hj) haij (haji hlt) (hS i) (fun q1 q2=> .inl (hch i j hlt q1 q2)) hw0 ?_
  refine jJ.mono (fun F' a' hl=>?_) h
  exact zi9.commute hj hw0 hsel hS hch l F' a' (List.nodup_cons.1 hnd).2 hjl (fun k hk=>hall k (by simp[hk])) (List.pairwise_cons.1 hsorted).2 hl
theorem zdr {Q:Act->World->Prop} {l:List Oper} {m:Nat} (hB:ZI ops T=true) (hTl:T+m=ops.size) (hll:l.length=m) (hops:∀j,l[j]? =ops[T+j]?) (hS:∀k s,S k=some s->∃v,s v)
  (hch:∀i k,i<k->S i≠none->S k≠none->anc ops 9 i k=true) (hQ:∀a w,Q a w->wpList P ops Q' l a w):
  ∀(fuel:Nat) (listed:Array Bool) (F:World->Prop) (a:Act) (w:World),listed.size=ops.size->(∀i,T<=i->i<ops.size->listed.getD i true=false)->(zg listed T).length=fuel->Qc ops listed->I w->
   F w->zi9 I P ops S Q (zg listed T) F a->wpAny P .any ops Q' (fuel+m) listed a w:=by
 have hsel:=Region.noSelect_spec (ops:=ops) (by simp only[ZI,Bool.and_eq_true]at hB;exact hB.1.1)
 intro fuel
 induction fuel with
 | zero=>
  intro listed F a w hsz hout hl hc hw hF h;have hnil:zg listed T=[]:=eN hl;rw[hnil]at h;rw[zA];refine Qo hB m l T listed a w (nR _) hsz hTl hll hops (fun i hi=>?_) hout (hQ _ _ (h w hw hF))
  cases hg:listed.getD i true with
  | true=>rfl
  | false=>
   have:i∈zg listed T:=List.mem_filter.2 ⟨List.mem_range.2 hi,by simp only[hg,beq_self_eq_true]⟩
   rw[hnil]at this;cases this
 | succ fuel ih=>
  intro listed F a w hsz hout hl hc hw hF h;rw[Nat.add_right_comm];refine⟨fun hr=>?_,fun j hj=>?_⟩
  ·exfalso
   cases hu:zg listed T with
   | nil=>simp[hu]at hl
   | cons x xs=>
    have hx:x∈zg listed T:=by rw[hu];simp
    have hx':=List.mem_filter.1 hx;have hxT:x<T:=List.mem_range.1 hx'.1;have hxs:x<ops.size:=by omega
    have ho:ops[x]? =some ops[x]:=Array.getElem?_eq_getElem hxs;have hsorted:(zg listed T).Pairwise (·< ·):=List.Pairwise.filter _ List.pairwise_lt_range;have:x∈Region.ready .any ops listed:=by
     refine mem_ready.2 ⟨by simpa using hx'.2,ops[x],ho,fun e he hb=>?_⟩
     have hed:zbj ops e.on x=true:=(jA ho).2 ⟨e,he,hb,rfl⟩;have hlt:=jM hB ho _ hed
     cases hg:listed.getD e.on true with
     | true=>exact zac (by omega) hg
     | false=>
      have hmem:e.on∈zg listed T:=List.mem_filter.2 ⟨List.mem_range.2 (by omega),by simp only[hg,beq_self_eq_true]⟩
      rw[hu]at hmem hsorted
      rcases mC.1 hmem with e1|e1
      ·omega
      have:=(List.pairwise_cons.1 hsorted).1 _ e1;omega
    rw[hr]at this;cases this
  obtain⟨h0,oj,hoj,hall⟩:=mem_ready.1 hj;have hjs:j<ops.size:=(aS.1 hoj).1;have hdir:∀k,zbj ops k j=true->listed.getD k false=true:=fun k hk=>by
   obtain⟨e,he,hb,rfl⟩:=(jA hoj).1 hk;exact hall e he hb
  have hjT:j<T:=by
   rcases Nat.lt_or_ge j T with h1|h1
   ·exact h1
   exfalso
   cases hu:zg listed T with
   | nil=>simp[hu]at hl
   | cons x xs=>
    have hx:x∈zg listed T:=by rw[hu];simp
    have hx':=List.mem_filter.1 hx;have hxT:x<T:=List.mem_range.1 hx'.1;have:=qt hc j x j hdir (Zy hB hoj h1 x (by omega))
    rw[qO (by simpa using hx'.2)]at this
    cases this
  have hju:j∈zg listed T:=List.mem_filter.2 ⟨List.mem_range.2 hjT,by simp only[h0,beq_self_eq_true]⟩
  have hnd:(zg listed T).Nodup:=List.Pairwise.filter _ List.nodup_range;have hsorted:(zg listed T).Pairwise (·< ·):=List.Pairwise.filter _ List.pairwise_lt_range;have hcm:=zi9.commute hoj hw hsel hS hch (zg listed T) F a hnd hju (fun i hi hij=>by
   have hi':=List.mem_filter.1 hi;have hun:listed.getD i false=false:=qO (by simpa using hi'.2)
   have his:i<ops.size:=by have:=List.mem_range.1 hi'.1;omega
   have hoi:ops[i]? =some ops[i]:=Array.getElem?_eq_getElem his;refine⟨ops[i],hoi,fun hlt=>?_,?_,fun hlt=>?_⟩
   ·rcases ZH hB hoj hjT i hlt with he|⟨oi,hoi',hap⟩
    ·have:=hdir i he;rw[hun]at this;cases this
    rw[hoi]at hoi';cases hoi';exact hap
   ·cases ha:anc ops 9 i j with
    | false=>rfl
    | true=>
     have:=qt hc 9 i j hdir ha;rw[hun]at this;cases this
   cases ha:anc ops 9 j i with
   | false=>rfl
   | true=>
    have:=za9 hB 9 j i ha
    omega) hsorted h
  have hsz':(listed.setIfInBounds j true).size=ops.size:=by simp[hsz]
  have hout':∀i,T<=i->i<ops.size->(listed.setIfInBounds j true).getD i true=false:=fun i hi hi'=>by rw[getD_set_ne true (by omega)];exact hout i hi hi'
  have hlen':(zg (listed.setIfInBounds j true) T).length=fuel:=by
   rw[qw (by omega)]
   have he:(zg listed T).filter (· != j)=(zg listed T).erase j:=by
    rw[List.Nodup.erase_eq_filter hnd]
   rw[he,List.length_erase_of_mem hju];omega
  have hc':Qc ops (listed.setIfInBounds j true):=fun i k hk hik=>by
   by_cases hkj:j=k
   ·subst hkj;exact getD_set_true (hdir i hik)
   rw[getD_set_ne false hkj]at hk;exact getD_set_true (hc i k hk hik)
  unfold wpOp;simp only[hoj];simp only[zi9,jJ,hoj]at hcm;rw[<-qw (by omega)]at hcm
  split
  ·rename_i hwant
   simp only[hwant,if_true]at hcm;refine .inl ?_
   cases hs:S j with
   | none=>
    simp only[hs]at hcm;obtain⟨v,hrun,hk⟩:=hcm;have hr:=hrun w hw;unfold Oper.wp;rw[hr];exact ih _ F _ w hsz' hout' hlen' hc' hw hF hk
   | some s=>
    simp only[hs]at hcm;obtain⟨p,hd,hk⟩:=hcm;refine(hd w hw hF).wp fun v w' ⟨hi',hpv,hpost⟩=>?_
    exact ih _ (p v) _ w' hsz' hout' hlen' hc' hi' hpost (hk v hpv)
  rename_i hwant
  simp only[hwant]at hcm;exact ih _ F _ w hsz' hout' hlen' hc' hw hF hcm
end
section
variable{I:World->Prop} {P:Program} {ops:Array Oper} {S:Nat->Option (Value->Prop)} {Q:Act->World->Prop}
variable(I P ops S Q)in
def Jd:List Oper->Nat->(World->Prop)->Act->Prop
 | [],_,F,a=>∀w,I w->F w->Q a w
 | o :: rest,k,F,a=>
  if Region.wanted o (yielded ops a.tmps)then
   match S k with
   | none=>∃v,(∀w,I w->(execOp a.eval o).run P w= .ok (.value v) w)/\Jd rest (k+1) F (a.put o.dst v)
   | some s=>∃p:Value->World->Prop,(∀w,I w->F w->zN P o a w fun v w'=>I w'/\s v/\p v w')/\∀v,s v->Jd rest (k+1) (p v) (a.put o.dst v)
  else Jd rest (k+1) F (a.put o.dst undef)
theorem QP:∀(l:List Oper) (k:Nat) (F:World->Prop) (a:Act),(∀j,l[j]? =ops[k+j]?\/l.length<=j)->Jd I P ops S Q l k F a->zi9 I P ops S Q (List.range' k l.length) F a
 | [],_,_,_,_,h=>h
 | o :: l,k,F,a,hl,h=>by
  have h0:ops[k]? =some o:=by
   rcases hl 0 with e|e
   ·simpa using e.symm
   simp at e
  have hnext:∀j,l[j]? =ops[k+1+j]?\/l.length<=j:=fun j=>by
   rcases hl (j+1)with e|e
   ·left;rw[List.getElem?_cons_succ]at e;rw[e];congr 1;omega
   right;simpa using e
  simp only[List.length_cons,List.range'_succ,zi9,jJ,h0];unfold Jd at h
  split
  ·rename_i hw
   simp only[hw,if_true]at h
   cases hs:S k with
   | none=>
    simp only[hs]at h;obtain⟨v,h1,h2⟩:=h;exact⟨v,h1,QP l (k+1) _ _ hnext h2⟩
   | some s=>
    simp only[hs]at h;obtain⟨p,hd,hk⟩:=h;exact⟨p,hd,fun v hv=>QP l (k+1) _ _ hnext (hk v hv)⟩
  rename_i hw
  simp only[hw]at h;exact QP l (k+1) _ _ hnext h
variable(I P ops S Q)in
structure zbt (l:List Oper) (k:Nat) (F:World->Prop) (a:Act):Prop where
 out:Jd I P ops S Q l k F a
theorem zG {Q:Exit->Act->World->Prop} {a:Act} {w:World} {L l r:List Oper} (T:Nat) (S:List (Nat ×(Value->Prop))) (F:World->Prop) (hI:I w.drew) (hF:F w.drew) (hm:P.follows .mixedOrders=true) (hB:ZI L.toArray T=true) (hl:L.take T=l) (hr:L.drop T=r) (hT:T<=L.length)
  (hS:∀x∈S,∃v,x.2 v) (hch:((S.map (·.1)).all fun i=>(S.map (·.1)).all fun k=>!decide (i<k) || anc L.toArray 9 i k)=true)
  (h:zbt I P L.toArray (fun k=>S.lookup k) (fun a w=>wpList P L.toArray Q r a w) l 0 F a):(Code.region id L.toArray true).wp P Q a w:=by
 have hlook:∀(S:List (Nat ×(Value->Prop))) k s,S.lookup k=some s->∃x∈S,x.2=s/\x.1=k:=by
  intro S
  induction S with
  | nil=>intro k s h;simp at h
  | cons x S ih=>
   intro k s h;rw[List.lookup_cons]at h
   split at h
   ·rename_i he
    exact⟨x,by simp,by simpa using h,by simpa using(by simpa using he:k=x.1).symm⟩
   obtain⟨y,hy,he⟩:=ih k s h;exact⟨y,by simp[hy],he⟩
 have hlT:l.length=T:=by rw[<-hl,List.length_take];omega
 have hrT:r.length=L.length - T:=by rw[<-hr,List.length_drop]
 refine wp_region_any hm ?_;have hu:zg (Array.replicate L.toArray.size false) T=List.range T:=by
  unfold zg;refine List.filter_eq_self.2 fun i hi=>?_
  have:i<T:=by simpa using hi
  simp[show i<L.length by omega]
 have h':=QP (ops:=L.toArray) l 0 _ a (fun j=>by
  rcases Nat.lt_or_ge j T with hj|hj
  ·left;rw[<-hl,List.getElem?_take_of_lt hj];simp
  right;omega) h.out
 rw[hlT,<-List.range_eq_range']at h';have hfin:=zdr (I:=I) (P:=P) (S:=fun k=>S.lookup k) (F:=F) (ops:=L.toArray) (T:=T) (l:=r) (m:=L.length - T) (Q:=fun a w=>wpList P L.toArray Q r a w) (Q':=Q) hB (by simp;omega) hrT (fun j=>by rw[<-hr,List.getElem?_drop];simp) (fun k s hs=>by obtain⟨x,hx,rfl,_⟩:=hlook S k s hs;exact hS x hx) (fun i k hik hi hk=>by
   obtain⟨si,hsi⟩:=Option.ne_none_iff_exists'.1 hi;obtain⟨sk,hsk⟩:=Option.ne_none_iff_exists'.1 hk;obtain⟨x,hx,_,rfl⟩:=hlook S i si hsi;obtain⟨y,hy,_,rfl⟩:=hlook S k sk hsk;have h1:=List.all_eq_true.1 (List.all_eq_true.1 hch x.1 (List.mem_map.2 ⟨x,hx,rfl⟩)) y.1 (List.mem_map.2 ⟨y,hy,rfl⟩)
   simpa [hik]using h1) (fun _ _ h=>h)
  T (Array.replicate L.toArray.size false) a w.drew (by simp) (fun i hi hi'=>by simp at hi';simp[hi']) (by rw[hu];simp) (fun i j hj _=>by
   exfalso;rw[Array.getD_eq_getD_getElem?,Array.getElem?_replicate]at hj
   split at hj <;> simp at hj)
  hI hF (by rw[hu];exact h')
 have hsz:T+(L.length - T)=L.toArray.size:=by simp;omega
 rw[hsz]at hfin;exact hfin
variable{o:Oper} {rest:List Oper} {k:Nat} {F:World->Prop} {a:Act}
theorem ze (ht:zld o=true) (hw:Region.wanted o (yielded ops a.tmps)=true) (hS:S k=none)
  (h:∀K:Act->Prop,(∀a,zbt I P ops S Q rest (k+1) F a->K a)->o.quiet P a (fun w'=>∃x:zj I,w'=x.world) K):zbt I P ops S Q (o :: rest) k F a:=by
 obtain⟨v,h1,h2⟩:=h _ fun _ h=>h
 constructor;unfold Jd;rw[if_pos hw];simp only[hS];refine⟨v,fun w hg=>?_,h2.out⟩
 have h3:=h1 w ⟨⟨w,hg⟩,rfl⟩;unfold Oper.quietAt at h3;have hne:=fun n w'=>@JG P o ht a.eval w w' n
 generalize(execOp a.eval o).run P w=r at*
 cases r with
 | ok n w'=>
  cases n <;> simp only[Oper.quietUpon]at h3
  case value u=>rw[h3.1,h3.2]
  case skip=>obtain⟨_,he⟩:=hne _ _ rfl;cases he
  case enter f args=>obtain⟨_,he⟩:=hne _ _ rfl;cases he
 | halt x w'=>simp only[Oper.quietUpon]at h3
theorem js (hw:Region.wanted o (yielded ops a.tmps)=false) (h:zbt I P ops S Q rest (k+1) F (a.put o.dst undef)):zbt I P ops S Q (o :: rest) k F a:=by
 constructor;unfold Jd;rw[if_neg (by rw[hw];exact Bool.false_ne_true)]
 exact h.out
theorem zI {s:Value->Prop} (hw:Region.wanted o (yielded ops a.tmps)=true) (hS:S k=some s) (p:Value->World->Prop)
  (h:∀w,I w->F w->zN P o a w fun v w'=>I w'/\s v/\p v w')
  (hn:∀v,s v->zbt I P ops S Q rest (k+1) (p v) (a.put o.dst v)):zbt I P ops S Q (o :: rest) k F a:=by
 constructor;unfold Jd;rw[if_pos hw];simp only[hS];exact⟨p,h,fun v hv=>(hn v hv).out⟩
theorem zH (x:Operand) (p:Addr) (ho:o.op= .nilCheck x) (hx:a.eval x= .pointer (some p)) (hw:Region.wanted o (yielded ops a.tmps)=true) (hS:S k=none) (h:zbt I P ops S Q rest (k+1) F (a.put o.dst (.pointer (some p)))):zbt I P ops S Q (o :: rest) k F a:=by
 constructor;unfold Jd;rw[if_pos hw];simp only[hS];exact⟨_,fun w _=>zdA x p ho hx,h.out⟩
theorem qj (h:∀w,I w->F w->Q a w):zbt I P ops S Q [] k F a:=⟨h⟩
end
theorem zck {w:World} {p:Nat} (h:ChM w0 p w V m) (q:Nat) (hq:q<m.sp.length) (n:Int):
  Calls prog 91 #[.pointer (some ⟨p,0,none⟩),.agg #[I6 (q:Int),I6 n]] w fun e w'=>e= .returned (enV (ziE m q n))/\zc w w':=by
 obtain⟨s,hs⟩:∃s,m.sp[q]? =some s:=⟨_,gE hq⟩;obtain⟨xs,s1,s2,s3⟩:=h.sp;obtain⟨x,hx⟩:∃x,xs[q]? =some x:=⟨_,gE (by rw[s2];exact hq)⟩
 have HAT:Hid (zZ w x s):=s3 q x s hx hs w (qR.refl _ _);obtain⟨xn,HXN⟩:∃xn,Hid (xs.length=xn):=⟨_,rfl⟩;obtain⟨g,c,heq⟩:=s1.formS (by omega)
 rw[HXN.out]at heq;have c10:=h.box.box.c 10 rfl;rw[heq]at c10 s1;have hqz:(q:Int)< (xn:Int):=by have:=HXN.out;omega
 have HC10:Hid (w.cell? ⟨p,10,none⟩=some (.slice (some ⟨g,0,none⟩) xn c)):=c10;have HBX:Hid (zp w p 111 (chL V m)):=h.box;have hce:zcs w ((Addr.mk g 0 none).add (q*10)) x:=(s1.one hx).sp10;rw[Addr.add_lit,zA]at hce;have HCE:Hid (∀W,zc w W->zcs W ⟨g,q*10,none⟩ x):=show∀W,_ from fun W hW=>by
  have:=((s1.grew hW).one hx).sp10;rw[Addr.add_lit,zA]at this;exact this
 have HVS:Hid (V.sp.x= .slice (some ⟨g,0,none⟩) xn c):=heq;obtain⟨E,HE⟩:∃E,Hid (ziE m q n=E):=⟨_,rfl⟩;have HG:Hid (∀W,zc w W->Calls prog 104 #[.agg #[x.t0.x,x.t1.x,x.t2.x,x.t3.x,x.t4.x,x.t5.x,x.t6.x,x.t7.x],I6 n] W fun e w'=>e= .returned (enV E)/\zc W w'):=show∀W,_ from fun W hW=>by
  have k:=zaI x.tab s.tb n W (HAT.tb.grew hW);rw[show zf1 s.tb n=E from by rw[<-HE.out];unfold ziE;rw[Sp.getD_of hs]]at k
  exact k
 rw[HE.out];clear h hq hs s1 s2 s3 hx heq c10 hce;obtain⟨W1,hW1⟩:∃W1,(w.alloc (.cells #[I6 (q:Int),I6 n] 118)).alloc (.cells #[I6 0,I6 0,.bool false] 74)=W1:=⟨_,rfl⟩;have G1:=gD2 hW1
 have X1:=x2a hW1
 have Y1:=x2b hW1
 have HW1:Hid (_=W1):=hW1;clear hW1
 go_enter func91,ntmps91
 go_upto_region 1 with fail;rw[HW1.out];obtain⟨b,HB⟩:∃b,Hid (w.heap.size=b):=⟨_,rfl⟩;rw[HB.out]at X1 Y1⊢;obtain⟨I,HI⟩:∃I:World->Prop,Hid (∀u,I u↔zc W1 u):=⟨fun u=>zc W1 u,fun _=>Iff.rfl⟩
 have hI0:I W1.drew:=(HI _).2 (gW _)
 have ht:∀y:zj I,y.world.cell? ⟨p,10,none⟩=some (.slice (some ⟨g,0,none⟩) xn c):=fun y=>by rw[<-HVS.out];exact(HBX.box.grew (G1.trans ((HI _).1 y.holds))).c 10 rfl
 have hx0:=X1.h HI 0 rfl
 have hx1:=X1.h HI 1 rfl
 have hce:∀y:zj I,zcs y.world ⟨g,q*10,none⟩ x:=fun y=>HCE.out _ (G1.trans ((HI _).1 y.holds))
 have h2:=fun y=>(hce y).2.2.1
 have h3:=fun y=>(hce y).2.2.2.1
 have h4:=fun y=>(hce y).2.2.2.2.1
 have h5:=fun y=>(hce y).2.2.2.2.2.1
 have h6:=fun y=>(hce y).2.2.2.2.2.2.1
 have h7:=fun y=>(hce y).2.2.2.2.2.2.2.1
 have h8:=fun y=>(hce y).2.2.2.2.2.2.2.2.1
 have h9:=fun y=>(hce y).2.2.2.2.2.2.2.2.2
 dsimp only at h2 h3 h4 h5 h6 h7 h8 h9;clear hce;have hne:Nonempty (zj I):=⟨⟨_,hI0⟩⟩;refine zG (I:=I) 13 [(12,fun v=>v=enV E)] (fun u=>True) hI0 trivial qh (by kernel_rfl) rfl rfl (by decide) ?hS (by kernel_rfl) ?_
 case hS=>
  intro x hx;simp only[mC,nM,or_false]at hx;subst hx;exact⟨_,rfl⟩
 simp only[List.take,List.drop];iterate 1 (refine ze rfl rfl rfl (fun K hK=>?_);go_big_quiet_op;refine hK _ ?_;clear hK)
 refine zH (.tmp 5) ⟨p,0,none⟩ rfl rfl rfl rfl ?_;simp only[Act.put,sB,sS,sZ];iterate 10 (refine ze rfl rfl rfl (fun K hK=>?_);go_big_quiet_op;refine hK _ ?_;clear hK)
 refine zI rfl rfl (fun _ u=>True) (fun w' hI' hF'=>?_) (fun v1 hv=>?_)
 ·refine zN.call [.agg #[x.t0.x,x.t1.x,x.t2.x,x.t3.x,x.t4.x,x.t5.x,x.t6.x,x.t7.x],I6 n] rfl func104 rfl rfl rfl ?_;refine(HG w' (G1.trans ((HI _).1 hI'))).mono ?_;rintro e w'' ⟨rfl,g2⟩;exact⟨_,rfl,(HI _).2 (((HI _).1 hI').trans g2),rfl,trivial⟩
 cases hv;simp only[Act.put,sB,sS,sZ];refine qj fun W8 hI8 hF8=>?_
 have G8:Hid (zc W1 W8):=(HI _).1 hI8;have Y8:=dD (Y1.grew G8);clear hI8 hF8 hI0 ht hx0 hx1 h2 h3 h4 h5 h6 h7 h8 h9 hne;unfold enV;refine zy rfl 74 (.tmp 4) (.tmp 17) rfl (b+1) rfl [I6 E.kind,I6 E.n,.bool E.wr] rfl Y8 rfl (by kernel_rfl) (by simp[Value.oneCell']) ?_
 intro W9 bx9 gr9 _;have G9:Hid (zc w W9):=dD<|zd (G1.trans G8) gr9 (by have:=HB.out;omega)
 have B9:Hid (Box W9 (b+1) [I6 E.kind,I6 E.n,.bool E.wr]):=bx9;clear bx9 gr9;go_wp2;refine bodyPost_ret (qd rfl _ rfl B9 underlying74 rfl (by kernel_rfl)) rfl ⟨rfl,G9⟩
def ZN (L L':List Int):Prop:=L=[]->L'=[]
theorem ZN.refl (L:List Int):ZN L L:=fun h=>h
theorem ZN.trans {A B C:List Int} (h:ZN A B) (k:ZN B C):ZN A C:=fun e=>k (h e)
theorem zmk:(Tryz.prog.info? 5).map (·.size)=some 1:=by kernel_rfl
theorem zgr {w:World} {ad:Addr} {n c:Nat}:(Instr.sliceAt 24 (.slice (some ad) (n+1) c) (some (I6 1)) none none).run prog w= .ok (.slice (some (if c=1 then ad else ad.add 1)) n (c - 1)) w:=by
 have hs:(Go.sizeOf 5).run prog w= .ok 1 w:=by
  obtain⟨i0,h1,h2⟩:∃i0,Tryz.prog.info? 5=some i0/\i0.size=1:=by
   have:=zmk
   cases hq:Tryz.prog.info? 5 with
   | none=>rw[hq]at this;cases this
   | some i0=>rw[hq]at this;exact⟨i0,rfl,by simpa using this⟩
  simp[Go.sizeOf,typeInfo,h1,h2]
 have h1:(0:Int)<=1/\(1:Int)<=((n+1:Nat):Int):=by omega
 simp only[Instr.sliceAt,Instr.slice,Instr.sliceBounds,Instr.sliceBound,asIntOf,Sem.run_bind,Sem.run_pure,rA,run_underlying underlying24];rw[if_pos h1];simp only[Sem.run_pure,rA,hs]
 by_cases hc:c=1
 ·simp[hc]
 simp[hc]
theorem qx {w:World} (n:Int) (h:Mk w0 hi w b vl L V m vt T):
  Calls prog 43 #[.pointer (some ⟨b,0,none⟩),I6 n] w fun e w'=>∃vl' L' x,e= .returned (I6 x)/\Mk w0 hi w' b vl' L' V m vt T/\w.grownBy w' (some b)/\w'.heap.size=w.heap.size/\0<=x/\(x=0\/x<n)/\(L=[]->x=0)/\ZN L L':=by
 have HM:Hid (Mk w0 hi w b vl L V m vt T):=h;have hbx:=h.box.box;have x0:=hbx.c 0 rfl;have xf:=hbx.f;have hln:=h.lr.n;clear hbx;obtain⟨⟨la,ln,lc⟩,hvl⟩:∃s:Sli,vl=s:=⟨_,rfl⟩;subst hvl;dsimp only[Sli.x]at x0 hln HM;clear h
 by_cases h0:ln=0
 ·subst h0;clear hln
  go_enter func43,ntmps43
  go_wp2;go_ret;exact⟨_,L,0,rfl,HM,World.grownBy.rfl' _ _,rfl,Int.le_refl _,.inl rfl,fun _=>rfl,ZN.refl L⟩
 have h0e:((ln:Int) == 0)=false:=by simp;omega
 have h0f:(ln == 0)=false:=by simp[h0]
 by_cases h1:n<1
 ·clear h0 hln
  go_enter func43,ntmps43
  go_wp2;go_ret;exact⟨_,L,0,rfl,HM,World.grownBy.rfl' _ _,rfl,Int.le_refl _,.inl rfl,fun _=>rfl,ZN.refl L⟩
 obtain⟨z,L',rfl⟩:∃z L',L=z :: L':=by
  cases L with
  | nil=>simp at hln;omega
  | cons z L'=>exact⟨z,L',rfl⟩
 have hz:=HM.lb z (by simp)
 obtain⟨hz0,hz1⟩:=hz;obtain⟨ad,rfl,hl⟩:=HM.lr.rowsAt 0 z rfl;have d0:w.cell? ad=some (U8 z):=by
  have:=hl w HM.gr 0 _ rfl;rw[zU]at this
  simpa [byE,Addr.add]using this
 obtain⟨k,rfl⟩:∃k,ln=k+1:=⟨ln - 1,by omega⟩
 have hcap:k+1<=lc:=HM.lc;have hrun:=zgr (w:=w) (ad:=ad) (n:=k) (c:=lc);clear h0 hl;have hlt:(0:Int)< ((k+1:Nat):Int):=by omega
 obtain⟨ad',had⟩:∃ad',(if lc=1 then ad else ad.add 1)=ad':=⟨_,rfl⟩;rw[had]at hrun;have HL':Hid (zr byE w0 (.slice (some ad') k (lc - 1)) L'):=dD<|by
  obtain⟨⟨xa,xc,q1,q2,q3⟩,q4⟩:=HM.lr;dsimp only[Sli.x]at q1;cases q1;have q5:=q3 ad rfl;refine⟨⟨some ad',lc - 1,rfl,fun h=>(by cases h),fun y hy=>?_⟩,?_⟩
  ·cases hy
   by_cases hc:lc=1
   ·have:L'=[]:=by
     have:L'.length=0:=by omega
     exact eN this
    subst this;intro j u hj
    simp at hj
   rw[if_neg hc]at had;subst had;intro j u hj;rw[zU,Nat.add_comm 1 j];exact q5 (j+1) u (by simpa [byE]using hj)
  have:byE.bytes=1:=rfl;rw[this]at q4⊢
  simp at q4⊢
  omega
 have HBX:Hid (zp (w.setCell ⟨b,0,none⟩ (.slice (some ad') k (lc - 1))) b 98 [.slice (some ad') k (lc - 1),V.f.x,I6 m.hand,V.s.x,V.sb.x,V.sq.x,V.db.x,V.dq.x,V.fl.x,I6 m.cnt,V.ca.x,V.sp.x,vt.x]):=HM.box.set 0 _;have HGR:Hid (w.grownBy (w.setCell ⟨b,0,none⟩ (.slice (some ad') k (lc - 1))) (some b)):=⟨rfl,rfl,rfl,by simp[World.setCell],fun j _ hj=>Below.heap_setCell _ _ _ _ (fun e=>hj (by rw[e]))⟩
 have HSZ:Hid ((w.setCell ⟨b,0,none⟩ (.slice (some ad') k (lc - 1))).heap.size=w.heap.size):=dD<|by simp[World.setCell]
 have HMK:Hid (Mk w0 hi (w.setCell ⟨b,0,none⟩ (.slice (some ad') k (lc - 1))) b ⟨some ad',k,lc - 1⟩ L' V m vt T):=show Mk _ _ _ _ _ _ _ _ _ _ from
  ⟨zd HM.gr HGR HM.hb,HM.hb,HBX,HL',(show k<=lc - 1 by omega),fun y hy=>HM.lb y (by simp[hy]),HM.rows.var HGR HM.box (Nat.le_of_eq HSZ.symm) (.inl rfl)⟩
 have HX:Hid (0<=z % n/\z % n<n):=dD<|⟨Int.emod_nonneg _ (by omega),Int.emod_lt_of_pos _ (by omega)⟩
 clear hln hcap had
 go_enter func43,ntmps43
 go_wp2;go_ret;exact⟨_,L',z % n,rfl,HMK,HGR,HSZ,HX.1,.inr HX.2,fun h=>(by cases h)⟩
theorem zdF (q:List Int) (i:Nat) (z:Int):pgc (q.set i z)=(pgc q).set i (U8 z):=by
 unfold pgc;rw[List.map_set]
theorem zez {q:List Int} (h:q[i]? =some z):(pgc q)[i]? =some (U8 z):=by
 unfold pgc;rw[List.getElem?_map,h];rfl
theorem zml:(Tryz.prog.info? 67).map (·.size)=some 8:=by kernel_rfl
theorem zbA {w:World} (h:Mk w0 hi w b vl L V m vt T):
  Calls prog 46 #[.pointer (some ⟨b,0,none⟩)] w fun e w'=>∃vl' L' q,e= .returned (.agg (pgc q).toArray)/\q.length=8/\Mk w0 hi w' b vl' L' V m vt T/\w.grownBy w' (some b)/\ZN L L':=by
 have HM:Hid (Mk w0 hi w b vl L V m vt T):=h;obtain⟨W0,hW0⟩:∃W0,(w.alloc (.cells #[U8 0,U8 0,U8 0,U8 0,U8 0,U8 0,U8 0,U8 0] 67)).alloc (.cells #[U8 0,U8 0,U8 0,U8 0,U8 0,U8 0,U8 0,U8 0] 67)=W0:=⟨_,rfl⟩;have HG0:=gD2 hW0
 have X0:Hid (zp W0 w.heap.size 67 (pgc zt)):=dD<|by rw[<-hW0];exact(zp.top _ (pgc zt) _ rfl).grew (za _ _)
 have Y0:Hid (zp W0 (w.heap.size+1) 67 (pgc zt)):=dD<|by rw[<-hW0];exact zp.top _ (pgc zt) _ (by simp)
 have HB:Hid (b<w.heap.size):=dD<|h.box.box.lt
 have HH:Hid (hi<=w.heap.size):=dD<|h.rows.hw
 have HW0:Hid (_=W0):=hW0;clear hW0 h
 go_enter func46,ntmps46
 go_upto_region 2 with fail;rw[HW0.out];go_wp2
 go_loopg [5] 8 (fun gg s5 wr=>∃(kk:Nat) (vl':Sli) (L' q:List Int),kk<=8/\8 - kk<=gg/\s5=I6 kk/\Hid (w.grownBy wr (some b))/\Hid (Mk w0 hi wr b vl' L' V m vt T)/\Hid (zp wr w.heap.size 67 (pgc zt))/\Hid (zp wr (w.heap.size+1) 67 (pgc q))/\Hid (q.length=8)/\Hid (ZN L L'))
 case atStart=>exact⟨0,vl,L,zt,nZ _,by omega,rfl,za1 HG0 _,HM.grew HG0,X0,Y0,(show zt.length=8 from rfl),ZN.refl L⟩
 obtain⟨kk,vl',L',q,hkk,hgg,rfl,BW,MW,XW,YW,QL,LL⟩:=hrel
 by_cases hlt:kk<8
 ·have hltz:(kk:Int)<8:=by omega
  have hpk:=qx 4 MW.out;go_wp2_with fail;refine hpk.mono ?_;clear hpk;rintro e W1 ⟨vl2,L2,x,rfl,mk1,gr1,sz1,x0,x1,xn,ll⟩;have hx4:x<4:=by rcases x1 with h|h <;> omega
  have M1:Hid (Mk w0 hi W1 b vl2 L2 V m vt T):=mk1;have B1:Hid (w.grownBy W1 (some b)):=jZ BW gr1;have X1:Hid (zp W1 w.heap.size 67 (pgc zt)):=XW.beside gr1 (fun g e=>by cases e;have:=HB.out;omega)
  have Y1:Hid (zp W1 (w.heap.size+1) 67 (pgc q)):=YW.beside gr1 (fun g e=>by cases e;have:=HB.out;omega)
  have LL1:=dD (LL.trans ll);clear mk1 gr1 sz1 x1 xn ll;obtain⟨z,hz⟩:∃z,q[kk]? =some z:=⟨_,gE (by rw[QL.out];exact hlt)⟩
  have y0:=Y1.box.c kk (zez hz);have yf:=Y1.box.f;have GS:Hid (W1.grownBy (W1.setCell ⟨w.heap.size+1,kk,none⟩ (U8 x)) (some (w.heap.size+1))):=⟨rfl,rfl,rfl,by simp[World.setCell],fun j _ hj=>Below.heap_setCell _ _ _ _ (fun e=>hj (by rw[e]))⟩
  have Y2:Hid (zp (W1.setCell ⟨w.heap.size+1,kk,none⟩ (U8 x)) (w.heap.size+1) 67 (pgc (q.set kk x))):=dD<|by rw[zdF];exact Y1.set kk _
  have X2:Hid (zp (W1.setCell ⟨w.heap.size+1,kk,none⟩ (U8 x)) w.heap.size 67 (pgc zt)):=X1.beside GS (fun g e=>by cases e;omega)
  have M2:Hid (Mk w0 hi (W1.setCell ⟨w.heap.size+1,kk,none⟩ (U8 x)) b vl2 L2 V m vt T):=show Mk _ _ _ _ _ _ _ _ _ _ from
   ⟨zd M1.gr GS (by have:=bS HM.gr;omega),M1.hb,M1.box.beside GS (fun g e=>by cases e;have:=HB.out;omega),M1.lr,M1.lc,M1.lb,M1.rows.var GS Y1 (by simp[World.setCell]) (.inr ⟨rfl,by have:=HH.out;omega⟩)⟩
  have B2:Hid (w.grownBy (W1.setCell ⟨w.heap.size+1,kk,none⟩ (U8 x)) (some b)):=dD<|⟨B1.os,B1.tape,B1.output,by simp[World.setCell];exact B1.size,fun j hj hn=>by
   rw[Below.heap_setCell _ _ _ _ (by simp;omega)]
   exact B1.block j hj hn⟩
  clear hz;go_wp2
  go_roundg (8 -(kk+1))
  case measure=>omega
  exact⟨kk+1,vl2,L2,q.set kk x,by omega,by omega,by go_num,B2,M2,X2,Y2,(show _=_ by rw[List.length_set];exact QL),LL1⟩
 have hltz:¬(kk:Int)<8:=by omega
 have:kk=8:=by omega
 subst this;have HP:Hid ((pgc q).length=8):=dD<|by rw[J6];exact QL.out
 go_wp2_with (first | (refine zO rfl 67 (.tmp 3) rfl (w.heap.size+1) rfl YW.box underlying67 rfl (by rw[HP.out];exact zml) ?_) | (refine zy rfl 67 (.tmp 2) (.tmp 14) rfl w.heap.size rfl (pgc q) rfl XW.box (by rw[HP.out];rfl) zml (jk q) ?_))
 intro W5 hb5 hg5 sz5;have M5:Hid (Mk w0 hi W5 b vl' L' V m vt T):=show Mk _ _ _ _ _ _ _ _ _ _ from
  ⟨zd MW.gr hg5 (bS HM.gr),MW.hb,MW.box.beside hg5 (fun g e=>by cases e;have:=HB.out;omega),MW.lr,MW.lc,MW.lb,MW.rows.var hg5 XW (Nat.le_of_eq sz5.symm) (.inr ⟨rfl,HH⟩)⟩
 have B5:Hid (w.grownBy W5 (some b)):=dD<|⟨hg5.os.trans BW.os,hg5.tape.trans BW.tape,hg5.output.trans BW.output,nT BW.size hg5.size,fun j hj hn=>by
  rw[hg5.block j (Nat.lt_of_lt_of_le hj BW.size) (fun e=>by cases e;omega)]
  exact BW.block j hj hn⟩
 go_wp2;refine bodyPost_ret (qd rfl _ rfl hb5 underlying67 rfl (by rw[HP.out];exact zml)) rfl ⟨vl',L',q,rfl,QL,M5,B5,LL⟩
def Loc (hi p:Nat) (t:TypeId):Prop:=t≠98/\t≠69/\t≠3/\t≠103/\t≠88/\t≠124/\t≠55/\t≠75/\(t=67->hi<=p)
def zo (hi:Nat) (w w':World):Prop:=(∀p t cs,zp w p t cs->Loc hi p t->zp w' p t cs)/\w.heap.size<=w'.heap.size
theorem zo.trans {a b c:World} (h:zo hi a b) (k:zo hi b c):zo hi a c:=⟨fun p t cs h1 h2=>k.1 p t cs (h.1 p t cs h1 h2) h2,nT h.2 k.2⟩
theorem zo.grew {a b:World} (h:zc a b):zo hi a b:=⟨fun _ _ _ h1 _=>h1.grew h,bS h⟩
theorem zo.kind {g:Nat} {w:World} {cs:Array Value} (hg:w.grownBy w' (some g)) (ho:w.heap[g]? =some (.cells cs t (0,0))) (hn:∀p,Loc hi p t->p≠g):zo hi w w':=⟨fun p u ds h1 h2=>h1.beside hg (fun k e=>by
 cases e;intro he;subst he;have h3:w.heap[p]? =some (.cells ds.toArray u (0,0)):=h1;rw[ho]at h3;simp only[Option.some.injEq,Obj.cells.injEq]at h3;obtain⟨_,rfl,_⟩:=h3;exact hn p h2 rfl),hg.size⟩
theorem Mk.keeps {w:World} (h:Mk w0 hi w b vl L V m vt T) (hg:w.grownBy w' (some b)):zo hi w w':=zo.kind hg h.box (fun _ hl=>absurd rfl hl.1)
def MkE (w0:World) (hi b:Nat) (w:World) (L:List Int) (V:MaV) (m:Ma) (vt:Sli) (T:List (Nat->En)) (w':World):Prop:=∃vl' L',Mk w0 hi w' b vl' L' V m vt T/\ZN L L'/\zo hi w w'
theorem zkY {a n:Nat} (h:0<n):((a:Int) %(n:Int))=((a % n:Nat):Int)/\a % n<n:=⟨by omega,Nat.mod_lt _ h⟩
theorem zeY {w:World} (f:Fr) (h:Mk w0 hi w b vl L V m vt T):
  Calls prog 135 #[.pointer (some ⟨b,0,none⟩),.agg (frv f).toArray] w fun e w'=>(e= .returned (I6 (-1))/\MkE w0 hi b w L V m vt T w')\/∃(j:Nat) (q:Fr),e= .returned (I6 (j:Int))/\m.fs[j]? =some q/\q.r=0/\MkE w0 hi b w L V { m with fs:=m.fs.set j f } vt T w':=by
 have HM:Hid (Mk w0 hi w b vl L V m vt T):=h;obtain⟨W0,hW0⟩:∃W0,w.alloc (.cells #[U8 f.p.b0,U8 f.p.b1,U8 f.p.b2,U8 f.p.b3,U8 f.p.b4,U8 f.p.b5,U8 f.p.b6,U8 f.p.b7,I6 f.r,.bool f.u,.bool f.d,I6 f.f,I6 f.x] 69)=W0:=⟨_,rfl⟩;have HG0:=gA hW0
 have X0:Hid (zp W0 w.heap.size 69 (frv f)):=dD<|by rw[<-hW0];exact zp.top _ (frv f) _ rfl
 have M0:Hid (Mk w0 hi W0 b vl L V m vt T):=h.grew HG0.out;have HNF:Hid (V.f.n=m.fs.length):=h.rows.fs.n;have hbig:V.f.n<=140737488355328:=by
  have h1:=h.rows.fs.2;have h40:zaq.bytes=40:=rfl;rw[h40]at h1;have:=h.rows.fs.n;omega
 have HB:Hid (b<w.heap.size):=dD<|h.box.box.lt
 have HFG:Hid (∀g,(V.f.x).ownBlock=some g->g<w.heap.size):=dD<|fun g hg=>(h.rows.fs.lt g hg).2
 have HW0:Hid (_=W0):=hW0;clear hW0 h
 go_enter func135,ntmps135
 go_upto_region 1 with fail;have hw:w.alloc (.cells (frv f).toArray 69)=W0:=HW0.out;try rw[hw]
 try rw[HW0.out]
 clear hw;have x1:=M0.box.box.c 1 rfl;go_upto_region 2 with fail;clear x1;obtain⟨n,HN⟩:∃n,Hid (V.f.n=n):=⟨_,rfl⟩;rw[HN.out]at hbig⊢;have hpk:=qx (n:Int) M0.out;go_wp2_with fail;refine hpk.mono ?_;clear hpk;rintro e W1 ⟨vl1,L1,x,rfl,mk1,gr1,sz1,x0,x1,xn,ll⟩;obtain⟨fr,rfl⟩:∃fr:Nat,x=(fr:Int):=⟨x.toNat,by omega⟩
 have hfr:fr<=n:=by rcases x1 with h | h <;> omega
 have M1:Hid (Mk w0 hi W1 b vl1 L1 V m vt T):=mk1;have K1:Hid (zo hi w W1):=(zo.grew HG0).trans (M0.keeps gr1);have X1:Hid (zp W1 w.heap.size 69 (frv f)):=X0.beside gr1 (fun g e=>by cases e;have:=HB.out;omega)
 have LL1:Hid (ZN L L1):=ll;clear mk1 gr1 sz1 x1 xn ll x0;go_wp2
 go_loopg [20] n (fun gg s20 wr=>∃i:Nat,i<=n/\n - i<=gg/\s20=I6 i/\wr=W1)
 case atStart=>exact⟨0,nZ _,by omega,rfl,rfl⟩
 obtain⟨i,hi',hgg,rfl,rfl⟩:=hrel
 by_cases hlt:i<n
 ·have hltz:(i:Int)< (n:Int):=by omega
  have hn0:¬(n:Int)=0:=by omega
  have hn1:((n:Int) == 0)=false:=by simp;omega
  obtain⟨j,hj⟩:∃j:Nat,(fr+i) % n=j:=⟨_,rfl⟩;have hjm:((fr:Int)+(i:Int)) %(n:Int)=(j:Int):=by
   rw[<-hj];have:=(zkY (a:=fr+i) (n:=n) (by omega)).1
   rw[<-this];rfl
  have hjn:j<n:=by rw[<-hj];exact Nat.mod_lt _ (by omega)
  have hjz:(j:Int)< (n:Int):=by omega
  clear hj;obtain⟨q,HQ⟩:∃q,Hid (m.fs[j]? =some q):=⟨_,gE (by rw[<-HNF.out,HN.out];exact hjn)⟩
  obtain⟨g,c',heq⟩:=M1.rows.fs.formS (by rw[<-HNF.out,HN.out];omega)
  have hfl:m.fs.length=n:=by rw[<-HNF.out,HN.out]
  rw[hfl]at heq;have HEQ:Hid (V.f.x= .slice (some ⟨g,0,none⟩) n c'):=heq;have x1:=M1.box.box.c 1 rfl;rw[HEQ.out]at x1;have hrw:=M1.rows.fs;rw[HEQ.out]at hrw;have HRW:Hid (zb zaq w0.heap.size wr (.slice (some ⟨g,0,none⟩) n c') m.fs):=hrw;have HGL:Hid (g<w.heap.size):=HFG.out g (by rw[HEQ.out];rfl)
  have hce:=hrw.one HQ.out;have d8:wr.cell? ⟨g,j*13+8,none⟩=some (I6 q.r):=by
   have:=hce 8 _ rfl;rw[zU,Addr.add_lit,zA]at this;exact this
  clear hce hrw heq hfl
  by_cases hr:q.r=0
  ·have hre:(q.r == 0)=true:=by simp[hr]
   have HR0:Hid (q.r=0):=hr;clear hr;go_upto_region 8 with fail;clear d8;obtain⟨I,hI⟩:∃I:World->Prop,I=fun u=>zc wr u:=⟨_,rfl⟩
   have HI:Hid (∀u,I u↔zc wr u):=dD<|fun u=>by rw[hI]
   clear hI;have hI0:I wr.drew:=(HI _).2 (gW _)
   have hx1:∀y:zj I,y.world.cell? ⟨b,1,none⟩=some (.slice (some ⟨g,0,none⟩) n c'):=fun y=>by rw[<-HEQ.out];exact(M1.box.box.grew ((HI _).1 y.holds)).c 1 rfl
   have hf0:∀y:zj I,y.world.cell? ⟨w.heap.size,0,none⟩=some (U8 f.p.b0):=fun y=>(X1.box.grew ((HI _).1 y.holds)).c 0 rfl
   have hf1:∀y:zj I,y.world.cell? ⟨w.heap.size,1,none⟩=some (U8 f.p.b1):=fun y=>(X1.box.grew ((HI _).1 y.holds)).c 1 rfl
   have hf2:∀y:zj I,y.world.cell? ⟨w.heap.size,2,none⟩=some (U8 f.p.b2):=fun y=>(X1.box.grew ((HI _).1 y.holds)).c 2 rfl
   have hf3:∀y:zj I,y.world.cell? ⟨w.heap.size,3,none⟩=some (U8 f.p.b3):=fun y=>(X1.box.grew ((HI _).1 y.holds)).c 3 rfl
   have hf4:∀y:zj I,y.world.cell? ⟨w.heap.size,4,none⟩=some (U8 f.p.b4):=fun y=>(X1.box.grew ((HI _).1 y.holds)).c 4 rfl
   have hf5:∀y:zj I,y.world.cell? ⟨w.heap.size,5,none⟩=some (U8 f.p.b5):=fun y=>(X1.box.grew ((HI _).1 y.holds)).c 5 rfl
   have hf6:∀y:zj I,y.world.cell? ⟨w.heap.size,6,none⟩=some (U8 f.p.b6):=fun y=>(X1.box.grew ((HI _).1 y.holds)).c 6 rfl
   have hf7:∀y:zj I,y.world.cell? ⟨w.heap.size,7,none⟩=some (U8 f.p.b7):=fun y=>(X1.box.grew ((HI _).1 y.holds)).c 7 rfl
   have hf8:∀y:zj I,y.world.cell? ⟨w.heap.size,8,none⟩=some (I6 f.r):=fun y=>(X1.box.grew ((HI _).1 y.holds)).c 8 rfl
   have hf9:∀y:zj I,y.world.cell? ⟨w.heap.size,9,none⟩=some (.bool f.u):=fun y=>(X1.box.grew ((HI _).1 y.holds)).c 9 rfl
   have hf10:∀y:zj I,y.world.cell? ⟨w.heap.size,10,none⟩=some (.bool f.d):=fun y=>(X1.box.grew ((HI _).1 y.holds)).c 10 rfl
   have hf11:∀y:zj I,y.world.cell? ⟨w.heap.size,11,none⟩=some (I6 f.f):=fun y=>(X1.box.grew ((HI _).1 y.holds)).c 11 rfl
   have hf12:∀y:zj I,y.world.cell? ⟨w.heap.size,12,none⟩=some (I6 f.x):=fun y=>(X1.box.grew ((HI _).1 y.holds)).c 12 rfl
   have hne:Nonempty (zj I):=⟨⟨_,hI0⟩⟩;refine ZU (I:=I) 9 [] hI0 qh (by kernel_rfl) rfl rfl (by decide) (by simp) (by kernel_rfl) ?_
   simp only[List.take,List.drop];iterate 1 (refine qD rfl rfl rfl (fun K hK=>?_);go_big_quiet_op;refine hK _ ?_;clear hK)
   refine zb3 (.tmp 39) ⟨b,0,none⟩ rfl rfl rfl rfl ?_;simp only[Act.put,sB,sS,sZ];iterate 7 (refine qD rfl rfl rfl (fun K hK=>?_);go_big_quiet_op;refine hK _ ?_;clear hK)
   refine zbB fun W2 hI2 hF=>?_
   have hg2:=(HI _).1 hI2;have M2:=dD (M1.grew hg2);have R2:=dD (HRW.grew hg2);have K2:=dD (K1.trans (zo.grew hg2));clear hg2 hI2 hF hx1 hf0 hf1 hf2 hf3 hf4 hf5 hf6 hf7 hf8 hf9 hf10 hf11 hf12 hne hI0;refine qE (E:=zaq) rfl (.tmp 47) (.tmp 46) rfl w0.heap.size _ m.fs R2 g j rfl f (by rw[<-HNF.out,HN.out];exact hjn) ⟨g,j*13,none⟩ rfl rfl (.agg (frv f).toArray) rfl rfl ?_
   intro W3 ow3 gr3 sz3;have M3:Hid (Mk w0 hi W3 b vl1 L1 V { m with fs:=m.fs.set j f } vt T):=dD<|by
    have hob:(V.f.x).ownBlock=some g:=by rw[HEQ.out];rfl
    have h2:=M2.out;refine⟨zd h2.gr gr3 (R2.lt g rfl).1,h2.hb,h2.box.beside gr3 (fun k e=>?_),h2.lr,h2.lc,h2.lb,h2.rows.setF hob gr3 sz3 (by rw[HEQ.out];exact ow3)⟩
    cases e;exact R2.ne h2.box (by decide) g rfl
   have K3:Hid (zo hi w W3):=dD<|by
    obtain⟨cs,hcs⟩:=R2.obj (g:=g) rfl;exact K2.trans (zo.kind gr3 hcs (fun _ hl=>absurd rfl hl.2.1))
   clear ow3 gr3 sz3;go_wp2;go_ret;exact .inr ⟨j,q,rfl,HQ,HR0,vl1,L1,M3,LL1,K3⟩
  have hre:(q.r == 0)=false:=by simp[hr]
  clear hr;go_wp2
  go_roundg (n -(i+1))
  case measure=>omega
  exact⟨i+1,by omega,by omega,by go_num,rfl⟩
 have hltz:¬(i:Int)< (n:Int):=by omega
 go_wp2;go_ret;exact .inl ⟨rfl,vl1,L1,M1,LL1,K1⟩
theorem zfR {ps:List (List Int)} {l:List Int} (h:∀p∈ps,p.length=8) (hl:l.length=8):∀p∈ps.set i l,p.length=8:=fun p hp=>by
 rcases List.mem_or_eq_of_mem_set hp with h1|h1
 ·exact h p h1
 rw[h1];exact hl
theorem Qn {w:World} {rest:List Oper} {a:Act} (hgd:o.guard=none) (p x:Operand) (ho:o.op= .store 67 p x)
  (base:Nat) (v:Value) (ps:List (List Int)) (hown:zw base w v ps) (g i:Nat) (hg:v.ownBlock=some g) (hi:i<ps.length) (l:List Int) (hl:l.length=8)
  (ad:Addr) (hp:a.eval p= .pointer (some ad)) (had:ad=⟨g,i*8,none⟩) (hx:a.eval x= .agg (pgc l).toArray)
  (h:∀w',zw base w' v (ps.set i l)->w.grownBy w' (some g)->w'.heap.size=w.heap.size->wpList prog ops Q rest (a.put o.dst undef) w'):wpList prog ops Q (o :: rest) a w:=by
 refine zbo hgd p x 67 ho 8 (by kernel_rfl) base v ps.length _ hown.1 g i hg hi (pgc l) (by rw[J6,hl]) (jk l) ad hp had hx fun w' h1 h2 h3=>?_
 rw[Qp l (by rw[J6,hl]) ps i (fun b hb=>by rw[J6,hown.2.1 b hb]) hi]at h1
 refine h w' ⟨by rw[List.length_set];exact h1,zfR hown.2.1 hl,by rw[List.length_set];exact hown.2.2⟩ h2 h3
def zlp (n:Int):Int:=if 0<=n/\n<=80 then 0 else 4
def zlW (n:Int):List (List Int):=if 0<=n/\n<=80 then List.replicate n.toNat zt else []
theorem zha (n:Nat):(madeCells #[U8 0,U8 0,U8 0,U8 0,U8 0,U8 0,U8 0,U8 0] (n*8)).toList=(List.replicate n zt).flatMap pgc:=by
 have hl:((List.replicate n zt).flatMap pgc).length=n*8:=by rw[jh (k:=8) _ (fun a ha=>by rw[List.eq_of_mem_replicate ha];rfl)];simp
 apply List.ext_getElem?
 intro j
 rcases Nat.lt_or_ge j (n*8)with h|h
 ·have hj:j=j / 8*8+j % 8:=by omega
  have h8:j % 8<8:=Nat.mod_lt _ (by decide)
  have hq:j / 8<n:=by omega
  have hz:(pgc zt)[j % 8]? =some (U8 0):=by
   generalize j % 8=k at h8
   match k,h8 with
   | 0,_=>rfl
   | 1,_=>rfl
   | 2,_=>rfl
   | 3,_=>rfl
   | 4,_=>rfl
   | 5,_=>rfl
   | 6,_=>rfl
   | 7,_=>rfl
  have h1:=qL (enc:=pgc) (k:=8) (List.replicate n zt) (j / 8) zt (fun a ha=>by rw[List.eq_of_mem_replicate ha];rfl) (by simp[hq]) (j % 8) _ hz
  rw[<-hj]at h1;rw[h1];have:(#[U8 0,U8 0,U8 0,U8 0,U8 0,U8 0,U8 0,U8 0]:Array Value)[j % 8]! =U8 0:=by
   generalize j % 8=k at h8
   match k,h8 with
   | 0,_=>rfl
   | 1,_=>rfl
   | 2,_=>rfl
   | 3,_=>rfl
   | 4,_=>rfl
   | 5,_=>rfl
   | 6,_=>rfl
   | 7,_=>rfl
  simp[madeCells,h]
  simpa using this
 rw[gN (by simp[madeCells];exact h),gN (by rw[hl];exact h)]
end
section
open Go.RowKit Go.Shelf
section
attribute [local go_sem] Oper.semAt_some
structure P9 where
  (i m b0 b1 b2 b3 b4 b5 b6 b7 : Int)
end
section
attribute [local go_sem] Oper.semAt_some
theorem zar {n : Nat} {qs : List (Int × List Int)} {m : Int} (h : qT n qs m = 0) : zX n qs = 0 /\ ∃ i : Nat, m = (i : Int) /\ i < n := by
  unfold qT at h
  by_cases h1 : zX n qs = 0
  · rw [if_pos h1] at h
    refine ⟨h1, ?_⟩
    cases hb : j9 m n with
    | false => rw [hb] at h; simp at h
    | true =>
      unfold j9 at hb
      simp at hb
      obtain ⟨i, hi⟩ := Int.eq_ofNat_of_zero_le hb.1
      exact ⟨i, hi, by omega⟩
  · rw [if_neg h1] at h; exact absurd h h1
end
end
section
open Go.RowKit
def zli (ps : List (List Int)) (qs : List (Int × List Int)) : List (List Int) := if qs.length = 400 then ps.set (qs.headD (0, [])).1.toNat (qs.headD (0, [])).2 else ps
def zkw (ps : List (List Int)) (qs : List (Int × List Int)) (m : Int) : List (List Int) := if qT ps.length qs m = 0 then zli ps qs else []
theorem al1:zlp 3=0:=by decide
theorem al2:zlW 3=[zt,zt,zt]:=by decide
theorem al3:qT [zt,zt,zt].length [] 1=0:=by decide
theorem al4:zkw [zt,zt,zt] [] 1=[zt,zt,zt]:=by decide
def zey:Option (Int × List Int)->List Int->List Int
 | some q,_=>q.2
 | none,d=>d
theorem zjo {ps:List (List Int)} {qs:List (Int × List Int)} {m:Int} (h:qT ps.length qs m=0):j5 ps qs m=zey (qs.reverse.find? (fun q=>q.1 == m)) (ps.getD m.toNat zt):=by
 unfold j5;rw[if_pos h]
 cases qs.reverse.find? (fun q=>q.1 == m) <;> rfl
theorem ZX (a:Option Addr) (n c:Nat) (qv:Value) (qs:List (Int × List Int)) (w:World) (hq:jy w qv qs):
  Calls prog 83 #[.agg #[.slice a n c,qv]] w fun e w'=>e= .returned (I6 (zX n qs))/\zc w w':=by
 have HL:Hid (zX n qs=if 80<n then 4 else if 400<qs.length then 4 else if qs.any (fun q=>!j9 q.1 n)then 3 else 0):=rfl
 have hbig:qs.length<=9223372036854775807:=by have:=hq.2.2;omega
 obtain⟨a2,c2,rfl,hrow⟩:=hq.rows;have HRQ:Hid (zal w a2 qs):=hrow;clear hq hrow;obtain⟨kq,HN⟩:∃kq,Hid (qs.length=kq):=⟨_,rfl⟩;rw[HN.out]at HL hbig⊢
 by_cases h1:80<n
 ·have h1':(80:Int)< (n:Int):=by omega
  rw[if_pos h1]at HL
  go_enter func83,ntmps83
  go_wp2;go_ret;exact⟨by rw[HL.out];rfl,za _ _⟩
 have h1':¬(80:Int)< (n:Int):=by omega
 rw[if_neg h1]at HL
 by_cases h2:400<kq
 ·have h2':(400:Int)< (kq:Int):=by omega
  rw[if_pos h2]at HL
  go_enter func83,ntmps83
  go_wp2;go_ret;exact⟨by rw[HL.out];rfl,za _ _⟩
 have h2':¬(400:Int)< (kq:Int):=by omega
 rw[if_neg h2]at HL;obtain⟨W0,hW0⟩:∃W0,w.alloc (.cells #[.slice a n c,.slice a2 kq c2] 34)=W0:=⟨_,rfl⟩;have HG0:=gA hW0
 have X0:=xA hW0
 have HW0:Hid (_=W0):=hW0;clear hW0
 go_enter func83,ntmps83
 go_wp2;rw[HW0.out]
 go_loopg [4,18] kq (fun gg _ s18 wr=>∃kk:Nat,kk<=kq/\kq - kk<=gg/\s18=I6 kk/\Hid (zc W0 wr)/\Hid (∀(j:Nat) q,j<kk->qs[j]? =some q->j9 q.1 n=true))
 case atStart=>exact⟨0,nZ _,by omega,rfl,zc.refl _,fun j q hj=>absurd hj (nL _)⟩
 obtain⟨kk,hkk,hg,rfl,BW,A⟩:=hrel
 by_cases hlt:kk<kq
 ·have hltz:(kk:Int)< (kq:Int):=by omega
  obtain⟨q,HQ⟩:∃q,Hid (qs[kk]? =some q):=⟨_,gE (by rw[HN.out];exact hlt)⟩
  obtain⟨x,m,b0,b1,b2,b3,b4,b5,b6,b7,rfl,rfl,hl⟩:=HRQ.out kk q HQ.out;obtain⟨d0,d1,d2,d3,d4,d5,d6,d7,d8⟩:=hl wr (HG0.trans BW);have X:=X0.grew BW.out;have z0:=X.c 0 rfl;have zl:=X.lt;clear hl
  by_cases hb:j9 m n=true
  ·have hb':=hb;unfold j9 at hb'
   simp at hb'
   have hm0:¬m<0:=by omega
   have hmn:¬(n:Int)<=m:=by omega
   have HB:Hid (j9 m n=true):=hb;clear hb hb';go_wp2
   go_roundg (kq -(kk+1))
   case measure=>omega
   refine⟨kk+1,by omega,by omega,by go_num,BW.trans (za _ _),(show Hid _ from fun j q' hj hq'=>?_)⟩
   by_cases e:j=kk
   ·subst e;rw[HQ.out]at hq';cases hq';exact HB.out
   exact A j q' (by omega) hq'
  have hany:(qs.any fun q=>!j9 q.1 n)=true:=List.any_eq_true.2 ⟨_,mG HQ,by simpa using hb⟩
  rw[if_pos hany]at HL;unfold j9 at hb
  simp at hb
  clear hany
  by_cases hm0:m<0
  ·clear hb;go_wp2;go_ret;exact⟨by rw[HL.out];rfl,(HG0.trans BW).trans (za _ _)⟩
  have hmn:(n:Int)<=m:=hb (by omega)
  clear hb;go_wp2;go_ret;exact⟨by rw[HL.out];rfl,(HG0.trans BW).trans (za _ _)⟩
 have hltz:¬(kk:Int)< (kq:Int):=by omega
 have:kk=kq:=by omega
 subst this;have hany:¬(qs.any fun q=>!j9 q.1 n)=true:=fun h=>by
  obtain⟨q,hq,hb⟩:=List.any_eq_true.1 h;obtain⟨j,hj⟩:=List.getElem?_of_mem hq;have:=A.out j q (by rw[<-HN.out];exact(gS.1 hj).1) hj
  rw[this]at hb
  simp at hb
 rw[if_neg hany]at HL;clear hany;go_wp2;go_ret;exact⟨by rw[HL.out];rfl,HG0.trans BW⟩
end
end Go.Proofs.YtdgccecjbpgmfaaGreat
