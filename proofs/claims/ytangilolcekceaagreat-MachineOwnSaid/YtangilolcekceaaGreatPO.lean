/- MachineOwn,proved:a copy of a machine is one of its own:what is done to it does nothing to what it was copied from,whatever the numbers and bytes. No condition. -/
import Derived.Test.YtangilolcekceaaGreatPO8
import Derived.Test.YtangilolcekceaaGreatRows
import Derived.WalkKit
import Derived.ProofKit
import Derived.OpenShut
import Derived.ShutString
import Derived.ChangeOld
import Derived.Below
import Derived.Carry
import Derived.SizedLaws
import Derived.Deep.Slices
import Derived.Test.YtangilolcekceaaGreatChecked
namespace Go.Proofs.YtangilolcekceaaGreat
set_option maxRecDepth 100000
set_option maxHeartbeats 4000000
variable{e t:TypeId}
open Go.Proofs.Tryz
section
open Go.ChangeShapes Go.WideShapes Go.ChangeAt Go.RowKit
theorem Tryz.cellsInt:Tryz.prog.cellsOf 3=1:=by kernel_rfl
theorem Tryz.cellsByte:Tryz.prog.cellsOf 5=1:=by kernel_rfl
theorem Tryz.cellsConfig:Tryz.prog.cellsOf 23=3:=by kernel_rfl
theorem Tryz.bytesByte:Tryz.prog.bytesOf 5=1:=by kernel_rfl
section
variable{H:Type} {enc:TypeId × Value->H} {w:World} {base:Nat} {spare:Nat->Bool} {held:Bool}
theorem cells_join {α:Type} {enc0:α->List Value} {k:Nat}:∀(l:List α) (x:Addr),(∀a∈l,(enc0 a).length=k)->(∀(i:Nat) a,l[i]? =some a->Cells w (x.add (i*k)) (enc0 a))->Cells w x (l.flatMap enc0)
 | [],x,_,_=>fun j u hj=>by simp at hj
 | a :: l,x,hk,h=>fun j u hj=>by
  rw[List.flatMap_cons]at hj;have ha:=hk a (by simp)
  rcases Nat.lt_or_ge j k with hjk|hjk
  ·rw[List.getElem?_append_left (by omega)]at hj
   have:=h 0 a rfl j u hj;rw[add_add']at this
   simpa using this
  rw[aR (by omega),ha]at hj
  have ih:=cells_join l (x.add k) (fun b hb=>hk b (by simp[hb])) (fun i b hi=>by
   have:=h (i+1) b (by simpa using hi)
   rw[add_add'];rw[show k+i*k=(i+1)*k by rw[Nat.add_mul];omega]
   exact this) (j - k) u hj
  rw[add_add',show k+(j - k)=j by omega]at ih
  exact ih
theorem open_row {α:Type} [Inhabited α] (enc0:α->List Value) (Q:α->Prop) (k:Nat) (hu:Tryz.prog.underlying t=some (.slice e)) (hk:Tryz.prog.cellsOf e=k) (helem:∀n cs (x:DataW H × List MemPlace),cs.length=k->DataW.trod enc prog w base spare held n e cs=some x->∃a,Q a/\cs=enc0 a)
  {fuel:Nat} {cs:List Value} {x:DataW H × List MemPlace} (h:DataW.trod enc prog w base spare held fuel t cs=some x):
  ∃v l,cs=[v]/\SliceAt enc0 w v l/\(∀a∈l,Q a/\(enc0 a).length=k)/\(l=[]\/∃es sp,x.1= .slice es sp/\es.length=l.length):=by
 rcases Go.Deep.open_slice hu h with⟨rfl,_⟩|⟨a,len,cap,m,n,D,Pl,rfl,hb,hl,hm,hm',hx,hel⟩
 ·exact⟨_,[],rfl,⟨none,0,rfl,fun _=>rfl,fun x hx=>by cases hx⟩,by simp,.inl rfl⟩
 have hlm:len<=m:=by rw[hm'];split <;> omega
 have hex:∀i,i<len->∃a0,Q a0/\(enc0 a0).length=k/\Cells w (a.add (i*k)) (enc0 a0):=fun i hi=>by
  obtain⟨cs',h1,h2⟩:=hel i (by omega)
  rw[hk]at h1;obtain⟨_,hcl,hcc⟩:=World.cells?_some h1;obtain⟨a0,hq,rfl⟩:=helem _ _ _ hcl h2;refine⟨a0,hq,hcl,fun j u hj=>?_⟩
  have hj':j<k:=by rw[<-hcl];exact(gS.1 hj).1
  rw[hcc j hj'];exact hj
 obtain⟨f,hf⟩:=Go.Deep.choose_lt hex;refine⟨_,(List.range len).map f,rfl,⟨some a,cap,by simp,fun h=>(by cases h),fun y hy=>?_⟩,fun b hb=>?_,.inr ⟨_,_,by rw[hx],by simp⟩⟩
 ·cases hy;refine cells_join (k:=k) _ _ (fun b hb=>?_) (fun i b hi=>?_)
  ·obtain⟨i,hi,rfl⟩:=List.mem_map.1 hb;exact(hf i (List.mem_range.1 hi)).2.1
  have hil:i<len:=by have:=(gS.1 hi).1;simpa using this
  simp[hil]at hi
  subst hi;exact(hf i hil).2.2
 obtain⟨i,hi,rfl⟩:=List.mem_map.1 hb;have:=hf i (List.mem_range.1 hi);exact⟨this.1,this.2.1⟩
theorem open_bytes {b0:Nat} {r:Reach} {v:Value} {d:DataW H} {p:List MemPlace} (hv:Value.okWide prog w r b0 24 v) (h:DataW.Trod enc prog w base spare held 24 v d p) (hw:∀n∈d.weights prog 24,n<=reachBytes):
  ∃(vl:Sli) (s:List Int),v= .slice vl.a vl.n vl.c/\RowAt byE w (.slice vl.a vl.n vl.c) s/\vl.n<=vl.c/\∀z∈s,0<=z/\z<256:=by
 obtain⟨fuel,hf⟩:=h;obtain⟨v0,ps,e0,s0,q0,w0⟩:=open_row byE.enc (fun z=>0<=z/\z<256) 1 underlying24 Tryz.cellsByte (fun n cs x _ ht=>by
  obtain⟨z,hz,hz2,hz3⟩:=DataW.trod_int underlying5 ht;refine⟨z,?_,hz⟩;have:=hz3;simp only[Lit.wf,Bool.and_eq_true,decide_eq_true_eq]at this;have e1:IntKind.u8.min=0:=rfl;have e2:IntKind.u8.max=255:=rfl;rw[e1,e2]at this;exact⟨this.1,by have:=this.2;omega⟩) hf
 obtain⟨a,c,rfl,s2,s3⟩:=s0;obtain⟨a1,l1,c1,rfl⟩:=okWide_slice underlying24 hv;have e1:Value.slice a1 l1 c1= .slice a ps.length c:=by simpa [Value.cells]using e0
 cases e1;refine⟨⟨a,ps.length,c⟩,ps,rfl,⟨⟨a,c,rfl,s2,s3⟩,?_⟩,?_,fun z hz=>(q0 z hz).1⟩
 ·rcases w0 with rfl|⟨es,sp,he,hel⟩
  ·show 0*1<=_
   omega
  have he':d= .slice es sp:=he;have:=hw ((es.length+sp.length)*Tryz.prog.bytesOf 5) (by rw[he'];simp[DataW.weights,underlying24])
  rw[Tryz.bytesByte]at this;unfold reachBytes at this
  show ps.length*1<=_
  omega
 rcases Go.Deep.open_slice underlying24 hf with⟨h1,_⟩|⟨a',len,cap,_,_,_,_,h1,_,hl,_⟩
 ·have e2:Value.slice a ps.length c= .slice none 0 0:=by simpa [Value.cells]using h1
  simp only[vJ]at e2
  show ps.length<=c
  omega
 have e2:Value.slice a ps.length c= .slice (some a') len cap:=by simpa [Value.cells]using h1
 simp only[vJ]at e2
 show ps.length<=c
 omega
theorem open_config {b0:Nat} {r:Reach} {v:Value} {d:DataW H} {p:List MemPlace} (hv:Value.okWide prog w r b0 23 v) (h:DataW.Trod enc prog w base spare held 23 v d p):∃F S B:Int,v= .agg #[.int .i64 F,.int .i64 S,.int .i64 B]:=by
 obtain⟨cs,rfl,hsz,_⟩:∃cs,v= .agg cs/\cs.size=Tryz.prog.cellsOf 23/\Row.okWide prog w r b0 23 cs:=by
  simpa [Value.okWide,underlying23]using hv
 obtain⟨fuel,hf⟩:=h;obtain⟨xs,n,_,_,hlen,hl,hf⟩:=DataW.trod_struct underlying23 hf;rw[Tryz.cellsConfig]at hlen;have hxl:xs.length=3:=hl;obtain⟨cs⟩:=cs;simp only[Value.cells]at hlen hf;have h0:DataW.trod enc prog w base spare held n 3 ((cs.drop 0).take (Tryz.prog.cellsOf 3))=xs[0]?:=hf 0 _ rfl;have h1:DataW.trod enc prog w base spare held n 3 ((cs.drop 1).take (Tryz.prog.cellsOf 3))=xs[1]?:=hf 1 _ rfl;have h2:DataW.trod enc prog w base spare held n 3 ((cs.drop 2).take (Tryz.prog.cellsOf 3))=xs[2]?:=hf 2 _ rfl;rw[Tryz.cellsInt]at h0 h1 h2;rw[gE (by omega)]at h0 h1 h2
 obtain⟨r0,e0,_,_⟩:=DataW.trod_int underlying3 h0;obtain⟨r1,e1,_,_⟩:=DataW.trod_int underlying3 h1;obtain⟨r2,e2,_,_⟩:=DataW.trod_int underlying3 h2;obtain⟨c0,c1,c2,rfl⟩:∃c0 c1 c2,cs=[c0,c1,c2]:=by
  match cs,hlen with
  | [c0,c1,c2],_=>exact⟨c0,c1,c2,rfl⟩
 simp only[List.drop_succ_cons,List.drop_zero,List.take_succ_cons,List.take_zero,List.cons.injEq,and_true]at e0 e1 e2;subst e0 e1 e2;exact⟨r0,r1,r2,rfl⟩
end
theorem own:ownKnob Tryz.prog.godebug=none:=by kernel_rfl
theorem laidOut:laidOutB prog=true:=by kernel_rfl
theorem machineOwn_lifted (os:Os) (started:os.Started) (H:Type) (enc:TypeId × Value->H):
  ReturnsInHanded {} Tryz.checked os 4 .any (Rows.machineOwnSpec.pre6 enc prog Tryz.f4 Rows.machineOwnRow.domain false) (Rows.machineOwnSpec.post enc prog Tryz.f4 false true false false):=by
 refine returnsInHanded_of_change_sized (C:=Tryz.checked) own started (by kernel_rfl) func4
  (ChangeSpec.witness6 (enc:=enc) (C:=Tryz.checked) false ⟨#[],#[.agg #[.int .i64 0,.int .i64 0,.int .i64 0],.slice none 0 0],[]⟩ 8 (by kernel_rfl) (by kernel_rfl) (by kernel_rfl) (by kernel_rfl)) ?_
 intro W base args ds gs before hval0 hW hcnd hsz0 _;have hsz:(DataW.weightsEach prog (Tryz.f4.params.toList++Rows.machineOwnSpec.plain.varTypes prog) (ds++gs)).all (·<=reachBytes)=true:=hsz0;have hval:∀(j:Nat) t v,Tryz.f4.params[j]? =some t->args[j]? =some v->Value.okWide prog W .any base t v:=hval0;have hW':=hW;obtain⟨p,q,hA0,hV,rfl,hfz,hnd⟩:=hW;have hA:DataW.TrodAll enc prog W 0 (fun _=>true) true Tryz.f4.params.toList args.toList ds p:=hA0
 rw[Tryz.params4]at hA hval hsz;obtain⟨v0,vs0,d0,ds0,p0,q0,hargs,rfl,rfl,k0,r0⟩:=trodAll_cons hA;obtain⟨v1,vs1,d1,ds1,p1,q1,rfl,rfl,rfl,k1,r1⟩:=trodAll_cons r0;obtain⟨rfl,rfl,rfl⟩:=trodAll_nil r1;obtain rfl:args=#[v0,v1]:=by cases args;simp_all
 obtain⟨rfl,rfl⟩:=trodVars_none hV;have lt0:∀x∈p0,x.block<W.heap.size:=by obtain⟨m,hm⟩:=k0;exact DataW.trod_lt m _ _ _ hm
 have lt1:∀x∈p1,x.block<W.heap.size:=by obtain⟨m,hm⟩:=k1;exact DataW.trod_lt m _ _ _ hm
 obtain⟨cF,cS,cB,hce⟩:=open_config (hval 0 23 v0 rfl rfl) k0;subst hce;obtain⟨vl,ll,hvl,hrow,hcap,hbyt⟩:=open_bytes (hval 1 24 v1 rfl rfl) k1 (fun n hn=>by
  have:=List.all_eq_true.1 hsz n (DataW.weights_mem_each (j:=1) (t:=24) (d:=d1) rfl rfl n hn)
  simpa using this)
 subst hvl;clear hA0 hval0 hsz0;refine(ownLaw_any cF cS cB vl ll W hrow hcap hbyt).mono fun e W' ⟨he,bel⟩=>?_
 subst he;have stay:∀{t:TypeId} {v:Value} {d:DataW H} {ps:List MemPlace},Tryz.prog.readableRec t=true->t<Tryz.prog.types.size->DataW.Trod enc prog W 0 (fun _=>true) true t v d ps->(∀x∈ps,x.block<W.heap.size)->DataW.Trod enc prog W' 0 (fun b=>decide (b<W.heap.size)) true t v d ps:=
  fun h1 h2 h3 h4=>Below.trod laidOut h1 h2 h3 bel h4
 exact⟨_,rfl,_,_,_,[],_,[],hW',trodAll_mk1 (shut_bool underlying4 _),(trodAll_cons_mk (stay (by kernel_rfl) (of_decide_eq_true (by kernel_rfl)) k0 lt0) (trodAll_cons_mk (stay (by kernel_rfl) (of_decide_eq_true (by kernel_rfl)) k1 lt1) trodAll_mk0)),rfl,Below.frame bel _,fun h=>by cases h⟩
theorem machineOwn_over:Rows.machineOwnRow.holds Tryz.pinned (OpenSpec.ofChange Rows.machineOwnSpec):=
 OpenClaim.holds_of_wide 4 Tryz.f4 rfl rfl rfl rfl rfl rfl rfl ⟨rfl,rfl,rfl,rfl,rfl⟩ rfl rfl rfl rfl rfl (by kernel_rfl) func4 (by kernel_rfl)
  (of_decide_eq_true (by kernel_rfl)) (by unfold Func.isWrapper;first | (rw[if_pos (by decide+kernel)];kernel_rfl) | (rw[if_neg (by decide+kernel)];exact⟨rfl,rfl⟩))
  (fun os started H enc _=>machineOwn_lifted os started H enc)
theorem machineOwn_holds:Rows.MachineOwnSaid:=machineOwn_over
#print axioms machineOwn_holds
end
end Go.Proofs.YtangilolcekceaaGreat
