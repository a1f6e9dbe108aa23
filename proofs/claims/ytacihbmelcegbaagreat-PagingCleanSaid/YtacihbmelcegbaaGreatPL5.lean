import Derived.Test.YtacihbmelcegbaaGreatPL4
import Derived.ChangeKeysEq
import Derived.Shelf.Bits.Mul64
import Derived.Deep.Cut
import Derived.BigQuiet
import Derived.WalkSmall
namespace Go.Proofs.YtacihbmelcegbaaGreat
set_option maxRecDepth 100000
set_option maxHeartbeats 4000000
variable{B b cl i j:Nat} {Q:Exit->Act->World->Prop} {V:MaV} {W w':World} {e t:TypeId} {m:Ma} {o:Oper} {ops:Array Oper} {s z:Int} {vs xs:List Value}
open Go.Proofs.Tryz
section
open Go.RowKit
structure Jo where
 ty:TypeId
 enc:Int × Int->Value
 und:∃fs,Tryz.prog.underlying ty=some (.struct fs)
 check:∀(em:Bool) (a:Int × Int) (w:World),(Instr.checkKey em 10000 ty (enc a)).run prog w= .ok () w
 same:∀(a b:Int × Int) (w:World),(Op.equal ty (enc a) (enc b)).run prog w= .ok (decide (a=b)) w
 bits:∀a:Int × Int,Instr.sameBits 10000 (enc a) (enc a)=true
def Jp:List ((Int × Int) × Int)->Int × Int->Option Int
 | [],_=>none
 | p :: l,k=>if k=p.1 then some p.2 else Jp l k
def zbH:List ((Int × Int) × Int)->Int × Int->Nat->Option (Nat × Value)
 | [],_,_=>none
 | p :: l,k,i=>if k=p.1 then some (i,.int .i64 p.2)else zbH l k (i+1)
def ze0:List ((Int × Int) × Int)->Int × Int->Int->List ((Int × Int) × Int)
 | [],k,v=>[(k,v)]
 | p :: l,k,v=>if k=p.1 then(k,v) :: l else p :: ze0 l k v
theorem J7:∀(l:List ((Int × Int) × Int)) (k x:Int × Int) (v:Int),Jp (ze0 l k v) x=if x=k then some v else Jp l x
 | [],k,x,v=>by simp[ze0,Jp]
 | p :: l,k,x,v=>by
  unfold ze0
  by_cases h:k=p.1
  ·rw[if_pos h];unfold Jp
   by_cases hx:x=k
   ·simp[hx]
   have hx':¬x=p.1:=fun e=>hx (e.trans h.symm)
   simp[hx,hx']
  rw[if_neg h];unfold Jp;rw[J7 l]
  by_cases hp:x=p.1
  ·rw[if_pos hp,if_pos hp,if_neg (fun e=>h (e.symm.trans hp))]
  rw[if_neg hp,if_neg hp]
theorem Jm:∀{l:List ((Int × Int) × Int)} {k:Int × Int} {i:Nat},zbH l k i=none->Jp l k=none/\∀v,ze0 l k v=l++ [(k,v)]
 | [],k,i,_=>⟨rfl,fun v=>rfl⟩
 | p :: l,k,i,h=>by
  unfold zbH at h
  by_cases e:k=p.1
  ·rw[if_pos e]at h;cases h
  rw[if_neg e]at h;obtain⟨h1,h2⟩:=Jm h;refine⟨by unfold Jp;rw[if_neg e,h1],fun v=>?_⟩
  unfold ze0;rw[if_neg e,h2];rfl
theorem Jl:∀{l:List ((Int × Int) × Int)} {k:Int × Int} {i j:Nat} {u:Value},zbH l k i=some (j,u)->∃n z,u= .int .i64 z/\j=i+n/\l[n]? =some (k,z)/\Jp l k=some z/\∀v,ze0 l k v=l.set n (k,v)
 | [],k,i,j,u,h=>by cases h
 | p :: l,k,i,j,u,h=>by
  unfold zbH at h
  by_cases e:k=p.1
  ·rw[if_pos e]at h;cases h;refine⟨0,p.2,rfl,rfl,by rw[e];rfl,by unfold Jp;rw[if_pos e],fun v=>?_⟩
   unfold ze0;rw[if_pos e];rfl
  rw[if_neg e]at h;obtain⟨n,z,h1,h2,h3,h4,h5⟩:=Jl h;refine⟨n+1,z,h1,by omega,by simpa using h3,by unfold Jp;rw[if_neg e,h4],fun v=>?_⟩
  unfold ze0;rw[if_neg e,h5];rfl
def Z7 (K:Jo) (w:World) (b:Nat) (g:Int × Int->Option Int):Prop:=
 ∃es clock l,w.heap[b]? =some (.map es clock)/\(es.toList.map (fun e=>(e.key,e.val))=l.map (fun p:(Int × Int) × Int=>(K.enc p.1,Value.int .i64 p.2))/\(es.toList.map (·.born)).Pairwise (·< ·)/\∀e∈es.toList,e.born<clock)/\∀k,Jp l k=g k
theorem Z7.lt {K:Jo} {w:World} {g:Int × Int->Option Int} (h:Z7 K w b g):b<w.heap.size:=by
 obtain⟨es,c,l,h1,_⟩:=h;exact(aS.1 h1).1
theorem Z7.made (K:Jo) (w:World):Z7 K (w.alloc (.map #[] 0)) w.heap.size (fun _=>none):=⟨#[],0,[],by
 show(w.heap.push _)[w.heap.size]? =_
 simp,⟨rfl,List.Pairwise.nil,fun e he=>by cases he⟩,fun k=>rfl⟩
theorem Z7.grew {K:Jo} {w:World} {g:Int × Int->Option Int} (h:Z7 K w b g) (hg:zc w w'):Z7 K w' b g:=by
 have hlt:=h.lt;obtain⟨es,c,l,h1,h2⟩:=h;exact⟨es,c,l,(Below.block hg b hlt).trans h1,h2⟩
theorem Z7.kept {K:Jo} {w:World} {g:Int × Int->Option Int} {row:Option Nat} (h:Z7 K w b g) (hg:w.grownBy w' row) (hne:some b≠row):Z7 K w' b g:=by
 have hlt:=h.lt;obtain⟨es,c,l,h1,h2⟩:=h;exact⟨es,c,l,(hg.block b hlt hne).trans h1,h2⟩
theorem Z7.congr {K:Jo} {w:World} {g g':Int × Int->Option Int} (h:Z7 K w b g) (e:∀k,g k=g' k):Z7 K w b g':=by
 obtain⟨es,c,l,h1,h2,h3⟩:=h;exact⟨es,c,l,h1,h2,fun k=>(h3 k).trans (e k)⟩
theorem Jw (K:Jo) (k:Int × Int) (w:World):∀(l:List ((Int × Int) × Int)) (es:List MapEntry) (i:Nat),es.map (fun e=>(e.key,e.val))=l.map (fun p=>(K.enc p.1,Value.int .i64 p.2))->(Instr.findAsking K.ty (K.enc k) es i).run prog w= .ok (zbH l k i) w
 | [],[],i,_=>rfl
 | [],e :: es,i,h=>by simp at h
 | p :: l,[],i,h=>by simp at h
 | p :: l,e :: es,i,h=>by
  simp only[mP,List.cons.injEq,pJ]at h;obtain⟨⟨h1,h2⟩,h3⟩:=h;unfold Instr.findAsking zbH;simp only[Sem.run_bind,h1,K.same,rA]
  by_cases e':k=p.1
  ·simp[e',h2]
  simp[e',Jw K k w l es (i+1) h3]
theorem JF (K:Jo) (k:Int × Int) (w:World) (l:List ((Int × Int) × Int)) (es:List MapEntry) (h:es.map (fun e=>(e.key,e.val))=l.map (fun p=>(K.enc p.1,Value.int .i64 p.2))):(Instr.findKey K.ty (K.enc k) es).run prog w= .ok (zbH l k 0) w:=by
 obtain⟨fs,hu⟩:=K.und;unfold Instr.findKey;simp only[Sem.run_bind,run_underlying hu,rA]
 cases es with
 | nil=>
  cases l with
  | nil=>rfl
  | cons p l=>simp at h
 | cons e es=>
  have:Instr.findNow (.struct fs) (K.enc k) (e :: es) 0=none:=by simp[Instr.findNow,Instr.sameNow]
  rw[this];exact Jw K k w l (e :: es) 0 h
theorem Z7.look {K:Jo} {w:World} {g:Int × Int->Option Int} (h:Z7 K w b g) (ht:Tryz.prog.underlying t=some (.map K.ty e)) (hz:(zeroValue e).run prog w= .ok (.int .i64 0) w) (k:Int × Int) (c:Bool):
  (Instr.lookup t (.map (some b)) (K.enc k) c).run prog w= .ok (if c then .tuple #[.int .i64 ((g k).getD 0),.bool (g k).isSome]else .int .i64 ((g k).getD 0)) w:=by
 obtain⟨es,cl,l,h1,⟨h2,_⟩,h3⟩:=h;have hf:=JF K k w l es.toList h2;unfold Instr.lookup
 cases hp:zbH l k 0 with
 | none=>
  rw[hp]at hf;have:=(Jm hp).1;rw[h3 k]at this
  cases c <;> simp[run_underlying ht,MapKept.run_getObj_map h1,K.check,hf,hz,this]
 | some q=>
  obtain⟨j,u⟩:=q;rw[hp]at hf;obtain⟨n,z,rfl,_,_,h4,_⟩:=Jl hp;rw[h3 k]at h4
  cases c <;> simp[run_underlying ht,MapKept.run_getObj_map h1,K.check,hf,h4]
theorem zbr (f:MapEntry->MapEntry) (hf:∀e,(f e).born=e.born):∀(es:List MapEntry) (n:Nat),(es.modify n f).map (·.born)=es.map (·.born)
 | [],n=>by simp
 | e :: es,0=>by simp[hf]
 | e :: es,n+1=>by simp[zbr f hf es n]
structure j0 (K:Jo) (es:Array MapEntry) (cl:Nat) (l:List ((Int × Int) × Int)):Prop where
 pairs:es.toList.map (fun e=>(e.key,e.val))=l.map (fun p=>(K.enc p.1,Value.int .i64 p.2))
 rise:(es.toList.map (·.born)).Pairwise (·< ·)
 low:∀e∈es.toList,e.born<cl
theorem j0.push {K:Jo} {es:Array MapEntry} {l:List ((Int × Int) × Int)} (h:j0 K es cl l) (k:Int × Int) (v:Int):j0 K (es.push ⟨K.enc k,.int .i64 v,cl⟩) (cl+1) (l++ [(k,v)]):=by
 refine⟨by simp[h.pairs],?_,fun e he=>?_⟩
 ·simp only[Array.toList_push,List.map_append,mP,List.map_nil];rw[List.pairwise_append];refine⟨h.rise,by simp,fun a ha b hb=>?_⟩
  obtain⟨e,he,rfl⟩:=List.mem_map.1 ha
  simp at hb
  rw[hb];exact h.low e he
 simp only[Array.toList_push,List.mem_append,List.mem_singleton]at he
 rcases he with he|rfl
 ·have:=h.low e he;omega
 simp
theorem j0.modify {K:Jo} {es:Array MapEntry} {l:List ((Int × Int) × Int)} (h:j0 K es cl l) {n:Nat} {k:Int × Int} (hn:l[n]? =some (k,z)) (f:MapEntry->MapEntry) (v:Int) (hf:∀e,(f e).born=e.born) (hg:∀e,e.key=K.enc k->e.val= .int .i64 z->(f e).key=K.enc k/\(f e).val= .int .i64 v):j0 K (es.modify n f) cl (l.set n (k,v)):=by
 have hb:(es.modify n f).toList.map (·.born)=es.toList.map (·.born):=by rw[Array.toList_modify];exact zbr f hf es.toList n
 refine⟨?_,by rw[hb];exact h.rise,fun e he=>?_⟩
 ·have hp:=h.pairs;rw[Array.toList_modify]
  apply List.ext_getElem?
  intro j;have hj:=congrArg (fun(x:List (Value × Value))=>x[j]?) hp
  simp only[List.getElem?_map,List.getElem?_modify,List.getElem?_set]at hj⊢
  by_cases e:n=j
  ·subst e;rw[hn]at hj;have hnl:=(gS.1 hn).1
   cases hq:es.toList[n]? with
   | none=>rw[hq]at hj;simp at hj
   | some e0=>
    rw[hq]at hj
    simp at hj
    obtain⟨g1,g2⟩:=hg e0 hj.1 hj.2
    simp[hnl,g1,g2]
  simp only[e,if_false]at hj⊢
  cases hq:es.toList[j]? <;> rw[hq]at hj <;> simpa using hj
 have:e.born∈es.toList.map (·.born):=by rw[<-hb];exact List.mem_map.2 ⟨e,he,rfl⟩
 obtain⟨e',he',h'⟩:=List.mem_map.1 this;rw[<-h'];exact h.low e' he'
theorem j0.at {K:Jo} {es:Array MapEntry} {l:List ((Int × Int) × Int)} (h:j0 K es cl l) {n:Nat} {k:Int × Int} (hn:l[n]? =some (k,z)):∃e0,es[n]? =some e0/\e0.key=K.enc k/\e0.val= .int .i64 z:=by
 have:=congrArg (fun(x:List (Value × Value))=>x[n]?) h.pairs
 simp only[List.getElem?_map,hn,Option.map_some]at this
 cases hq:es[n]? with
 | none=>simp[hq]at this
 | some e0=>simp[hq]at this;exact⟨e0,rfl,this.1,this.2⟩
theorem zf2:∀{l:List Nat},l.Pairwise (·< ·)->∀{i j:Nat} {x:Nat},l[i]? =some x->l[j]? =some x->i=j
 | [],_,i,j,x,h,_=>by simp at h
 | a :: l,hp,i,j,x,h,h'=>by
  rw[List.pairwise_cons]at hp
  cases i with
  | zero=>
   cases j with
   | zero=>rfl
   | succ j=>
    simp at h h'
    subst h;have:=hp.1 a (mG h');omega
  | succ i=>
   cases j with
   | zero=>
    simp at h h'
    subst h';have:=hp.1 a (mG h);omega
   | succ j=>
    simp at h h'
    rw[zf2 hp.2 h h']
theorem zbt {K:Jo} {w:World} {es es':Array MapEntry} {cl':Nat} {l:List ((Int × Int) × Int)} {g:Int × Int->Option Int} {k:Int × Int} {v:Int} (h1:w.heap[b]? =some (.map es cl)) (h3:∀k,Jp l k=g k) (hs:j0 K es' cl' (ze0 l k v)):
  Z7 K (ChangeMaps.setBlock w b (.map es' cl')) b (fun x=>if x=k then some v else g x)/\w.grownBy (ChangeMaps.setBlock w b (.map es' cl')) (some b)/\(ChangeMaps.setBlock w b (.map es' cl')).heap.size=w.heap.size:=by
 refine⟨⟨es',cl',ze0 l k v,ChangeMaps.heap_setBlock_same h1 _,⟨hs.pairs,hs.rise,hs.low⟩,fun x=>?_⟩,⟨rfl,rfl,rfl,by simp[ChangeMaps.setBlock],fun i _ hi=>ChangeMaps.heap_setBlock_other h1 _ (fun e=>hi (by rw[e]))⟩,by simp[ChangeMaps.setBlock]⟩
 rw[J7,h3]
theorem Z7.put {K:Jo} {w:World} {g:Int × Int->Option Int} (h:Z7 K w b g) (ht:Tryz.prog.underlying t=some (.map K.ty e)) (k:Int × Int) (v:Int):
  ∃w',(Instr.mapUpdate t (.map (some b)) (K.enc k) (.int .i64 v)).run prog w= .ok () w'/\Z7 K w' b (fun x=>if x=k then some v else g x)/\w.grownBy w' (some b)/\w'.heap.size=w.heap.size:=by
 obtain⟨es,cl,l,h1,⟨h2,h4,h5⟩,h3⟩:=h;have hst:j0 K es cl l:=⟨h2,h4,h5⟩;have hf:=JF K k w l es.toList h2
 cases hp:zbH l k 0 with
 | none=>
  rw[hp]at hf;have hput:=(Jm hp).2 v;refine⟨ChangeMaps.setBlock w b (.map (es.push ⟨K.enc k,.int .i64 v,cl⟩) (cl+1)),?_,zbt h1 h3 (by rw[hput];exact hst.push k v)⟩
  simp[Instr.mapUpdate,run_underlying ht,MapKept.run_getObj_map h1,K.check,hf,MapKept.run_setObj_map _ h1,ChangeMaps.setBlock]
 | some q=>
  obtain⟨j,u⟩:=q;rw[hp]at hf;obtain⟨n,z,rfl,rfl,h6,_,h7⟩:=Jl hp;rw[zA]at hf;obtain⟨e0,he0,hk0,_⟩:=hst.at h6;refine⟨ChangeMaps.setBlock w b (.map (es.modify n fun e=>{ e with key:=K.enc k,val:= .int .i64 v }) cl),?_,zbt h1 h3 (by rw[h7];exact hst.modify h6 _ v (fun _=>rfl) (fun _ _ _=>⟨rfl,rfl⟩))⟩
  simp[Instr.mapUpdate,run_underlying ht,MapKept.run_getObj_map h1,K.check,hf,he0,hk0,Instr.keyThatStays,K.bits,MapKept.run_setObj_map _ h1,ChangeMaps.setBlock]
def zk7 (K:Jo) (w:World) (b:Nat) (g:Int × Int->Option Int) (k:Int × Int) (st:Int):Prop:=
 ∃es cl l,w.heap[b]? =some (.map es cl)/\j0 K es cl l/\(∀k,Jp l k=g k)/\∃(n:Nat) (z:Int) (e:MapEntry),l[n]? =some (k,z)/\(∀v,ze0 l k v=l.set n (k,v))/\es[n]? =some e/\(e.born:Int)=st
theorem zk7.f {K:Jo} {w:World} {g:Int × Int->Option Int} {k:Int × Int} {st:Int} (h:zk7 K w b g k st):Z7 K w b g:=by
 obtain⟨es,cl,l,h1,h2,h3,_⟩:=h;exact⟨es,cl,l,h1,⟨h2.pairs,h2.rise,h2.low⟩,h3⟩
theorem zdJ:∀{l:List ((Int × Int) × Int)} {k:Int × Int} (z v:Int),Jp l k=none->ze0 (l++ [(k,z)]) k v=(l++ [(k,z)]).set l.length (k,v)
 | [],k,z,v,_=>by simp[ze0]
 | p :: l,k,z,v,h=>by
  unfold Jp at h
  by_cases e:k=p.1
  ·rw[if_pos e]at h;cases h
  rw[if_neg e]at h;simp only[List.cons_append,ze0,e,if_false,List.length_cons,sS];rw[zdJ z v h]
theorem Z7.entry {K:Jo} {w:World} {g:Int × Int->Option Int} (h:Z7 K w b g) (ht:Tryz.prog.underlying t=some (.map K.ty e)) (hz:(zeroValue e).run prog w= .ok (.int .i64 0) w) (k:Int × Int):
  ∃w' st,(Instr.mapEntry t (.map (some b)) (K.enc k)).run prog w= .ok (.tuple #[.int .i64 ((g k).getD 0),.int .i64 st]) w'/\zk7 K w' b (fun x=>if x=k then some ((g k).getD 0)else g x) k st/\w.grownBy w' (some b)/\w'.heap.size=w.heap.size:=by
 obtain⟨es,cl,l,h1,⟨h2,h4,h5⟩,h3⟩:=h;have hst:j0 K es cl l:=⟨h2,h4,h5⟩;have hf:=JF K k w l es.toList h2
 cases hp:zbH l k 0 with
 | none=>
  rw[hp]at hf;obtain⟨hno,hput⟩:=Jm hp;have hg:g k=none:=by rw[<-h3];exact hno
  have hs':=hst.push k 0;have hm:=zbt h1 h3 (k:=k) (v:=0) (by rw[hput];exact hs')
  refine⟨ChangeMaps.setBlock w b (.map (es.push ⟨K.enc k,.int .i64 0,cl⟩) (cl+1)),cl,?_,⟨_,_,_,ChangeMaps.heap_setBlock_same h1 _,hs',fun x=>?_,l.length,0,⟨K.enc k,.int .i64 0,cl⟩,by simp,fun v=>zdJ 0 v hno,?_,rfl⟩,hm.2⟩
  ·rw[hg]
   simp[Instr.mapEntry,run_underlying ht,MapKept.run_getObj_map h1,K.check,hf,hz,MapKept.run_setObj_map _ h1,ChangeMaps.setBlock,goInt]
  ·rw[hg,<-hput,J7,h3];rfl
  have:es.size=l.length:=by have:=congrArg List.length h2;simpa using this
  simp[<-this]
 | some q=>
  obtain⟨j,u⟩:=q;rw[hp]at hf;obtain⟨n,z,rfl,rfl,h6,h8,h7⟩:=Jl hp;rw[zA]at hf;obtain⟨e0,he0,hk0,hv0⟩:=hst.at h6;have hg:g k=some z:=by rw[<-h3];exact h8
  have hs':j0 K (es.modify n fun e=>{ e with key:=K.enc k }) cl (l.set n (k,z)):=hst.modify h6 (fun e=>{ e with key:=K.enc k }) z (fun _=>rfl) (fun _ _ hv=>⟨rfl,hv⟩)
  have hm:=zbt h1 h3 (k:=k) (v:=z) (by rw[h7];exact hs')
  have hnl:=(gS.1 h6).1;refine⟨ChangeMaps.setBlock w b (.map (es.modify n fun e=>{ e with key:=K.enc k }) cl),e0.born,?_,⟨_,_,_,ChangeMaps.heap_setBlock_same h1 _,hs',fun x=>?_,n,z,{ e0 with key:=K.enc k },sF hnl,fun v=>?_,?_,rfl⟩,hm.2⟩
  ·rw[hg]
   simp[Instr.mapEntry,run_underlying ht,MapKept.run_getObj_map h1,K.check,hf,he0,hk0,Instr.keyThatStays,K.bits,MapKept.run_setObj_map _ h1,ChangeMaps.setBlock,goInt]
  ·rw[hg,<-h7,J7,h3];rfl
  ·rw[zcW h6,h7]
  rw[Array.getElem?_modify,if_pos rfl,he0];rfl
theorem zk7.store {K:Jo} {w:World} {g:Int × Int->Option Int} {k:Int × Int} {st:Int} (h:zk7 K w b g k st) (t:TypeId) (v:Int):
  ∃w',(Instr.entryStore t (.map (some b)) (.int .i64 st) (.int .i64 v)).run prog w= .ok () w'/\Z7 K w' b (fun x=>if x=k then some v else g x)/\w.grownBy w' (some b)/\w'.heap.size=w.heap.size:=by
 obtain⟨es,cl,l,h1,hst,h3,n,z,e0,h6,h7,he0,rfl⟩:=h;have hnl:n<es.size:=(aS.1 he0).1;have hfind:es.findIdx? (fun e=>(e.born:Int) ==(e0.born:Int))=some n:=by
  rw[Array.findIdx?_eq_some_iff_getElem];refine⟨hnl,?_,fun j hj=>?_⟩
  ·have:es[n]=e0:=(aS.1 he0).2
   simp[this]
  intro hc;have hjl:j<es.size:=by omega
  have hc':es[j].born=e0.born:=by
   have:(es[j].born:Int)=(e0.born:Int):=by simpa using hc
   omega
  have q1:(es.toList.map (·.born))[n]? =some e0.born:=by simp[he0]
  have q2:(es.toList.map (·.born))[j]? =some e0.born:=by simp[hjl,hc']
  have:=zf2 hst.rise q1 q2;omega
 refine⟨ChangeMaps.setBlock w b (.map (es.modify n fun e=>{ e with val:= .int .i64 v }) cl),?_,zbt h1 h3 (by rw[h7];exact hst.modify h6 _ v (fun _=>rfl) (fun _ hk _=>⟨hk,rfl⟩))⟩
 simp[Instr.entryStore,MapKept.run_getObj_map h1,asInt,asIntOf,hfind,MapKept.run_setObj_map _ h1,ChangeMaps.setBlock]
theorem zhs {K:Jo} {w:World} {rest:List Oper} {a:Act} (hgd:o.guard=none) (t e:TypeId) (m x v:Operand) (hop:o.op= .mapUpdate t m x v) (ht:Tryz.prog.underlying t=some (.map K.ty e)) (b:Nat) (g:Int × Int->Option Int) (h:Z7 K w b g) (k:Int × Int) (z:Int)
  (hm:a.eval m= .map (some b)) (hx:a.eval x=K.enc k) (hv:a.eval v= .int .i64 z)
  (hK:∀w',Z7 K w' b (fun x=>if x=k then some z else g x)->w.grownBy w' (some b)->w'.heap.size=w.heap.size->wpList prog ops Q rest (a.put o.dst undef) w'):wpList prog ops Q (o :: rest) a w:=by
 refine wpList_plain hgd fun K' hK'=>?_
 obtain⟨w',hrun,r1,r2,r3⟩:=h.put ht k z;unfold Oper.wp
 simp[execOp,hop,hm,hx,hv,hrun,Result.andThen]
 exact hK' _ _ (hK w' r1 r2 r3)
theorem zhE (em:Bool) (a:Int × Int) (w:World):(Instr.checkKey em 10000 200 (.agg #[.int .i64 a.1,.int .i64 a.2])).run prog w= .ok () w:=by
 have hf : (Tryz.prog.fieldsOf 200).toList.map (fun f => (f.name, f.type, f.offset)) = [("file", 3, 0), ("index", 3, 1)] := by kernel_rfl
 have hu:∃fs,Tryz.prog.underlying 200=some (.struct fs)/\Tryz.prog.fieldsOf 200=fs:=⟨_,underlying200,by kernel_rfl⟩
 obtain⟨fs,hu,hfe⟩:=hu;rw[hfe]at hf;obtain⟨f0,f1,hfs⟩:∃f0 f1,fs.toList=[f0,f1]:=by
  have hl:fs.toList.length=2:=by have:=congrArg List.length hf;simpa using this
  match hq:fs.toList,hl with
  | [f0,f1],_=>exact⟨f0,f1,rfl⟩
 rw[hfs]at hf
 simp at hf
 obtain⟨⟨n0,t0,o0⟩,⟨n1,t1,o1⟩⟩:=hf;have pI:∀(zs:Array Value) (o:Nat) v,zs[o]? =some (.int .i64 v)->(part 3 zs o).run prog w= .ok (.int .i64 v) w:=fun zs o v hz=>run_part_plain w (by simp[Program.plainKey,underlying3]) hz
 have pB:∀(zs:Array Value) (o:Nat) v,zs[o]? =some (.bool v)->(part 4 zs o).run prog w= .ok (.bool v) w:=fun zs o v hz=>run_part_plain w (by simp[Program.plainKey,underlying4]) hz
 have cI:∀(v:Int) (n:Nat),(Instr.checkKey em (n+1) 3 (.int .i64 v)).run prog w= .ok () w:=fun v n=>by
  unfold Instr.checkKey
  simp[run_underlying underlying3]
 have cB:∀(v:Bool) (n:Nat),(Instr.checkKey em (n+1) 4 (.bool v)).run prog w= .ok () w:=fun v n=>by
  unfold Instr.checkKey
  simp[run_underlying underlying4]
 rw[show(10000:Nat)=9999+1 from rfl,Instr.checkKey]
 simp only[Sem.run_bind,run_underlying hu,rA];rw[<-Array.forIn_toList,hfs];have k1:=cI a.1 9998;have k2:=cI a.2 9998;have k3:=cB false 9998;have q0:=pI (#[.int .i64 a.1,.int .i64 a.2]) 0 a.1 rfl;have q1:=pI (#[.int .i64 a.1,.int .i64 a.2]) 1 a.2 rfl
 simp[List.forIn_cons,n0,t0,o0,n1,t1,o1,q0,q1,k1,k2]
theorem zi5 (a b:Int × Int) (w:World):(Op.equal 200 (.agg #[.int .i64 a.1,.int .i64 a.2]) (.agg #[.int .i64 b.1,.int .i64 b.2])).run prog w= .ok (decide (a=b)) w:=by
 have hf : (Tryz.prog.fieldsOf 200).toList.map (fun f => (f.name, f.type, f.offset)) = [("file", 3, 0), ("index", 3, 1)] := by kernel_rfl
 unfold Op.equal Op.maxDepth;rw[run_equalIn_struct w 9999 200 _ _ (by kernel_rfl) (by kernel_rfl)]
 obtain⟨f0,f1,hfs⟩:∃f0 f1,(Tryz.prog.fieldsOf 200).toList=[f0,f1]:=by
  have hl:(Tryz.prog.fieldsOf 200).toList.length=2:=by have:=congrArg List.length hf;simpa using this
  match hq:(Tryz.prog.fieldsOf 200).toList,hl with
  | [f0,f1],_=>exact⟨f0,f1,rfl⟩
 rw[hfs]at hf⊢
 simp at hf
 obtain⟨⟨n0,t0,o0⟩,⟨n1,t1,o1⟩⟩:=hf;have pI:∀(zs:Array Value) (o:Nat) v,zs[o]? =some (.int .i64 v)->(part 3 zs o).run prog w= .ok (.int .i64 v) w:=fun zs o v hz=>run_part_plain w (by simp[Program.plainKey,underlying3]) hz
 have pB:∀(zs:Array Value) (o:Nat) v,zs[o]? =some (.bool v)->(part 4 zs o).run prog w= .ok (.bool v) w:=fun zs o v hz=>run_part_plain w (by simp[Program.plainKey,underlying4]) hz
 simp only[Op.eqFields,n0,t0,o0,n1,t1,o1];obtain⟨a1,a2⟩:=a;obtain⟨b1,b2⟩:=b
 simp[pI,run_equalIn_int w _ _ _ _ _ _ underlying3]
 by_cases e1:a1=b1 <;> by_cases e2:a2=b2 <;> simp[e1,e2]
def plK:Jo where
 ty:=200
 enc:=fun a=> .agg #[.int .i64 a.1,.int .i64 a.2]
 und:=⟨_,underlying200⟩
 check:=zhE
 same:=zi5
 bits:=fun a=>by simp[Instr.sameBits]
theorem zio (em:Bool) (a:Int × Int) (w:World):(Instr.checkKey em 10000 55 (.agg #[.int .i64 a.1,.int .i64 a.2,.bool false])).run prog w= .ok () w:=by
 have hf : (Tryz.prog.fieldsOf 55).toList.map (fun f => (f.name, f.type, f.offset)) = [("Kind", 3, 0), ("N", 3, 1), ("Write", 4, 2)] := by kernel_rfl
 have hu:∃fs,Tryz.prog.underlying 55=some (.struct fs)/\Tryz.prog.fieldsOf 55=fs:=⟨_,underlying55,by kernel_rfl⟩
 obtain⟨fs,hu,hfe⟩:=hu;rw[hfe]at hf;obtain⟨f0,f1,f2,hfs⟩:∃f0 f1 f2,fs.toList=[f0,f1,f2]:=by
  have hl:fs.toList.length=3:=by have:=congrArg List.length hf;simpa using this
  match hq:fs.toList,hl with
  | [f0,f1,f2],_=>exact⟨f0,f1,f2,rfl⟩
 rw[hfs]at hf
 simp at hf
 obtain⟨⟨n0,t0,o0⟩,⟨n1,t1,o1⟩,⟨n2,t2,o2⟩⟩:=hf;have pI:∀(zs:Array Value) (o:Nat) v,zs[o]? =some (.int .i64 v)->(part 3 zs o).run prog w= .ok (.int .i64 v) w:=fun zs o v hz=>run_part_plain w (by simp[Program.plainKey,underlying3]) hz
 have pB:∀(zs:Array Value) (o:Nat) v,zs[o]? =some (.bool v)->(part 4 zs o).run prog w= .ok (.bool v) w:=fun zs o v hz=>run_part_plain w (by simp[Program.plainKey,underlying4]) hz
 have cI:∀(v:Int) (n:Nat),(Instr.checkKey em (n+1) 3 (.int .i64 v)).run prog w= .ok () w:=fun v n=>by
  unfold Instr.checkKey
  simp[run_underlying underlying3]
 have cB:∀(v:Bool) (n:Nat),(Instr.checkKey em (n+1) 4 (.bool v)).run prog w= .ok () w:=fun v n=>by
  unfold Instr.checkKey
  simp[run_underlying underlying4]
 rw[show(10000:Nat)=9999+1 from rfl,Instr.checkKey]
 simp only[Sem.run_bind,run_underlying hu,rA];rw[<-Array.forIn_toList,hfs];have k1:=cI a.1 9998;have k2:=cI a.2 9998;have k3:=cB false 9998;have q0:=pI (#[.int .i64 a.1,.int .i64 a.2,.bool false]) 0 a.1 rfl;have q1:=pI (#[.int .i64 a.1,.int .i64 a.2,.bool false]) 1 a.2 rfl;have q2:=pB (#[.int .i64 a.1,.int .i64 a.2,.bool false]) 2 false rfl
 simp[List.forIn_cons,n0,t0,o0,n1,t1,o1,n2,t2,o2,q0,q1,q2,k1,k2,k3]
theorem zjU (a b:Int × Int) (w:World):(Op.equal 55 (.agg #[.int .i64 a.1,.int .i64 a.2,.bool false]) (.agg #[.int .i64 b.1,.int .i64 b.2,.bool false])).run prog w= .ok (decide (a=b)) w:=by
 have hf : (Tryz.prog.fieldsOf 55).toList.map (fun f => (f.name, f.type, f.offset)) = [("Kind", 3, 0), ("N", 3, 1), ("Write", 4, 2)] := by kernel_rfl
 unfold Op.equal Op.maxDepth;rw[run_equalIn_struct w 9999 55 _ _ (by kernel_rfl) (by kernel_rfl)]
 obtain⟨f0,f1,f2,hfs⟩:∃f0 f1 f2,(Tryz.prog.fieldsOf 55).toList=[f0,f1,f2]:=by
  have hl:(Tryz.prog.fieldsOf 55).toList.length=3:=by have:=congrArg List.length hf;simpa using this
  match hq:(Tryz.prog.fieldsOf 55).toList,hl with
  | [f0,f1,f2],_=>exact⟨f0,f1,f2,rfl⟩
 rw[hfs]at hf⊢
 simp at hf
 obtain⟨⟨n0,t0,o0⟩,⟨n1,t1,o1⟩,⟨n2,t2,o2⟩⟩:=hf;have pI:∀(zs:Array Value) (o:Nat) v,zs[o]? =some (.int .i64 v)->(part 3 zs o).run prog w= .ok (.int .i64 v) w:=fun zs o v hz=>run_part_plain w (by simp[Program.plainKey,underlying3]) hz
 have pB:∀(zs:Array Value) (o:Nat) v,zs[o]? =some (.bool v)->(part 4 zs o).run prog w= .ok (.bool v) w:=fun zs o v hz=>run_part_plain w (by simp[Program.plainKey,underlying4]) hz
 simp only[Op.eqFields,n0,t0,o0,n1,t1,o1,n2,t2,o2];obtain⟨a1,a2⟩:=a;obtain⟨b1,b2⟩:=b
 simp[pI,pB,run_equalIn_bool' w _ _ _ _ underlying4,run_equalIn_int w _ _ _ _ _ _ underlying3]
 by_cases e1:a1=b1 <;> by_cases e2:a2=b2 <;> simp[e1,e2]
def enK:Jo where
 ty:=55
 enc:=fun a=> .agg #[.int .i64 a.1,.int .i64 a.2,.bool false]
 und:=⟨_,underlying55⟩
 check:=zio
 same:=zjU
 bits:=fun a=>by simp[Instr.sameBits]
theorem Box.ne_map {K:Jo} {w:World} {cs:List Value} {g:Int × Int->Option Int} (h:Box w b cs) (k:Z7 K w B g):b≠B:=fun e=>by
 subst e;obtain⟨t,h⟩:=h;obtain⟨es,cl,l,k1,_⟩:=k;rw[h]at k1;cases k1
theorem zb.ne_map {α:Type} {E:Elt α} {K:Jo} {w:World} {base:Nat} {v:Value} {l:List α} {g:Int × Int->Option Int} (h:zb E base w v l) (k:Z7 K w B g):∀x,v.ownBlock=some x->some B≠some x:=fun x hx e=>by
 cases e;obtain⟨cs,h1⟩:=h.obj hx;obtain⟨es,cl,l,k1,_⟩:=k;rw[h1]at k1;cases k1
theorem zl5 (w:World):(zeroValue 3).run prog w= .ok (.int .i64 0) w:=by kernel_rfl
theorem zcS (V:MaV) (m:Ma) (w:World) (hm:zD w V m):
  Calls prog 84 #[.agg #[.slice V.f.a V.f.n V.f.c,.int .i64 m.hand,.slice V.s.a V.s.n V.s.c,.slice V.sb.a V.sb.n V.sb.c,.slice V.sq.a V.sq.n V.sq.c,.slice V.db.a V.db.n V.db.c,.slice V.dq.a V.dq.n V.dq.c,.slice V.fl.a V.fl.n V.fl.c,.int .i64 m.cnt,.slice V.ca.a V.ca.n V.ca.c,.slice V.sp.a V.sp.n V.sp.c]] w fun e w'=>∃B,e= .returned (.agg #[.slice V.f.a V.f.n V.f.c,.int .i64 m.hand,.slice V.s.a V.s.n V.s.c,.slice V.sb.a V.sb.n V.sb.c,.slice V.sq.a V.sq.n V.sq.c,.slice V.db.a V.db.n V.db.c,.slice V.dq.a V.dq.n V.dq.c,.slice V.fl.a V.fl.n V.fl.c,.int .i64 m.cnt,.slice V.ca.a V.ca.n V.ca.c,.slice V.sp.a V.sp.n V.sp.c,.map (some B)])/\Z7 plK w' B (Q4 m.ca)/\zc w w':=by
 obtain⟨vf,vs,vsb,vsq,vdb,vdq,vfl,⟨caa,can,cac⟩,vsp⟩:=V;dsimp only;obtain⟨-,-,-,-,-,-,-,n8,-⟩:=hm.ns;dsimp only at n8;have HR:Hid (zbW w caa m.ca):=hm.cas;have HN:Hid (m.ca.length=can):=n8.symm;have hbig:can<=9223372036854775807:=by have:=hm.ca.short;omega
 clear hm n8;have hmm:=@run_makeMap prog;obtain⟨W0,hW0⟩:∃W0,((w.alloc (.cells #[.slice vf.a vf.n vf.c,.int .i64 m.hand,.slice vs.a vs.n vs.c,.slice vsb.a vsb.n vsb.c,.slice vsq.a vsq.n vsq.c,.slice vdb.a vdb.n vdb.c,.slice vdq.a vdq.n vdq.c,.slice vfl.a vfl.n vfl.c,.int .i64 m.cnt,.slice caa can cac,.slice vsp.a vsp.n vsp.c] 41)).alloc (.cells #[.slice none 0 0,.int .i64 0,.slice none 0 0,.slice none 0 0,.slice none 0 0,.slice none 0 0,.slice none 0 0,.slice none 0 0,.int .i64 0,.slice none 0 0,.slice none 0 0,.map none] 154)).alloc (.map #[] 0)=W0:=⟨_,rfl⟩;have HG0:Hid (zc w W0):=dD<|by rw[<-hW0];exact((za _ _).trans (za _ _)).trans (za _ _)
 have X0:Hid (Box W0 w.heap.size [.slice vf.a vf.n vf.c,.int .i64 m.hand,.slice vs.a vs.n vs.c,.slice vsb.a vsb.n vsb.c,.slice vsq.a vsq.n vsq.c,.slice vdb.a vdb.n vdb.c,.slice vdq.a vdq.n vdq.c,.slice vfl.a vfl.n vfl.c,.int .i64 m.cnt,.slice caa can cac,.slice vsp.a vsp.n vsp.c]):=dD<|by rw[<-hW0];exact((Box.top _ _ _ rfl).alloc _).alloc _
 have Y0:Hid (Box W0 (w.heap.size+1) [.slice none 0 0,.int .i64 0,.slice none 0 0,.slice none 0 0,.slice none 0 0,.slice none 0 0,.slice none 0 0,.slice none 0 0,.int .i64 0,.slice none 0 0,.slice none 0 0,.map none]):=dD<|by rw[<-hW0];exact(Box.top _ _ _ (by simp)).alloc _
 have M0:Hid (Z7 plK W0 (w.heap.size+1+1) (Q4 (m.ca.take 0))):=dD<|by
  rw[<-hW0];have:=Z7.made plK ((w.alloc (.cells #[.slice vf.a vf.n vf.c,.int .i64 m.hand,.slice vs.a vs.n vs.c,.slice vsb.a vsb.n vsb.c,.slice vsq.a vsq.n vsq.c,.slice vdb.a vdb.n vdb.c,.slice vdq.a vdq.n vdq.c,.slice vfl.a vfl.n vfl.c,.int .i64 m.cnt,.slice caa can cac,.slice vsp.a vsp.n vsp.c] 41)).alloc (.cells #[.slice none 0 0,.int .i64 0,.slice none 0 0,.slice none 0 0,.slice none 0 0,.slice none 0 0,.slice none 0 0,.slice none 0 0,.int .i64 0,.slice none 0 0,.slice none 0 0,.map none] 154));have hs:((w.alloc (.cells #[.slice vf.a vf.n vf.c,.int .i64 m.hand,.slice vs.a vs.n vs.c,.slice vsb.a vsb.n vsb.c,.slice vsq.a vsq.n vsq.c,.slice vdb.a vdb.n vdb.c,.slice vdq.a vdq.n vdq.c,.slice vfl.a vfl.n vfl.c,.int .i64 m.cnt,.slice caa can cac,.slice vsp.a vsp.n vsp.c] 41)).alloc (.cells #[.slice none 0 0,.int .i64 0,.slice none 0 0,.slice none 0 0,.slice none 0 0,.slice none 0 0,.slice none 0 0,.slice none 0 0,.int .i64 0,.slice none 0 0,.slice none 0 0,.map none] 154)).heap.size=w.heap.size+1+1:=by simp
  rw[hs]at this;exact this.congr fun k=>by rw[List.take_zero];rfl
 have HW0:Hid (_=W0):=hW0;clear hW0
 go_enter func84,ntmps84
 go_upto_region 2 with fail;rw[HW0.out];clear hmm;have x9:=X0.out.c 9 rfl;go_wp2;clear x9
 go_loopg [10] can (fun gg s10 wr=>∃kk:Nat,kk<=can/\can - kk<=gg/\s10= .int .i64 kk/\Hid (zc w wr)/\Hid (Box wr w.heap.size [.slice vf.a vf.n vf.c,.int .i64 m.hand,.slice vs.a vs.n vs.c,.slice vsb.a vsb.n vsb.c,.slice vsq.a vsq.n vsq.c,.slice vdb.a vdb.n vdb.c,.slice vdq.a vdq.n vdq.c,.slice vfl.a vfl.n vfl.c,.int .i64 m.cnt,.slice caa can cac,.slice vsp.a vsp.n vsp.c])/\Hid (Box wr (w.heap.size+1) [.slice none 0 0,.int .i64 0,.slice none 0 0,.slice none 0 0,.slice none 0 0,.slice none 0 0,.slice none 0 0,.slice none 0 0,.int .i64 0,.slice none 0 0,.slice none 0 0,.map none])/\Hid (Z7 plK wr (w.heap.size+1+1) (Q4 (m.ca.take kk))))
 case atStart=>exact⟨0,nZ _,by omega,rfl,HG0.out,X0.out,Y0.out,M0.out⟩
 obtain⟨kk,hkk,hgg,rfl,BW,XW,YW,MW⟩:=hrel
 by_cases hlt:kk<can
 ·have hltz:(kk:Int)< (can:Int):=by omega
  obtain⟨c,HC⟩:∃c,Hid (m.ca[kk]? =some c):=⟨_,gE (by rw[HN.out];exact hlt)⟩
  obtain⟨ad,rfl,hl⟩:=HR.out kk c HC.out;obtain⟨d0,d1,d2⟩:=hl wr BW.out;clear hl;go_upto_region 5 with fail;obtain⟨W1,hW1⟩:∃W1,wr.alloc (.cells #[.int .i64 c.file,.int .i64 c.idx,.int .i64 c.fr] 120)=W1:=⟨_,rfl⟩;have HG1:=gT hW1 BW
  have X1:=yA hW1 XW
  have Y1:=yA hW1 YW
  have M1:Hid (Z7 plK W1 (w.heap.size+1+1) (Q4 (m.ca.take kk))):=dD<|by rw[<-hW1];exact MW.out.grew (za _ _)
  have C1:=xA hW1
  rw[hW1];clear hW1 d0 d1 d2;obtain⟨c0,c1,c2⟩:=C1.out.c3
  go_wp2_with (refine zhs (K:=plK) rfl 152 3 (.tmp 14) (.tmp 19) (.tmp 21) rfl underlying152 (w.heap.size+1+1) _ M1.out (c.file,c.idx) c.fr rfl rfl rfl ?_)
  clear c0 c1 c2;intro W2 m2 hg2 _;have M2:Hid (Z7 plK W2 (w.heap.size+1+1) (Q4 (m.ca.take (kk+1)))):=dD<|m2.congr fun k=>by rw[jm HC.out,zd6]
  have HG2:Hid (zc w W2):=dD<|ze HG1.out hg2 (by omega)
  have X2:Hid (Box W2 w.heap.size [.slice vf.a vf.n vf.c,.int .i64 m.hand,.slice vs.a vs.n vs.c,.slice vsb.a vsb.n vsb.c,.slice vsq.a vsq.n vsq.c,.slice vdb.a vdb.n vdb.c,.slice vdq.a vdq.n vdq.c,.slice vfl.a vfl.n vfl.c,.int .i64 m.cnt,.slice (some ad) can cac,.slice vsp.a vsp.n vsp.c]):=X1.out.grown hg2 (by omega)
  have Y2:Hid (Box W2 (w.heap.size+1) [.slice none 0 0,.int .i64 0,.slice none 0 0,.slice none 0 0,.slice none 0 0,.slice none 0 0,.slice none 0 0,.slice none 0 0,.int .i64 0,.slice none 0 0,.slice none 0 0,.map none]):=Y1.out.grown hg2 (by omega)
  clear m2 hg2;go_wp2
  go_roundg (can -(kk+1))
  case measure=>omega
  exact⟨kk+1,by omega,by omega,by go_num,HG2.out,X2.out,Y2.out,M2.out⟩
 have hltz:¬(kk:Int)< (can:Int):=by omega
 have:kk=can:=by omega
 subst this;have MA1:Hid (Z7 plK wr (w.heap.size+1+1) (Q4 m.ca)):=dD<|by
  have:=MW.out;rw[List.take_of_length_le (by rw[HN.out];exact nR _)]at this
  exact this
 obtain⟨x0,x1,x2,x3,x4,x5,x6,x7,x8,x9,x10⟩:=XW.out.c11
 go_wp2_with (refine zX rfl 154 (.tmp 2) (.tmp 25) rfl (w.heap.size+1) rfl [.slice vf.a vf.n vf.c,.int .i64 m.hand,.slice vs.a vs.n vs.c,.slice vsb.a vsb.n vsb.c,.slice vsq.a vsq.n vsq.c,.slice vdb.a vdb.n vdb.c,.slice vdq.a vdq.n vdq.c,.slice vfl.a vfl.n vfl.c,.int .i64 m.cnt,.slice caa kk cac,.slice vsp.a vsp.n vsp.c,.map (some (w.heap.size+1+1))] rfl YW.out rfl (by kernel_rfl) (fun v hv=>by
  simp only[mC,nM,or_false]at hv
  rcases hv with rfl|rfl|rfl|rfl|rfl|rfl|rfl|rfl|rfl|rfl|rfl|rfl <;> rfl) ?_)
 clear x0 x1 x2 x3 x4 x5 x6 x7 x8 x9 x10;intro W5 hb5 hg5 _;have G5:Hid (zc w W5):=dD<|ze BW.out hg5 (by omega)
 have M5:Hid (Z7 plK W5 (w.heap.size+1+1) (Q4 m.ca)):=MA1.out.kept hg5 (by simp)
 go_wp2;refine bodyPost_ret (zY rfl _ rfl hb5 underlying154 rfl (by kernel_rfl)) rfl ⟨_,rfl,M5.out,G5.out⟩
theorem zdh (V:MaV) (m:Ma) (B k:Nat) (g:Int × Int->Option Int) (w:World) (hm:zD w V m) (hk:k<m.fs.length) (hmap:Z7 plK w B g):
  Calls prog 162 #[.agg #[.slice V.f.a V.f.n V.f.c,.int .i64 m.hand,.slice V.s.a V.s.n V.s.c,.slice V.sb.a V.sb.n V.sb.c,.slice V.sq.a V.sq.n V.sq.c,.slice V.db.a V.db.n V.db.c,.slice V.dq.a V.dq.n V.dq.c,.slice V.fl.a V.fl.n V.fl.c,.int .i64 m.cnt,.slice V.ca.a V.ca.n V.ca.c,.slice V.sp.a V.sp.n V.sp.c,.map (some B)],.int .i64 (k:Int)] w fun e w'=>e= .returned (.bool (decide (g ((zV m k).f,(zV m k).x)=some (k:Int))))/\zc w w':=by
 obtain⟨⟨fa,fn,fc⟩,vs,vsb,vsq,vdb,vdq,vfl,vca,vsp⟩:=V;dsimp only;obtain⟨n1,-⟩:=hm.ns;dsimp only at n1;have hkn:k<fn:=by omega
 obtain⟨q,HQ⟩:∃q,Hid (m.fs[k]? =some q):=⟨_,gE hk⟩;have hfr:zV m (k:Int)=q:=by unfold zV;rw[tN,gD,HQ.out];rfl
 rw[hfr];obtain⟨ad,rfl,hl⟩:=(show zae w fa m.fs from hm.frs) k q HQ.out
 clear hfr hm n1 hk;obtain⟨W1,hW1⟩:∃W1,w.alloc (.cells #[.slice (some ad) fn fc,.int .i64 m.hand,.slice vs.a vs.n vs.c,.slice vsb.a vsb.n vsb.c,.slice vsq.a vsq.n vsq.c,.slice vdb.a vdb.n vdb.c,.slice vdq.a vdq.n vdq.c,.slice vfl.a vfl.n vfl.c,.int .i64 m.cnt,.slice vca.a vca.n vca.c,.slice vsp.a vsp.n vsp.c,.map (some B)] 154)=W1:=⟨_,rfl⟩;have HG1:=gA hW1
 have X1:=xA hW1
 have HS1:=sA hW1
 obtain⟨d0,d1,d2,d3,d4,d5,d6,d7,d8,d9,d10,d11,d12⟩:=hl W1 HG1.out;obtain⟨W2,hW2⟩:∃W2,W1.alloc (.cells #[.int .u8 q.p.b0,.int .u8 q.p.b1,.int .u8 q.p.b2,.int .u8 q.p.b3,.int .u8 q.p.b4,.int .u8 q.p.b5,.int .u8 q.p.b6,.int .u8 q.p.b7,.int .i64 q.r,.bool q.u,.bool q.d,.int .i64 q.f,.int .i64 q.x] 53)=W2:=⟨_,rfl⟩;have HG2:=gT hW2 HG1
 have X2:=yA hW2 X1
 have F2:=xP hW2 HS1
 have hlook:(Instr.lookup 152 (.map (some B)) (.agg #[.int .i64 q.f,.int .i64 q.x]) true).run prog W2= .ok (.tuple #[.int .i64 ((g (q.f,q.x)).getD 0),.bool (g (q.f,q.x)).isSome]) W2:=(hmap.grew HG2.out).look (K:=plK) underlying152 (zl5 W2) (q.f,q.x) true;have HW1:Hid (_=W1):=hW1;have HW2:Hid (_=W2):=hW2;clear hW1 hW2 hl hmap;obtain⟨R,HRR⟩:∃R,Hid (decide (g (q.f,q.x)=some (k:Int))=R):=⟨_,rfl⟩;rw[HRR.out];obtain⟨gv,HGV⟩:∃gv,Hid (g (q.f,q.x)=gv):=⟨_,rfl⟩;rw[HGV.out]at hlook HRR
 go_enter func162,ntmps162
 go_upto_region 1 with fail;rw[HW1.out];have x0:=X1.out.c 0 rfl;go_upto_region 2 with fail;rw[HW2.out];rw[HS1.out];clear d0 d1 d2 d3 d4 d5 d6 d7 d8 d9 d10 d11 d12 x0;have x11:=X2.out.c 11 rfl;have f11:=F2.out.c 11 rfl;have f12:=F2.out.c 12 rfl
 cases gv with
 | none=>
  simp only[Option.getD_none,Option.isSome_none]at hlook;go_wp2;go_ret;exact⟨by rw[<-HRR.out];rfl,HG2.out⟩
 | some z=>
  simp only[Option.getD_some,Option.isSome_some]at hlook;have HE:Hid ((z ==(k:Int))=R):=dD<|by rw[<-HRR.out,Bool.eq_iff_iff];simp
  go_wp2;go_ret;exact⟨by rw[<-HE.out];rfl,HG2.out⟩
def QG (K:Jo) (w:World) (b:Nat) (H:Int × Int->Int):Prop:=∃g,Z7 K w b g/\∀k,(g k).getD 0=H k
theorem QG.grew {K:Jo} {w:World} {H:Int × Int->Int} (h:QG K w b H) (k:zc w w'):QG K w' b H:=by
 obtain⟨g,h1,h2⟩:=h;exact⟨g,h1.grew k,h2⟩
theorem QG.congr {K:Jo} {w:World} {H H':Int × Int->Int} (h:QG K w b H) (e:∀k,H k=H' k):QG K w b H':=by
 obtain⟨g,h1,h2⟩:=h;exact⟨g,h1,fun k=>(h2 k).trans (e k)⟩
theorem QG.ne_box {K:Jo} {w:World} {cs:List Value} {H:Int × Int->Int} (k:QG K w B H) (h:Box w b cs):b≠B:=by
 obtain⟨g,h1,_⟩:=k;exact h.ne_map h1
theorem QG.ne_own {α:Type} {E:Elt α} {K:Jo} {w:World} {base:Nat} {v:Value} {l:List α} {H:Int × Int->Int} (k:QG K w B H) (h:zb E base w v l):∀x,v.ownBlock=some x->some B≠some x:=by
 obtain⟨g,h1,_⟩:=k;exact h.ne_map h1
def zaW (K:Jo) (w:World) (b:Nat) (H:Int × Int->Int) (k:Int × Int) (st:Int):Prop:=∃g,zk7 K w b g k st/\∀x,(g x).getD 0=H x
theorem QG.entry {K:Jo} {w:World} {H:Int × Int->Int} (h:QG K w b H) (ht:Tryz.prog.underlying t=some (.map K.ty e)) (hz:(zeroValue e).run prog w= .ok (.int .i64 0) w) (k:Int × Int):
  ∃w' st,(Instr.mapEntry t (.map (some b)) (K.enc k)).run prog w= .ok (.tuple #[.int .i64 (H k),.int .i64 st]) w'/\zaW K w' b H k st/\w.grownBy w' (some b)/\w'.heap.size=w.heap.size:=by
 obtain⟨g,h1,h2⟩:=h;obtain⟨w',st,r1,r2,r3,r4⟩:=h1.entry ht hz k;rw[h2 k]at r1;refine⟨w',st,r1,⟨_,r2,fun x=>?_⟩,r3,r4⟩
 by_cases e:x=k
 ·subst e;rw[if_pos rfl];exact h2 x
 rw[if_neg e];exact h2 x
theorem zaW.h {K:Jo} {w:World} {H:Int × Int->Int} {k:Int × Int} {st:Int} (h:zaW K w b H k st):QG K w b H:=by
 obtain⟨g,h1,h2⟩:=h;exact⟨g,h1.f,h2⟩
theorem QG.look {K:Jo} {w:World} {H:Int × Int->Int} (h:QG K w b H) (ht:Tryz.prog.underlying t=some (.map K.ty e)) (hz:(zeroValue e).run prog w= .ok (.int .i64 0) w) (k:Int × Int):
  (Instr.lookup t (.map (some b)) (K.enc k) false).run prog w= .ok (.int .i64 (H k)) w:=by
 obtain⟨g,h1,h2⟩:=h;have:=h1.look ht hz k false;rw[h2 k]at this;exact this
def zlE (H:Int × Int->Int) (k:Int × Int):Int × Int->Int:=fun x=>H x+(if x=k then 1 else 0)
theorem JX {K:Jo} {w:World} {rest:List Oper} {a:Act} (hgd:o.guard=none) (t:TypeId) (m s x:Operand) (hop:o.op= .entryStore t m s x) (b:Nat) (H:Int × Int->Int) (k:Int × Int) (st:Int) (h:zaW K w b H k st)
  (hm:a.eval m= .map (some b)) (hs:a.eval s= .int .i64 st) (hv:a.eval x= .int .i64 (H k+1))
  (hK:∀w',QG K w' b (zlE H k)->w.grownBy w' (some b)->w'.heap.size=w.heap.size->wpList prog ops Q rest (a.put o.dst undef) w'):wpList prog ops Q (o :: rest) a w:=by
 refine wpList_plain hgd fun K' hK'=>?_
 obtain⟨g,h1,h2⟩:=h;obtain⟨w',hrun,r1,r2,r3⟩:=h1.store t (H k+1);unfold Oper.wp
 simp[execOp,hop,hm,hs,hv,hrun,Result.andThen]
 refine hK' _ _ (hK w' ⟨_,r1,fun y=>?_⟩ r2 r3)
 unfold zlE
 by_cases e:y=k
 ·subst e;rw[if_pos rfl,if_pos rfl];rfl
 rw[if_neg e,if_neg e,h2 y];omega
theorem zjC (l:List Ca) (key:Int × Int):0<=Q8 l key/\Q8 l key<=l.length:=by
 unfold Q8 qm
 split
 ·have:=List.countP_le_length (p:=fun c:Ca=>decide (c.fr=key.2)) (l:=l)
  omega
 omega
theorem zcl (s:Sp):(qp s).length<=64:=by
 unfold qp;have:=List.length_filter_le (fun n=>enS (zN s n)) (List.range 64)
 simpa using this
theorem zkz (m:Ma) (i:Nat) (l:List Nat) (s:Sp) (key:Int × Int):0<=qr m i l s key/\qr m i l s key<=m.ca.length+64*m.sp.length+l.length:=by
 unfold qr;have h1:(if key.1=1 then qm m.ca key.2 else 0)<=m.ca.length:=by
  split
  ·exact List.countP_le_length
  omega
 have h2:∀(L:List Sp),(L.map fun s=>(qp s).countP fun n=>isE (zN s n) key.1 key.2).sum<=64*L.length:=by
  intro L
  induction L with
  | nil=>simp
  | cons a L ih=>
   have h3:=List.countP_le_length (p:=fun n=>isE (zN a n) key.1 key.2) (l:=qp a)
   have h4:=zcl a;simp only[mP,List.sum_cons,List.length_cons];omega
 have h5:=h2 (m.sp.take i);have h6:(m.sp.take i).length<=m.sp.length:=by simp;omega
 have h7:=List.countP_le_length (p:=fun n=>isE (zN s n) key.1 key.2) (l:=l)
 omega
def zcV:Sp:=⟨true,[],[]⟩
theorem zfb (V:MaV) (m:Ma) (w:World) (hm:zD w V m) (hsp4:m.sp.length<=4) (htb:∀s∈m.sp,tbW s.tb=0):
  Calls prog 161 #[.agg #[.slice V.f.a V.f.n V.f.c,.int .i64 m.hand,.slice V.s.a V.s.n V.s.c,.slice V.sb.a V.sb.n V.sb.c,.slice V.sq.a V.sq.n V.sq.c,.slice V.db.a V.db.n V.db.c,.slice V.dq.a V.dq.n V.dq.c,.slice V.fl.a V.fl.n V.fl.c,.int .i64 m.cnt,.slice V.ca.a V.ca.n V.ca.c,.slice V.sp.a V.sp.n V.sp.c]] w fun e w'=>∃B,e= .returned (.map (some B))/\QG enK w' B (qr m m.sp.length [] zcV)/\zc w w':=by
 obtain⟨vf,vs,vsb,vsq,vdb,vdq,vfl,⟨caa,can,cac⟩,⟨spa,spn,spc⟩⟩:=V;dsimp only;obtain⟨-,-,-,-,-,-,-,n8,n9⟩:=hm.ns;dsimp only at n8 n9;have HR:Hid (zbW w caa m.ca):=hm.cas;have HN:Hid (m.ca.length=can):=n8.symm;have hbig:can<=140737488355328:=by have:=hm.ca.2;have h24:qX.bytes=24:=rfl;rw[h24]at this;omega
 obtain⟨xs,hxl,hrow,hsp⟩:=hm.spaces;have HXL:Hid (xs.length=m.sp.length):=hxl;have HRS:Hid (∀(j:Nat) x,xs[j]? =some x->∃ad,spa=some ad/\∀W,zc w W->zk6 W (ad.add (j*10)) x):=hrow;have HSP:Hid (∀(i:Nat) x s,xs[i]? =some x->m.sp[i]? =some s->jw w x s):=hsp;have HNS:Hid (m.sp.length=spn):=n9.symm;have HTBS:Hid (∀s∈m.sp,tbW s.tb=0):=htb;have HC0:Hid (∀j key,0<=Q8 (m.ca.take j) key/\Q8 (m.ca.take j) key<=140737488355328):=show∀j key,_ from fun j key=>by
  have h1:=zjC (m.ca.take j) key;have h2:(m.ca.take j).length<=m.ca.length:=by simp;omega
  omega
 have HH0:Hid (∀i l s key,l.length<=64->0<=qr m i l s key/\qr m i l s key<=140737488360000):=dD<|fun i l s key hl=>by
  have h1:=zkz m i l s key;omega
 have hsn4:spn<=4:=by omega
 clear hm n8 n9 hxl hrow hsp hsp4 htb;have hmm:=@run_makeMap prog;obtain⟨W0,hW0⟩:∃W0,(w.alloc (.cells #[.slice vf.a vf.n vf.c,.int .i64 m.hand,.slice vs.a vs.n vs.c,.slice vsb.a vsb.n vsb.c,.slice vsq.a vsq.n vsq.c,.slice vdb.a vdb.n vdb.c,.slice vdq.a vdq.n vdq.c,.slice vfl.a vfl.n vfl.c,.int .i64 m.cnt,.slice caa can cac,.slice spa spn spc] 41)).alloc (.map #[] 0)=W0:=⟨_,rfl⟩;have HG0:Hid (zc w W0):=dD<|by rw[<-hW0];exact(za _ _).trans (za _ _)
 have X0:Hid (Box W0 w.heap.size [.slice vf.a vf.n vf.c,.int .i64 m.hand,.slice vs.a vs.n vs.c,.slice vsb.a vsb.n vsb.c,.slice vsq.a vsq.n vsq.c,.slice vdb.a vdb.n vdb.c,.slice vdq.a vdq.n vdq.c,.slice vfl.a vfl.n vfl.c,.int .i64 m.cnt,.slice caa can cac,.slice spa spn spc]):=dD<|by rw[<-hW0];exact(Box.top _ _ _ rfl).alloc _
 have M0:Hid (QG enK W0 (w.heap.size+1) (Q8 (m.ca.take 0))):=dD<|by
  rw[<-hW0];have:=Z7.made enK (w.alloc (.cells #[.slice vf.a vf.n vf.c,.int .i64 m.hand,.slice vs.a vs.n vs.c,.slice vsb.a vsb.n vsb.c,.slice vsq.a vsq.n vsq.c,.slice vdb.a vdb.n vdb.c,.slice vdq.a vdq.n vdq.c,.slice vfl.a vfl.n vfl.c,.int .i64 m.cnt,.slice caa can cac,.slice spa spn spc] 41));have hs:(w.alloc (.cells #[.slice vf.a vf.n vf.c,.int .i64 m.hand,.slice vs.a vs.n vs.c,.slice vsb.a vsb.n vsb.c,.slice vsq.a vsq.n vsq.c,.slice vdb.a vdb.n vdb.c,.slice vdq.a vdq.n vdq.c,.slice vfl.a vfl.n vfl.c,.int .i64 m.cnt,.slice caa can cac,.slice spa spn spc] 41)).heap.size=w.heap.size+1:=by simp
  rw[hs]at this;exact⟨_,this,fun k=>by rw[List.take_zero,zh6];rfl⟩
 have HW0:Hid (_=W0):=hW0;clear hW0
 go_enter func161,ntmps161
 go_upto_region 2 with fail;rw[HW0.out];clear hmm;have x9:=X0.out.c 9 rfl;go_wp2;clear x9
 go_loopg [15] can (fun gg s15 wr=>∃kk:Nat,kk<=can/\can - kk<=gg/\s15= .int .i64 kk/\Hid (zc w wr)/\Hid (Box wr w.heap.size [.slice vf.a vf.n vf.c,.int .i64 m.hand,.slice vs.a vs.n vs.c,.slice vsb.a vsb.n vsb.c,.slice vsq.a vsq.n vsq.c,.slice vdb.a vdb.n vdb.c,.slice vdq.a vdq.n vdq.c,.slice vfl.a vfl.n vfl.c,.int .i64 m.cnt,.slice caa can cac,.slice spa spn spc])/\Hid (QG enK wr (w.heap.size+1) (Q8 (m.ca.take kk))))
 case atStart=>exact⟨0,nZ _,by omega,rfl,HG0.out,X0.out,M0.out⟩
 obtain⟨kk,hkk,hgg,rfl,BW,XW,MW⟩:=hrel
 by_cases hlt:kk<can
 ·have hltz:(kk:Int)< (can:Int):=by omega
  obtain⟨c,HC⟩:∃c,Hid (m.ca[kk]? =some c):=⟨_,gE (by rw[HN.out];exact hlt)⟩
  obtain⟨ad,rfl,hl⟩:=HR.out kk c HC.out;obtain⟨d0,d1,d2⟩:=hl wr BW.out;clear hl;go_upto_region 5 with fail;obtain⟨W1,hW1⟩:∃W1,wr.alloc (.cells #[.int .i64 c.file,.int .i64 c.idx,.int .i64 c.fr] 120)=W1:=⟨_,rfl⟩;have HG1:=gT hW1 BW
  have X1:=yA hW1 XW
  have M1:Hid (QG enK W1 (w.heap.size+1) (Q8 (m.ca.take kk))):=dD<|by rw[<-hW1];exact MW.out.grew (za _ _)
  have C1:=xA hW1
  rw[hW1];clear hW1 d0 d1 d2;obtain⟨pb,HPB⟩:∃pb,Hid (wr.heap.size=pb):=⟨_,rfl⟩;rw[HPB.out]at C1⊢;obtain⟨H,HH⟩:∃H,Hid (Q8 (m.ca.take kk)=H):=⟨_,rfl⟩;rw[HH.out]at M1;obtain⟨hb0,hb1⟩:0<=H (1,c.fr)/\H (1,c.fr)<=140737488355328:=by rw[<-HH.out];exact HC0.out kk (1,c.fr)
  obtain⟨I,hI⟩:∃I:World->Prop,I=fun u=>QG enK u (w.heap.size+1) H/\Box u pb [.int .i64 c.file,.int .i64 c.idx,.int .i64 c.fr]/\Box u w.heap.size [.slice vf.a vf.n vf.c,.int .i64 m.hand,.slice vs.a vs.n vs.c,.slice vsb.a vsb.n vsb.c,.slice vsq.a vsq.n vsq.c,.slice vdb.a vdb.n vdb.c,.slice vdq.a vdq.n vdq.c,.slice vfl.a vfl.n vfl.c,.int .i64 m.cnt,.slice (some ad) can cac,.slice spa spn spc]/\zc w u:=⟨_,rfl⟩
  have HI:Hid (∀u,I u↔QG enK u (w.heap.size+1) H/\Box u pb [.int .i64 c.file,.int .i64 c.idx,.int .i64 c.fr]/\Box u w.heap.size [.slice vf.a vf.n vf.c,.int .i64 m.hand,.slice vs.a vs.n vs.c,.slice vsb.a vsb.n vsb.c,.slice vsq.a vsq.n vsq.c,.slice vdb.a vdb.n vdb.c,.slice vdq.a vdq.n vdq.c,.slice vfl.a vfl.n vfl.c,.int .i64 m.cnt,.slice (some ad) can cac,.slice spa spn spc]/\zc w u):=dD<|fun u=>by rw[hI]
  clear hI;have hx2:∀y:zj I,y.world.cell? ⟨pb,2,none⟩=some (.int .i64 c.fr):=fun y=>((HI.out _).1 y.holds).2.1.c 2 rfl
  have hlk:∀y:zj I,(Instr.lookup 226 (.map (some (w.heap.size+1))) (.agg #[.int .i64 1,.int .i64 c.fr,.bool false]) false).run prog y.world= .ok (.int .i64 (H (1,c.fr))) y.world:=fun y=>((HI.out _).1 y.holds).1.look (K:=enK) underlying226 (zl5 _) (1,c.fr)
  have hI0:I W1.drew:=(HI.out _).2 ⟨M1.out.grew (gW _),C1.out.grew (gW _),X1.out.grew (gW _),HG1.out.trans (gW _)⟩
  have hne:Nonempty (zj I):=⟨⟨_,hI0⟩⟩;refine qQ (I:=I) 8 [(6,⟨fun v=>∃st,v= .tuple #[.int .i64 (H (1,c.fr)),.int .i64 st],fun v w'=>∃st,v= .tuple #[.int .i64 (H (1,c.fr)),.int .i64 st]/\zaW enK w' (w.heap.size+1) H (1,c.fr) st,fun _ _=>True,fun _=>True⟩)] hI0 qn (by kernel_rfl) rfl rfl (by decide) ?hS ?hp ?hpre ?hpr0 ?_
  case hS=>
   intro y hy;simp only[mC,nM,or_false]at hy;subst hy;exact⟨_,0,rfl⟩
  case hp=>
   intro k s j t' hk hj hjk _ v p q hst hpo;obtain⟨rfl,rfl⟩:=zd1 hk;obtain⟨rfl,rfl⟩:=zd1 hj;exact absurd rfl hjk
  case hpre=>
   intro j t' k s hj hk hjk p q hst hpr;obtain⟨rfl,rfl⟩:=zd1 hj;trivial
  case hpr0=>
   intro k t' hk;obtain⟨rfl,rfl⟩:=zd1 hk;trivial
  simp only[List.take,List.drop];iterate 6 (refine zk rfl rfl rfl (fun K hK=>?_);go_big_quiet_op;refine hK _ ?_;clear hK)
  refine zI rfl rfl (fun w' hI' hpr hF=>?_) (fun v1 hv=>?_)
  ·obtain⟨i1,i2,i3,i4⟩:=(HI.out _).1 hI';obtain⟨w2,st,hrun,r1,r2,r3⟩:=i1.entry (K:=enK) underlying226 (zl5 w') (1,c.fr);have hrun':(Instr.mapEntry 226 (.map (some (w.heap.size+1))) (.agg #[.int .i64 1,.int .i64 c.fr,.bool false])).run prog w'= .ok (.tuple #[.int .i64 (H (1,c.fr)),.int .i64 st]) w2:=hrun;clear hx2 hlk hne;refine zK.step (v:= .tuple #[.int .i64 (H (1,c.fr)),.int .i64 st]) (w':=w2) (by simp only[execOp];go_simp) ⟨(HI.out _).2 ⟨r1.h,i2.grown r2 (i1.ne_box i2),i3.grown r2 (i1.ne_box i3),ze i4 r2 (by omega)⟩,trivial,⟨_,rfl⟩,_,rfl,r1⟩
  obtain⟨st,rfl⟩:=hv;simp only[Act.put,sB,sS,sZ];iterate 1 (refine zk rfl rfl rfl (fun K hK=>?_);go_big_quiet_op;refine hK _ ?_;clear hK)
  refine jO fun W3 hI3 hF=>?_
  obtain⟨i1,i2,i3,i4⟩:=(HI.out _).1 hI3;obtain⟨st',hst,hE⟩:∃st',(Value.tuple #[.int .i64 (H (1,c.fr)),.int .i64 st])= .tuple #[.int .i64 (H (1,c.fr)),.int .i64 st']/\zaW enK W3 (w.heap.size+1) H (1,c.fr) st':=hF 6;have hE':zaW enK W3 (w.heap.size+1) H (1,c.fr) st:=by
   simp at hst
   rw[hst];exact hE
  have X3:Hid (Box W3 w.heap.size [.slice vf.a vf.n vf.c,.int .i64 m.hand,.slice vs.a vs.n vs.c,.slice vsb.a vsb.n vsb.c,.slice vsq.a vsq.n vsq.c,.slice vdb.a vdb.n vdb.c,.slice vdq.a vdq.n vdq.c,.slice vfl.a vfl.n vfl.c,.int .i64 m.cnt,.slice (some ad) can cac,.slice spa spn spc]):=i3;have HG3:Hid (zc w W3):=i4;have HE3:Hid (zaW enK W3 (w.heap.size+1) H (1,c.fr) st):=hE';clear hx2 hlk hne hF hI3 i1 i2 i3 i4 hE hst hE' hI0;refine JX (K:=enK) rfl 226 (.tmp 19) (.tmp 26) (.tmp 24) rfl (w.heap.size+1) H (1,c.fr) st HE3.out rfl rfl (by go_num) ?_
  intro W4 m4 hg4 _;have X4:Hid (Box W4 w.heap.size [.slice vf.a vf.n vf.c,.int .i64 m.hand,.slice vs.a vs.n vs.c,.slice vsb.a vsb.n vsb.c,.slice vsq.a vsq.n vsq.c,.slice vdb.a vdb.n vdb.c,.slice vdq.a vdq.n vdq.c,.slice vfl.a vfl.n vfl.c,.int .i64 m.cnt,.slice (some ad) can cac,.slice spa spn spc]):=X3.out.grown hg4 (by omega)
  have HG4:Hid (zc w W4):=dD<|ze HG3.out hg4 (by omega)
  have M4:Hid (QG enK W4 (w.heap.size+1) (Q8 (m.ca.take (kk+1)))):=dD<|m4.congr fun k=>by rw[jm HC.out,zgJ,<-HH.out];rfl
  clear m4 hg4 hb0 hb1;go_wp2
  go_roundg (can -(kk+1))
  case measure=>omega
  exact⟨kk+1,by omega,by omega,by go_num,HG4.out,X4.out,M4.out⟩
 have hltz:¬(kk:Int)< (can:Int):=by omega
 have:kk=can:=by omega
 subst this;have MA1:Hid (QG enK wr (w.heap.size+1) (qr m 0 [] zcV)):=dD<|MW.out.congr fun k=>by
  rw[List.take_of_length_le (by rw[HN.out];exact nR _)]
  exact zh7 m zcV k
 have x10:=XW.out.c 10 rfl;go_wp2;clear x10;have HBW:Hid (zc w wr):=BW
 go_loopg [31] spn (fun gg s31 wr=>∃i:Nat,i<=spn/\spn - i<=gg/\s31= .int .i64 i/\Hid (zc w wr)/\Hid (QG enK wr (w.heap.size+1) (qr m i [] zcV)))
 case atStart=>exact⟨0,nZ _,by omega,rfl,HBW.out,MA1.out⟩
 obtain⟨i,hi,hg2,rfl,BW,MW⟩:=hrel
 by_cases hlt2:i<spn
 ·have hltz2:(i:Int)< (spn:Int):=by omega
  obtain⟨s,HS⟩:∃s,Hid (m.sp[i]? =some s):=⟨_,gE (by rw[HNS.out];exact hlt2)⟩
  obtain⟨x,HX⟩:∃x,Hid (xs[i]? =some x):=⟨_,gE (by rw[HXL.out,HNS.out];exact hlt2)⟩
  have HAT:Hid (jw w x s):=HSP.out i x s HX.out HS.out;obtain⟨ad,rfl,hl⟩:=HRS.out i x HX.out;obtain⟨d0,d1,d2,d3,d4,d5,d6,d7,d8,d9⟩:=hl wr BW.out;clear hl;go_upto_region 10 with fail;obtain⟨W1,hW1⟩:∃W1,wr.alloc (.cells #[.bool x.live,.slice x.ar.a x.ar.n x.ar.c,.slice x.t0.a x.t0.n x.t0.c,.slice x.t1.a x.t1.n x.t1.c,.slice x.t2.a x.t2.n x.t2.c,.slice x.t3.a x.t3.n x.t3.c,.slice x.t4.a x.t4.n x.t4.c,.slice x.t5.a x.t5.n x.t5.c,.slice x.t6.a x.t6.n x.t6.c,.slice x.t7.a x.t7.n x.t7.c] 63)=W1:=⟨_,rfl⟩;have HG1:=gT hW1 BW
  have M1:Hid (QG enK W1 (w.heap.size+1) (qr m i [] s)):=dD<|by rw[<-hW1];exact(MW.out.grew (za _ _)).congr fun k=>by unfold qr;simp
  have S1:=xA hW1
  rw[hW1];clear hW1 d0 d1 d2 d3 d4 d5 d6 d7 d8 d9;obtain⟨pb,HPB⟩:∃pb,Hid (wr.heap.size=pb):=⟨_,rfl⟩;rw[HPB.out]at S1⊢;have hcall:Calls prog 107 #[.agg #[.slice x.t0.a x.t0.n x.t0.c,.slice x.t1.a x.t1.n x.t1.c,.slice x.t2.a x.t2.n x.t2.c,.slice x.t3.a x.t3.n x.t3.c,.slice x.t4.a x.t4.n x.t4.c,.slice x.t5.a x.t5.n x.t5.c,.slice x.t6.a x.t6.n x.t6.c,.slice x.t7.a x.t7.n x.t7.c]] W1 fun e w'=>∃v,e= .returned v/\zb blE W1.heap.size w' v (ja s.tb Jf 64)/\zc W1 w':=JH x.tab s.tb W1 (HAT.out.grew HG1.out).tb
  have s2:=S1.out.c 2 rfl;have s3:=S1.out.c 3 rfl;have s4:=S1.out.c 4 rfl;have s5:=S1.out.c 5 rfl;have s6:=S1.out.c 6 rfl;have s7:=S1.out.c 7 rfl;have s8:=S1.out.c 8 rfl;have s9:=S1.out.c 9 rfl;go_wp2_with fail;refine hcall.mono ?_;clear hcall s2 s3 s4 s5 s6 s7 s8 s9;rintro e' W2 ⟨pv,rfl,ow2,hg2'⟩;have HG2:=dD (HG1.out.trans hg2');have M2:=dD (M1.out.grew hg2');have S2:=dD (S1.out.grew hg2');have HW1L:Hid (w.heap.size<=W1.heap.size):=show _<=_ from bS HG1.out
  clear hg2';obtain⟨pa,pc,rfl⟩:=ow2.form;have hq0:=ow2.at.short;rw[Qr]at ow2 hq0⊢;rw[List.length_map]at ow2 hq0⊢;obtain⟨q,HQ⟩:∃q,Hid ((qp s).length=q):=⟨_,rfl⟩;rw[HQ.out]at ow2 hq0⊢;have OW2:Hid (zb blE W1.heap.size W2 (.slice pa q pc) ((qp s).map fun(n:Nat)=>(n:Int))):=ow2
  have hq64:q<=64:=by rw[<-HQ.out];exact zcl s
  clear ow2;go_wp2
  go_loopg [39] q (fun gg s39 wr=>∃j:Nat,j<=q/\q - j<=gg/\s39= .int .i64 j/\Hid (zc w wr)/\Hid (zb blE W1.heap.size wr (.slice pa q pc) ((qp s).map fun(n:Nat)=>(n:Int)))/\Hid (Box wr pb [.bool x.live,.slice x.ar.a x.ar.n x.ar.c,.slice x.t0.a x.t0.n x.t0.c,.slice x.t1.a x.t1.n x.t1.c,.slice x.t2.a x.t2.n x.t2.c,.slice x.t3.a x.t3.n x.t3.c,.slice x.t4.a x.t4.n x.t4.c,.slice x.t5.a x.t5.n x.t5.c,.slice x.t6.a x.t6.n x.t6.c,.slice x.t7.a x.t7.n x.t7.c])/\Hid (QG enK wr (w.heap.size+1) (qr m i ((qp s).take j) s)))
  case atStart=>exact⟨0,nZ _,by omega,rfl,HG2.out,OW2.out,S2.out,by rw[List.take_zero];exact M2.out⟩
  obtain⟨j,hj,hg3,rfl,BW,OW,SW,MW⟩:=hrel
  by_cases hlt3:j<q
  ·have hltz3:(j:Int)< (q:Int):=by omega
   obtain⟨n,HNI⟩:∃n,Hid ((qp s)[j]? =some n):=⟨_,gE (by rw[HQ.out];exact hlt3)⟩
   have hn64:n<64:=zdN HNI.out;have HTS:Hid ((qp s).take (j+1)=(qp s).take j++ [n]):=jm HNI.out;obtain⟨_,_,heq,hnr⟩:=OW.out.at.nums;simp only[vJ]at heq;obtain⟨ad2,had2,hl2⟩:=hnr j (n:Int) (by rw[List.getElem?_map,HNI.out];rfl)
   have e0:=hl2 wr (zc.refl _);rw[<-heq.1]at had2;subst had2;clear hl2 heq hnr;have hcg:Calls prog 86 #[.agg #[.slice x.t0.a x.t0.n x.t0.c,.slice x.t1.a x.t1.n x.t1.c,.slice x.t2.a x.t2.n x.t2.c,.slice x.t3.a x.t3.n x.t3.c,.slice x.t4.a x.t4.n x.t4.c,.slice x.t5.a x.t5.n x.t5.c,.slice x.t6.a x.t6.n x.t6.c,.slice x.t7.a x.t7.n x.t7.c],.int .i64 (n:Int)] wr fun e w'=>e= .returned (enV (zN s n))/\zc wr w':=by
    have:=zbC x.tab s.tb (n:Int) wr (HAT.out.grew BW.out).tb;rw[zfS hn64]at this;exact this
   obtain⟨en,HEN⟩:∃en,Hid (zN s n=en):=⟨_,rfl⟩;rw[HEN.out]at hcg;have s2:=SW.out.c 2 rfl;have s3:=SW.out.c 3 rfl;have s4:=SW.out.c 4 rfl;have s5:=SW.out.c 5 rfl;have s6:=SW.out.c 6 rfl;have s7:=SW.out.c 7 rfl;have s8:=SW.out.c 8 rfl;have s9:=SW.out.c 9 rfl;go_wp2_with fail;refine hcg.mono ?_;clear hcg e0 s2 s3 s4 s5 s6 s7 s8 s9;rintro e' W4 ⟨rfl,hg4⟩;have HG4:=dD (BW.out.trans hg4);have OW4:=dD (OW.out.grew hg4)
   have S4:=dD (SW.out.grew hg4);have M4:=dD (MW.out.grew hg4);clear hg4;unfold enV;go_upto_region 14 with fail;obtain⟨W5,hW5⟩:∃W5,W4.alloc (.cells #[.int .i64 en.kind,.int .i64 en.n,.bool en.wr] 55)=W5:=⟨_,rfl⟩;have HG5:=gT hW5 HG4
   have OW5:Hid (zb blE W1.heap.size W5 (.slice (some ad2) q pc) ((qp s).map fun(n:Nat)=>(n:Int))):=dD<|by rw[<-hW5];exact OW4.out.grew (za _ _)
   have S5:=yA hW5 S4
   have M5:Hid (QG enK W5 (w.heap.size+1) (qr m i ((qp s).take j) s)):=dD<|by rw[<-hW5];exact M4.out.grew (za _ _)
   have E5:=xA hW5
   rw[hW5];clear hW5;obtain⟨pe,HPE⟩:∃pe,Hid (W4.heap.size=pe):=⟨_,rfl⟩;rw[HPE.out]at E5⊢;obtain⟨H,HH⟩:∃H,Hid (qr m i ((qp s).take j) s=H):=⟨_,rfl⟩;rw[HH.out]at M5;obtain⟨hb0,hb1⟩:0<=H (en.kind,en.n)/\H (en.kind,en.n)<=140737488360000:=by rw[<-HH.out];exact HH0.out i _ s (en.kind,en.n) (by simp;omega)
   obtain⟨I,hI⟩:∃I:World->Prop,I=fun u=>QG enK u (w.heap.size+1) H/\Box u pe [.int .i64 en.kind,.int .i64 en.n,.bool en.wr]/\Box u pb [.bool x.live,.slice x.ar.a x.ar.n x.ar.c,.slice x.t0.a x.t0.n x.t0.c,.slice x.t1.a x.t1.n x.t1.c,.slice x.t2.a x.t2.n x.t2.c,.slice x.t3.a x.t3.n x.t3.c,.slice x.t4.a x.t4.n x.t4.c,.slice x.t5.a x.t5.n x.t5.c,.slice x.t6.a x.t6.n x.t6.c,.slice x.t7.a x.t7.n x.t7.c]/\zb blE W1.heap.size u (.slice (some ad2) q pc) ((qp s).map fun(n:Nat)=>(n:Int))/\zc w u:=⟨_,rfl⟩
   have HI:Hid (∀u,I u↔QG enK u (w.heap.size+1) H/\Box u pe [.int .i64 en.kind,.int .i64 en.n,.bool en.wr]/\Box u pb [.bool x.live,.slice x.ar.a x.ar.n x.ar.c,.slice x.t0.a x.t0.n x.t0.c,.slice x.t1.a x.t1.n x.t1.c,.slice x.t2.a x.t2.n x.t2.c,.slice x.t3.a x.t3.n x.t3.c,.slice x.t4.a x.t4.n x.t4.c,.slice x.t5.a x.t5.n x.t5.c,.slice x.t6.a x.t6.n x.t6.c,.slice x.t7.a x.t7.n x.t7.c]/\zb blE W1.heap.size u (.slice (some ad2) q pc) ((qp s).map fun(n:Nat)=>(n:Int))/\zc w u):=dD<|fun u=>by rw[hI]
   clear hI;have hx0:∀y:zj I,y.world.cell? ⟨pe,0,none⟩=some (.int .i64 en.kind):=fun y=>((HI.out _).1 y.holds).2.1.c 0 rfl
   have hx1:∀y:zj I,y.world.cell? ⟨pe,1,none⟩=some (.int .i64 en.n):=fun y=>((HI.out _).1 y.holds).2.1.c 1 rfl
   have hlk:∀y:zj I,(Instr.lookup 226 (.map (some (w.heap.size+1))) (.agg #[.int .i64 en.kind,.int .i64 en.n,.bool false]) false).run prog y.world= .ok (.int .i64 (H (en.kind,en.n))) y.world:=fun y=>((HI.out _).1 y.holds).1.look (K:=enK) underlying226 (zl5 _) (en.kind,en.n)
   have hI0:I W5.drew:=(HI.out _).2 ⟨M5.out.grew (gW _),E5.out.grew (gW _),S5.out.grew (gW _),OW5.out.grew (gW _),HG5.out.trans (gW _)⟩
   have hne:Nonempty (zj I):=⟨⟨_,hI0⟩⟩;refine qQ (I:=I) 10 [(8,⟨fun v=>∃st,v= .tuple #[.int .i64 (H (en.kind,en.n)),.int .i64 st],fun v w'=>∃st,v= .tuple #[.int .i64 (H (en.kind,en.n)),.int .i64 st]/\zaW enK w' (w.heap.size+1) H (en.kind,en.n) st,fun _ _=>True,fun _=>True⟩)] hI0 qn (by kernel_rfl) rfl rfl (by decide) ?hS ?hp ?hpre ?hpr0 ?_
   case hS=>
    intro y hy;simp only[mC,nM,or_false]at hy;subst hy;exact⟨_,0,rfl⟩
   case hp=>
    intro k s j t' hk hj hjk _ v p q hst hpo;obtain⟨rfl,rfl⟩:=zd1 hk;obtain⟨rfl,rfl⟩:=zd1 hj;exact absurd rfl hjk
   case hpre=>
    intro j t' k s hj hk hjk p q hst hpr;obtain⟨rfl,rfl⟩:=zd1 hj;trivial
   case hpr0=>
    intro k t' hk;obtain⟨rfl,rfl⟩:=zd1 hk;trivial
   simp only[List.take,List.drop];iterate 8 (refine zk rfl rfl rfl (fun K hK=>?_);go_big_quiet_op;refine hK _ ?_;clear hK)
   refine zI rfl rfl (fun w' hI' hpr hF=>?_) (fun v1 hv=>?_)
   ·obtain⟨i1,i2,i3,i4,i5⟩:=(HI.out _).1 hI';obtain⟨w2,st,hrun,r1,r2,r3⟩:=i1.entry (K:=enK) underlying226 (zl5 w') (en.kind,en.n);have hrun':(Instr.mapEntry 226 (.map (some (w.heap.size+1))) (.agg #[.int .i64 en.kind,.int .i64 en.n,.bool false])).run prog w'= .ok (.tuple #[.int .i64 (H (en.kind,en.n)),.int .i64 st]) w2:=hrun;clear hx0 hx1 hlk hne;refine zK.step (v:= .tuple #[.int .i64 (H (en.kind,en.n)),.int .i64 st]) (w':=w2) (by simp only[execOp];go_simp) ⟨(HI.out _).2 ⟨r1.h,i2.grown r2 (i1.ne_box i2),i3.grown r2 (i1.ne_box i3),i4.grown r2 (i1.ne_own i4),ze i5 r2 (by omega)⟩,trivial,⟨_,rfl⟩,_,rfl,r1⟩
   obtain⟨st,rfl⟩:=hv;simp only[Act.put,sB,sS,sZ];iterate 1 (refine zk rfl rfl rfl (fun K hK=>?_);go_big_quiet_op;refine hK _ ?_;clear hK)
   refine jO fun W6 hI6 hF=>?_
   obtain⟨i1,i2,i3,i4,i5⟩:=(HI.out _).1 hI6;obtain⟨st',hst,hE⟩:∃st',(Value.tuple #[.int .i64 (H (en.kind,en.n)),.int .i64 st])= .tuple #[.int .i64 (H (en.kind,en.n)),.int .i64 st']/\zaW enK W6 (w.heap.size+1) H (en.kind,en.n) st':=hF 8;have hE':zaW enK W6 (w.heap.size+1) H (en.kind,en.n) st:=by
    simp at hst
    rw[hst];exact hE
   have S6:Hid (Box W6 pb [.bool x.live,.slice x.ar.a x.ar.n x.ar.c,.slice x.t0.a x.t0.n x.t0.c,.slice x.t1.a x.t1.n x.t1.c,.slice x.t2.a x.t2.n x.t2.c,.slice x.t3.a x.t3.n x.t3.c,.slice x.t4.a x.t4.n x.t4.c,.slice x.t5.a x.t5.n x.t5.c,.slice x.t6.a x.t6.n x.t6.c,.slice x.t7.a x.t7.n x.t7.c]):=i3;have OW6:Hid (zb blE W1.heap.size W6 (.slice (some ad2) q pc) ((qp s).map fun(n:Nat)=>(n:Int))):=i4
   have HG6:Hid (zc w W6):=i5;have M6:Hid (QG enK W6 (w.heap.size+1) H):=i1;have HE6:Hid (zaW enK W6 (w.heap.size+1) H (en.kind,en.n) st):=hE';clear hx0 hx1 hlk hne hF hI6 i1 i2 i3 i4 i5 hE hst hE' hI0;refine JX (K:=enK) rfl 226 (.tmp 47) (.tmp 56) (.tmp 54) rfl (w.heap.size+1) H (en.kind,en.n) st HE6.out rfl rfl (by go_num) ?_
   intro W7 m7 hg7 _;have S7:Hid (Box W7 pb [.bool x.live,.slice x.ar.a x.ar.n x.ar.c,.slice x.t0.a x.t0.n x.t0.c,.slice x.t1.a x.t1.n x.t1.c,.slice x.t2.a x.t2.n x.t2.c,.slice x.t3.a x.t3.n x.t3.c,.slice x.t4.a x.t4.n x.t4.c,.slice x.t5.a x.t5.n x.t5.c,.slice x.t6.a x.t6.n x.t6.c,.slice x.t7.a x.t7.n x.t7.c]):=S6.out.grown hg7 (M6.out.ne_box S6.out);have OW7:Hid (zb blE W1.heap.size W7 (.slice (some ad2) q pc) ((qp s).map fun(n:Nat)=>(n:Int))):=OW6.out.grown hg7 (M6.out.ne_own OW6.out)
   have HG7:Hid (zc w W7):=dD<|ze HG6.out hg7 (by omega)
   have M7:Hid (QG enK W7 (w.heap.size+1) (qr m i ((qp s).take (j+1)) s)):=dD<|m7.congr fun k=>by rw[HTS.out,zh4,HEN.out,HH.out];rfl
   clear m7 hg7 hb0 hb1;go_wp2
   go_roundg (q -(j+1))
   case measure=>omega
   exact⟨j+1,by omega,by omega,by go_num,HG7.out,OW7.out,S7.out,M7.out⟩
  have hltz3:¬(j:Int)< (q:Int):=by omega
  have:j=q:=by omega
  subst this;have M8:Hid (QG enK wr (w.heap.size+1) (qr m (i+1) [] zcV)):=dD<|MW.out.congr fun k=>by
   rw[List.take_of_length_le (by rw[HQ.out];exact nR _)]
   exact zh5 m i s zcV HS.out k
  go_wp2
  go_roundg (spn -(i+1))
  case measure=>omega
  exact⟨i+1,by omega,by omega,by go_num,BW.out,M8.out⟩
 have hltz2:¬(i:Int)< (spn:Int):=by omega
 have:i=spn:=by omega
 subst this;have M9:Hid (QG enK wr (w.heap.size+1) (qr m m.sp.length [] zcV)):=dD<|by rw[HNS.out];exact MW.out
 go_wp2;go_ret;exact⟨_,rfl,M9.out,BW.out⟩
def qJ (fl:List Fl) (i:Nat) (bl:List Int):List Int:=(Za (fl.take i))++bl
theorem JJ {n:Nat} {g h:List Int} (e:∀i:Nat,i<n->g.contains (i:Int)=h.contains (i:Int)):qy n g=qy n h:=by
 unfold qy
 apply List.map_congr_left
 intro i hi;rw[e i (List.mem_range.1 hi)]
theorem zgS (fl:List Fl) (i:Nat) (bl:List Int) {b:Int} (hb:b<0) (n:Nat):qy n (qJ fl i (bl++ [b]))=qy n (qJ fl i bl):=JJ fun j _=>by
 unfold qJ;have:¬(j:Int)=b:=by omega
 simp[this]
theorem zij (fl:List Fl) (i:Nat) (bl:List Int) (b:Nat) (n:Nat):qy n ((b:Int) :: qJ fl i bl)=qy n (qJ fl i (bl++ [(b:Int)])):=JJ fun j _=>by
 unfold qJ;rw[Bool.eq_iff_iff];simp only[List.contains_eq_mem,mC,List.mem_append,nM,or_false,decide_eq_true_eq];constructor
 ·rintro(h|h|h)
  ·exact .inr (.inr h)
  ·exact .inl h
  exact .inr (.inl h)
 rintro(h|h|h)
 ·exact .inr (.inl h)
 ·exact .inr (.inr h)
 exact .inl h
theorem zgT {fl:List Fl} {f:Fl} (hf:fl[i]? =some f):qJ fl i f.bl=qJ fl (i+1) []:=by
 unfold qJ Za;rw[List.take_add_one,hf];simp
theorem zik (fl:List Fl) (b:Int):(qJ fl fl.length []).contains b=zT fl b:=by
 unfold qJ Za zT;rw[List.take_length,List.append_nil,Bool.eq_iff_iff];simp
theorem zl6:(Tryz.prog.info? 220).map (·.size)=some 80:=by kernel_rfl
theorem zdY (n:Nat) (g:List Int):∀v∈qy n g,v.oneCell'=true:=fun v hv=>by
 unfold qy at hv;obtain⟨i,_,rfl⟩:=List.mem_map.1 hv;rfl
theorem J5 (n:Nat) (g:List Int):(qy n g).length=n:=by simp[qy]
theorem zbJ (v:Value) (fl:List Fl) (cnt:Int) (w:World) (hv:qd w v fl) (hst:stW fl cnt=0):
  Calls prog 156 #[.agg #[v,.int .i64 cnt]] w fun e w'=>e= .returned (.agg (qy 80 (qJ fl fl.length [])).toArray)/\zc w w':=by
 have hz:=zam;obtain⟨a,c,rfl,hbig,hrow⟩:=hv.rows;have HR:Hid (Jh w a fl):=hrow;clear hrow hv;have HB:Hid (∀f∈fl,∀b∈f.bl,b=-1\/(0<=b/\b<80)):=show∀f∈fl,_ from fun f hf b hb=>by
  obtain⟨⟨_,_,h80⟩,h2,_⟩:=(qg fl cnt).1 hst
  rcases(h2 f hf).2.2 b hb with h|h
  ·exact .inl h
  exact .inr (by omega)
 clear hst;obtain⟨n,HN⟩:∃n,Hid (fl.length=n):=⟨_,rfl⟩;rw[HN.out]at hbig⊢;obtain⟨W0,hW0⟩:∃W0,((w.alloc (.cells #[.slice a n c,.int .i64 cnt] 37)).alloc (.cells zds 220)).alloc (.cells zds 220)=W0:=⟨_,rfl⟩;have HG0:Hid (zc w W0):=dD<|by rw[<-hW0];exact((za _ _).trans (za _ _)).trans (za _ _)
 have X0:Hid (Box W0 w.heap.size [.slice a n c,.int .i64 cnt]):=dD<|by rw[<-hW0];exact((Box.top _ _ _ rfl).alloc _).alloc _
 have Y0:Hid (Box W0 (w.heap.size+1) (qy 80 [])):=dD<|by rw[<-hW0,zbs];exact(Box.top _ (List.replicate 80 (.bool false)) _ (by simp)).alloc _
 have Z0:Hid (Box W0 (w.heap.size+1+1) (qy 80 (qJ fl 0 []))):=dD<|by
  have:qy 80 (qJ fl 0 [])=qy 80 []:=JJ fun i _=>by simp[qJ,Za]
  rw[<-hW0,this,zbs];exact Box.top _ (List.replicate 80 (.bool false)) _ (by simp)
 have HW0:Hid (_=W0):=hW0;clear hW0
 go_enter func156,ntmps156
 go_upto_region 2 with fail;rw[HW0.out];clear hz;have x0:=X0.out.c 0 rfl;go_wp2;clear x0
 go_loopg [5,11] n (fun gg _ s11 wr=>∃i:Nat,i<=n/\n - i<=gg/\s11= .int .i64 i/\Hid (zc w wr)/\Hid (Box wr (w.heap.size+1) (qy 80 []))/\Hid (Box wr (w.heap.size+1+1) (qy 80 (qJ fl i []))))
 case atStart=>exact⟨0,nZ _,by omega,rfl,HG0.out,Y0.out,Z0.out⟩
 obtain⟨i,hi,hgg,rfl,BW,YW,ZW⟩:=hrel
 by_cases hlt:i<n
 ·have hltz:(i:Int)< (n:Int):=by omega
  obtain⟨f,HF⟩:∃f,Hid (fl[i]? =some f):=⟨_,gE (by rw[HN.out];exact hlt)⟩
  obtain⟨ad,rfl,xa,xc,hr2,hl⟩:=HR.out i f HF.out;obtain⟨d0,d1⟩:=hl wr BW.out;obtain⟨_,_,heq,hnr⟩:=hr2.nums;have hq:=hr2.short;have HNR:Hid (zaA w xa f.bl):=dD<|by
   simp only[vJ]at heq;rw[heq.1];exact hnr
  clear heq hnr hr2 hl;obtain⟨q,HQ⟩:∃q,Hid (f.bl.length=q):=⟨_,rfl⟩;rw[HQ.out]at d1 hq;go_upto_region 5 with fail;obtain⟨W1,hW1⟩:∃W1,wr.alloc (.cells #[.int .i64 f.size,.slice xa q xc] 84)=W1:=⟨_,rfl⟩;have HG1:=gT hW1 BW
  have F1:=xA hW1
  have Y1:=yA hW1 YW
  have Z1:=yA hW1 ZW
  rw[hW1];clear hW1 d0 d1;have f1:=F1.out.c 1 rfl;go_wp2;clear f1;have HBW:Hid (zc w wr):=BW
  go_loopg [7,18] q (fun gg _ s18 wr=>∃j:Nat,j<=q/\q - j<=gg/\s18= .int .i64 j/\Hid (zc w wr)/\Hid (Box wr (w.heap.size+1) (qy 80 []))/\Hid (Box wr (w.heap.size+1+1) (qy 80 (qJ fl i (f.bl.take j)))))
  case atStart=>exact⟨0,nZ _,by omega,rfl,HG1.out,Y1.out,by rw[List.take_zero];exact Z1.out⟩
  obtain⟨j,hj,hg2,rfl,BW,YW,ZW⟩:=hrel
  by_cases hlt2:j<q
  ·have hltz2:(j:Int)< (q:Int):=by omega
   obtain⟨b,HBJ⟩:∃b,Hid (f.bl[j]? =some b):=⟨_,gE (by rw[HQ.out];exact hlt2)⟩
   obtain⟨ad2,rfl,hl2⟩:=HNR.out j b HBJ.out;have e0:=hl2 wr BW.out;have HRB:Hid (b=-1\/(0<=b/\b<80)):=HB.out f (mG HF.out) b (mG HBJ.out);have HTS:Hid (f.bl.take (j+1)=f.bl.take j++ [b]):=jm HBJ.out;clear hl2
   by_cases hb:0<=b
   ·obtain⟨k,rfl⟩:∃k:Nat,b=(k:Int):=⟨b.toNat,by omega⟩
    have hk80:k<80:=by have:=HRB.out;omega
    have z0:=ZW.out.c k (Qt _ hk80);have zf:=ZW.out.f;have Z2:Hid (Box (wr.setCell ⟨w.heap.size+1+1,k,none⟩ (.bool true)) (w.heap.size+1+1) (qy 80 (qJ fl i (f.bl.take (j+1))))):=dD<|by
     rw[HTS.out,<-zij,<-zdX _ hk80];exact ZW.out.set k _
    have Y2:Hid (Box (wr.setCell ⟨w.heap.size+1+1,k,none⟩ (.bool true)) (w.heap.size+1) (qy 80 [])):=dD<|YW.out.other (by simp) _
    have G2:Hid (zc w (wr.setCell ⟨w.heap.size+1+1,k,none⟩ (.bool true))):=dD<|zC BW.out (by simp;omega) _
    go_wp2
    go_roundg (q -(j+1))
    case measure=>omega
    exact⟨j+1,by omega,by omega,by go_num,G2.out,Y2.out,Z2.out⟩
   have Z2:Hid (Box wr (w.heap.size+1+1) (qy 80 (qJ fl i (f.bl.take (j+1))))):=dD<|by
    rw[HTS.out,zgS _ _ _ (by omega)]
    exact ZW.out
   go_wp2
   go_roundg (q -(j+1))
   case measure=>omega
   exact⟨j+1,by omega,by omega,by go_num,BW.out,YW.out,Z2.out⟩
  have hltz2:¬(j:Int)< (q:Int):=by omega
  have:j=q:=by omega
  subst this;have Z2:Hid (Box wr (w.heap.size+1+1) (qy 80 (qJ fl (i+1) []))):=dD<|by
   have h1:=ZW.out;rw[List.take_of_length_le (by rw[HQ.out];exact nR _),zgT HF.out]at h1
   exact h1
  go_wp2
  go_roundg (n -(i+1))
  case measure=>omega
  exact⟨i+1,by omega,by omega,by go_num,BW.out,YW.out,Z2.out⟩
 have hltz:¬(i:Int)< (n:Int):=by omega
 have:i=n:=by omega
 subst this;obtain⟨ms,HMS⟩:∃ms,Hid (qy 80 (qJ fl i [])=ms):=⟨_,rfl⟩;have HML:Hid (ms.length=80):=dD<|by rw[<-HMS.out];exact J5 _ _
 have HMO:Hid (∀v∈ms,v.oneCell'=true):=dD<|by rw[<-HMS.out];exact zdY _ _
 rw[HMS.out]at ZW;go_upto_region 12 with fail
 go_wp2_with (first | (refine zJ rfl 220 (.tmp 3) rfl (w.heap.size+1+1) rfl ZW.out underlying220 rfl (by rw[HML.out];exact zl6) ?_) | (refine zX rfl 220 (.tmp 2) (.tmp 28) rfl (w.heap.size+1) rfl ms rfl YW.out (by rw[HML.out,J5]) (by rw[J5];exact zl6) HMO.out ?_))
 intro W5 hb5 hg5 _;have G5:Hid (zc w W5):=dD<|ze BW.out hg5 (by omega)
 go_wp2;refine bodyPost_ret (zY rfl _ rfl hb5 underlying220 rfl (by rw[HML.out];exact zl6)) rfl ⟨by rw[<-HMS.out],G5.out⟩
theorem zhk (b0 b1 b2 b3 b4 b5 b6 b7:Int):zdM ⟨b0,b1,b2,b3,b4,b5,b6,b7⟩ ⟨0,0,0,0,0,0,0,0⟩=([b0,b1,b2,b3,b4,b5,b6,b7] == zz):=by
 rw[Bool.eq_iff_iff,zbm]
 simp[zz]
def ZY (m:Ma) (b:Nat):Bool:=!zT m.fl (b:Int) && !(m.db.getD b [] == zz)
theorem zex (h:∀b,b<m.db.length->ZY m b=false):Je m=0:=by
 unfold Je;rw[if_neg];rw[List.any_eq_true];rintro⟨b,hb,hx⟩;have:=h b (List.mem_range.1 hb);unfold ZY at this;rw[this]at hx;cases hx
theorem zg8 (hb:b<m.db.length) (h:ZY m b=true):Je m=7:=by
 unfold Je;rw[if_pos];rw[List.any_eq_true];exact⟨b,List.mem_range.2 hb,h⟩
theorem zhD (h:∀(j:Nat) q,m.dq[j]? =some q->zT m.fl q.1=true):QY m=0:=by
 unfold QY;rw[if_neg];rw[List.any_eq_true];rintro⟨q,hq,hx⟩;obtain⟨j,hj⟩:=List.getElem?_of_mem hq;rw[h j q hj]at hx;cases hx
theorem zgs {q:Int × List Int} (hq:m.dq[j]? =some q) (h:zT m.fl q.1=false):QY m=7:=by
 unfold QY;rw[if_pos];rw[List.any_eq_true];exact⟨q,mG hq,by rw[h];rfl⟩
theorem zeL {n:Nat} {qs:List (Int × List Int)} (h:zF n qs=0):n<=80/\∀(j:Nat) q,qs[j]? =some q->0<=q.1/\q.1<n:=by
 unfold zF at h
 split at h
 ·cases h
 split at h
 ·cases h
 split at h
 ·cases h
 rename_i h1 h2 h3
 refine⟨by omega,fun j q hq=>?_⟩
 have:(!jk q.1 n)=false:=by
  cases e:(!jk q.1 n)with
  | false=>rfl
  | true=>exact absurd (List.any_eq_true.2 ⟨q,mG hq,e⟩) h3
 simp[jk]at this
 exact this
theorem zjR (hb:b<80):(qy 80 (qJ m.fl m.fl.length []))[b]? =some (.bool (zT m.fl (b:Int))):=by
 rw[Qt _ hb,zik]
theorem zb2 (V:MaV) (m:Ma) (w:World) (hm:zD w V m) (h1:zeB m):
  Calls prog 112 #[.agg #[.slice V.f.a V.f.n V.f.c,.int .i64 m.hand,.slice V.s.a V.s.n V.s.c,.slice V.sb.a V.sb.n V.sb.c,.slice V.sq.a V.sq.n V.sq.c,.slice V.db.a V.db.n V.db.c,.slice V.dq.a V.dq.n V.dq.c,.slice V.fl.a V.fl.n V.fl.c,.int .i64 m.cnt,.slice V.ca.a V.ca.n V.ca.c,.slice V.sp.a V.sp.n V.sp.c]] w fun e w'=>e= .returned (.int .i64 (zx (QS m)))/\zc w w':=by
 obtain⟨vf,vs,vsb,vsq,⟨dba,dbn,dbc⟩,⟨dqa,dqn,dqc⟩,vfl,vca,vsp⟩:=V;dsimp only;have hz:=zam;obtain⟨-,n2,n3,-,n5,n6,-⟩:=hm.ns;dsimp only at n2 n3 n5 n6;have HFB:Hid (∀W,zc w W->Calls prog 156 #[.agg #[.slice vfl.a vfl.n vfl.c,.int .i64 m.cnt]] W fun e w'=>e= .returned (.agg (qy 80 (qJ m.fl m.fl.length [])).toArray)/\zc W w'):=dD<|fun W hW=>zbJ _ m.fl m.cnt W (hm.grew hW).fl h1.st
 have HPG:Hid (zdp w dba m.db):=hm.pgs;have HPU:Hid (JQ w dqa m.dq):=hm.puts;obtain⟨h80,hqs⟩:=zeL h1.dq;have HQS:Hid (∀(j:Nat) q,m.dq[j]? =some q->0<=q.1/\q.1<m.db.length):=hqs;have HN5:Hid (m.db.length=dbn):=n5.symm;have HN6:Hid (m.dq.length=dqn):=n6.symm;have hb6:dqn<=9223372036854775807:=by have:=hm.dq.2.2;omega
 rw[HN5.out]at h80;obtain⟨Z,HZ⟩:∃Z,Hid (zx (QS m)=Z):=⟨_,rfl⟩;rw[HZ.out];have HZ2:Hid (zx [zhg m,Je m,QY m]=Z):=HZ.out;have hfit:zhg m=if vs.n≠vsb.n\/m.cnt≠(dbn:Int)then 7 else 0:=by unfold zhg;rw[n2,n3,n5]
 clear hm h1 hqs n2 n3 n5 n6;obtain⟨W0,hW0⟩:∃W0,w.alloc (.cells #[.slice vf.a vf.n vf.c,.int .i64 m.hand,.slice vs.a vs.n vs.c,.slice vsb.a vsb.n vsb.c,.slice vsq.a vsq.n vsq.c,.slice dba dbn dbc,.slice dqa dqn dqc,.slice vfl.a vfl.n vfl.c,.int .i64 m.cnt,.slice vca.a vca.n vca.c,.slice vsp.a vsp.n vsp.c] 41)=W0:=⟨_,rfl⟩;have HG0:=gA hW0
 have X0:=xA hW0
 have HS0:Hid (w.heap.size<W0.heap.size):=dD<|by rw[<-hW0];simp
 have HW0:Hid (_=W0):=hW0;clear hW0
 by_cases c1:vsb.n=vs.n
 ·by_cases c2:m.cnt=(dbn:Int)
  ·have HF:Hid (zhg m=0):=dD<|by rw[hfit,if_neg (by omega)]
   have c1e:((vsb.n:Int) !=(vs.n:Int))=false:=by simp[c1]
   have c2e:((dbn:Int) != m.cnt)=false:=by simp[c2]
   have c1f:(vsb.n != vs.n)=false:=by simp[c1]
   have HB0:Hid (∀b,b<m.db.length->ZY m b=true->Z=7):=dD<|fun b hb h=>by rw[<-HZ2.out,zU,if_pos HF.out,zU,zg8 hb h];rfl
   have HB1:Hid ((∀b,b<m.db.length->ZY m b=false)->∀(j:Nat) q,m.dq[j]? =some q->zT m.fl q.1=false->Z=7):=dD<|fun h j q hq hu=>by rw[<-HZ2.out,zU,if_pos HF.out,zU,if_pos (zex h),zU,zgs hq hu];rfl
   have HB2:Hid ((∀b,b<m.db.length->ZY m b=false)->(∀(j:Nat) q,m.dq[j]? =some q->zT m.fl q.1=true)->Z=0):=dD<|fun h h'=>by rw[<-HZ2.out,zU,if_pos HF.out,zU,if_pos (zex h),zU,zhD h'];rfl
   have hFB:=HFB.out W0 HG0.out;clear hfit;have HC1:Hid (vsb.n=vs.n):=c1;have HC2:Hid (m.cnt=(dbn:Int)):=c2;clear c1 c2
   go_enter func112,ntmps112
   go_upto_region 1 with fail;rw[HW0.out];have x2:=X0.out.c 2 rfl;have x3:=X0.out.c 3 rfl;have x5:=X0.out.c 5 rfl;have x6:=X0.out.c 6 rfl;have x7:=X0.out.c 7 rfl;have x8:=X0.out.c 8 rfl;go_upto_region 3 with fail;go_wp2_with fail;refine hFB.mono ?_;clear hFB x2 x3 x5 x6 x7 x8;rintro e W1 ⟨rfl,hg1⟩;have HG1:=dD (HG0.out.trans hg1);have X1:=dD (X0.out.grew hg1);clear hg1;obtain⟨ms,HMS⟩:∃ms,Hid (qy 80 (qJ m.fl m.fl.length [])=ms):=⟨_,rfl⟩;have HML:Hid (ms.length=80):=show _=_ by rw[<-HMS.out];exact J5 _ _
   have HMO:Hid (∀v∈ms,v.oneCell'=true):=dD<|by rw[<-HMS.out];exact zdY _ _
   have HMA:Hid (∀b:Nat,b<80->ms[b]? =some (.bool (zT m.fl (b:Int)))):=dD<|fun b hb=>by rw[<-HMS.out];exact zjR hb
   rw[HMS.out];obtain⟨W2,hW2⟩:∃W2,W1.alloc (.cells zds 220)=W2:=⟨_,rfl⟩;have HG2:=gT hW2 HG1
   have X2:=yA hW2 X1
   have Z2:Hid (Box W2 W1.heap.size (List.replicate 80 (.bool false))):=dD<|by rw[<-hW2];exact Box.top _ (List.replicate 80 (.bool false)) _ rfl
   have HW2:Hid (_=W2):=hW2;clear hW2;have HLT:Hid (w.heap.size<=W1.heap.size):=show _<=_ from bS HG1.out
   have HXL:Hid (w.heap.size<W1.heap.size):=dD<|X1.out.lt
   go_wp2_with (first | (rw[HW2.out];refine zX rfl 220 (.tmp 3) (.tmp 28) rfl W1.heap.size rfl ms rfl Z2.out (by rw[HML.out];simp) (by simpa using zl6) HMO.out ?_))
   intro W3 hb3 hg3 _;have HG3:Hid (zc w W3):=dD<|ze HG2.out hg3 HLT.out
   have X3:Hid (Box W3 w.heap.size [.slice vf.a vf.n vf.c,.int .i64 m.hand,.slice vs.a vs.n vs.c,.slice vsb.a vsb.n vsb.c,.slice vsq.a vsq.n vsq.c,.slice dba dbn dbc,.slice dqa dqn dqc,.slice vfl.a vfl.n vfl.c,.int .i64 m.cnt,.slice vca.a vca.n vca.c,.slice vsp.a vsp.n vsp.c]):=X2.out.grown hg3 (by have:=HXL.out;omega)
   have Z3:Hid (Box W3 W1.heap.size ms):=hb3;obtain⟨p3,HP3⟩:∃p3,Hid (W1.heap.size=p3):=⟨_,rfl⟩;rw[HP3.out]at Z3⊢;clear hb3 hg3 hz;have x5:=X3.out.c 5 rfl;go_wp2;clear x5;obtain⟨n,HN⟩:∃n,Hid (dbn=n):=⟨_,rfl⟩;rw[HN.out]at h80⊢
   go_loopg [33] n (fun gg s33 wr=>∃kk:Nat,kk<=n/\n - kk<=gg/\s33= .int .i64 kk/\Hid (zc w wr)/\Hid (Box wr w.heap.size [.slice vf.a vf.n vf.c,.int .i64 m.hand,.slice vs.a vs.n vs.c,.slice vsb.a vsb.n vsb.c,.slice vsq.a vsq.n vsq.c,.slice dba dbn dbc,.slice dqa dqn dqc,.slice vfl.a vfl.n vfl.c,.int .i64 m.cnt,.slice vca.a vca.n vca.c,.slice vsp.a vsp.n vsp.c])/\Hid (Box wr p3 ms)/\Hid (∀b,b<kk->ZY m b=false))
   case atStart=>exact⟨0,nZ _,by omega,rfl,HG3.out,X3.out,Z3.out,fun b hb=>absurd hb (nL _)⟩
   obtain⟨kk,hkk,hgg,rfl,BW,XW,ZW,OW⟩:=hrel
   by_cases hlt:kk<n
   ·have hltz:(kk:Int)< (n:Int):=by omega
    have hk80:kk<80:=by omega
    have HKL:Hid (kk<m.db.length):=dD<|by rw[HN5.out,HN.out];exact hlt
    obtain⟨p,HP⟩:∃p,Hid (m.db[kk]? =some p):=⟨_,gE HKL.out⟩;obtain⟨ad,b0,b1,b2,b3,b4,b5,b6,b7,rfl,rfl,hl⟩:=HPG.out kk p HP.out;have HBD:Hid (ZY m kk=(!zT m.fl (kk:Int) && !([b0,b1,b2,b3,b4,b5,b6,b7] == zz))):=dD<|by unfold ZY;rw[gD,HP.out];rfl
    obtain⟨d0,d1,d2,d3,d4,d5,d6,d7⟩:=hl wr BW.out;have hqp:=fun W=>zcm 9998 b0 b1 b2 b3 b4 b5 b6 b7 0 0 0 0 0 0 0 0 W
    simp only[zhk]at hqp;obtain⟨U,HU⟩:∃U,Hid (zT m.fl (kk:Int)=U):=⟨_,rfl⟩;have hmu:=HMA.out kk hk80;rw[HU.out]at hmu;rw[HU.out]at HBD;obtain⟨PZ,HPZ⟩:∃PZ,Hid (([b0,b1,b2,b3,b4,b5,b6,b7] == zz)=PZ):=⟨_,rfl⟩;rw[HPZ.out]at hqp HBD;clear hl;go_upto_region 7 with fail;obtain⟨W4,hW4⟩:∃W4,wr.alloc (.cells #[.int .u8 b0,.int .u8 b1,.int .u8 b2,.int .u8 b3,.int .u8 b4,.int .u8 b5,.int .u8 b6,.int .u8 b7] 44)=W4:=⟨_,rfl⟩;have HG4:=gT hW4 BW
    have X4:=yA hW4 XW
    have Z4:=yA hW4 ZW
    have P4:=xA hW4
    rw[hW4];clear hW4 d0 d1 d2 d3 d4 d5 d6 d7;have z0:=Z4.out.c kk hmu;obtain⟨p0,p1,p2,p3,p4,p5,p6,p7⟩:=P4.out.c8;clear hmu
    cases U with
    | true=>
     have HB:Hid (ZY m kk=false):=dD<|by rw[HBD.out];rfl
     have OW':Hid (∀b,b<kk+1->ZY m b=false):=dD<|fun b hb=>by
      by_cases e:b=kk
      ·rw[e];exact HB.out
      exact OW.out b (by omega)
     clear p0 p1 p2 p3 p4 p5 p6 p7 hqp;go_wp2
     go_roundg (n -(kk+1))
     case measure=>omega
     exact⟨kk+1,by omega,by omega,by go_num,HG4.out,X4.out,Z4.out,OW'.out⟩
    | false=>
     cases PZ with
     | true=>
      have HB:Hid (ZY m kk=false):=dD<|by rw[HBD.out];rfl
      have OW':Hid (∀b,b<kk+1->ZY m b=false):=dD<|fun b hb=>by
       by_cases e:b=kk
       ·rw[e];exact HB.out
       exact OW.out b (by omega)
      go_wp2
      go_roundg (n -(kk+1))
      case measure=>omega
      exact⟨kk+1,by omega,by omega,by go_num,HG4.out,X4.out,Z4.out,OW'.out⟩
     | false=>
      have HE:Hid (Z=7):=HB0.out kk HKL.out (by rw[HBD.out];rfl)
      go_wp2;go_ret;exact⟨by rw[HE.out];rfl,HG4.out⟩
   have hltz:¬(kk:Int)< (n:Int):=by omega
   have:kk=n:=by omega
   subst this;have OA:Hid (∀b,b<m.db.length->ZY m b=false):=dD<|fun b hb=>OW.out b (by rw[<-HN.out,<-HN5.out];exact hb)
   have x6:=XW.out.c 6 rfl;go_wp2;clear x6;obtain⟨n2,HN2⟩:∃n2,Hid (dqn=n2):=⟨_,rfl⟩;rw[HN2.out]at hb6⊢;have HBW:Hid (zc w wr):=BW;have HZW:Hid (Box wr p3 ms):=ZW
   go_loopg [52] n2 (fun gg s52 wr=>∃j:Nat,j<=n2/\n2 - j<=gg/\s52= .int .i64 j/\Hid (zc w wr)/\Hid (Box wr p3 ms)/\Hid (∀(i:Nat) q,i<j->m.dq[i]? =some q->zT m.fl q.1=true))
   case atStart=>exact⟨0,nZ _,by omega,rfl,HBW.out,HZW.out,fun i q hi=>absurd hi (nL _)⟩
   obtain⟨j,hj,hg2,rfl,BW,ZW,OW⟩:=hrel
   by_cases hlt2:j<n2
   ·have hltz2:(j:Int)< (n2:Int):=by omega
    obtain⟨q,HQ⟩:∃q,Hid (m.dq[j]? =some q):=⟨_,gE (by rw[HN6.out,HN2.out];exact hlt2)⟩
    obtain⟨ad,mm,b0,b1,b2,b3,b4,b5,b6,b7,rfl,rfl,hl⟩:=HPU.out j q HQ.out;obtain⟨r0,r1⟩:=HQS.out j _ HQ.out;simp only at r0 r1;obtain⟨b,rfl⟩:∃b:Nat,mm=(b:Int):=⟨mm.toNat,by omega⟩
    have hk80:b<80:=by rw[HN5.out,HN.out]at r1;omega
    obtain⟨d0,d1,d2,d3,d4,d5,d6,d7,d8⟩:=hl wr BW.out;obtain⟨U,HU⟩:∃U,Hid (zT m.fl (b:Int)=U):=⟨_,rfl⟩;have hmu:=HMA.out b hk80;rw[HU.out]at hmu;clear hl r0 r1;go_upto_region 13 with fail;obtain⟨W4,hW4⟩:∃W4,wr.alloc (.cells #[.int .i64 (b:Int),.int .u8 b0,.int .u8 b1,.int .u8 b2,.int .u8 b3,.int .u8 b4,.int .u8 b5,.int .u8 b6,.int .u8 b7] 100)=W4:=⟨_,rfl⟩;have HG4:=gT hW4 BW
    have Z4:=yA hW4 ZW
    have P4:=xA hW4
    rw[hW4];clear hW4 d0 d1 d2 d3 d4 d5 d6 d7 d8;have z0:=Z4.out.c b hmu;have p0:=P4.out.c 0 rfl;clear hmu
    cases U with
    | true=>
     have OW':Hid (∀(i:Nat) q,i<j+1->m.dq[i]? =some q->zT m.fl q.1=true):=dD<|fun i q hi hq=>by
      by_cases e:i=j
      ·subst e;rw[HQ.out]at hq;cases hq;exact HU.out
      exact OW.out i q (by omega) hq
     go_wp2
     go_roundg (n2 -(j+1))
     case measure=>omega
     exact⟨j+1,by omega,by omega,by go_num,HG4.out,Z4.out,OW'.out⟩
    | false=>
     have HE:Hid (Z=7):=HB1.out OA.out j _ HQ.out HU.out;go_wp2;go_ret;exact⟨by rw[HE.out];rfl,HG4.out⟩
   have hltz2:¬(j:Int)< (n2:Int):=by omega
   have:j=n2:=by omega
   subst this;have HE:Hid (Z=0):=HB2.out OA.out fun i q hq=>OW.out i q (by rw[<-HN2.out,<-HN6.out];exact(gS.1 hq).1) hq
   go_wp2;go_ret;exact⟨by rw[HE.out];rfl,BW.out⟩
  have HE:Hid (Z=7):=dD<|by
   have hf7:zhg m=7:=by rw[hfit,if_pos (.inr c2)]
   rw[<-HZ2.out,zU,hf7];rfl
  have c1e:((vsb.n:Int) !=(vs.n:Int))=false:=by simp[c1]
  have c1f:(vsb.n != vs.n)=false:=by simp[c1]
  have c2e:((dbn:Int) != m.cnt)=true:=by simp;omega
  clear c1 c2 hfit
  go_enter func112,ntmps112
  go_upto_region 1 with fail;rw[HW0.out];have x2:=X0.out.c 2 rfl;have x3:=X0.out.c 3 rfl;have x5:=X0.out.c 5 rfl;have x8:=X0.out.c 8 rfl;go_wp2;go_ret;exact⟨by rw[HE.out];rfl,HG0.out⟩
 have HE:Hid (Z=7):=dD<|by
  have hf7:zhg m=7:=by rw[hfit,if_pos (.inl (fun e=>c1 e.symm))]
  rw[<-HZ2.out,zU,hf7];rfl
 have c1e:((vsb.n:Int) !=(vs.n:Int))=true:=by simp;omega
 have c1f:(vsb.n != vs.n)=true:=by simp[c1]
 clear c1 hfit
 go_enter func112,ntmps112
 go_upto_region 1 with fail;rw[HW0.out];have x2:=X0.out.c 2 rfl;have x3:=X0.out.c 3 rfl;go_wp2;go_ret;exact⟨by rw[HE.out];rfl,HG0.out⟩
theorem zjK (hca:zaT m none m.ca=0) (k:Nat):frE m k=if(zV m k).r≠qr m m.sp.length [] zcV (1,(k:Int))\/(0<=(zV m k).f/\¬Q4 m.ca ((zV m k).f,(zV m k).x)=some (k:Int))then 7 else 0:=by
 unfold frE;rw[zfQ m zcV (k:Int) (by decide:(1:Int)≠0),if_pos rfl]
 have:=zgK hca k
 by_cases h:qm m.ca k=0
 ·have h2:¬Q4 m.ca ((zV m k).f,(zV m k).x)=some (k:Int):=fun e=>(this.1 e) h
  simp only[h,h2,not_false_iff,and_true]
 have h2:Q4 m.ca ((zV m k).f,(zV m k).x)=some (k:Int):=this.2 h;simp only[h,h2,not_true,and_false]
theorem zhz (m:Ma) (k:Nat):zeU m k=if m.sl.getD k 0≠qr m m.sp.length [] zcV (2,(k:Int))then 7 else 0:=by
 unfold zeU;have h:=zfQ m zcV (k:Int) (by decide:(2:Int)≠0)
 have h2:¬(2:Int)=1:=by decide
 rw[if_neg h2,Nat.add_zero]at h;rw[h]
theorem za7 (V:MaV) (m:Ma) (w:World) (hm:zD w V m) (hca:zaT m none m.ca=0) (hsp4:m.sp.length<=4) (htb:∀s∈m.sp,tbW s.tb=0):
  Calls prog 116 #[.agg #[.slice V.f.a V.f.n V.f.c,.int .i64 m.hand,.slice V.s.a V.s.n V.s.c,.slice V.sb.a V.sb.n V.sb.c,.slice V.sq.a V.sq.n V.sq.c,.slice V.db.a V.db.n V.db.c,.slice V.dq.a V.dq.n V.dq.c,.slice V.fl.a V.fl.n V.fl.c,.int .i64 m.cnt,.slice V.ca.a V.ca.n V.ca.c,.slice V.sp.a V.sp.n V.sp.c]] w fun e w'=>e= .returned (.int .i64 (QT m))/\zc w w':=by
 have HWI:Hid (∀W,zc w W->Calls prog 84 #[.agg #[.slice V.f.a V.f.n V.f.c,.int .i64 m.hand,.slice V.s.a V.s.n V.s.c,.slice V.sb.a V.sb.n V.sb.c,.slice V.sq.a V.sq.n V.sq.c,.slice V.db.a V.db.n V.db.c,.slice V.dq.a V.dq.n V.dq.c,.slice V.fl.a V.fl.n V.fl.c,.int .i64 m.cnt,.slice V.ca.a V.ca.n V.ca.c,.slice V.sp.a V.sp.n V.sp.c]] W fun e w'=>∃B,e= .returned (.agg #[.slice V.f.a V.f.n V.f.c,.int .i64 m.hand,.slice V.s.a V.s.n V.s.c,.slice V.sb.a V.sb.n V.sb.c,.slice V.sq.a V.sq.n V.sq.c,.slice V.db.a V.db.n V.db.c,.slice V.dq.a V.dq.n V.dq.c,.slice V.fl.a V.fl.n V.fl.c,.int .i64 m.cnt,.slice V.ca.a V.ca.n V.ca.c,.slice V.sp.a V.sp.n V.sp.c,.map (some B)])/\Z7 plK w' B (Q4 m.ca)/\zc W w'):=dD<|fun W hW=>zcS V m W (hm.grew hW)
 have HHO:Hid (∀W,zc w W->Calls prog 161 #[.agg #[.slice V.f.a V.f.n V.f.c,.int .i64 m.hand,.slice V.s.a V.s.n V.s.c,.slice V.sb.a V.sb.n V.sb.c,.slice V.sq.a V.sq.n V.sq.c,.slice V.db.a V.db.n V.db.c,.slice V.dq.a V.dq.n V.dq.c,.slice V.fl.a V.fl.n V.fl.c,.int .i64 m.cnt,.slice V.ca.a V.ca.n V.ca.c,.slice V.sp.a V.sp.n V.sp.c]] W fun e w'=>∃B,e= .returned (.map (some B))/\QG enK w' B (qr m m.sp.length [] zcV)/\zc W w'):=dD<|fun W hW=>zfb V m W (hm.grew hW) hsp4 htb
 have HHC:Hid (∀(B k:Nat) W,zc w W->k<m.fs.length->Z7 plK W B (Q4 m.ca)->Calls prog 162 #[.agg #[.slice V.f.a V.f.n V.f.c,.int .i64 m.hand,.slice V.s.a V.s.n V.s.c,.slice V.sb.a V.sb.n V.sb.c,.slice V.sq.a V.sq.n V.sq.c,.slice V.db.a V.db.n V.db.c,.slice V.dq.a V.dq.n V.dq.c,.slice V.fl.a V.fl.n V.fl.c,.int .i64 m.cnt,.slice V.ca.a V.ca.n V.ca.c,.slice V.sp.a V.sp.n V.sp.c,.map (some B)],.int .i64 (k:Int)] W fun e w'=>e= .returned (.bool (decide (Q4 m.ca ((zV m k).f,(zV m k).x)=some (k:Int))))/\zc W w'):=dD<|fun B k W hW hk hM=>zdh V m B k (Q4 m.ca) W (hm.grew hW) hk hM
 obtain⟨⟨fa,fn,fc⟩,⟨sa,sn,sc⟩,vsb,vsq,vdb,vdq,vfl,vca,vsp⟩:=V;dsimp only at HWI HHO HHC⊢;obtain⟨n1,n2,-⟩:=hm.ns;dsimp only at n1 n2;have HFR:Hid (zae w fa m.fs):=hm.frs;have HSL:Hid (zcD w sa m.sl):=hm.sls;have HN1:Hid (m.fs.length=fn):=n1.symm;have HN2:Hid (m.sl.length=sn):=n2.symm;have hb1:fn<=9223372036854775807:=by have:=hm.fs.short;omega
 have hb2:sn<=9223372036854775807:=by have:=hm.sl.short;omega
 have HFE:Hid (∀k:Nat,frE m k=if(zV m k).r≠(qr m m.sp.length [] zcV) (1,(k:Int))\/(0<=(zV m k).f/\¬Q4 m.ca ((zV m k).f,(zV m k).x)=some (k:Int))then 7 else 0):=dD<|fun k=>zjK hca k
 clear hm hca hsp4 htb n1 n2;obtain⟨Z,HZ⟩:∃Z,Hid (QT m=Z):=⟨_,rfl⟩;rw[HZ.out];have HZ1:Hid (∀k:Nat,k<m.fs.length->(∀j:Nat,j<k->frE m j=0)->frE m k=7->Z=7):=dD<|fun k hk h1 h2=>by
  have h3:=zaI hk h1 (by rw[h2];decide)
  rw[<-HZ.out];unfold QT;rw[h3,h2,if_neg (by decide)]
 have HZ2:Hid ((∀j:Nat,j<m.fs.length->frE m j=0)->∀k:Nat,k<m.sl.length->(∀j:Nat,j<k->zeU m j=0)->zeU m k=7->Z=7):=dD<|fun h0 k hk h1 h2=>by
  have h3:=zaI hk h1 (by rw[h2];decide)
  rw[<-HZ.out];unfold QT;rw[Zi h0,if_pos rfl,h3,h2]
 have HZ3:Hid ((∀j:Nat,j<m.fs.length->frE m j=0)->(∀j:Nat,j<m.sl.length->zeU m j=0)->Z=0):=dD<|fun h0 h1=>by
  rw[<-HZ.out];unfold QT;rw[Zi h0,if_pos rfl,Zi h1]
 obtain⟨W0,hW0⟩:∃W0,w.alloc (.cells #[.slice fa fn fc,.int .i64 m.hand,.slice sa sn sc,.slice vsb.a vsb.n vsb.c,.slice vsq.a vsq.n vsq.c,.slice vdb.a vdb.n vdb.c,.slice vdq.a vdq.n vdq.c,.slice vfl.a vfl.n vfl.c,.int .i64 m.cnt,.slice vca.a vca.n vca.c,.slice vsp.a vsp.n vsp.c] 41)=W0:=⟨_,rfl⟩;have HG0:=gA hW0
 have X0:=xA hW0
 have HW0:Hid (_=W0):=hW0;clear hW0
 go_enter func116,ntmps116
 go_upto_region 1 with fail;rw[HW0.out];have hx0:=X0.out.gw 0 rfl
 have hx1:=X0.out.gw 1 rfl
 have hx2:=X0.out.gw 2 rfl
 have hx3:=X0.out.gw 3 rfl
 have hx4:=X0.out.gw 4 rfl
 have hx5:=X0.out.gw 5 rfl
 have hx6:=X0.out.gw 6 rfl
 have hx7:=X0.out.gw 7 rfl
 have hx8:=X0.out.gw 8 rfl
 have hx9:=X0.out.gw 9 rfl
 have hx10:=X0.out.gw 10 rfl
 have hne:Nonempty (zE W0):=⟨⟨_,zc.refl _⟩⟩;refine Zy 5 [(1,⟨fun v=>∃B,v= .agg #[.slice fa fn fc,.int .i64 m.hand,.slice sa sn sc,.slice vsb.a vsb.n vsb.c,.slice vsq.a vsq.n vsq.c,.slice vdb.a vdb.n vdb.c,.slice vdq.a vdq.n vdq.c,.slice vfl.a vfl.n vfl.c,.int .i64 m.cnt,.slice vca.a vca.n vca.c,.slice vsp.a vsp.n vsp.c,.map (some B)],fun v w'=>∃B,v= .agg #[.slice fa fn fc,.int .i64 m.hand,.slice sa sn sc,.slice vsb.a vsb.n vsb.c,.slice vsq.a vsq.n vsq.c,.slice vdb.a vdb.n vdb.c,.slice vdq.a vdq.n vdq.c,.slice vfl.a vfl.n vfl.c,.int .i64 m.cnt,.slice vca.a vca.n vca.c,.slice vsp.a vsp.n vsp.c,.map (some B)]/\Z7 plK w' B (Q4 m.ca)⟩),(3,⟨fun v=>∃B,v= .map (some B),fun v w'=>∃B,v= .map (some B)/\QG enK w' B (qr m m.sp.length [] zcV)⟩),(4,⟨fun v=>∃p,v= .pointer (some ⟨p,0,none⟩),fun v w'=>∃p,v= .pointer (some ⟨p,0,none⟩)/\Box w' p [.slice none 0 0,.int .i64 0,.slice none 0 0,.slice none 0 0,.slice none 0 0,.slice none 0 0,.slice none 0 0,.slice none 0 0,.int .i64 0,.slice none 0 0,.slice none 0 0,.map none]/\w.heap.size<=p⟩)] qn (by kernel_rfl) rfl rfl (by decide) ?hS ?hp ?_
 case hS=>
  intro x hx;simp only[mC,nM,or_false]at hx
  rcases hx with rfl|rfl|rfl
  ·exact⟨_,0,rfl⟩
  ·exact⟨_,0,rfl⟩
  exact⟨_,0,rfl⟩
 case hp=>
  intro x hx;simp only[mC,nM,or_false]at hx
  rcases hx with rfl|rfl|rfl
  ·exact fun _ _ _ hg h=>by obtain⟨B,h1,h2⟩:=h;exact⟨B,h1,h2.grew hg⟩
  ·exact fun _ _ _ hg h=>by obtain⟨B,h1,h2⟩:=h;exact⟨B,h1,h2.grew hg⟩
  exact fun _ _ _ hg h=>by obtain⟨p,h1,h2,h3⟩:=h;exact⟨p,h1,h2.grew hg,h3⟩
 simp only[List.take,List.drop];iterate 1 (refine zn rfl rfl rfl (fun K hK=>?_);go_big_quiet_op;refine hK _ ?_;clear hK)
 refine zQ rfl rfl (fun w' hg hF=>?_) (fun v1 hv=>?_)
 ·refine zK.call [.agg #[.slice fa fn fc,.int .i64 m.hand,.slice sa sn sc,.slice vsb.a vsb.n vsb.c,.slice vsq.a vsq.n vsq.c,.slice vdb.a vdb.n vdb.c,.slice vdq.a vdq.n vdq.c,.slice vfl.a vfl.n vfl.c,.int .i64 m.cnt,.slice vca.a vca.n vca.c,.slice vsp.a vsp.n vsp.c]] rfl func84 rfl rfl rfl ?_;refine(HWI.out w' (HG0.out.trans hg)).mono ?_;rintro e w'' ⟨B,rfl,hM,hg2⟩;exact⟨_,rfl,hg2,⟨B,rfl⟩,B,rfl,hM⟩
 obtain⟨B1,rfl⟩:=hv;simp only[Act.put,sB,sS,sZ];iterate 1 (refine zn rfl rfl rfl (fun K hK=>?_);go_big_quiet_op;refine hK _ ?_;clear hK)
 refine zQ rfl rfl (fun w' hg hF=>?_) (fun v1 hv=>?_)
 ·refine zK.call [.agg #[.slice fa fn fc,.int .i64 m.hand,.slice sa sn sc,.slice vsb.a vsb.n vsb.c,.slice vsq.a vsq.n vsq.c,.slice vdb.a vdb.n vdb.c,.slice vdq.a vdq.n vdq.c,.slice vfl.a vfl.n vfl.c,.int .i64 m.cnt,.slice vca.a vca.n vca.c,.slice vsp.a vsp.n vsp.c]] rfl func161 rfl rfl rfl ?_;refine(HHO.out w' (HG0.out.trans hg)).mono ?_;rintro e w'' ⟨B,rfl,hM,hg2⟩;exact⟨_,rfl,hg2,⟨B,rfl⟩,B,rfl,hM⟩
 obtain⟨B2,rfl⟩:=hv;simp only[Act.put,sB,sS,sZ];refine zQ rfl rfl (fun w' hg hF=>?_) (fun v1 hv=>?_)
 ·have hnew:Box (w'.alloc (.cells #[.slice none 0 0,.int .i64 0,.slice none 0 0,.slice none 0 0,.slice none 0 0,.slice none 0 0,.slice none 0 0,.slice none 0 0,.int .i64 0,.slice none 0 0,.slice none 0 0,.map none] 154)) w'.heap.size [.slice none 0 0,.int .i64 0,.slice none 0 0,.slice none 0 0,.slice none 0 0,.slice none 0 0,.slice none 0 0,.slice none 0 0,.int .i64 0,.slice none 0 0,.slice none 0 0,.map none]:=Box.top _ _ _ rfl;have hle:w.heap.size<=w'.heap.size:=bS (HG0.out.trans hg);clear hx0 hx1 hx2 hx3 hx4 hx5 hx6 hx7 hx8 hx9 hx10 hne;refine zK.step (v:= .pointer (some ⟨w'.heap.size,0,none⟩)) (w':=w'.alloc (.cells #[.slice none 0 0,.int .i64 0,.slice none 0 0,.slice none 0 0,.slice none 0 0,.slice none 0 0,.slice none 0 0,.slice none 0 0,.int .i64 0,.slice none 0 0,.slice none 0 0,.map none] 154)) (by simp only[execOp];go_simp) ⟨za _ _,⟨_,rfl⟩,_,rfl,hnew,hle⟩
 obtain⟨p3,rfl⟩:=hv;simp only[Act.put,sB,sS,sZ];refine qT fun W3 hg3 hF=>?_
 obtain⟨B1',he1,hM1⟩:∃B,(Value.agg #[.slice fa fn fc,.int .i64 m.hand,.slice sa sn sc,.slice vsb.a vsb.n vsb.c,.slice vsq.a vsq.n vsq.c,.slice vdb.a vdb.n vdb.c,.slice vdq.a vdq.n vdq.c,.slice vfl.a vfl.n vfl.c,.int .i64 m.cnt,.slice vca.a vca.n vca.c,.slice vsp.a vsp.n vsp.c,.map (some B1)])= .agg #[.slice fa fn fc,.int .i64 m.hand,.slice sa sn sc,.slice vsb.a vsb.n vsb.c,.slice vsq.a vsq.n vsq.c,.slice vdb.a vdb.n vdb.c,.slice vdq.a vdq.n vdq.c,.slice vfl.a vfl.n vfl.c,.int .i64 m.cnt,.slice vca.a vca.n vca.c,.slice vsp.a vsp.n vsp.c,.map (some B)]/\Z7 plK W3 B (Q4 m.ca):=hF 1;obtain⟨B2',he2,hM2⟩:∃B,(Value.map (some B2))= .map (some B)/\QG enK W3 B (qr m m.sp.length [] zcV):=hF 3;obtain⟨p3',he3,hB3,hle3⟩:∃p,(Value.pointer (some ⟨p3,0,none⟩))= .pointer (some ⟨p,0,none⟩)/\Box W3 p [.slice none 0 0,.int .i64 0,.slice none 0 0,.slice none 0 0,.slice none 0 0,.slice none 0 0,.slice none 0 0,.slice none 0 0,.int .i64 0,.slice none 0 0,.slice none 0 0,.map none]/\w.heap.size<=p:=hF 4;have e1:B1'=B1:=by simp at he1;exact he1.symm
 have e2:B2'=B2:=by simp at he2;exact he2.symm
 have e3:p3'=p3:=by simp at he3;exact he3.symm
 subst e1 e2 e3;have M1:Hid (Z7 plK W3 B1' (Q4 m.ca)):=hM1;have M2:Hid (QG enK W3 B2' (qr m m.sp.length [] zcV)):=hM2;have Y3:Hid (Box W3 p3' [.slice none 0 0,.int .i64 0,.slice none 0 0,.slice none 0 0,.slice none 0 0,.slice none 0 0,.slice none 0 0,.slice none 0 0,.int .i64 0,.slice none 0 0,.slice none 0 0,.map none]):=hB3;have HL3:Hid (w.heap.size<=p3'):=hle3;have HG3:=dD (HG0.out.trans hg3);have X3:=dD (X0.out.grew hg3);clear he1 he2 he3 hM1 hM2 hB3 hle3 hg3 hF hx0 hx1 hx2 hx3 hx4 hx5 hx6 hx7 hx8 hx9 hx10 hne;have HXP:Hid (w.heap.size≠p3'):=show _≠_ from fun e=>by
  obtain⟨t1,h1⟩:=X3.out;obtain⟨t2,h2⟩:=Y3.out;rw[<-e,h1]at h2
  simp at h2
 go_wp2_with (refine zX rfl 154 (.tmp 3) (.tmp 10) rfl p3' rfl [.slice fa fn fc,.int .i64 m.hand,.slice sa sn sc,.slice vsb.a vsb.n vsb.c,.slice vsq.a vsq.n vsq.c,.slice vdb.a vdb.n vdb.c,.slice vdq.a vdq.n vdq.c,.slice vfl.a vfl.n vfl.c,.int .i64 m.cnt,.slice vca.a vca.n vca.c,.slice vsp.a vsp.n vsp.c,.map (some B1')] rfl Y3.out rfl (by kernel_rfl) (fun v hv=>by
    simp only[mC,nM,or_false]at hv
    rcases hv with rfl|rfl|rfl|rfl|rfl|rfl|rfl|rfl|rfl|rfl|rfl|rfl <;> rfl) ?_)
 intro W4 hb4 hg4 _;have Y4:Hid (Box W4 p3' [.slice fa fn fc,.int .i64 m.hand,.slice sa sn sc,.slice vsb.a vsb.n vsb.c,.slice vsq.a vsq.n vsq.c,.slice vdb.a vdb.n vdb.c,.slice vdq.a vdq.n vdq.c,.slice vfl.a vfl.n vfl.c,.int .i64 m.cnt,.slice vca.a vca.n vca.c,.slice vsp.a vsp.n vsp.c,.map (some B1')]):=hb4;have X4:Hid (Box W4 w.heap.size [.slice fa fn fc,.int .i64 m.hand,.slice sa sn sc,.slice vsb.a vsb.n vsb.c,.slice vsq.a vsq.n vsq.c,.slice vdb.a vdb.n vdb.c,.slice vdq.a vdq.n vdq.c,.slice vfl.a vfl.n vfl.c,.int .i64 m.cnt,.slice vca.a vca.n vca.c,.slice vsp.a vsp.n vsp.c]):=X3.out.grown hg4 HXP.out;have N1:Hid (Z7 plK W4 B1' (Q4 m.ca)):=M1.out.kept hg4 (fun e=>by cases e;exact Y3.out.ne_map M1.out rfl)
 have N2:Hid (QG enK W4 B2' (qr m m.sp.length [] zcV)):=dD<|by
  obtain⟨g,k1,k2⟩:=M2.out;exact⟨g,k1.kept hg4 (fun e=>by cases e;exact Y3.out.ne_map k1 rfl),k2⟩
 have HG4:Hid (zc w W4):=dD<|ze HG3.out hg4 HL3.out
 clear hb4 hg4;have x0:=X4.out.c 0 rfl;go_wp2;clear x0
 go_loopg [17] fn (fun gg s17 wr=>∃kk:Nat,kk<=fn/\fn - kk<=gg/\s17= .int .i64 kk/\Hid (zc W4 wr)/\Hid (∀j:Nat,j<kk->frE m j=0))
 case atStart=>exact⟨0,nZ _,by omega,rfl,zc.refl _,fun j hj=>absurd hj (nL _)⟩
 obtain⟨kk,hkk,hgg,rfl,BW,OW⟩:=hrel
 by_cases hlt:kk<fn
 ·have hltz:(kk:Int)< (fn:Int):=by omega
  have HKL:Hid (kk<m.fs.length):=dD<|by rw[HN1.out];exact hlt
  obtain⟨q,HQ⟩:∃q,Hid (m.fs[kk]? =some q):=⟨_,gE HKL.out⟩;have HFQ:Hid (zV m (kk:Int)=q):=dD<|by unfold zV;rw[tN,gD,HQ.out];rfl
  obtain⟨ad,rfl,hl⟩:=HFR.out kk q HQ.out;obtain⟨d0,d1,d2,d3,d4,d5,d6,d7,d8,d9,d10,d11,d12⟩:=hl wr (HG4.out.trans BW.out);clear hl;go_upto_region 5 with fail;obtain⟨W5,hW5⟩:∃W5,wr.alloc (.cells #[.int .u8 q.p.b0,.int .u8 q.p.b1,.int .u8 q.p.b2,.int .u8 q.p.b3,.int .u8 q.p.b4,.int .u8 q.p.b5,.int .u8 q.p.b6,.int .u8 q.p.b7,.int .i64 q.r,.bool q.u,.bool q.d,.int .i64 q.f,.int .i64 q.x] 53)=W5:=⟨_,rfl⟩;have HG5:=gT hW5 BW
  have HGw5:=dD (HG4.out.trans HG5.out);have F5:=xA hW5
  have Y5:=dD (Y4.out.grew HG5.out);rw[hW5];clear hW5 d0 d1 d2 d3 d4 d5 d6 d7 d8 d9 d10 d11 d12;obtain⟨pf,HPF⟩:∃pf,Hid (wr.heap.size=pf):=⟨_,rfl⟩;rw[HPF.out]at F5⊢;obtain⟨h,HHK⟩:∃h,Hid ((qr m m.sp.length [] zcV) (1,(kk:Int))=h):=⟨_,rfl⟩;have hlk:∀y:zE W5,(Instr.lookup 226 (.map (some B2')) (.agg #[.int .i64 1,.int .i64 (kk:Int),.bool false]) false).run prog y.world= .ok (.int .i64 h) y.world:=fun y=>by
   have:=(N2.out.grew (HG5.out.trans y.grew)).look (K:=enK) underlying226 (zl5 _) (1,(kk:Int));rw[HHK.out]at this;exact this
  have hf8:=F5.out.gw 8 rfl
  have hf11:=F5.out.gw 11 rfl
  have hy0:=Y5.out.gw 0 rfl
  have hy1:=Y5.out.gw 1 rfl
  have hy2:=Y5.out.gw 2 rfl
  have hy3:=Y5.out.gw 3 rfl
  have hy4:=Y5.out.gw 4 rfl
  have hy5:=Y5.out.gw 5 rfl
  have hy6:=Y5.out.gw 6 rfl
  have hy7:=Y5.out.gw 7 rfl
  have hy8:=Y5.out.gw 8 rfl
  have hy9:=Y5.out.gw 9 rfl
  have hy10:=Y5.out.gw 10 rfl
  have hy11:=Y5.out.gw 11 rfl
  have hne:Nonempty (zE W5):=⟨⟨_,zc.refl _⟩⟩;have HFK:=HFE.out kk;rw[HFQ.out,HHK.out]at HFK
  by_cases hr:q.r=h
  ·have hre:(q.r != h)=false:=by simp[hr]
   by_cases hf0:0<=q.f
   ·have hf0d:decide (0<=q.f)=true:=by simpa using hf0
    obtain⟨U,HU⟩:∃U,Hid (decide (Q4 m.ca ((zV m (kk:Int)).f,(zV m (kk:Int)).x)=some (kk:Int))=U):=⟨_,rfl⟩;have HUF:Hid (frE m kk=if U=true then 0 else 7):=dD<|by
     have h1:=HU.out;rw[HFQ.out]at h1;rw[HFK,<-h1]
     by_cases hc:Q4 m.ca (q.f,q.x)=some (kk:Int)
     ·rw[if_neg (by simp[hr,hc]),if_pos (by simpa using hc)]
     rw[if_pos (.inr ⟨hf0,hc⟩),if_neg (by simpa using hc)]
    have HCC:Hid (∀W,zc W4 W->Calls prog 162 #[.agg #[.slice (some ad) fn fc,.int .i64 m.hand,.slice sa sn sc,.slice vsb.a vsb.n vsb.c,.slice vsq.a vsq.n vsq.c,.slice vdb.a vdb.n vdb.c,.slice vdq.a vdq.n vdq.c,.slice vfl.a vfl.n vfl.c,.int .i64 m.cnt,.slice vca.a vca.n vca.c,.slice vsp.a vsp.n vsp.c,.map (some B1')],.int .i64 (kk:Int)] W fun e w'=>e= .returned (.bool U)/\zc W w'):=dD<|fun W hW=>by
     have h1:=HHC.out B1' kk W (HG4.out.trans hW) HKL.out (N1.out.grew hW);rw[HU.out]at h1;exact h1
    clear hr hf0;refine Zl [(14,⟨fun v=>v= .bool U,fun v w'=>True⟩)] qn (by kernel_rfl) ?hS ?hp ?_
    case hS=>
     intro x hx;simp only[mC,nM,or_false]at hx;subst hx;exact⟨_,rfl⟩
    case hp=>
     intro x hx;simp only[mC,nM,or_false]at hx;subst hx;exact fun _ _ _ _ h=>h
    iterate 14 (refine zn rfl rfl rfl (fun K hK=>?_);go_big_quiet_op;refine hK _ ?_;clear hK)
    refine zQ rfl rfl (fun w' hg hF=>?_) (fun v1 hv=>?_)
    ·refine zK.call [.agg #[.slice (some ad) fn fc,.int .i64 m.hand,.slice sa sn sc,.slice vsb.a vsb.n vsb.c,.slice vsq.a vsq.n vsq.c,.slice vdb.a vdb.n vdb.c,.slice vdq.a vdq.n vdq.c,.slice vfl.a vfl.n vfl.c,.int .i64 m.cnt,.slice vca.a vca.n vca.c,.slice vsp.a vsp.n vsp.c,.map (some B1')],.int .i64 (kk:Int)] rfl func162 rfl rfl rfl ?_;refine(HCC.out w' (HG5.out.trans hg)).mono ?_;rintro e w'' ⟨rfl,hg3⟩;exact⟨_,rfl,hg3,rfl,trivial⟩
    subst hv;simp only[Act.put,sB,sS,sZ];iterate 3 (refine zn rfl rfl rfl (fun K hK=>?_);go_big_quiet_op;refine hK _ ?_;clear hK)
    refine qT fun W6 hg6 hF=>?_
    have HG6:=dD (HG5.out.trans hg6);clear hg6 hF hlk hf8 hf11 hy0 hy1 hy2 hy3 hy4 hy5 hy6 hy7 hy8 hy9 hy10 hy11 hne
    cases U with
    | true=>
     have OW':Hid (∀j:Nat,j<kk+1->frE m j=0):=dD<|fun j hj=>by
      by_cases e:j=kk
      ·rw[e,HUF.out,if_pos rfl]
      exact OW.out j (by omega)
     go_wp2
     go_roundg (fn -(kk+1))
     case measure=>omega
     exact⟨kk+1,by omega,by omega,by go_num,HG6.out,OW'.out⟩
    | false=>
     have HZE:Hid (Z=7):=HZ1.out kk HKL.out OW.out (by rw[HUF.out,if_neg (by decide)])
     have HGW:=dD (HG4.out.trans HG6.out);go_wp2;go_ret;exact⟨by rw[HZE.out];rfl,HGW.out⟩
   have hf0d:decide (0<=q.f)=false:=by simpa using hf0
   have HFZ:Hid (frE m kk=0):=dD<|by rw[HFK,if_neg (by simp[hr,hf0])]
   have OW':Hid (∀j:Nat,j<kk+1->frE m j=0):=dD<|fun j hj=>by
    by_cases e:j=kk
    ·rw[e];exact HFZ.out
    exact OW.out j (by omega)
   clear hr hf0;refine Zl [] qn (by kernel_rfl) (by simp) (by simp) ?_
   iterate 12 (refine zn rfl rfl rfl (fun K hK=>?_);go_big_quiet_op;refine hK _ ?_;clear hK)
   refine qH ?_ ?_
   ·kernel_rfl
   simp only[Act.put,sB,sS,sZ];refine qH ?_ ?_
   ·kernel_rfl
   simp only[Act.put,sB,sS,sZ];refine qH ?_ ?_
   ·kernel_rfl
   simp only[Act.put,sB,sS,sZ];refine qH ?_ ?_
   ·kernel_rfl
   simp only[Act.put,sB,sS,sZ];iterate 2 (refine zn rfl rfl rfl (fun K hK=>?_);go_big_quiet_op;refine hK _ ?_;clear hK)
   refine qT fun W6 hg6 hF=>?_
   have HG6:=dD (HG5.out.trans hg6);clear hg6 hF hlk hf8 hf11 hy0 hy1 hy2 hy3 hy4 hy5 hy6 hy7 hy8 hy9 hy10 hy11 hne;go_wp2
   go_roundg (fn -(kk+1))
   case measure=>omega
   exact⟨kk+1,by omega,by omega,by go_num,HG6.out,OW'.out⟩
  have hre:(q.r != h)=true:=by simp[hr]
  have HZE:Hid (Z=7):=HZ1.out kk HKL.out OW.out (by rw[HFK,if_pos (.inl hr)])
  clear hr;refine Zl [] qn (by kernel_rfl) (by simp) (by simp) ?_
  iterate 8 (refine zn rfl rfl rfl (fun K hK=>?_);go_big_quiet_op;refine hK _ ?_;clear hK)
  refine qH ?_ ?_
  ·kernel_rfl
  simp only[Act.put,sB,sS,sZ];refine qH ?_ ?_
  ·kernel_rfl
  simp only[Act.put,sB,sS,sZ];refine qH ?_ ?_
  ·kernel_rfl
  simp only[Act.put,sB,sS,sZ];refine qH ?_ ?_
  ·kernel_rfl
  simp only[Act.put,sB,sS,sZ];refine qH ?_ ?_
  ·kernel_rfl
  simp only[Act.put,sB,sS,sZ];refine qH ?_ ?_
  ·kernel_rfl
  simp only[Act.put,sB,sS,sZ];refine qH ?_ ?_
  ·kernel_rfl
  simp only[Act.put,sB,sS,sZ];refine qH ?_ ?_
  ·kernel_rfl
  simp only[Act.put,sB,sS,sZ];refine qH ?_ ?_
  ·kernel_rfl
  simp only[Act.put,sB,sS,sZ];iterate 1 (refine zn rfl rfl rfl (fun K hK=>?_);go_big_quiet_op;refine hK _ ?_;clear hK)
  refine qT fun W6 hg6 hF=>?_
  have HG6:=dD (HGw5.out.trans hg6);clear hg6 hF hlk hf8 hf11 hy0 hy1 hy2 hy3 hy4 hy5 hy6 hy7 hy8 hy9 hy10 hy11 hne;go_wp2;go_ret;exact⟨by rw[HZE.out];rfl,HG6.out⟩
 have hltz:¬(kk:Int)< (fn:Int):=by omega
 have:kk=fn:=by omega
 subst this;have OA:Hid (∀j:Nat,j<m.fs.length->frE m j=0):=dD<|fun j hj=>OW.out j (by rw[<-HN1.out];exact hj)
 have x2:=(X4.out.grew BW.out).c 2 rfl;go_wp2;clear x2;have HBW:Hid (zc W4 wr):=BW
 go_loopg [44] sn (fun gg s44 wr=>∃i:Nat,i<=sn/\sn - i<=gg/\s44= .int .i64 i/\Hid (zc W4 wr)/\Hid (∀j:Nat,j<i->zeU m j=0))
 case atStart=>exact⟨0,nZ _,by omega,rfl,HBW.out,fun j hj=>absurd hj (nL _)⟩
 obtain⟨i,hi,hg2,rfl,BW,OW⟩:=hrel
 by_cases hlt2:i<sn
 ·have hltz2:(i:Int)< (sn:Int):=by omega
  have HKL:Hid (i<m.sl.length):=dD<|by rw[HN2.out];exact hlt2
  obtain⟨z,HZI⟩:∃z,Hid (m.sl[i]? =some z):=⟨_,gE HKL.out⟩;obtain⟨ad,rfl,hl⟩:=HSL.out i z HZI.out;have d0:=hl wr (HG4.out.trans BW.out);clear hl;obtain⟨h,HHK⟩:∃h,Hid ((qr m m.sp.length [] zcV) (2,(i:Int))=h):=⟨_,rfl⟩;have hlk:(Instr.lookup 226 (.map (some B2')) (.agg #[.int .i64 2,.int .i64 (i:Int),.bool false]) false).run prog wr= .ok (.int .i64 h) wr:=by
   have:=(N2.out.grew BW.out).look (K:=enK) underlying226 (zl5 _) (2,(i:Int));rw[HHK.out]at this;exact this
  have HSE:Hid (zeU m i=if z≠h then 7 else 0):=dD<|by rw[zhz,gD,HZI.out,HHK.out];rfl
  by_cases hr:z=h
  ·have hre:(z != h)=false:=by simp[hr]
   have OW':Hid (∀j:Nat,j<i+1->zeU m j=0):=dD<|fun j hj=>by
    by_cases e:j=i
    ·rw[e,HSE.out,if_neg (by simp[hr])]
    exact OW.out j (by omega)
   clear hr;go_wp2
   go_roundg (sn -(i+1))
   case measure=>omega
   exact⟨i+1,by omega,by omega,by go_num,BW.out,OW'.out⟩
  have hre:(z != h)=true:=by simp[hr]
  have HZE:Hid (Z=7):=HZ2.out OA.out i HKL.out OW.out (by rw[HSE.out,if_pos hr])
  have HGW:=dD (HG4.out.trans BW.out);clear hr;go_wp2;go_ret;exact⟨by rw[HZE.out];rfl,HGW.out⟩
 have hltz2:¬(i:Int)< (sn:Int):=by omega
 have:i=sn:=by omega
 subst this;have HZE:Hid (Z=0):=HZ3.out OA.out fun j hj=>OW.out j (by rw[<-HN2.out];exact hj)
 have HGW:=dD (HG4.out.trans BW.out);go_wp2;go_ret;exact⟨by rw[HZE.out];rfl,HGW.out⟩
def chk:List Nat:=[111,112,113,114,115,116]
def ziO (m:Ma):List Int:=[zx (Qa m),zx (QS m),Zz m,zdA m,zbe m,QT m]
theorem zdz (h:Zz m=0):m.sp.length<=4:=by
 unfold Zz at h
 split at h
 ·cases h
 omega
theorem zkR (V:MaV) (m:Ma) (w:World) (hm:zD w V m) (k:Nat) (hb:∀j,j<k->(ziO m)[j]?.getD 0=0) (f:Nat) (hf:chk[k]? =some f) (e:Int) (he:(ziO m)[k]? =some e):
  Calls prog f #[.agg #[.slice V.f.a V.f.n V.f.c,.int .i64 m.hand,.slice V.s.a V.s.n V.s.c,.slice V.sb.a V.sb.n V.sb.c,.slice V.sq.a V.sq.n V.sq.c,.slice V.db.a V.db.n V.db.c,.slice V.dq.a V.dq.n V.dq.c,.slice V.fl.a V.fl.n V.fl.c,.int .i64 m.cnt,.slice V.ca.a V.ca.n V.ca.c,.slice V.sp.a V.sp.n V.sp.c]] w fun r w'=>r= .returned (.int .i64 e)/\zc w w':=by
 have h1:1<=k->zeB m:=fun h=>zlf.1 (hb 0 (by omega))
 have h3:3<=k->zdo m/\m.sp.length<=4:=fun h=>⟨zkp (hb 2 (by omega)),zdz (hb 2 (by omega))⟩
 have h4:4<=k->zaT m none m.ca=0:=fun h=>hb 3 (by omega)
 match k,hf,he with
 | 0,hf,he=>cases hf;cases he;exact zbZ V m w hm
 | 1,hf,he=>cases hf;cases he;exact zb2 V m w hm (h1 (by omega))
 | 2,hf,he=>cases hf;cases he;exact za4 V m w hm
 | 3,hf,he=>cases hf;cases he;exact zb3 V m w hm (h1 (by omega))
 | 4,hf,he=>cases hf;cases he;exact za5 V m w hm (h1 (by omega)) (h3 (by omega)).1
 | 5,hf,he=>cases hf;cases he;exact za7 V m w hm (h4 (by omega)) (h3 (by omega)).2 (fun s hs=>((h3 (by omega)).1 s hs).2)
 | k+6,hf,he=>simp[chk]at hf
theorem zg2 (k f:Nat) (hf:chk[k]? =some f):∀args w,(callFunc f args).run prog w= .ok (.enter f args) w:=by
 match k,hf with
 | 0,hf=>cases hf;exact enters_of func111 (by kernel_rfl) rfl
 | 1,hf=>cases hf;exact enters_of func112 (by kernel_rfl) rfl
 | 2,hf=>cases hf;exact enters_of func113 (by kernel_rfl) rfl
 | 3,hf=>cases hf;exact enters_of func114 (by kernel_rfl) rfl
 | 4,hf=>cases hf;exact enters_of func115 (by kernel_rfl) rfl
 | 5,hf=>cases hf;exact enters_of func116 (by kernel_rfl) rfl
 | k+6,hf=>simp[chk]at hf
def fnV (f:Nat):Value:= .func (.func f) #[] #[]
theorem Qf (V:MaV) (m:Ma) (w:World) (hm:zD w V m):
  Calls prog 72 #[.agg #[.slice V.f.a V.f.n V.f.c,.int .i64 m.hand,.slice V.s.a V.s.n V.s.c,.slice V.sb.a V.sb.n V.sb.c,.slice V.sq.a V.sq.n V.sq.c,.slice V.db.a V.db.n V.db.c,.slice V.dq.a V.dq.n V.dq.c,.slice V.fl.a V.fl.n V.fl.c,.int .i64 m.cnt,.slice V.ca.a V.ca.n V.ca.c,.slice V.sp.a V.sp.n V.sp.c]] w fun e w'=>e= .returned (.int .i64 (maW m))/\zc w w':=by
 have HCK:Hid (∀W,zc w W->∀(k:Nat),(∀j,j<k->(ziO m)[j]?.getD 0=0)->∀f,chk[k]? =some f->∀e,(ziO m)[k]? =some e->Calls prog f #[.agg #[.slice V.f.a V.f.n V.f.c,.int .i64 m.hand,.slice V.s.a V.s.n V.s.c,.slice V.sb.a V.sb.n V.sb.c,.slice V.sq.a V.sq.n V.sq.c,.slice V.db.a V.db.n V.db.c,.slice V.dq.a V.dq.n V.dq.c,.slice V.fl.a V.fl.n V.fl.c,.int .i64 m.cnt,.slice V.ca.a V.ca.n V.ca.c,.slice V.sp.a V.sp.n V.sp.c]] W fun r w'=>r= .returned (.int .i64 e)/\zc W w'):=dD<|fun W hW k hb f hf e he=>zkR V m W (hm.grew hW) k hb f hf e he
 clear hm;obtain⟨Z,HZ⟩:∃Z,Hid (maW m=Z):=⟨_,rfl⟩;rw[HZ.out];have HZ2:Hid (zx (ziO m)=Z):=dD<|by rw[<-HZ.out,zku];rfl
 obtain⟨W0,hW0⟩:∃W0,(w.alloc (.cells #[.slice V.f.a V.f.n V.f.c,.int .i64 m.hand,.slice V.s.a V.s.n V.s.c,.slice V.sb.a V.sb.n V.sb.c,.slice V.sq.a V.sq.n V.sq.c,.slice V.db.a V.db.n V.db.c,.slice V.dq.a V.dq.n V.dq.c,.slice V.fl.a V.fl.n V.fl.c,.int .i64 m.cnt,.slice V.ca.a V.ca.n V.ca.c,.slice V.sp.a V.sp.n V.sp.c] 41)).alloc (.cells #[.func (.func 111) #[] #[],.func (.func 112) #[] #[],.func (.func 113) #[] #[],.func (.func 114) #[] #[],.func (.func 115) #[] #[],.func (.func 116) #[] #[]] 51)=W0:=⟨_,rfl⟩;have HG0:=gD2 hW0
 have X0:=x2a hW0
 have Y0:Hid (Box W0 (w.heap.size+1) (chk.map fnV)):=dD<|by rw[<-hW0];exact Box.top _ (chk.map fnV) _ (by simp)
 have HW0:Hid (_=W0):=hW0;clear hW0
 go_enter func72,ntmps72
 go_upto_region 2 with fail;rw[HW0.out];go_wp2
 go_loopg [10] 6 (fun gg s10 wr=>∃kk:Nat,kk<=6/\6 - kk<=gg/\s10= .int .i64 kk/\Hid (zc w wr)/\Hid (Box wr w.heap.size [.slice V.f.a V.f.n V.f.c,.int .i64 m.hand,.slice V.s.a V.s.n V.s.c,.slice V.sb.a V.sb.n V.sb.c,.slice V.sq.a V.sq.n V.sq.c,.slice V.db.a V.db.n V.db.c,.slice V.dq.a V.dq.n V.dq.c,.slice V.fl.a V.fl.n V.fl.c,.int .i64 m.cnt,.slice V.ca.a V.ca.n V.ca.c,.slice V.sp.a V.sp.n V.sp.c])/\Hid (Box wr (w.heap.size+1) (chk.map fnV))/\Hid (∀j,j<kk->(ziO m)[j]?.getD 0=0))
 case atStart=>exact⟨0,nZ _,by omega,rfl,HG0.out,X0.out,Y0.out,fun j hj=>absurd hj (nL _)⟩
 obtain⟨kk,hkk,hgg,rfl,BW,XW,YW,OW⟩:=hrel
 by_cases hlt:kk<6
 ·have hltz:(kk:Int)<6:=by omega
  obtain⟨f,HF⟩:∃f,Hid (chk[kk]? =some f):=⟨_,gE (by simp[chk];exact hlt)⟩
  obtain⟨e,HE⟩:∃e,Hid ((ziO m)[kk]? =some e):=⟨_,gE (by simp[ziO];exact hlt)⟩
  have y0:wr.cell? ⟨w.heap.size+1,kk,none⟩=some (.func (.func f) #[] #[]):=YW.out.c kk (by rw[List.getElem?_map,HF.out];rfl)
  have eg:=zg2 kk f HF.out;have hcall:=HCK.out wr BW.out kk OW.out f HF.out e HE.out;obtain⟨x0,x1,x2,x3,x4,x5,x6,x7,x8,x9,x10⟩:=XW.out.c11;go_wp2_with fail;refine hcall.mono ?_;clear hcall x0 x1 x2 x3 x4 x5 x6 x7 x8 x9 x10 y0;rintro e' W2 ⟨rfl,hg2⟩;have HG2:=dD (BW.out.trans hg2);have X2:=dD (XW.out.grew hg2);have Y2:=dD (YW.out.grew hg2);clear hg2 eg
  by_cases h0:e=0
  ·have h0e:(e != 0)=false:=by simp[h0]
   have OW':Hid (∀j,j<kk+1->(ziO m)[j]?.getD 0=0):=dD<|fun j hj=>by
    by_cases ej:j=kk
    ·rw[ej,HE.out,h0];rfl
    exact OW.out j (by omega)
   clear h0;go_wp2
   go_roundg (6 -(kk+1))
   case measure=>omega
   exact⟨kk+1,by omega,by omega,by go_num,HG2.out,X2.out,Y2.out,OW'.out⟩
  have h0e:(e != 0)=true:=by simp[h0]
  have HZE:Hid (Z=e):=dD<|by
   rw[<-HZ2.out];exact zbF (fun j x hj hx=>by have:=OW.out j hj;rw[hx]at this;exact this) HE.out h0
  clear h0;go_wp2;go_ret;exact⟨by rw[HZE.out];rfl,HG2.out⟩
 have hltz:¬(kk:Int)<6:=by omega
 have:kk=6:=by omega
 subst this;have HZE:Hid (Z=0):=dD<|by
  rw[<-HZ2.out];refine zbG fun j x hx=>?_
  have hj:=(gS.1 hx).1;have:=OW.out j (by simpa [ziO]using hj)
  rw[hx]at this;exact this
 go_wp2;go_ret;exact⟨by rw[HZE.out];rfl,BW.out⟩
theorem ze3 {size n g:Nat} {w:World} {v:Value} (h:w.ownsRow b e size v n xs) (hv:v.ownBlock=some g):b<=g/\g<w.heap.size/\∃cs,w.heap[g]? =some (.cells cs e (0,0)):=by
 rcases h.2 with⟨rfl,_⟩|⟨k,cap,cur,rfl,h2,h3,h4⟩
 ·cases hv
 simp only[Value.ownBlock,Option.some.injEq]at hv;subst hv;exact⟨h2,(aS.1 h3).1,cur,h3⟩
theorem zdQ {D:Nat->Prop} {size n:Nat} {w:World} {v:Value} (h:w.ownsRow b e size v n xs) (k:jv D w W) (hn:∀g,v.ownBlock=some g->¬D g):W.ownsRow b e size v n xs:=by
 refine⟨h.1,?_⟩
 rcases h.2 with h1|⟨g,cap,cur,rfl,h2,h3,h4⟩
 ·exact .inl h1
 exact .inr ⟨g,cap,cur,rfl,h2,by rw[k.block g (aS.1 h3).1 (hn g rfl)];exact h3,h4⟩
theorem zhF {D:Nat->Prop} {size n:Nat} {w:World} {v:Value} (h:w.ownsRow b e size v n xs) (k:jv D w W) (hn:∀g,v.ownBlock=some g->¬D g):W.ownsRow b e size v n xs:=by
 refine⟨h.1,?_⟩
 rcases h.2 with h1|⟨g,cap,cur,rfl,h2,h3,h4⟩
 ·exact .inl h1
 exact .inr ⟨g,cap,cur,rfl,h2,by rw[k.block g (aS.1 h3).1 (hn g rfl)];exact h3,h4⟩
def oB (s:Sli) (b:Nat):Prop:=(Value.slice s.a s.n s.c).ownBlock=some b
def Dw (p:Nat) (V:MaV):Nat->Prop:=fun b=>b=p\/oB V.f b\/oB V.ca b\/oB V.sp b
def Dr (B p:Nat) (V:MaV):Nat->Prop:=fun b=>b<B\/Dw p V b
structure zj5 (w:World) (V:MaV) (m:Ma):Prop where
 sl:zr slE w (.slice V.s.a V.s.n V.s.c) m.sl
 sb:qK w (.slice V.sb.a V.sb.n V.sb.c) m.sb
 sq:qE w (.slice V.sq.a V.sq.n V.sq.c) m.sq
 db:qK w (.slice V.db.a V.db.n V.db.c) m.db
 dq:qE w (.slice V.dq.a V.dq.n V.dq.c) m.dq
 fl:qd w (.slice V.fl.a V.fl.n V.fl.c) m.fl
structure ChW (w0:World) (p:Nat) (w:World) (V:MaV) (m:Ma):Prop where
 gr:zc w0 w
 lo:w0.heap.size<=p
 box:zp w p 114 (chL V m)
 fs:zb QO w0.heap.size w (.slice V.f.a V.f.n V.f.c) m.fs
 ca:zb qX w0.heap.size w (.slice V.ca.a V.ca.n V.ca.c) m.ca
 sp:∃xs:List SpV,zb Zx w0.heap.size w (.slice V.sp.a V.sp.n V.sp.c) xs/\xs.length=m.sp.length/\∀(i:Nat) x s,xs[i]? =some x->m.sp[i]? =some s->∀W,jv (Dr w0.heap.size p V) w W->jw W x s
 rest:∀W,jv (Dr w0.heap.size p V) w W->zj5 W V m
def Chg (w0:World) (p:Nat) (w:World) (V:MaV) (m':Ma) (w':World):Prop:=∃V':MaV,ChW w0 p w' V' m'/\jv (Dw p V) w w'/\∀k,Dw p V' k->Dw p V k\/w.heap.size<=k
section
variable{w0 w w1 w2:World} {p:Nat} {V V':MaV} {m m':Ma}
theorem ChW.dlt (h:ChW w0 p w V m):∀k,Dw p V k->k<w.heap.size:=by
 rintro k (rfl|hk|hk|hk)
 ·exact h.box.box.lt
 ·exact(h.fs.lt k hk).2
 ·exact(h.ca.lt k hk).2
 obtain⟨xs,s1,_⟩:=h.sp;exact(s1.lt k hk).2
theorem ChW.dlo (h:ChW w0 p w V m):∀k,Dw p V k->w0.heap.size<=k:=by
 rintro k (rfl|hk|hk|hk)
 ·exact h.lo
 ·exact(h.fs.lt k hk).1
 ·exact(h.ca.lt k hk).1
 obtain⟨xs,s1,_⟩:=h.sp;exact(s1.lt k hk).1
theorem ChW.drt (h:ChW w0 p w V m):∀k,Dr w0.heap.size p V k->k<w.heap.size:=by
 rintro k (hk|hk)
 ·exact Nat.lt_of_lt_of_le hk (bS h.gr)
 exact h.dlt k hk
theorem ChW.grew (h:ChW w0 p w V m) (k:zc w w1):ChW w0 p w1 V m:=by
 obtain⟨xs,s1,s2,s3⟩:=h.sp;exact⟨h.gr.trans k,h.lo,h.box.grew k,h.fs.grew k,h.ca.grew k,⟨xs,s1.grew k,s2,fun i x s hx hs W hW=>s3 i x s hx hs W ((jv.grew k).trans hW)⟩,fun W hW=>h.rest W ((jv.grew k).trans hW)⟩
theorem ChW.at (h:ChW w0 p w V m):zD w V m:=by
 have r:=h.rest w (jv.refl _ _);obtain⟨xs,s1,s2,s3⟩:=h.sp;exact⟨h.fs.at,r.sl,r.sb,r.sq,r.db,r.dq,r.fl,h.ca.at,⟨xs,s1.at,s2,fun i x s hx hs=>s3 i x s hx hs w (jv.refl _ _)⟩⟩
theorem ChW.nf (h:ChW w0 p w V m):∀g,oB V.f g->p≠g:=h.fs.ne h.box (by decide)
theorem ChW.nc (h:ChW w0 p w V m):∀g,oB V.ca g->p≠g:=h.ca.ne h.box (by decide)
theorem ChW.ns (h:ChW w0 p w V m):∀g,oB V.sp g->p≠g:=by
 obtain⟨xs,s1,_⟩:=h.sp;exact s1.ne h.box (by decide)
theorem ChW.fc (h:ChW w0 p w V m):∀g,oB V.f g->¬oB V.ca g:=h.fs.apart h.ca (by decide)
theorem ChW.fS (h:ChW w0 p w V m):∀g,oB V.f g->¬oB V.sp g:=by
 obtain⟨xs,s1,_⟩:=h.sp;exact h.fs.apart s1 (by decide)
theorem ChW.key (k:jv (Dw p V) w w1) (hd:∀k,Dw p V' k->Dw p V k\/w.heap.size<=k) (hW:jv (Dr w0.heap.size p V') w1 W):jv (Dr w0.heap.size p V) w W:=
 ⟨hW.os.trans k.os,hW.tape.trans k.tape,hW.output.trans k.output,nT k.size hW.size,fun b hb hn=>(hW.block b (Nat.lt_of_lt_of_le hb k.size) (fun e=>by
  rcases e with e|e
  ·exact hn (.inl e)
  rcases hd b e with e|e
  ·exact hn (.inr e)
  omega)).trans (k.block b hb (fun e=>hn (.inr e)))⟩
theorem ChW.grOut (h:ChW w0 p w V m) (k:jv (Dw p V) w w1):zc w0 w1:=
 ⟨k.os.trans (Below.os h.gr),k.tape.trans (Below.tape h.gr),k.output.trans (Below.output h.gr),nT (bS h.gr) k.size,fun b hb=>(k.block b (Nat.lt_of_lt_of_le hb (bS h.gr)) (fun e=>by have:=h.dlo b e;omega)).trans (Below.block h.gr b hb)⟩
theorem Chg.far {V1:MaV} (g:zc w w1) (d:∀k,Dw p V1 k->Dw p V k\/w1.heap.size<=k):∀k,Dw p V1 k->Dw p V k\/w.heap.size<=k:=fun k hk=>(d k hk).elim .inl fun e=> .inr (nT (bS g) e)
theorem zp.chg {cs:List Value} (h:zp w b t cs) (k:jv (Dw p V) w w1) (hn:¬Dw p V b):zp w1 b t cs:=h.outD k hn
theorem ChW.setF (h:ChW w0 p w V m) {b:Sli} {fs:List Fr} {hd:Int} (g1:zc w w1) (nr:zb QO w.heap.size w1 (.slice b.a b.n b.c) fs) (g2:w1.grownBy w2 (some p)) (bx:zp w2 p 114 (chL { V with f:=b } { m with fs:=fs,hand:=hd })):Chg w0 p w V { m with fs:=fs,hand:=hd } w2:=by
 have o:jv (Dw p V) w w2:=(jv.grew g1).trans (jv.grown g2 (.inl rfl));have hpl:=h.dlt p (.inl rfl);have hd:∀k,Dw p { V with f:=b } k->Dw p V k\/w.heap.size<=k:=by
  rintro k (e|e|e|e)
  ·exact .inl (.inl e)
  ·exact .inr (nr.lt k e).1
  ·exact .inl (.inr (.inr (.inl e)))
  exact .inl (.inr (.inr (.inr e)))
 obtain⟨xs,s1,s2,s3⟩:=h.sp;refine⟨{ V with f:=b },⟨h.grOut o,h.lo,bx,(nr.base (bS h.gr)).grown g2 (fun g hg e=>?_),(h.ca.grew g1).grown g2 (fun g hg e=>h.nc g hg (by cases e;rfl)),⟨xs,(s1.grew g1).grown g2 (fun g hg e=>h.ns g hg (by cases e;rfl)),s2,fun i x s hx hs W hW=>s3 i x s hx hs W (ChW.key o hd hW)⟩,fun W hW=>?_⟩,o,hd⟩
 ·cases e;have:=(nr.lt _ hg).1;omega
 have r:=h.rest W (ChW.key o hd hW);exact⟨r.sl,r.sb,r.sq,r.db,r.dq,r.fl⟩
end
theorem zj6.changeW {base p:Nat} {w:World} (h:zj6 base w V m) (hB:B<=base) (hp:w.heap.size<=p) (k:jv (Dr B p V) w W):zj5 W V m/\∀(xs:List SpV) (Bs:Nat->Nat),base<=Bs 0->(∀i,Bs i<=Bs (i+1))->(∀(i:Nat) x s,xs[i]? =some x->m.sp[i]? =some s->QE (Bs i) (Bs (i+1)) w x s)->∀(i:Nat) x s,xs[i]? =some x->m.sp[i]? =some s->jw W x s:=by
 obtain⟨ys,_,s1,_⟩:=h.sp;have key:∀{b size n:Nat} {e:TypeId} {v:Value} {xs:List Value},w.ownsRow b e size v n xs->base<=b->Zx.ty≠e/\QO.ty≠e/\qX.ty≠e->W.ownsRow b e size v n xs:=fun hr hb he=>zdQ hr k fun g hg hd=>by
  obtain⟨h1,h2,cs,h3⟩:=ze3 hr hg
  rcases hd with hd|hd|hd|hd|hd
  ·omega
  ·omega
  ·obtain⟨ds,h4⟩:=h.fs.obj hd;rw[h4]at h3;cases h3;exact he.2.1 rfl
  ·obtain⟨ds,h4⟩:=h.ca.obj hd;rw[h4]at h3;cases h3;exact he.2.2 rfl
  obtain⟨ds,h4⟩:=s1.obj hd;rw[h4]at h3;cases h3;exact he.1 rfl
 have keyR:∀{α:Type} {E:Elt α} {b:Nat} {v:Value} {l:List α},zb E b w v l->base<=b->Zx.ty≠E.ty/\QO.ty≠E.ty/\qX.ty≠E.ty->zb E b W v l:=fun hr hb he=>⟨key hr.1 hb he,hr.2⟩
 obtain⟨lo,⟨zs,f1,f2,f3,f4⟩,l1,l2⟩:=h.fl;have hf':qM lo W (.slice V.fl.a V.fl.n V.fl.c) m.fl:=⟨zs,keyR f1 l1 (by decide),f2,fun i x f hx hf=>⟨(f3 i x f hx hf).1,keyR (f3 i x f hx hf).2 l1 (by decide)⟩,f4⟩
 have hb:=nR base;refine⟨⟨(keyR h.sl hb (by decide)).at,zh.at ⟨key h.sb.1 hb (by decide),h.sb.2⟩,zm.at ⟨key h.sq.1 hb (by decide),h.sq.2⟩,zh.at ⟨key h.db.1 hb (by decide),h.db.2⟩,zm.at ⟨key h.dq.1 hb (by decide),h.dq.2⟩,hf'.new.now0⟩,fun xs Bs b0 bm h5 i x s hx hs=>?_⟩
 have o:=h5 i x s hx hs;have hbi:base<=Bs i:=nT b0 (zc2 bm (nZ i));have o':QE (Bs i) (Bs (i+1)) W x s:=⟨o.live,keyR o.ar hbi (by decide),⟨o.tb.len,o.tb.tlen,fun j v y hv hy=>keyR (o.tb.row j v y hv hy) hbi (by decide),o.tb.two⟩,o.arh,o.tbh⟩
 exact o'.at
theorem zdi (V:MaV) (m:Ma) (w:World) (hm:zD w V m):
  Calls prog 46 #[.agg #[.slice V.f.a V.f.n V.f.c,.int .i64 m.hand,.slice V.s.a V.s.n V.s.c,.slice V.sb.a V.sb.n V.sb.c,.slice V.sq.a V.sq.n V.sq.c,.slice V.db.a V.db.n V.db.c,.slice V.dq.a V.dq.n V.dq.c,.slice V.fl.a V.fl.n V.fl.c,.int .i64 m.cnt,.slice V.ca.a V.ca.n V.ca.c,.slice V.sp.a V.sp.n V.sp.c]] w fun e w'=>∃(p:Nat) (V':MaV),e= .returned (.pointer (some ⟨p,0,none⟩))/\ChW w p w' V' m:=by
 obtain⟨W1,hW1⟩:∃W1,w.alloc (.cells #[.slice V.f.a V.f.n V.f.c,.int .i64 m.hand,.slice V.s.a V.s.n V.s.c,.slice V.sb.a V.sb.n V.sb.c,.slice V.sq.a V.sq.n V.sq.c,.slice V.db.a V.db.n V.db.c,.slice V.dq.a V.dq.n V.dq.c,.slice V.fl.a V.fl.n V.fl.c,.int .i64 m.cnt,.slice V.ca.a V.ca.n V.ca.c,.slice V.sp.a V.sp.n V.sp.c] 41)=W1:=⟨_,rfl⟩;have G1:=gA hW1
 have X1:=xA hW1
 have HW1:Hid (_=W1):=hW1;clear hW1;have how:=zja V m W1 (hm.grew G1.out);clear hm
 go_enter func46,ntmps46
 go_upto_region 1 with fail;rw[HW1.out];obtain⟨x0,x1,x2,x3,x4,x5,x6,x7,x8,x9,x10⟩:=X1.out.c11;go_wp2_with fail;refine how.mono ?_;clear how x0 x1 x2 x3 x4 x5 x6 x7 x8 x9 x10;rintro e W2 ⟨V',rfl,ow,g2⟩;have G2:=dD (G1.out.trans g2);have O2:Hid (zj6 W1.heap.size W2 V' m):=ow;have HS:Hid (w.heap.size<=W1.heap.size):=show _<=_ from bS G1.out
 clear ow g2;have HF:Hid (ChW w W2.heap.size (W2.alloc (.cells (chL V' m).toArray 114)) V' m):=dD<|by
  have ga:zc W2 (W2.alloc (.cells (chL V' m).toArray 114)):=za _ _;obtain⟨xs,B,s1,s2,s3,s4,s5⟩:=O2.out.sp;refine⟨G2.out.trans ga,bS G2.out,zp.top _ _ _ rfl,(O2.out.fs.grew ga).base HS.out,(O2.out.ca.grew ga).base HS.out,⟨xs,(s1.grew ga).base HS.out,s2,fun i x s hx hs W hW=>(O2.out.changeW HS.out (nR _) ((jv.grew ga).trans hW)).2 xs B s3 s4 s5 i x s hx hs⟩,fun W hW=>(O2.out.changeW HS.out (nR _) ((jv.grew ga).trans hW)).1⟩
 go_wp2;go_ret;exact⟨_,V',rfl,HF.out⟩
theorem zfh (n:Nat) (hn:n<=40) (w:World):
  Calls prog 228 #[.int .u64 1,.int .u64 (n:Int)] w fun e w'=>e= .returned (.tuple #[.int .u64 0,.int .u64 (n:Int)])/\w'=w:=by
 have m1:bits .and .u64 1 4294967295=1:=Mul64.maskN 1 (by omega)
 have m2:bits .and .u64 (n:Int) 4294967295=(n:Int):=by rw[Mul64.maskN n (by omega)];omega
 have m0:bits .and .u64 0 4294967295=0:=Mul64.maskN 0 (by omega)
 have d1:(n:Int) / 4294967296=0:=by omega
 have HM1:Hid (bits .and .u64 1 4294967295=1):=m1;have HM2:Hid (bits .and .u64 (n:Int) 4294967295=(n:Int)):=m2;have HM0:Hid (bits .and .u64 0 4294967295=0):=m0;have HD1:Hid ((n:Int) / 4294967296=0):=d1;clear m1 m2 m0 d1
 go_enter func228,ntmps228
 go_wp2;have w0:IntKind.u64.wrap 0=0:=Mul64.wrapN 0 (by omega)
 have wn:IntKind.u64.wrap (n:Int)=(n:Int):=Mul64.wrapN n (by omega)
 simp only[HM1.out,HM2.out,Int.one_mul,wn,HD1.out,w0,HM0.out,Int.mul_zero,Int.add_zero,Int.zero_ediv]
 go_ret2
 exact⟨rfl,rfl⟩
theorem zec (n:Nat) (hn:n<=40) (w:World):
  Calls prog 201 #[.int .u64 1,.int .u64 (n:Int)] w fun e w'=>e= .returned (.tuple #[.int .u64 0,.int .u64 (n:Int)])/\w'=w:=by
 have c64:=zfh n hn w
 go_enter func201,ntmps201
 go_wp2_with (go_at_call 228;refine c64.mono ?_;rintro e w' ⟨rfl,hw⟩;rw[hw])
 go_ret2
 exact⟨rfl,rfl⟩
theorem zea (m:List Fr):∀(l:List Fr) (off:Nat),off+m.length<=l.length->splice (l.flatMap frv) (off*13) (m.flatMap frv)=(l.take off++(m++l.drop (off+m.length))).flatMap frv:=fun l off h=>by
 have h1:∀(l:List Fr) (j:Nat),j<=l.length->(l.flatMap frv).take (j*13)=(l.take j).flatMap frv/\(l.flatMap frv).drop (j*13)=(l.drop j).flatMap frv:=fun l j hj=>by
  have he:l.flatMap frv=(l.take j).flatMap frv++(l.drop j).flatMap frv:=by rw[<-List.flatMap_append,List.take_append_drop]
  have hl:((l.take j).flatMap frv).length=j*13:=by rw[ZH,List.length_take,Nat.min_eq_left hj]
  constructor
  ·rw[he,<-hl,List.take_left]
  rw[he,<-hl,List.drop_left]
 unfold splice;rw[ZH m,<-Nat.add_mul,(h1 l off (by omega)).1,(h1 l (off+m.length) h).2,List.flatMap_append,List.flatMap_append]
theorem Jb {w:World} (ty:TypeId) (base:Nat) (v:Value) (l:List Fr) (hown:zi base w v l) (g:Nat) (hg:v.ownBlock=some g) (off dLen dCap:Nat) (ad:Addr) (sLen sCap:Nat)
  (m:List Fr) (hm:m.length=Nat.min sLen dLen) (hsrc:jl w ad (m.flatMap frv)) (hfit:off+m.length<=l.length):
  ∃w',(Builtin.copy_ #[26,26] ty #[.slice (some ⟨g,off*13,none⟩) dLen dCap,.slice (some ad) sLen sCap]).run prog w= .ok (goInt m.length) w'/\zi base w' v (l.take off++(m++l.drop (off+m.length)))/\w.grownBy w' (some g)/\w'.heap.size=w.heap.size:=by
 obtain⟨i0,hi,_,hz1,_⟩:=info_parts zlI;have hcl:(m.flatMap frv).length=m.length*13:=ZH m;have hfit':off*13+(m.flatMap frv).length<=l.length*13:=by
  rw[hcl,<-Nat.add_mul];exact Nat.mul_le_mul_right _ hfit
 obtain⟨w',hr,h2,h3,h4⟩:=qR (P:=prog) hown.1 hg (off*13) (m.flatMap frv) hfit' (qV zff m);have hl:=run_loadCells_list (P:=prog) w ad (m.flatMap frv) hsrc;rw[hcl]at hl;rw[zea m l off hfit]at h2;have hlen:(l.take off++(m++l.drop (off+m.length))).length=l.length:=by simp;omega
 refine⟨w',?_,⟨by rw[hlen];exact h2,by rw[hlen];exact hown.2⟩,h3,h4⟩
 simp[Builtin.copy_,run_underlying underlying26,Builtin.lenOf,Builtin.firstCells,sizeOf,typeInfo,hi,hz1,<-hm,hl,hr]
theorem ZX {w:World} {rest:List Oper} {a:Act} (hgd:o.guard=none) (d s:Operand) (ho:o.op= .call { callee:= .builtin .copy,args:=#[d,s],argTypes:=#[26,26] })
  (base:Nat) (v:Value) (l:List Fr) (hown:zi base w v l) (g:Nat) (hg:v.ownBlock=some g) (off dLen dCap:Nat) (dp:Addr) (hd:a.eval d= .slice (some dp) dLen dCap) (hdp:dp=⟨g,off*13,none⟩) (ad:Addr) (sLen sCap:Nat) (hs:a.eval s= .slice (some ad) sLen sCap)
  (m:List Fr) (hm:m.length=Nat.min sLen dLen) (hsrc:jl w ad (m.flatMap frv)) (hfit:off+m.length<=l.length)
  (h:∀w',zi base w' v (l.take off++(m++l.drop (off+m.length)))->w.grownBy w' (some g)->w'.heap.size=w.heap.size->wpList prog ops Q rest (a.put o.dst (goInt m.length)) w'):wpList prog ops Q (o :: rest) a w:=by
 subst hdp;refine wpList_plain hgd fun K hK=>?_
 obtain⟨w',hrun,h2,h3,h4⟩:=Jb o.type base v l hown g hg off dLen dCap ad sLen sCap m hm hsrc hfit;unfold Oper.wp
 simp[execOp,ho,resolve,invoke,builtin,hd,hs,hrun,Result.andThen]
 exact hK _ _ (h w' h2 h3 h4)
theorem zgO (q:Fr) (n m z:Nat) (_h:m<=n) (hz:z=Nat.min m (n - m)):(List.replicate m q++List.replicate (n - m) fr0).take m++(List.replicate z q++(List.replicate m q++List.replicate (n - m) fr0).drop (m+z))=List.replicate (m+z) q++List.replicate (n -(m+z)) fr0:=by
 have hzz:z<=n - m:=by rw[hz];exact Nat.min_le_right _ _
 rw[List.take_append_of_le_length (by simp),List.take_of_length_le (by simp),List.drop_append,List.drop_of_length_le (by simp),List.nil_append,lR,List.drop_replicate,<-List.append_assoc,List.replicate_append_replicate]
 congr 2
 omega
theorem zeb (q:Fr) (x:Nat) (c n:Nat) (hn:n<=40) (hn1:1<=n) (w:World) (hv:qh w (.slice (some ⟨x,0,none⟩) 1 c) [q]):
  Calls prog 168 #[.slice (some ⟨x,0,none⟩) 1 c,.int .i64 (n:Int)] w fun e w'=>∃b,e= .returned b/\qS w.heap.size w' b (List.replicate n q)/\zc w w':=by
 have HC:Hid (jl w ⟨x,0,none⟩ ([q].flatMap frv)):=by
  obtain⟨⟨a,c',h1,_,h3⟩,_⟩:=hv;cases h1;exact h3 _ rfl
 clear hv;have hm:=zec n hn w;have hnz:¬(n:Int)<0:=by omega
 have hn2:¬(9223372036854775807:Int)< (n:Int):=by omega
 go_enter func168,ntmps168
 go_wp2_with (first
  | (go_at_call 201;refine hm.mono ?_;rintro e w' ⟨rfl,hw⟩;rw[hw])
  | (refine Ql rfl (.tmp 29) rfl n rfl (by show n*40<=_;omega) ?_;intro C ow;have OW:Hid (zi w.heap.size (w.alloc (.cells C 53)) (.slice (some ⟨w.heap.size,0,none⟩) n n) (List.replicate n fr0)):=ow;clear ow)
  | (refine ZX rfl (.tmp 31) (.tmp 32) rfl w.heap.size (.slice (some ⟨w.heap.size,0,none⟩) n n) (List.replicate n fr0) OW.out w.heap.size rfl 0 n n _ rfl ?a1 _ 1 c rfl [q] ?a2 ?a3 ?a4 ?_))
 case a1=>simp
 case a2=>show 1=Nat.min 1 n;exact(Nat.min_eq_left hn1).symm
 case a3=>exact HC.out.grew (za _ _)
 case a4=>simp;omega
 intro W1 ow1 gr1 _;have OW1:Hid (zi w.heap.size W1 (.slice (some ⟨w.heap.size,0,none⟩) n n) (List.replicate 1 q++List.replicate (n - 1) fr0)):=show zi _ _ _ (List.replicate 1 q++List.replicate (n - 1) fr0) by simpa [List.drop_replicate]using ow1
 have G1:Hid (zc w W1):=ze (za _ _) gr1 (nR _);clear ow1 gr1;go_wp2
 go_loopg [8] n (fun gg s8 wr=>∃m:Nat,1<=m/\m<=n/\n - m<=gg/\s8= .int .i64 m/\Hid (zi w.heap.size wr (.slice (some ⟨w.heap.size,0,none⟩) n n) (List.replicate m q++List.replicate (n - m) fr0))/\Hid (zc w wr))
 case atStart=>exact⟨1,nR _,hn1,by omega,rfl,OW1.out,G1.out⟩
 obtain⟨m,hm1,hmn,hg,rfl,OF,GW⟩:=hrel
 by_cases hlt:m<n
 ·have hltz:(m:Int)< (n:Int):=by omega
  have hmnz:(m:Int)<=(n:Int):=by omega
  have OFd:Hid (zi w.heap.size wr.drew (.slice (some ⟨w.heap.size,0,none⟩) n n) (List.replicate m q++List.replicate (n - m) fr0)):=dD<|OF.out.grew (gW _)
  obtain⟨z,HZ⟩:∃z,Hid (z=Nat.min m (n - m)):=⟨_,rfl⟩;have hz0:z=min m (n - m):=HZ.out;have hz1:1<=z:=by omega
  have hz2:z<=m:=by omega
  have hz3:z<=n - m:=by omega
  clear hz0;have hsrc:jl wr.drew ⟨w.heap.size,0,none⟩ ((List.replicate z q).flatMap frv):=fun j u hj=>by
   have h1:=OFd.out.1.cells rfl;refine h1 j u ?_;rw[List.flatMap_append,List.getElem?_append_left]
   ·rw[show m=z+(m - z) by omega,<-List.replicate_append_replicate,List.flatMap_append,List.getElem?_append_left (gS.1 hj).1]
    exact hj
   have h3:=(gS.1 hj).1;rw[ZH]at h3⊢;simp only[lR]at h3⊢;exact Nat.lt_of_lt_of_le h3 (Nat.mul_le_mul_right _ hz2)
  obtain⟨W2,hrun,ow2,gr2,_⟩:=Jb 3 w.heap.size _ _ OFd.out w.heap.size rfl m (n - m) (n - m) ⟨w.heap.size,0,none⟩ m n (List.replicate z q) (by rw[lR];exact HZ.out) hsrc (by simp;omega)
  have hcopy:(Builtin.copy_ #[26,26] 3 #[.slice (some ⟨w.heap.size,m*13,none⟩) (n - m) (n - m),.slice (some ⟨w.heap.size,0,none⟩) m n]).run prog wr.drew= .ok (.int .i64 (z:Int)) W2:=by
   have h1:=hrun;rw[lR]at h1;exact h1
  have OW2:Hid (zi w.heap.size W2 (.slice (some ⟨w.heap.size,0,none⟩) n n) (List.replicate (m+z) q++List.replicate (n -(m+z)) fr0)):=dD<|by
   rw[<-zgO q n m z (by omega) HZ.out]
   rw[lR]at ow2;exact ow2
  have GW2:Hid (zc w W2):=ze (GW.out.trans (gW _)) gr2 (nR _)
  clear hsrc hrun ow2 gr2;go_wp2
  go_region
  go_wp2
  go_roundg (n -(m+z))
  case measure=>omega
  exact⟨m+z,by omega,by omega,nR _,by go_num,OW2.out,GW2.out⟩
 have hltz:¬(m:Int)< (n:Int):=by omega
 have:m=n:=by omega
 subst this;have HO:Hid (zi w.heap.size wr (.slice (some ⟨w.heap.size,0,none⟩) m m) (List.replicate m q)):=dD<|by have:=OF.out;simpa using this
 go_wp2;go_ret;exact⟨_,rfl,HO.out.new,GW.out⟩
def zgC (n:Int):Int:=if 0<=n/\n<=40 then 0 else 4
def zhR (n:Int):List Fr:=if 0<=n/\n<=40 then List.replicate n.toNat frF else []
theorem zeX (q:Fr) (x:Nat) (c:Nat) (w:World):
  Calls prog 168 #[.slice (some ⟨x,0,none⟩) 1 c,.int .i64 0] w fun e w'=>∃b,e= .returned b/\qS w.heap.size w' b (List.replicate 0 q)/\zc w w':=by
 have hm:=zec 0 (by omega) w
 go_enter func168,ntmps168
 go_wp2_with (first
  | (go_at_call 201;refine hm.mono ?_;rintro e w' ⟨rfl,hw⟩;rw[hw])
  | (refine Ql rfl (.tmp 29) rfl 0 rfl (by show 0*40<=_;omega) ?_;intro C ow;have OW:Hid (zi w.heap.size (w.alloc (.cells C 53)) (.slice (some ⟨w.heap.size,0,none⟩) 0 0) (List.replicate 0 fr0)):=ow;clear ow)
  | (refine ZX rfl (.tmp 31) (.tmp 32) rfl w.heap.size (.slice (some ⟨w.heap.size,0,none⟩) 0 0) (List.replicate 0 fr0) OW.out w.heap.size rfl 0 0 0 _ rfl ?a1 _ 1 c rfl [] ?a2 ?a3 ?a4 ?_))
 case a1=>simp
 case a2=>rfl
 case a3=>intro j u hj;simp at hj
 case a4=>simp
 intro W1 ow1 gr1 _;have OW1:Hid (zi w.heap.size W1 (.slice (some ⟨w.heap.size,0,none⟩) 0 0) (List.replicate 0 q)):=dD<|by simpa using ow1
 have G1:Hid (zc w W1):=ze (za _ _) gr1 (nR _);clear ow1 gr1;go_wp2
 go_loopg [8] 0 (fun _ s8 wr=>s8= .int .i64 0/\wr=W1)
 case atStart=>exact⟨rfl,rfl⟩
 obtain⟨rfl,rfl⟩:=hrel;go_wp2;go_ret;exact⟨_,rfl,OW1.out.new,G1.out⟩
theorem zgz (n:Nat) (hn:n<=40) (w:World):
  Calls prog 122 #[.int .i64 (n:Int)] w fun e w'=>∃b,e= .returned (.tuple #[.agg #[b,.int .i64 0],.int .i64 0])/\qS w.heap.size w' b (List.replicate n frF)/\zc w w':=by
 have hnz:¬(n:Int)<0:=by omega
 have hn4:¬(40:Int)< (n:Int):=by omega
 have hrep:∀W x,Box W x (frv frF)->Calls prog 168 #[.slice (some ⟨x,0,none⟩) 1 1,.int .i64 (n:Int)] W fun e w'=>∃b,e= .returned b/\qS W.heap.size w' b (List.replicate n frF)/\zc W w':=fun W x hx=>by
  by_cases h1:1<=n
  ·refine zeb frF x 1 n hn h1 W ⟨⟨_,1,rfl,fun h=>(by cases h),fun y hy=>?_⟩,by show 1*40<=_;omega⟩
   cases hy;intro j u hj;rw[Addr.add_lit,zA];exact hx.c j (by have h:=hj;simp only[List.flatMap_cons,List.flatMap_nil,List.append_nil]at h;exact h)
  have:n=0:=by omega
  subst this;exact zeX frF x 1 W
 go_enter func122,ntmps122
 go_wp2_with fail;refine(Zs _).mono ?_;rintro e W1 ⟨rfl,g1⟩;have X2:Hid (Box W1 w.heap.size [.slice none 0 0,.int .i64 0]):=(Box.top w [.slice none 0 0,.int .i64 0] _ rfl).grew g1;have G1:Hid (zc w W1):=(za _ _).trans g1;clear g1;simp only[frv,frF,pg0];go_wp2_with fail;refine(hrep _ _ (Box.top W1 _ _ rfl)).mono ?_;rintro e W2 ⟨b,rfl,hb,g2⟩;obtain⟨a2,c2,rfl,_⟩:=hb.1.rows;rw[lR]at hb⊢;have NB:Hid (qS W1.heap.size W2 (.slice a2 n c2) (List.replicate n frF)):=hb.base (by simp)
 have X22:=(X2.out.alloc (.cells #[.int .u8 0,.int .u8 0,.int .u8 0,.int .u8 0,.int .u8 0,.int .u8 0,.int .u8 0,.int .u8 0,.int .i64 0,.bool false,.bool false,.int .i64 (-1),.int .i64 0] 53)).grew g2;have G2:=dD ((G1.out.trans (za _ _)).trans g2);have r0:=X22.c 0 rfl;have r1:=X22.c 1 rfl;have rf:=X22.f;have HX:Hid (w.heap.size<W1.heap.size):=X2.out.lt;clear hb g2;go_wp2;refine bodyPost_ret (v:= .tuple #[.agg #[.slice a2 n c2,.int .i64 0],.int .i64 0]) (by simp[results,Tryz.results122,go_sem, *]) rfl ⟨_,rfl,?_,?_⟩
 ·exact((NB.out.setCell (a:=⟨w.heap.size,0,none⟩) HX.out _).setCell (a:=⟨w.heap.size,1,none⟩) HX.out _).base (bS G1.out)
 exact zC (zC G2.out (by simp) _) (by simp) _
theorem zgA (n:Int) (hn:¬(0<=n/\n<=40)) (w:World):
  Calls prog 122 #[.int .i64 n] w fun e w'=>∃b,e= .returned (.tuple #[.agg #[b,.int .i64 0],.int .i64 4])/\qS w.heap.size w' b ([]:List Fr)/\zc w w':=by
 by_cases h0:n<0
 ·go_enter func122,ntmps122
  go_wp2;refine bodyPost_ret (v:= .tuple #[.agg #[.slice none 0 0,.int .i64 0],.int .i64 4]) (by simp[results,Tryz.results122,go_sem, *]) rfl ⟨_,rfl,qS.nil _ _,?_⟩
  exact za _ _
 have h1:40<n:=by omega
 go_enter func122,ntmps122
 go_wp2;refine bodyPost_ret (v:= .tuple #[.agg #[.slice none 0 0,.int .i64 0],.int .i64 4]) (by simp[results,Tryz.results122,go_sem, *]) rfl ⟨_,rfl,qS.nil _ _,?_⟩
 exact za _ _
theorem zji (n:Nat) (hn:n<=60) (w:World):
  Calls prog 123 #[.int .i64 (n:Int)] w fun e w'=>∃a' c',e= .returned (.tuple #[.slice a' n c',.int .i64 0])/\zaK slE w.heap.size w' (.slice a' n c') (List.replicate n 0)/\zc w w':=by
 have hnz:¬(n:Int)<0:=by omega
 have hn4:¬(60:Int)< (n:Int):=by omega
 go_enter func123,ntmps123
 go_wp2_with (refine zbd slE rfl (.tmp 10) rfl n rfl (by show n*8<=_;omega) ?_)
 intro C ow;have OW:Hid (zb slE w.heap.size (w.alloc (.cells C 3)) (.slice (some ⟨w.heap.size,0,none⟩) n n) (List.replicate n 0)):=ow;clear ow
 show wpList _ _ _ _ _ (w.alloc (.cells C 3))
 obtain⟨W1,hW1⟩:∃W1,w.alloc (.cells C 3)=W1:=⟨_,rfl⟩;have G1:=gA hW1
 rw[hW1]at OW⊢;clear hW1;go_wp2;refine bodyPost_ret (v:= .tuple #[.slice (some ⟨w.heap.size,0,none⟩) n n,.int .i64 0]) (by simp[results,Tryz.results123,go_sem, *]) rfl ⟨_,_,rfl,OW.out.new,G1.out⟩
theorem zjj (n:Int) (hn:¬(0<=n/\n<=60)) (w:World):
  Calls prog 123 #[.int .i64 n] w fun e w'=>e= .returned (.tuple #[.slice none 0 0,.int .i64 4])/\zc w w':=by
 by_cases h0:n<0
 ·clear hn
  go_enter func123,ntmps123
  go_wp2;refine bodyPost_ret (v:= .tuple #[.slice none 0 0,.int .i64 4]) (by simp[results,Tryz.results123,go_sem, *]) rfl ⟨rfl,zc.refl _⟩
 have h1:60<n:=by omega
 clear hn
 go_enter func123,ntmps123
 go_wp2;refine bodyPost_ret (v:= .tuple #[.slice none 0 0,.int .i64 4]) (by simp[results,Tryz.results123,go_sem, *]) rfl ⟨rfl,zc.refl _⟩
theorem zd4 (v:Value) (fs:List Int) (b:Int) (w:World) (hv:zr blE w v fs):
  Calls prog 240 #[v,.int .i64 b] w fun e w'=>(∃z:Int,e= .returned (.int .i64 z)/\decide (0<=z)=fs.contains b)/\zc w w':=by
 have hbig:=hv.short;obtain⟨a,c,rfl,hrow⟩:=hv.nums;have HR:Hid (zaA w a fs):=hrow;clear hrow hv;obtain⟨n,HN⟩:∃n,Hid (fs.length=n):=⟨_,rfl⟩;rw[HN.out]at hbig⊢;obtain⟨ANS,HANS⟩:∃ANS,Hid (fs.contains b=ANS):=⟨_,rfl⟩;rw[HANS.out]
 go_enter func240,ntmps240
 go_wp2
 go_loopg [5,8] n (fun gg _ s8 wr=>∃kk:Nat,kk<=n/\n - kk<=gg/\s8= .int .i64 kk/\Hid (zc w wr)/\Hid (∀(j:Nat) q,j<kk->fs[j]? =some q->¬b=q))
 case atStart=>exact⟨0,nZ _,by omega,rfl,zc.refl w,fun j q hj=>absurd hj (nL _)⟩
 obtain⟨kk,hkk,hg,rfl,BW,A⟩:=hrel
 by_cases hlt:kk<n
 ·have hltz:(kk:Int)< (n:Int):=by omega
  obtain⟨q,HQ⟩:∃q,Hid (fs[kk]? =some q):=⟨_,gE (by rw[HN.out];exact hlt)⟩
  obtain⟨ad,rfl,hl⟩:=HR.out kk q HQ.out;have d0:=hl wr BW.out;clear hl
  by_cases hq:b=q
  ·have hqb:(b == q)=true:=by simpa using hq
   have HF:Hid (decide (0<=(kk:Int))=ANS):=dD<|by
    rw[<-HANS.out,hq,List.contains_iff_mem.2 (mG HQ.out)];simp
   clear hq;go_wp2;go_ret;exact⟨⟨_,rfl,HF.out⟩,BW.out⟩
  have hqb:(b == q)=false:=by simpa using hq
  have HA:Hid (∀(j:Nat) q,j<kk+1->fs[j]? =some q->¬b=q):=dD<|fun j q' hj hq'=>by
   by_cases e:j=kk
   ·subst e;rw[HQ.out]at hq';cases hq';exact hq
   exact A.out j q' (by omega) hq'
  clear hq;go_wp2
  go_roundg (n -(kk+1))
  case measure=>omega
  exact⟨kk+1,by omega,by omega,by go_num,BW.out,HA.out⟩
 have hltz:¬(kk:Int)< (n:Int):=by omega
 have:kk=n:=by omega
 subst this;have HF:Hid (decide (0<=(-1:Int))=ANS):=dD<|by
  have:fs.contains b=false:=by
   cases hb:fs.contains b with
   | false=>rfl
   | true=>
    obtain⟨j,hj⟩:=List.getElem?_of_mem (List.contains_iff_mem.1 hb);exact absurd rfl (A.out j b (by rw[<-HN.out];exact(gS.1 hj).1) hj)
  rw[<-HANS.out,this];rfl
 go_wp2;go_ret;exact⟨⟨_,rfl,HF.out⟩,BW.out⟩
theorem zbN (v:Value) (fs:List Int) (b:Int) (w:World) (hv:zr blE w v fs):
  Calls prog 237 #[v,.int .i64 b] w fun e w'=>e= .returned (.bool (fs.contains b))/\zc w w':=by
 have h1:=zd4 v fs b w hv;obtain⟨a,c,rfl,_⟩:=hv.nums;clear hv
 generalize fs.contains b=ANS at h1⊢
 generalize fs.length=n at h1⊢
 go_enter func237,ntmps237
 go_wp2_with fail;refine h1.mono ?_;rintro e W1 ⟨⟨z,rfl,hz⟩,g1⟩;have G1:Hid (zc w W1):=g1;clear g1 h1;have HZ:Hid (decide (0<=z)=ANS):=hz;clear hz;go_wp2;go_ret;exact⟨by rw[<-HZ.out];rfl,G1.out⟩
theorem zkA (f:Fl) (xa:Option Addr) (xc:Nat) (b:Int) (p:Nat) (w:World) (hb:Box w p [.int .i64 b]) (hr:zr blE w (.slice xa f.bl.length xc) f.bl):
  Calls prog 236 #[.agg #[.int .i64 f.size,.slice xa f.bl.length xc],.pointer (some ⟨p,0,none⟩)] w fun e w'=>e= .returned (.bool (f.bl.contains b))/\zc w w':=by
 have h1:∀W,zc w W->Calls prog 237 #[.slice xa f.bl.length xc,.int .i64 b] W fun e w'=>e= .returned (.bool (f.bl.contains b))/\zc W w':=fun W hW=>zbN _ f.bl b W (hr.grew hW)
 have hlt:=hb.lt;have hpne:p≠w.heap.size:=by omega
 have hpne':w.heap.size≠p:=by omega
 obtain⟨W0,hW0⟩:∃W0,w.alloc (.cells #[.int .i64 f.size,.slice xa f.bl.length xc] 84)=W0:=⟨_,rfl⟩;have HG0:=gA hW0
 have c0:W0.cell? ⟨p,0,none⟩=some (.int .i64 b):=(hb.grew HG0.out).c 0 rfl;have c1:(w.alloc (.cells #[.int .i64 f.size,.slice xa f.bl.length xc] 84)).cell? ⟨p,0,none⟩=some (.int .i64 b):=by rw[hW0];exact c0
 have HW0:Hid (_=W0):=hW0;clear hW0 hr hb
 generalize f.bl.contains b=ANS at h1⊢
 generalize f.bl.length=n at*
 generalize f.size=sz at*
 have c2:=World.cell?_of_block (w:=w) (w':=w.alloc (.cells #[.int .i64 sz,.slice xa n xc] 84)) (a:=⟨p,0,none⟩) (Below.heap_alloc _ _ _ hlt);rw[c1]at c2;have c3:=c2.symm;clear c0 c1 c2
 go_enter func236,ntmps236
 go_wp2_with fail;rw[HW0.out];refine(h1 _ HG0.out).mono ?_;rintro e W1 ⟨rfl,g1⟩;have G1:=dD (HG0.out.trans g1);clear g1 h1;go_wp2;go_ret;exact⟨rfl,G1.out⟩
theorem zdb (v:Value) (fs:List Fl) (b:Int) (p:Nat) (w:World) (hb:Box w p [.int .i64 b]) (hv:qd w v fs):
  Calls prog 241 #[v,.func (.func 236) #[] #[.pointer (some ⟨p,0,none⟩)]] w fun e w'=>(∃z:Int,e= .returned (.int .i64 z)/\decide (0<=z)=zT fs b)/\zc w w':=by
 obtain⟨a,c,rfl,hbig,hrow⟩:=hv.rows;have HR:Hid (Jh w a fs):=hrow;have HB:Hid (Box w p [.int .i64 b]):=hb;have eg:=enters_of func236 (by kernel_rfl) rfl
 clear hrow hv hb;obtain⟨n,HN⟩:∃n,Hid (fs.length=n):=⟨_,rfl⟩;rw[HN.out]at hbig⊢;obtain⟨ANS,HANS⟩:∃ANS,Hid (zT fs b=ANS):=⟨_,rfl⟩;rw[HANS.out]
 go_enter func241,ntmps241
 go_wp2
 go_loopg [5,8] n (fun gg _ s8 wr=>∃kk:Nat,kk<=n/\n - kk<=gg/\s8= .int .i64 kk/\Hid (zc w wr)/\Hid (∀(j:Nat) (q:Fl),j<kk->fs[j]? =some q->q.bl.contains b=false))
 case atStart=>exact⟨0,nZ _,by omega,rfl,zc.refl w,fun j q hj=>absurd hj (nL _)⟩
 obtain⟨kk,hkk,hg,rfl,BW,A⟩:=hrel
 by_cases hlt:kk<n
 ·have hltz:(kk:Int)< (n:Int):=by omega
  obtain⟨q,HQ⟩:∃q,Hid (fs[kk]? =some q):=⟨_,gE (by rw[HN.out];exact hlt)⟩
  obtain⟨ad,rfl,xa,xc,hra,hl⟩:=HR.out kk q HQ.out;obtain⟨d0,d1⟩:=hl wr BW.out;have hcall:=zkA q xa xc b p wr (HB.out.grew BW.out) (hra.grew BW.out);clear hl hra
  cases hq:q.bl.contains b with
  | true=>
   rw[hq]at hcall;have HF:Hid (decide (0<=(kk:Int))=ANS):=dD<|by
    rw[<-HANS.out];unfold zT;rw[zkV HQ.out hq];simp
   clear hq;go_wp2_with fail;refine hcall.mono ?_;rintro e W2 ⟨rfl,g2⟩;have G2:=dD (BW.out.trans g2);clear g2 hcall;go_wp2;go_ret;exact⟨⟨_,rfl,HF.out⟩,G2.out⟩
  | false=>
   rw[hq]at hcall;have HA:Hid (∀(j:Nat) (q:Fl),j<kk+1->fs[j]? =some q->q.bl.contains b=false):=dD<|fun j q' hj hq'=>by
    by_cases e:j=kk
    ·subst e;rw[HQ.out]at hq';cases hq';exact hq
    exact A.out j q' (by omega) hq'
   clear hq;go_wp2_with fail;refine hcall.mono ?_;rintro e W2 ⟨rfl,g2⟩;have G2:=dD (BW.out.trans g2);clear g2 hcall;go_wp2
   go_roundg (n -(kk+1))
   case measure=>omega
   exact⟨kk+1,by omega,by omega,by go_num,G2.out,HA.out⟩
 have hltz:¬(kk:Int)< (n:Int):=by omega
 have:kk=n:=by omega
 subst this;have HF:Hid (decide (0<=(-1:Int))=ANS):=dD<|by
  rw[<-HANS.out];unfold zT;rw[zkU (fun j q hj=>A.out j q (by rw[<-HN.out];exact(gS.1 hj).1) hj)]
  rfl
 go_wp2;go_ret;exact⟨⟨_,rfl,HF.out⟩,BW.out⟩
theorem zaS (v:Value) (fs:List Fl) (b:Int) (p:Nat) (w:World) (hb:Box w p [.int .i64 b]) (hv:qd w v fs):
  Calls prog 238 #[v,.func (.func 236) #[] #[.pointer (some ⟨p,0,none⟩)]] w fun e w'=>e= .returned (.bool (zT fs b))/\zc w w':=by
 have h1:=zdb v fs b p w hb hv;obtain⟨a,c,rfl,_⟩:=hv.rows;clear hv hb
 generalize zT fs b=ANS at h1⊢
 generalize fs.length=n at h1⊢
 go_enter func238,ntmps238
 go_wp2_with fail;refine h1.mono ?_;rintro e W1 ⟨⟨z,rfl,hz⟩,g1⟩;have G1:Hid (zc w W1):=g1;clear g1 h1;have HZ:Hid (decide (0<=z)=ANS):=hz;clear hz;go_wp2;go_ret;exact⟨by rw[<-HZ.out];rfl,G1.out⟩
def qZ (fs:List Fl) (k:Nat):List Int:=((List.range k).filter fun(b:Nat)=>!zT fs (b:Int)).map fun(b:Nat)=>(b:Int)
theorem ze8 (fs:List Fl) (k:Nat):qZ fs (k+1)=if zT fs (k:Int)=true then qZ fs k else qZ fs k++ [(k:Int)]:=by
 unfold qZ;rw[List.range_succ,List.filter_append]
 cases h:zT fs (k:Int)with
 | true=>simp[h]
 | false=>simp[h]
theorem zgH (fs:List Fl) (n:Nat):qZ fs n=(jW fs (n:Int)).map fun(b:Nat)=>(b:Int):=by
 unfold qZ jW;rw[tN]
theorem zgG (fs:List Fl) (k:Nat):(qZ fs k).length<=k:=by
 unfold qZ;rw[List.length_map];exact nT (List.length_filter_le _ _) (by simp)
theorem zfN (v:Value) (fs:List Fl) (m:Nat) (hm:m<=80) (w:World) (hv:qd w v fs):
  Calls prog 226 #[.agg #[v,.int .i64 (m:Int)]] w fun e w'=>∃b,e= .returned b/\zb blE (w.heap.size+1) w' b (qZ fs m)/\zc w w':=by
 have HV:Hid (qd w v fs):=hv;obtain⟨a,c,rfl,hbig,_⟩:=hv.rows;clear hv;obtain⟨n,HN⟩:∃n,Hid (fs.length=n):=⟨_,rfl⟩;rw[HN.out]at hbig HV⊢;have hmf:∀(fn:Fn) (first cap:Array Value) (w:World),(Instr.makeFunc fn first cap).run prog w= .ok (.func fn first cap) w:=fun _ _ _ _=>rfl
 obtain⟨W0,hW0⟩:∃W0,w.alloc (.cells #[.slice a n c,.int .i64 (m:Int)] 37)=W0:=⟨_,rfl⟩;have HG0:=gA hW0
 have X0:=xA hW0
 have HS0:=sA hW0
 have HW0:Hid (_=W0):=hW0;clear hW0
 go_enter func226,ntmps226
 go_wp2;rw[HW0.out]
 go_loopg [3,4,5,8] m (fun gg s3 _ _ s8 wr=>∃(kk:Nat) (xa:Option Addr) (xc:Nat),kk<=m/\m - kk<=gg/\s8= .int .i64 kk/\s3= .slice xa (qZ fs kk).length xc/\Hid (zc W0 wr)/\Hid (zb blE (w.heap.size+1) wr (.slice xa (qZ fs kk).length xc) (qZ fs kk)))
 case atStart=>exact⟨0,none,0,nZ _,by omega,rfl,rfl,zc.refl _,zb.nil _ _ _⟩
 obtain⟨kk,xa,xc,hkk,hgg,rfl,rfl,BW,OW⟩:=hrel
 by_cases hlt:kk<m
 ·have hltz:(kk:Int)< (m:Int):=by omega
  obtain⟨W2,hW2⟩:∃W2,wr.alloc (.cells #[.int .i64 (kk:Int)] 3)=W2:=⟨_,rfl⟩;have GA:=gA hW2
  have B2:=xA hW2
  have hcall:=zaS _ fs (kk:Int) wr.heap.size W2 B2.out (HV.out.grew ((HG0.out.trans BW.out).trans GA.out));have O2:=dD (OW.out.grew GA.out);have HW2:Hid (_=W2):=hW2;have hst:=ze8 fs kk;have HL:Hid ((qZ fs kk).length<=kk):=zgG fs kk;clear hW2;go_upto_region 5 with fail;rw[HW2.out];have x0:=(X0.out.grew (BW.out.trans GA.out)).c 0 rfl;have x1:=(X0.out.grew (BW.out.trans GA.out)).c 1 rfl;have HB:Hid (wr.heap.size<W2.heap.size):=B2.out.lt;obtain⟨pb,hpb⟩:∃pb,wr.heap.size=pb:=⟨_,rfl⟩;rw[hpb]at hcall B2 HB⊢;clear hpb
  cases hu:zT fs (kk:Int)with
  | true=>
   rw[hu]at hcall hst;rw[if_pos rfl]at hst;have HST':Hid (qZ fs (kk+1)=qZ fs kk):=hst;clear hst hu;go_wp2_with fail;refine hcall.mono ?_;rintro e W3 ⟨rfl,g3⟩;have G3:=dD ((BW.out.trans GA.out).trans g3);have O3:Hid (zb blE (w.heap.size+1) W3 (.slice xa (qZ fs (kk+1)).length xc) (qZ fs (kk+1))):=show zb _ _ _ _ _ by rw[HST'.out];exact O2.out.grew g3
   have HEQ:Hid ((qZ fs (kk+1)).length=(qZ fs kk).length):=dD<|by rw[HST'.out]
   rw[<-HEQ.out];clear g3 hcall x0 x1;go_wp2
   go_roundg (m -(kk+1))
   case measure=>omega
   exact⟨kk+1,xa,xc,by omega,by omega,by go_num,rfl,G3.out,O3.out⟩
  | false=>
   rw[hu]at hcall hst;rw[if_neg (by decide)]at hst
   have HST':Hid (qZ fs (kk+1)=qZ fs kk++ [(kk:Int)]):=hst;clear hst hu;go_wp2_with fail;refine hcall.mono ?_;rintro e W3 ⟨rfl,g3⟩;have G3:=dD ((BW.out.trans GA.out).trans g3);have O3:=dD (O2.out.grew g3);have y0:=(B2.out.grew g3).c 0 rfl;clear g3 hcall x0 x1;have HSZ:Hid (w.heap.size+1<=W3.heap.size):=show _<=_ by
    have:=bS G3.out;rw[HS0.out]at this;exact this
   go_wp2_with (at_builtin;refine zB (E:=blE) rfl (.tmp 17) (.tmp 19) rfl (w.heap.size+1) _ (qZ fs kk) rfl (O3.out.grew (za _ _)) _ [(kk:Int)] rfl (jN blE W3 (kk:Int) _ _ rfl (by show 8<=_;omega)) ?qb ?qc ?_)
   case qb=>
    have:=HL.out
    show(_+1)*8<=_
    omega
   case qc=>simp;have:=HSZ.out;omega
   intro v4 W4 ow4 gr4;obtain⟨xa4,xc4,rfl⟩:=ow4.form;have O4:Hid (zb blE (w.heap.size+1) W4 (.slice xa4 (qZ fs (kk+1)).length xc4) (qZ fs (kk+1))):=dD<|by rw[HST'.out];exact ow4
   have G4:Hid (zc W0 W4):=dD<|qa (G3.out.trans (za _ _)) gr4 (fun g hg=>by
    have h1:=(O3.out.lt g hg).1;rw[HS0.out];exact h1)
   rw[<-HST'.out];clear ow4 gr4;go_wp2
   go_roundg (m -(kk+1))
   case measure=>omega
   exact⟨kk+1,xa4,xc4,by omega,by omega,by go_num,rfl,G4.out,O4.out⟩
 have hltz:¬(kk:Int)< (m:Int):=by omega
 have:kk=m:=by omega
 subst this;have GE:=dD (HG0.out.trans BW.out);go_wp2;go_ret;exact⟨_,rfl,OW.out,GE.out⟩
theorem zhP (n:Int) (w:World):
  Calls prog 125 #[.int .i64 n] w fun e w'=>e= .returned (.tuple #[.agg #[.slice none 0 0,.int .i64 (if 0<=n/\n<=80 then n else 0)],.int .i64 (if 0<=n/\n<=80 then 0 else 4)])/\zc w w':=by
 by_cases h:0<=n/\n<=80
 ·rw[if_pos h,if_pos h];have hb:=fun W=>j9 (m:=n) (n:=81) h.1 (by omega) W
  clear h
  go_enter func125,ntmps125
  go_wp2_with (go_at_call 170;refine(hb _).mono ?_;rintro e w' ⟨rfl,rfl⟩)
  refine bodyPost_ret (v:= .tuple #[.agg #[.slice none 0 0,.int .i64 n],.int .i64 0]) (by simp[results,Tryz.results125,go_sem, *]) rfl ⟨rfl,?_⟩
  first | exact za _ _ | exact Below.setCell (Below.setCell (za _ _) (p:=⟨w.heap.size,0,none⟩) (by simp) _) (p:=⟨w.heap.size,1,none⟩) (by simp) _
 rw[if_neg h,if_neg h];have hb:=fun W=>zad (m:=n) (n:=81) (by omega) W
 clear h
 go_enter func125,ntmps125
 go_wp2_with (go_at_call 170;refine(hb _).mono ?_;rintro e w' ⟨rfl,rfl⟩)
 refine bodyPost_ret (v:= .tuple #[.agg #[.slice none 0 0,.int .i64 0],.int .i64 4]) (by simp[results,Tryz.results125,go_sem, *]) rfl ⟨rfl,?_⟩
 first | exact za _ _ | exact Below.setCell (Below.setCell (za _ _) (p:=⟨w.heap.size,0,none⟩) (by simp) _) (p:=⟨w.heap.size,1,none⟩) (by simp) _
def ziM (fs:List Fl) (cnt k:Int):Int:=if stW fs cnt=0 then(if inL fs.length k=true then 0 else 5)else stW fs cnt
theorem zdt (v:Value) (fs:List Fl) (cnt k:Int) (w:World) (hv:qd w v fs):
  Calls prog 225 #[.agg #[v,.int .i64 cnt],.int .i64 k] w fun e w'=>e= .returned (.int .i64 (ziM fs cnt k))/\zc w w':=by
 have h1:∀W,zc w W->Calls prog 155 #[.agg #[v,.int .i64 cnt]] W fun e w'=>e= .returned (.int .i64 (stW fs cnt))/\zc W w':=fun W hW=>za3 v fs cnt W (hv.grew hW)
 obtain⟨a,c,rfl,hbig,_⟩:=hv.rows;clear hv;have HD:Hid (ziM fs cnt k=if stW fs cnt=0 then(if inL fs.length k=true then 0 else 5)else stW fs cnt):=rfl;have hbel:∀W,Calls prog 170 #[.int .i64 k,.int .i64 (fs.length:Int)] W fun e w'=>e= .returned (.bool (inL fs.length k))/\w'=W:=fun W=>zbP k _ W
 generalize ziM fs cnt k=Z at HD⊢
 generalize inL fs.length k=B at HD hbel
 generalize stW fs cnt=S at HD h1
 generalize fs.length=n at*
 obtain⟨W0,hW0⟩:∃W0,w.alloc (.cells #[.slice a n c,.int .i64 cnt] 37)=W0:=⟨_,rfl⟩;have HG0:=gA hW0
 have X0:=xA hW0
 have HW0:Hid (_=W0):=hW0;clear hW0
 by_cases hs:S=0
 ·rw[if_pos hs]at HD;subst hs
  cases B with
  | true=>
   rw[if_pos rfl]at HD
   go_enter func225,ntmps225
   go_wp2_with fail;rw[HW0.out];refine(h1 _ HG0.out).mono ?_;rintro e W1 ⟨rfl,g1⟩;have G1:=dD (HG0.out.trans g1);have x0:=(X0.out.grew g1).c 0 rfl;clear g1 h1
   go_wp2_with (go_at_call 170;refine(hbel _).mono ?_;rintro e w' ⟨rfl,rfl⟩)
   go_ret;exact⟨by rw[HD.out];rfl,G1.out⟩
  | false=>
   rw[if_neg (by decide)]at HD
   go_enter func225,ntmps225
   go_wp2_with fail;rw[HW0.out];refine(h1 _ HG0.out).mono ?_;rintro e W1 ⟨rfl,g1⟩;have G1:=dD (HG0.out.trans g1);have x0:=(X0.out.grew g1).c 0 rfl;clear g1 h1
   go_wp2_with (go_at_call 170;refine(hbel _).mono ?_;rintro e w' ⟨rfl,rfl⟩)
   go_ret;exact⟨by rw[HD.out];rfl,G1.out⟩
 rw[if_neg hs]at HD;have hzb:(S != 0)=true:=by simpa using hs
 go_enter func225,ntmps225
 go_wp2_with fail;rw[HW0.out];refine(h1 _ HG0.out).mono ?_;rintro e W1 ⟨rfl,g1⟩;have G1:=dD (HG0.out.trans g1);clear g1 h1;go_wp2;go_ret;exact⟨by rw[HD.out];rfl,G1.out⟩
def zgy (n:Int):Int:=if 0<=n/\n<=60 then 0 else 4
def zhQ (n:Int):List Int:=if 0<=n/\n<=60 then List.replicate n.toNat 0 else []
theorem zgB (n:Int) (w:World):Calls prog 122 #[.int .i64 n] w fun e w'=>∃s:Sli,e= .returned (.tuple #[.agg #[.slice s.a s.n s.c,.int .i64 0],.int .i64 (zgC n)])/\(zr QO w' (.slice s.a s.n s.c) (zhR n)/\jb w.heap.size (.slice s.a s.n s.c))/\zc w w':=by
 by_cases h:0<=n/\n<=40
 ·obtain⟨k,rfl⟩:∃k:Nat,n=(k:Int):=⟨n.toNat,by omega⟩
  refine(zgz k (by omega) w).mono ?_
  rintro e w' ⟨b,rfl,h1,h2⟩;obtain⟨a,c,rfl,_⟩:=h1.1.rows;refine⟨⟨a,(List.replicate k frF).length,c⟩,?_,⟨?_,h1.2⟩,h2⟩
  ·unfold zgC;rw[if_pos h]
  unfold zhR;rw[if_pos h];exact h1.1
 refine(zgA n h w).mono ?_;rintro e w' ⟨b,rfl,h1,h2⟩;obtain⟨a,c,rfl,_⟩:=h1.1.rows;refine⟨⟨a,([]:List Fr).length,c⟩,?_,⟨?_,h1.2⟩,h2⟩
 ·unfold zgC;rw[if_neg h]
 unfold zhR;rw[if_neg h];exact h1.1
theorem zjk (n:Int) (w:World):Calls prog 123 #[.int .i64 n] w fun e w'=>∃s:Sli,e= .returned (.tuple #[.slice s.a s.n s.c,.int .i64 (zgy n)])/\(zr slE w' (.slice s.a s.n s.c) (zhQ n)/\jb w.heap.size (.slice s.a s.n s.c))/\zc w w':=by
 by_cases h:0<=n/\n<=60
 ·obtain⟨k,rfl⟩:∃k:Nat,n=(k:Int):=⟨n.toNat,by omega⟩
  refine(zji k (by omega) w).mono ?_
  rintro e w' ⟨a,c,rfl,h1,h2⟩;refine⟨⟨a,k,c⟩,?_,⟨?_,h1.2⟩,h2⟩
  ·unfold zgy;rw[if_pos h]
  unfold zhQ;rw[if_pos h];exact h1.1
 refine(zjj n h w).mono ?_;rintro e w' ⟨rfl,h2⟩;refine⟨⟨none,0,0⟩,?_,⟨?_,j6 _⟩,h2⟩
 ·unfold zgy;rw[if_neg h]
 unfold zhQ;rw[if_neg h];exact zr.nil slE w'
theorem zdU (n:Int) (w:World):Calls prog 124 #[.int .i64 n] w fun e w'=>∃b q:Sli,e= .returned (.tuple #[.agg #[.slice b.a b.n b.c,.slice q.a q.n q.c],.int .i64 (QK n)])/\(qK w' (.slice b.a b.n b.c) (zfJ n)/\qE w' (.slice q.a q.n q.c) []/\jb w.heap.size (.slice b.a b.n b.c)/\jb w.heap.size (.slice q.a q.n q.c))/\zc w w':=by
 refine(zkr n w).mono ?_;rintro e w' ⟨d,rfl,⟨b,q,rfl,h1,h2,f1,f2⟩,h3⟩;obtain⟨a,c,rfl,_⟩:=h1.rows;obtain⟨a',c',rfl,_⟩:=h2.rows;exact⟨⟨a,(zfJ n).length,c⟩,⟨a',([]:List (Int × List Int)).length,c'⟩,rfl,⟨h1,h2,f1,f2⟩,h3⟩
theorem jh.beside {α:Type} {enc:α->List Value} {w:World} {row:Option Nat} {v:Value} {l:List α} (h:jh enc w v l) (hg:w.grownBy w' row) (hn:∀x n c,v= .slice (some x) n c->some x.block≠row):jh enc w' v l:=by
 obtain⟨a,c,h1,h2,h3⟩:=h;refine⟨a,c,h1,h2,fun x hx j u hj=>?_⟩
 subst hx;have hc:=h3 x rfl j u hj;rw[World.cell?_of_block (w:=w) (hg.block _ (World.block_lt_of_cell? _ _ hc) (by rw[Jg];exact hn x _ _ h1))]
 exact hc
def zkd (f s b:Int):Prop:=(0<=f/\f<=40)/\(0<=s/\s<=60)/\(0<=b/\b<=80)
def zap (f s b:Int):Ma:=⟨List.replicate f.toNat frF,0,List.replicate s.toNat 0,List.replicate s.toNat zz,[],List.replicate b.toNat zz,[],[],b,[],[⟨true,[],qN⟩]⟩
def zjm (f s b:Int):List Int:=[zgC f,zgy s,QK s,QK b,if 0<=b/\b<=80 then 0 else 4]
theorem zhS {f b:Int} (h:zkd f s b):zx (zjm f s b)=0:=by
 obtain⟨h1,h2,h3⟩:=h;unfold zjm zgC zgy QK;rw[if_pos h1,if_pos h2,if_pos (by omega),if_pos h3]
 rfl
theorem Zo {fn:Func} {p u t:Tmp} {ty:TypeId} (h:fn.results=#[.cell p ty,.tmp u,.tmp t]) (tmps:Array Value) {w:World} (hp:tmps.getD p undef= .pointer (some ⟨b,0,none⟩)) (hb:Box w b vs) {d:TypeDesc} (hu:Tryz.prog.underlying ty=some d) (hd:d.isRow=true) (hi:(Tryz.prog.info? ty).map (·.size)=some vs.length):
  (results fn tmps).run prog w= .ok (.tuple #[.agg vs.toArray,tmps.getD u undef,tmps.getD t undef]) w:=by
 have hp':tmps[p]?.getD undef= .pointer (some ⟨b,0,none⟩):=by simpa using hp
 have hld:=run_loadVar_mid (P:=prog) w b 0 ty vs d hb.range hu hd hi
 simp[results,h,hp',asAddr,hld]
theorem zis {l:List Int} {n:Int} {k:Nat} (h:(k:Int)<=n\/k=0):Zt l 0 n k=l:=by
 unfold Zt
 apply List.ext_getElem?
 intro i;rw[List.getElem?_mapIdx]
 cases l[i]? with
 | none=>rfl
 | some z=>
  simp only[Option.map_some];rw[if_neg (by omega)]
theorem zkO (l:List Int) (idx size:Int):zag l 0 (size - idx*8)=zag l idx size:=by
 unfold zag
 congr 1
 funext i z
 by_cases h:size<=8*idx+(i:Int)
 ·rw[if_pos h,if_pos (by omega)]
 rw[if_neg h,if_neg (by omega)]
theorem ze2 (l:List Int) (n:Int) (w:World) (hl:l.length=8) (h1:-9223372036854775808<=n) (h2:n<=9223372036854775807):
  Calls prog 200 #[.agg (pgc l).toArray,.int .i64 n] w fun e w'=>e= .returned (.agg (pgc (zag l 0 n)).toArray)/\(zag l 0 n).length=8/\zc w w':=by
 have HL:Hid (l.length=8):=hl;have HC8:Hid ((zag l 0 n).length=8):=show _=_ by unfold zag;simp[hl]
 obtain⟨W0,hW0⟩:∃W0,(w.alloc (.cells (pgc l).toArray 44)).alloc (.cells #[.int .u8 0,.int .u8 0,.int .u8 0,.int .u8 0,.int .u8 0,.int .u8 0,.int .u8 0,.int .u8 0] 44)=W0:=⟨_,rfl⟩;have G0:=gD2 hW0
 have X0:=x2a hW0
 have Y0:Hid (Box W0 (w.heap.size+1) (pgc zz)):=dD<|by rw[<-hW0];exact Box.top _ (pgc zz) _ (by simp)
 have HW0:Hid (_=W0):=hW0;have XB:Hid (Box W0 w.heap.size (pgc (Zt l 0 n n.toNat))):=show Box _ _ _ by rw[zis (by omega)];exact X0.out
 obtain⟨CL,HCL⟩:∃CL,Hid (zag l 0 n=CL):=⟨_,rfl⟩;rw[HCL.out]at HC8⊢;clear hW0 hl
 go_enter func200,ntmps200
 go_upto_region 1 with fail;rw[HW0.out];go_wp2
 all_goals
  go_loopg [5] 8 (fun gg s5 wr=>∃k:Nat,n<=(k:Int)/\(k:Int)<=9223372036854775807/\8 - k<=gg/\s5= .int .i64 k/\Hid (zc w wr)/\Hid (Box wr w.heap.size (pgc (Zt l 0 n k)))/\Hid (Box wr (w.heap.size+1) (pgc zz)))
  case atStart=>
   exact⟨n.toNat,by omega,by omega,by omega,(by first | rw[Int.toNat_eq_max] | (congr 1;omega) | (congr 1;rw[Int.max_def];split <;> omega) | (congr 1;split <;> omega)),G0.out,XB.out,Y0.out⟩
  obtain⟨k,hk,hk2,hg,rfl,GW,XW,YW⟩:=hrel
  by_cases hlt:k<8
  ·have hltz:(k:Int)<8:=by omega
   obtain⟨z,hz⟩:∃z,(Zt l 0 n k)[k]? =some z:=⟨_,gE (by rw[zel,HL.out];exact hlt)⟩
   have z0:=XW.out.c k (zdL hz);have zf:=XW.out.f;clear hz;go_wp2;obtain⟨W1,hW1⟩:∃W1,wr.setCell ⟨w.heap.size,k,none⟩ (.int .u8 0)=W1:=⟨_,rfl⟩;have X1:Hid (Box W1 w.heap.size (pgc (Zt l 0 n (k+1)))):=dD<|by rw[<-hW1,<-zem (by rw[HL.out];exact hlt) (by omega),zbl];exact XW.out.set k _
   have Y1:Hid (Box W1 (w.heap.size+1) (pgc zz)):=dD<|by rw[<-hW1];exact YW.out.other (by simp) _
   have G1:Hid (zc w W1):=dD<|by rw[<-hW1];exact zC GW.out (by simp) _
   rw[hW1];clear hW1 z0 zf
   go_roundg (8 -(k+1))
   case measure=>omega
   exact⟨k+1,by omega,by omega,by omega,by go_num,G1.out,X1.out,Y1.out⟩
  have hltz:¬(k:Int)<8:=by omega
  have HCE:Hid (Zt l 0 n k=CL):=dD<|by rw[zen (by rw[HL.out];omega),HCL.out]
  rw[HCE.out]at XW
  go_wp2_with (first | refine zJ rfl 44 (.tmp 2) rfl w.heap.size rfl XW.out underlying44 rfl (by rw[Qd,HC8.out];exact zl3) ?_ | refine zX rfl 44 (.tmp 4) (.tmp 14) rfl (w.heap.size+1) rfl (pgc CL) rfl YW.out (by rw[Qd,HC8.out];rfl) zl3 (Qq _) ?_)
  intro WL hbL hgL _;have HGL:Hid (zc w WL):=dD<|ze GW.out hgL (by omega)
  go_wp2;refine bodyPost_ret (zY rfl _ rfl hbL underlying44 rfl (by rw[Qd,HC8.out];exact zl3)) rfl ⟨rfl,HC8.out,HGL.out⟩
structure zlF where
 arg:Operand
 pv:Value->Prop
 post:Value->Value->World->Prop
 step:World->World->Prop
 pre:World->Prop:=fun _=>True
def Zc:List Value:=[.slice none 0 0,.int .i64 0,.slice none 0 0,.slice none 0 0,.slice none 0 0,.slice none 0 0,.slice none 0 0,.slice none 0 0,.int .i64 0,.slice none 0 0,.slice none 0 0]
end
end Go.Proofs.YtacihbmelcegbaaGreat
