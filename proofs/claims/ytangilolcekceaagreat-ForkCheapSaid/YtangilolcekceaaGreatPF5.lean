import Derived.Test.YtangilolcekceaaGreatPF4
import Derived.ChangeKeysEq
namespace Go.Proofs.YtangilolcekceaaGreat
set_option maxRecDepth 100000
set_option maxHeartbeats 4000000
section
open Go.RowKit
structure KeyK where
 ty:TypeId
 enc:Int × Int->Value
 und:∃fs,Tryz.prog.underlying ty=some (.struct fs)
 check:∀(em:Bool) (a:Int × Int) (w:World),(Instr.checkKey em 10000 ty (enc a)).run Tryz.prog w= .ok () w
 same:∀(a b:Int × Int) (w:World),(Op.equal ty (enc a) (enc b)).run Tryz.prog w= .ok (decide (a=b)) w
 bits:∀a:Int × Int,Instr.sameBits 10000 (enc a) (enc a)=true
def lookP:List ((Int × Int) × Int)->Int × Int->Option Int
 | [],_=>none
 | p :: l,k=>if k=p.1 then some p.2 else lookP l k
def findP:List ((Int × Int) × Int)->Int × Int->Nat->Option (Nat × Value)
 | [],_,_=>none
 | p :: l,k,i=>if k=p.1 then some (i,.int .i64 p.2)else findP l k (i+1)
def putP:List ((Int × Int) × Int)->Int × Int->Int->List ((Int × Int) × Int)
 | [],k,v=>[(k,v)]
 | p :: l,k,v=>if k=p.1 then(k,v) :: l else p :: putP l k v
theorem lookP_put:∀(l:List ((Int × Int) × Int)) (k x:Int × Int) (v:Int),lookP (putP l k v) x=if x=k then some v else lookP l x
 | [],k,x,v=>by simp[putP,lookP]
 | p :: l,k,x,v=>by
  unfold putP
  by_cases h:k=p.1
  ·rw[if_pos h];unfold lookP
   by_cases hx:x=k
   ·simp[hx]
   have hx':¬x=p.1:=fun e=>hx (e.trans h.symm)
   simp[hx,hx']
  rw[if_neg h];unfold lookP;rw[lookP_put l]
  by_cases hp:x=p.1
  ·rw[if_pos hp,if_pos hp,if_neg (fun e=>h (e.symm.trans hp))]
  rw[if_neg hp,if_neg hp]
theorem findP_none:∀{l:List ((Int × Int) × Int)} {k:Int × Int} {i:Nat},findP l k i=none->lookP l k=none/\∀v,putP l k v=l++ [(k,v)]
 | [],k,i,_=>⟨rfl,fun v=>rfl⟩
 | p :: l,k,i,h=>by
  unfold findP at h
  by_cases e:k=p.1
  ·rw[if_pos e]at h;cases h
  rw[if_neg e]at h;obtain⟨h1,h2⟩:=findP_none h;refine⟨by unfold lookP;rw[if_neg e,h1],fun v=>?_⟩
  unfold putP;rw[if_neg e,h2];rfl
theorem findP_some:∀{l:List ((Int × Int) × Int)} {k:Int × Int} {i j:Nat} {u:Value},findP l k i=some (j,u)->∃n z,u= .int .i64 z/\j=i+n/\l[n]? =some (k,z)/\lookP l k=some z/\∀v,putP l k v=l.set n (k,v)
 | [],k,i,j,u,h=>by cases h
 | p :: l,k,i,j,u,h=>by
  unfold findP at h
  by_cases e:k=p.1
  ·rw[if_pos e]at h;cases h;refine⟨0,p.2,rfl,rfl,by rw[e];rfl,by unfold lookP;rw[if_pos e],fun v=>?_⟩
   unfold putP;rw[if_pos e];rfl
  rw[if_neg e]at h;obtain⟨n,z,h1,h2,h3,h4,h5⟩:=findP_some h;refine⟨n+1,z,h1,by omega,by simpa using h3,by unfold lookP;rw[if_neg e,h4],fun v=>?_⟩
  unfold putP;rw[if_neg e,h5];rfl
def MapF (K:KeyK) (w:World) (b:Nat) (g:Int × Int->Option Int):Prop:=
 ∃es clock l,w.heap[b]? =some (.map es clock)/\(es.toList.map (fun e=>(e.key,e.val))=l.map (fun p:(Int × Int) × Int=>(K.enc p.1,Value.int .i64 p.2))/\(es.toList.map (·.born)).Pairwise (·< ·)/\∀e∈es.toList,e.born<clock)/\∀k,lookP l k=g k
theorem MapF.lt {K:KeyK} {w:World} {b:Nat} {g:Int × Int->Option Int} (h:MapF K w b g):b<w.heap.size:=by
 obtain⟨es,c,l,h1,_⟩:=h;exact(aS.1 h1).1
theorem MapF.made (K:KeyK) (w:World):MapF K (w.alloc (.map #[] 0)) w.heap.size (fun _=>none):=⟨#[],0,[],by
 show(w.heap.push _)[w.heap.size]? =_
 simp,⟨rfl,List.Pairwise.nil,fun e he=>by cases he⟩,fun k=>rfl⟩
theorem MapF.grew {K:KeyK} {w w':World} {b:Nat} {g:Int × Int->Option Int} (h:MapF K w b g) (hg:Grew w w'):MapF K w' b g:=by
 have hlt:=h.lt;obtain⟨es,c,l,h1,h2⟩:=h;exact⟨es,c,l,(Below.block hg b hlt).trans h1,h2⟩
theorem MapF.kept {K:KeyK} {w w':World} {b:Nat} {g:Int × Int->Option Int} {row:Option Nat} (h:MapF K w b g) (hg:w.grownBy w' row) (hne:some b≠row):MapF K w' b g:=by
 have hlt:=h.lt;obtain⟨es,c,l,h1,h2⟩:=h;exact⟨es,c,l,(hg.block b hlt hne).trans h1,h2⟩
theorem MapF.congr {K:KeyK} {w:World} {b:Nat} {g g':Int × Int->Option Int} (h:MapF K w b g) (e:∀k,g k=g' k):MapF K w b g':=by
 obtain⟨es,c,l,h1,h2,h3⟩:=h;exact⟨es,c,l,h1,h2,fun k=>(h3 k).trans (e k)⟩
theorem run_findAsking (K:KeyK) (k:Int × Int) (w:World):∀(l:List ((Int × Int) × Int)) (es:List MapEntry) (i:Nat),es.map (fun e=>(e.key,e.val))=l.map (fun p=>(K.enc p.1,Value.int .i64 p.2))->(Instr.findAsking K.ty (K.enc k) es i).run Tryz.prog w= .ok (findP l k i) w
 | [],[],i,_=>rfl
 | [],e :: es,i,h=>by simp at h
 | p :: l,[],i,h=>by simp at h
 | p :: l,e :: es,i,h=>by
  simp only[mP,List.cons.injEq,pJ]at h;obtain⟨⟨h1,h2⟩,h3⟩:=h;unfold Instr.findAsking findP;simp only[Sem.run_bind,h1,K.same,rA]
  by_cases e':k=p.1
  ·simp[e',h2]
  simp[e',run_findAsking K k w l es (i+1) h3]
theorem run_findKey (K:KeyK) (k:Int × Int) (w:World) (l:List ((Int × Int) × Int)) (es:List MapEntry) (h:es.map (fun e=>(e.key,e.val))=l.map (fun p=>(K.enc p.1,Value.int .i64 p.2))):(Instr.findKey K.ty (K.enc k) es).run Tryz.prog w= .ok (findP l k 0) w:=by
 obtain⟨fs,hu⟩:=K.und;unfold Instr.findKey;simp only[Sem.run_bind,run_underlying hu,rA]
 cases es with
 | nil=>
  cases l with
  | nil=>rfl
  | cons p l=>simp at h
 | cons e es=>
  have:Instr.findNow (.struct fs) (K.enc k) (e :: es) 0=none:=by simp[Instr.findNow,Instr.sameNow]
  rw[this];exact run_findAsking K k w l (e :: es) 0 h
theorem MapF.look {K:KeyK} {w:World} {b:Nat} {g:Int × Int->Option Int} (h:MapF K w b g) {t e:TypeId} (ht:Tryz.prog.underlying t=some (.map K.ty e)) (hz:(zeroValue e).run Tryz.prog w= .ok (.int .i64 0) w) (k:Int × Int) (c:Bool):
  (Instr.lookup t (.map (some b)) (K.enc k) c).run Tryz.prog w= .ok (if c then .tuple #[.int .i64 ((g k).getD 0),.bool (g k).isSome]else .int .i64 ((g k).getD 0)) w:=by
 obtain⟨es,cl,l,h1,⟨h2,_⟩,h3⟩:=h;have hf:=run_findKey K k w l es.toList h2;unfold Instr.lookup
 cases hp:findP l k 0 with
 | none=>
  rw[hp]at hf;have:=(findP_none hp).1;rw[h3 k]at this
  cases c <;> simp[run_underlying ht,MapKept.run_getObj_map h1,K.check,hf,hz,this]
 | some q=>
  obtain⟨j,u⟩:=q;rw[hp]at hf;obtain⟨n,z,rfl,_,_,h4,_⟩:=findP_some hp;rw[h3 k]at h4
  cases c <;> simp[run_underlying ht,MapKept.run_getObj_map h1,K.check,hf,h4]
theorem modify_born (f:MapEntry->MapEntry) (hf:∀e,(f e).born=e.born):∀(es:List MapEntry) (n:Nat),(es.modify n f).map (·.born)=es.map (·.born)
 | [],n=>by simp
 | e :: es,0=>by simp[hf]
 | e :: es,n+1=>by simp[modify_born f hf es n]
structure Stamped (K:KeyK) (es:Array MapEntry) (cl:Nat) (l:List ((Int × Int) × Int)):Prop where
 pairs:es.toList.map (fun e=>(e.key,e.val))=l.map (fun p=>(K.enc p.1,Value.int .i64 p.2))
 rise:(es.toList.map (·.born)).Pairwise (·< ·)
 low:∀e∈es.toList,e.born<cl
theorem Stamped.push {K:KeyK} {es:Array MapEntry} {cl:Nat} {l:List ((Int × Int) × Int)} (h:Stamped K es cl l) (k:Int × Int) (v:Int):Stamped K (es.push ⟨K.enc k,.int .i64 v,cl⟩) (cl+1) (l++ [(k,v)]):=by
 refine⟨by simp[h.pairs],?_,fun e he=>?_⟩
 ·simp only[Array.toList_push,List.map_append,mP,List.map_nil];rw[List.pairwise_append];refine⟨h.rise,by simp,fun a ha b hb=>?_⟩
  obtain⟨e,he,rfl⟩:=List.mem_map.1 ha
  simp at hb
  rw[hb];exact h.low e he
 simp only[Array.toList_push,List.mem_append,List.mem_singleton]at he
 rcases he with he | rfl
 ·have:=h.low e he;omega
 simp
theorem Stamped.modify {K:KeyK} {es:Array MapEntry} {cl:Nat} {l:List ((Int × Int) × Int)} (h:Stamped K es cl l) {n:Nat} {k:Int × Int} {z:Int} (hn:l[n]? =some (k,z)) (f:MapEntry->MapEntry) (v:Int) (hf:∀e,(f e).born=e.born) (hg:∀e,e.key=K.enc k->e.val= .int .i64 z->(f e).key=K.enc k/\(f e).val= .int .i64 v):Stamped K (es.modify n f) cl (l.set n (k,v)):=by
 have hb:(es.modify n f).toList.map (·.born)=es.toList.map (·.born):=by rw[Array.toList_modify];exact modify_born f hf es.toList n
 refine⟨?_,by rw[hb];exact h.rise,fun e he=>?_⟩
 ·have hp:=h.pairs;rw[Array.toList_modify]
  apply List.ext_getElem?
  intro j;have hj:=congrArg (fun(x:List (Value × Value))=>x[j]?) hp
  simp only[List.getElem?_map,List.getElem?_modify,List.getElem?_set]at hj⊢
  by_cases e:n=j
  ·subst e;rw[hn]at hj;have hnl:=(gS.1 hn).1
   cases hq:es.toList[n]? with
   | none=>rw[hq]at hj;simp at hj
   | some e0=>
    rw[hq]at hj
    simp at hj
    obtain⟨g1,g2⟩:=hg e0 hj.1 hj.2
    simp[hnl,g1,g2]
  simp only[e,if_false]at hj⊢
  cases hq:es.toList[j]? <;> rw[hq]at hj <;> simpa using hj
 have:e.born∈es.toList.map (·.born):=by rw[<-hb];exact List.mem_map.2 ⟨e,he,rfl⟩
 obtain⟨e',he',h'⟩:=List.mem_map.1 this;rw[<-h'];exact h.low e' he'
theorem Stamped.at {K:KeyK} {es:Array MapEntry} {cl:Nat} {l:List ((Int × Int) × Int)} (h:Stamped K es cl l) {n:Nat} {k:Int × Int} {z:Int} (hn:l[n]? =some (k,z)):∃e0,es[n]? =some e0/\e0.key=K.enc k/\e0.val= .int .i64 z:=by
 have:=congrArg (fun(x:List (Value × Value))=>x[n]?) h.pairs
 simp only[List.getElem?_map,hn,Option.map_some]at this
 cases hq:es[n]? with
 | none=>simp[hq]at this
 | some e0=>simp[hq]at this;exact⟨e0,rfl,this.1,this.2⟩
theorem born_inj:∀{l:List Nat},l.Pairwise (·< ·)->∀{i j:Nat} {x:Nat},l[i]? =some x->l[j]? =some x->i=j
 | [],_,i,j,x,h,_=>by simp at h
 | a :: l,hp,i,j,x,h,h'=>by
  rw[List.pairwise_cons]at hp
  cases i with
  | zero=>
   cases j with
   | zero=>rfl
   | succ j=>
    simp at h h'
    subst h;have:=hp.1 a (mG h');omega
  | succ i=>
   cases j with
   | zero=>
    simp at h h'
    subst h';have:=hp.1 a (mG h);omega
   | succ j=>
    simp at h h'
    rw[born_inj hp.2 h h']
theorem map_put {K:KeyK} {w:World} {b:Nat} {es es':Array MapEntry} {cl cl':Nat} {l:List ((Int × Int) × Int)} {g:Int × Int->Option Int} {k:Int × Int} {v:Int} (h1:w.heap[b]? =some (.map es cl)) (h3:∀k,lookP l k=g k) (hs:Stamped K es' cl' (putP l k v)):
  MapF K (ChangeMaps.setBlock w b (.map es' cl')) b (fun x=>if x=k then some v else g x)/\w.grownBy (ChangeMaps.setBlock w b (.map es' cl')) (some b)/\(ChangeMaps.setBlock w b (.map es' cl')).heap.size=w.heap.size:=by
 refine⟨⟨es',cl',putP l k v,ChangeMaps.heap_setBlock_same h1 _,⟨hs.pairs,hs.rise,hs.low⟩,fun x=>?_⟩,⟨rfl,rfl,rfl,by simp[ChangeMaps.setBlock],fun i _ hi=>ChangeMaps.heap_setBlock_other h1 _ (fun e=>hi (by rw[e]))⟩,by simp[ChangeMaps.setBlock]⟩
 rw[lookP_put,h3]
theorem MapF.put {K:KeyK} {w:World} {b:Nat} {g:Int × Int->Option Int} (h:MapF K w b g) {t e:TypeId} (ht:Tryz.prog.underlying t=some (.map K.ty e)) (k:Int × Int) (v:Int):
  ∃w',(Instr.mapUpdate t (.map (some b)) (K.enc k) (.int .i64 v)).run Tryz.prog w= .ok () w'/\MapF K w' b (fun x=>if x=k then some v else g x)/\w.grownBy w' (some b)/\w'.heap.size=w.heap.size:=by
 obtain⟨es,cl,l,h1,⟨h2,h4,h5⟩,h3⟩:=h;have hst:Stamped K es cl l:=⟨h2,h4,h5⟩;have hf:=run_findKey K k w l es.toList h2
 cases hp:findP l k 0 with
 | none=>
  rw[hp]at hf;have hput:=(findP_none hp).2 v;refine⟨ChangeMaps.setBlock w b (.map (es.push ⟨K.enc k,.int .i64 v,cl⟩) (cl+1)),?_,map_put h1 h3 (by rw[hput];exact hst.push k v)⟩
  simp[Instr.mapUpdate,run_underlying ht,MapKept.run_getObj_map h1,K.check,hf,MapKept.run_setObj_map _ h1,ChangeMaps.setBlock]
 | some q=>
  obtain⟨j,u⟩:=q;rw[hp]at hf;obtain⟨n,z,rfl,rfl,h6,_,h7⟩:=findP_some hp;rw[zA]at hf;obtain⟨e0,he0,hk0,_⟩:=hst.at h6;refine⟨ChangeMaps.setBlock w b (.map (es.modify n fun e=>{ e with key:=K.enc k,val:= .int .i64 v }) cl),?_,map_put h1 h3 (by rw[h7];exact hst.modify h6 _ v (fun _=>rfl) (fun _ _ _=>⟨rfl,rfl⟩))⟩
  simp[Instr.mapUpdate,run_underlying ht,MapKept.run_getObj_map h1,K.check,hf,he0,hk0,Instr.keyThatStays,K.bits,MapKept.run_setObj_map _ h1,ChangeMaps.setBlock]
def MapE (K:KeyK) (w:World) (b:Nat) (g:Int × Int->Option Int) (k:Int × Int) (st:Int):Prop:=
 ∃es cl l,w.heap[b]? =some (.map es cl)/\Stamped K es cl l/\(∀k,lookP l k=g k)/\∃(n:Nat) (z:Int) (e:MapEntry),l[n]? =some (k,z)/\(∀v,putP l k v=l.set n (k,v))/\es[n]? =some e/\(e.born:Int)=st
theorem MapE.f {K:KeyK} {w:World} {b:Nat} {g:Int × Int->Option Int} {k:Int × Int} {st:Int} (h:MapE K w b g k st):MapF K w b g:=by
 obtain⟨es,cl,l,h1,h2,h3,_⟩:=h;exact⟨es,cl,l,h1,⟨h2.pairs,h2.rise,h2.low⟩,h3⟩
theorem putP_snoc:∀{l:List ((Int × Int) × Int)} {k:Int × Int} (z v:Int),lookP l k=none->putP (l++ [(k,z)]) k v=(l++ [(k,z)]).set l.length (k,v)
 | [],k,z,v,_=>by simp[putP]
 | p :: l,k,z,v,h=>by
  unfold lookP at h
  by_cases e:k=p.1
  ·rw[if_pos e]at h;cases h
  rw[if_neg e]at h;simp only[List.cons_append,putP,e,if_false,List.length_cons,sS];rw[putP_snoc z v h]
theorem MapF.entry {K:KeyK} {w:World} {b:Nat} {g:Int × Int->Option Int} (h:MapF K w b g) {t e:TypeId} (ht:Tryz.prog.underlying t=some (.map K.ty e)) (hz:(zeroValue e).run Tryz.prog w= .ok (.int .i64 0) w) (k:Int × Int):
  ∃w' st,(Instr.mapEntry t (.map (some b)) (K.enc k)).run Tryz.prog w= .ok (.tuple #[.int .i64 ((g k).getD 0),.int .i64 st]) w'/\MapE K w' b (fun x=>if x=k then some ((g k).getD 0)else g x) k st/\w.grownBy w' (some b)/\w'.heap.size=w.heap.size:=by
 obtain⟨es,cl,l,h1,⟨h2,h4,h5⟩,h3⟩:=h;have hst:Stamped K es cl l:=⟨h2,h4,h5⟩;have hf:=run_findKey K k w l es.toList h2
 cases hp:findP l k 0 with
 | none=>
  rw[hp]at hf;obtain⟨hno,hput⟩:=findP_none hp;have hg:g k=none:=by rw[<-h3];exact hno
  have hs':=hst.push k 0;have hm:=map_put h1 h3 (k:=k) (v:=0) (by rw[hput];exact hs')
  refine⟨ChangeMaps.setBlock w b (.map (es.push ⟨K.enc k,.int .i64 0,cl⟩) (cl+1)),cl,?_,⟨_,_,_,ChangeMaps.heap_setBlock_same h1 _,hs',fun x=>?_,l.length,0,⟨K.enc k,.int .i64 0,cl⟩,by simp,fun v=>putP_snoc 0 v hno,?_,rfl⟩,hm.2⟩
  ·rw[hg]
   simp[Instr.mapEntry,run_underlying ht,MapKept.run_getObj_map h1,K.check,hf,hz,MapKept.run_setObj_map _ h1,ChangeMaps.setBlock,goInt]
  ·rw[hg,<-hput,lookP_put,h3];rfl
  have:es.size=l.length:=by have:=congrArg List.length h2;simpa using this
  simp[<-this]
 | some q=>
  obtain⟨j,u⟩:=q;rw[hp]at hf;obtain⟨n,z,rfl,rfl,h6,h8,h7⟩:=findP_some hp;rw[zA]at hf;obtain⟨e0,he0,hk0,hv0⟩:=hst.at h6;have hg:g k=some z:=by rw[<-h3];exact h8
  have hs':Stamped K (es.modify n fun e=>{ e with key:=K.enc k }) cl (l.set n (k,z)):=hst.modify h6 (fun e=>{ e with key:=K.enc k }) z (fun _=>rfl) (fun _ _ hv=>⟨rfl,hv⟩)
  have hm:=map_put h1 h3 (k:=k) (v:=z) (by rw[h7];exact hs')
  have hnl:=(gS.1 h6).1;refine⟨ChangeMaps.setBlock w b (.map (es.modify n fun e=>{ e with key:=K.enc k }) cl),e0.born,?_,⟨_,_,_,ChangeMaps.heap_setBlock_same h1 _,hs',fun x=>?_,n,z,{ e0 with key:=K.enc k },sF hnl,fun v=>?_,?_,rfl⟩,hm.2⟩
  ·rw[hg]
   simp[Instr.mapEntry,run_underlying ht,MapKept.run_getObj_map h1,K.check,hf,he0,hk0,Instr.keyThatStays,K.bits,MapKept.run_setObj_map _ h1,ChangeMaps.setBlock,goInt]
  ·rw[hg,<-h7,lookP_put,h3];rfl
  ·rw[set_same h6,h7]
  rw[Array.getElem?_modify,if_pos rfl,he0];rfl
theorem MapE.store {K:KeyK} {w:World} {b:Nat} {g:Int × Int->Option Int} {k:Int × Int} {st:Int} (h:MapE K w b g k st) (t:TypeId) (v:Int):
  ∃w',(Instr.entryStore t (.map (some b)) (.int .i64 st) (.int .i64 v)).run Tryz.prog w= .ok () w'/\MapF K w' b (fun x=>if x=k then some v else g x)/\w.grownBy w' (some b)/\w'.heap.size=w.heap.size:=by
 obtain⟨es,cl,l,h1,hst,h3,n,z,e0,h6,h7,he0,rfl⟩:=h;have hnl:n<es.size:=(aS.1 he0).1;have hfind:es.findIdx? (fun e=>(e.born:Int) ==(e0.born:Int))=some n:=by
  rw[Array.findIdx?_eq_some_iff_getElem];refine⟨hnl,?_,fun j hj=>?_⟩
  ·have:es[n]=e0:=(aS.1 he0).2
   simp[this]
  intro hc;have hjl:j<es.size:=by omega
  have hc':es[j].born=e0.born:=by
   have:(es[j].born:Int)=(e0.born:Int):=by simpa using hc
   omega
  have q1:(es.toList.map (·.born))[n]? =some e0.born:=by simp[he0]
  have q2:(es.toList.map (·.born))[j]? =some e0.born:=by simp[hjl,hc']
  have:=born_inj hst.rise q1 q2;omega
 refine⟨ChangeMaps.setBlock w b (.map (es.modify n fun e=>{ e with val:= .int .i64 v }) cl),?_,map_put h1 h3 (by rw[h7];exact hst.modify h6 _ v (fun _=>rfl) (fun _ hk _=>⟨hk,rfl⟩))⟩
 simp[Instr.entryStore,MapKept.run_getObj_map h1,asInt,asIntOf,hfind,MapKept.run_setObj_map _ h1,ChangeMaps.setBlock]
theorem wp_putMap {K:KeyK} {w:World} {ops:Array Oper} {rest:List Oper} {o:Oper} {a:Act} {Q:Exit->Act->World->Prop} (hgd:o.guard=none) (t e:TypeId) (m x v:Operand) (hop:o.op= .mapUpdate t m x v) (ht:Tryz.prog.underlying t=some (.map K.ty e)) (b:Nat) (g:Int × Int->Option Int) (h:MapF K w b g) (k:Int × Int) (z:Int)
  (hm:a.eval m= .map (some b)) (hx:a.eval x=K.enc k) (hv:a.eval v= .int .i64 z)
  (hK:∀w',MapF K w' b (fun x=>if x=k then some z else g x)->w.grownBy w' (some b)->w'.heap.size=w.heap.size->wpList Tryz.prog ops Q rest (a.put o.dst undef) w'):wpList Tryz.prog ops Q (o :: rest) a w:=by
 refine wpList_plain hgd fun K' hK'=>?_
 obtain⟨w',hrun,r1,r2,r3⟩:=h.put ht k z;unfold Oper.wp
 simp[execOp,hop,hm,hx,hv,hrun,Result.andThen]
 exact hK' _ _ (hK w' r1 r2 r3)
theorem plK_check (em:Bool) (a:Int × Int) (w:World):(Instr.checkKey em 10000 177 (.agg #[.int .i64 a.1,.int .i64 a.2])).run Tryz.prog w= .ok () w:=by
 have hf : (Tryz.prog.fieldsOf 177).toList.map (fun f => (f.name, f.type, f.offset)) = [("file", 3, 0), ("index", 3, 1)] := by kernel_rfl
 have hu:∃fs,Tryz.prog.underlying 177=some (.struct fs)/\Tryz.prog.fieldsOf 177=fs:=⟨_,Tryz.underlying177,by kernel_rfl⟩
 obtain⟨fs,hu,hfe⟩:=hu;rw[hfe]at hf;obtain⟨f0,f1,hfs⟩:∃f0 f1,fs.toList=[f0,f1]:=by
  have hl:fs.toList.length=2:=by have:=congrArg List.length hf;simpa using this
  match hq:fs.toList,hl with
  | [f0,f1],_=>exact⟨f0,f1,rfl⟩
 rw[hfs]at hf
 simp at hf
 obtain⟨⟨n0,t0,o0⟩,⟨n1,t1,o1⟩⟩:=hf;have pI:∀(zs:Array Value) (o:Nat) v,zs[o]? =some (.int .i64 v)->(part 3 zs o).run Tryz.prog w= .ok (.int .i64 v) w:=fun zs o v hz=>run_part_plain w (by simp[Program.plainKey,Tryz.underlying3]) hz
 have pB:∀(zs:Array Value) (o:Nat) v,zs[o]? =some (.bool v)->(part 4 zs o).run Tryz.prog w= .ok (.bool v) w:=fun zs o v hz=>run_part_plain w (by simp[Program.plainKey,Tryz.underlying4]) hz
 have cI:∀(v:Int) (n:Nat),(Instr.checkKey em (n+1) 3 (.int .i64 v)).run Tryz.prog w= .ok () w:=fun v n=>by
  unfold Instr.checkKey
  simp[run_underlying Tryz.underlying3]
 have cB:∀(v:Bool) (n:Nat),(Instr.checkKey em (n+1) 4 (.bool v)).run Tryz.prog w= .ok () w:=fun v n=>by
  unfold Instr.checkKey
  simp[run_underlying Tryz.underlying4]
 rw[show(10000:Nat)=9999+1 from rfl,Instr.checkKey]
 simp only[Sem.run_bind,run_underlying hu,rA];rw[<-Array.forIn_toList,hfs];have k1:=cI a.1 9998;have k2:=cI a.2 9998;have k3:=cB false 9998;have q0:=pI (#[.int .i64 a.1,.int .i64 a.2]) 0 a.1 rfl;have q1:=pI (#[.int .i64 a.1,.int .i64 a.2]) 1 a.2 rfl
 simp[List.forIn_cons,n0,t0,o0,n1,t1,o1,q0,q1,k1,k2]
theorem plK_same (a b:Int × Int) (w:World):(Op.equal 177 (.agg #[.int .i64 a.1,.int .i64 a.2]) (.agg #[.int .i64 b.1,.int .i64 b.2])).run Tryz.prog w= .ok (decide (a=b)) w:=by
 have hf : (Tryz.prog.fieldsOf 177).toList.map (fun f => (f.name, f.type, f.offset)) = [("file", 3, 0), ("index", 3, 1)] := by kernel_rfl
 unfold Op.equal Op.maxDepth;rw[run_equalIn_struct w 9999 177 _ _ (by kernel_rfl) (by kernel_rfl)]
 obtain⟨f0,f1,hfs⟩:∃f0 f1,(Tryz.prog.fieldsOf 177).toList=[f0,f1]:=by
  have hl:(Tryz.prog.fieldsOf 177).toList.length=2:=by have:=congrArg List.length hf;simpa using this
  match hq:(Tryz.prog.fieldsOf 177).toList,hl with
  | [f0,f1],_=>exact⟨f0,f1,rfl⟩
 rw[hfs]at hf⊢
 simp at hf
 obtain⟨⟨n0,t0,o0⟩,⟨n1,t1,o1⟩⟩:=hf;have pI:∀(zs:Array Value) (o:Nat) v,zs[o]? =some (.int .i64 v)->(part 3 zs o).run Tryz.prog w= .ok (.int .i64 v) w:=fun zs o v hz=>run_part_plain w (by simp[Program.plainKey,Tryz.underlying3]) hz
 have pB:∀(zs:Array Value) (o:Nat) v,zs[o]? =some (.bool v)->(part 4 zs o).run Tryz.prog w= .ok (.bool v) w:=fun zs o v hz=>run_part_plain w (by simp[Program.plainKey,Tryz.underlying4]) hz
 simp only[Op.eqFields,n0,t0,o0,n1,t1,o1];obtain⟨a1,a2⟩:=a;obtain⟨b1,b2⟩:=b
 simp[pI,run_equalIn_int w _ _ _ _ _ _ Tryz.underlying3]
 by_cases e1:a1=b1 <;> by_cases e2:a2=b2 <;> simp[e1,e2]
def plK:KeyK where
 ty:=177
 enc:=fun a=> .agg #[.int .i64 a.1,.int .i64 a.2]
 und:=⟨_,Tryz.underlying177⟩
 check:=plK_check
 same:=plK_same
 bits:=fun a=>by simp[Instr.sameBits]
theorem enK_check (em:Bool) (a:Int × Int) (w:World):(Instr.checkKey em 10000 67 (.agg #[.int .i64 a.1,.int .i64 a.2,.bool false])).run Tryz.prog w= .ok () w:=by
 have hf : (Tryz.prog.fieldsOf 67).toList.map (fun f => (f.name, f.type, f.offset)) = [("Kind", 3, 0), ("N", 3, 1), ("Write", 4, 2)] := by kernel_rfl
 have hu:∃fs,Tryz.prog.underlying 67=some (.struct fs)/\Tryz.prog.fieldsOf 67=fs:=⟨_,Tryz.underlying67,by kernel_rfl⟩
 obtain⟨fs,hu,hfe⟩:=hu;rw[hfe]at hf;obtain⟨f0,f1,f2,hfs⟩:∃f0 f1 f2,fs.toList=[f0,f1,f2]:=by
  have hl:fs.toList.length=3:=by have:=congrArg List.length hf;simpa using this
  match hq:fs.toList,hl with
  | [f0,f1,f2],_=>exact⟨f0,f1,f2,rfl⟩
 rw[hfs]at hf
 simp at hf
 obtain⟨⟨n0,t0,o0⟩,⟨n1,t1,o1⟩,⟨n2,t2,o2⟩⟩:=hf;have pI:∀(zs:Array Value) (o:Nat) v,zs[o]? =some (.int .i64 v)->(part 3 zs o).run Tryz.prog w= .ok (.int .i64 v) w:=fun zs o v hz=>run_part_plain w (by simp[Program.plainKey,Tryz.underlying3]) hz
 have pB:∀(zs:Array Value) (o:Nat) v,zs[o]? =some (.bool v)->(part 4 zs o).run Tryz.prog w= .ok (.bool v) w:=fun zs o v hz=>run_part_plain w (by simp[Program.plainKey,Tryz.underlying4]) hz
 have cI:∀(v:Int) (n:Nat),(Instr.checkKey em (n+1) 3 (.int .i64 v)).run Tryz.prog w= .ok () w:=fun v n=>by
  unfold Instr.checkKey
  simp[run_underlying Tryz.underlying3]
 have cB:∀(v:Bool) (n:Nat),(Instr.checkKey em (n+1) 4 (.bool v)).run Tryz.prog w= .ok () w:=fun v n=>by
  unfold Instr.checkKey
  simp[run_underlying Tryz.underlying4]
 rw[show(10000:Nat)=9999+1 from rfl,Instr.checkKey]
 simp only[Sem.run_bind,run_underlying hu,rA];rw[<-Array.forIn_toList,hfs];have k1:=cI a.1 9998;have k2:=cI a.2 9998;have k3:=cB false 9998;have q0:=pI (#[.int .i64 a.1,.int .i64 a.2,.bool false]) 0 a.1 rfl;have q1:=pI (#[.int .i64 a.1,.int .i64 a.2,.bool false]) 1 a.2 rfl;have q2:=pB (#[.int .i64 a.1,.int .i64 a.2,.bool false]) 2 false rfl
 simp[List.forIn_cons,n0,t0,o0,n1,t1,o1,n2,t2,o2,q0,q1,q2,k1,k2,k3]
theorem enK_same (a b:Int × Int) (w:World):(Op.equal 67 (.agg #[.int .i64 a.1,.int .i64 a.2,.bool false]) (.agg #[.int .i64 b.1,.int .i64 b.2,.bool false])).run Tryz.prog w= .ok (decide (a=b)) w:=by
 have hf : (Tryz.prog.fieldsOf 67).toList.map (fun f => (f.name, f.type, f.offset)) = [("Kind", 3, 0), ("N", 3, 1), ("Write", 4, 2)] := by kernel_rfl
 unfold Op.equal Op.maxDepth;rw[run_equalIn_struct w 9999 67 _ _ (by kernel_rfl) (by kernel_rfl)]
 obtain⟨f0,f1,f2,hfs⟩:∃f0 f1 f2,(Tryz.prog.fieldsOf 67).toList=[f0,f1,f2]:=by
  have hl:(Tryz.prog.fieldsOf 67).toList.length=3:=by have:=congrArg List.length hf;simpa using this
  match hq:(Tryz.prog.fieldsOf 67).toList,hl with
  | [f0,f1,f2],_=>exact⟨f0,f1,f2,rfl⟩
 rw[hfs]at hf⊢
 simp at hf
 obtain⟨⟨n0,t0,o0⟩,⟨n1,t1,o1⟩,⟨n2,t2,o2⟩⟩:=hf;have pI:∀(zs:Array Value) (o:Nat) v,zs[o]? =some (.int .i64 v)->(part 3 zs o).run Tryz.prog w= .ok (.int .i64 v) w:=fun zs o v hz=>run_part_plain w (by simp[Program.plainKey,Tryz.underlying3]) hz
 have pB:∀(zs:Array Value) (o:Nat) v,zs[o]? =some (.bool v)->(part 4 zs o).run Tryz.prog w= .ok (.bool v) w:=fun zs o v hz=>run_part_plain w (by simp[Program.plainKey,Tryz.underlying4]) hz
 simp only[Op.eqFields,n0,t0,o0,n1,t1,o1,n2,t2,o2];obtain⟨a1,a2⟩:=a;obtain⟨b1,b2⟩:=b
 simp[pI,pB,run_equalIn_bool' w _ _ _ _ Tryz.underlying4,run_equalIn_int w _ _ _ _ _ _ Tryz.underlying3]
 by_cases e1:a1=b1 <;> by_cases e2:a2=b2 <;> simp[e1,e2]
def enK:KeyK where
 ty:=67
 enc:=fun a=> .agg #[.int .i64 a.1,.int .i64 a.2,.bool false]
 und:=⟨_,Tryz.underlying67⟩
 check:=enK_check
 same:=enK_same
 bits:=fun a=>by simp[Instr.sameBits]
theorem Box.ne_map {K:KeyK} {w:World} {b B:Nat} {cs:List Value} {g:Int × Int->Option Int} (h:Box w b cs) (k:MapF K w B g):b≠B:=fun e=>by
 subst e;obtain⟨t,h⟩:=h;obtain⟨es,cl,l,k1,_⟩:=k;rw[h]at k1;cases k1
theorem OwnRow.ne_map {α:Type} {E:Elt α} {K:KeyK} {w:World} {base B:Nat} {v:Value} {l:List α} {g:Int × Int->Option Int} (h:OwnRow E base w v l) (k:MapF K w B g):∀x,v.ownBlock=some x->some B≠some x:=fun x hx e=>by
 cases e;obtain⟨cs,h1⟩:=h.obj hx;obtain⟨es,cl,l,k1,_⟩:=k;rw[h1]at k1;cases k1
theorem Tryz.zeroInt (w:World):(zeroValue 3).run Tryz.prog w= .ok (.int .i64 0) w:=by kernel_rfl
theorem withIndex_any (V:MaV) (m:Ma) (w:World) (hm:MachAt w V m):
  Calls Tryz.prog 58 #[.agg #[.slice V.f.a V.f.n V.f.c,.int .i64 m.hand,.slice V.s.a V.s.n V.s.c,.slice V.sb.a V.sb.n V.sb.c,.slice V.sq.a V.sq.n V.sq.c,.slice V.db.a V.db.n V.db.c,.slice V.dq.a V.dq.n V.dq.c,.slice V.fl.a V.fl.n V.fl.c,.int .i64 m.cnt,.slice V.ca.a V.ca.n V.ca.c,.slice V.sp.a V.sp.n V.sp.c]] w fun e w'=>∃B,e= .returned (.agg #[.slice V.f.a V.f.n V.f.c,.int .i64 m.hand,.slice V.s.a V.s.n V.s.c,.slice V.sb.a V.sb.n V.sb.c,.slice V.sq.a V.sq.n V.sq.c,.slice V.db.a V.db.n V.db.c,.slice V.dq.a V.dq.n V.dq.c,.slice V.fl.a V.fl.n V.fl.c,.int .i64 m.cnt,.slice V.ca.a V.ca.n V.ca.c,.slice V.sp.a V.sp.n V.sp.c,.map (some B)])/\MapF plK w' B (idxG m.ca)/\Grew w w':=by
 obtain⟨vf,vs,vsb,vsq,vdb,vdq,vfl,⟨caa,can,cac⟩,vsp⟩:=V;dsimp only;obtain⟨-,-,-,-,-,-,-,n8,-⟩:=hm.ns;dsimp only at n8;have HR:Hid (CaRows w caa m.ca):=hm.cas;have HN:Hid (m.ca.length=can):=n8.symm;have hbig:can<=9223372036854775807:=by have:=hm.ca.short;omega
 clear hm n8;have hmm:=@run_makeMap Tryz.prog;obtain⟨W0,hW0⟩:∃W0,((w.alloc (.cells #[.slice vf.a vf.n vf.c,.int .i64 m.hand,.slice vs.a vs.n vs.c,.slice vsb.a vsb.n vsb.c,.slice vsq.a vsq.n vsq.c,.slice vdb.a vdb.n vdb.c,.slice vdq.a vdq.n vdq.c,.slice vfl.a vfl.n vfl.c,.int .i64 m.cnt,.slice caa can cac,.slice vsp.a vsp.n vsp.c] 40)).alloc (.cells #[.slice none 0 0,.int .i64 0,.slice none 0 0,.slice none 0 0,.slice none 0 0,.slice none 0 0,.slice none 0 0,.slice none 0 0,.int .i64 0,.slice none 0 0,.slice none 0 0,.map none] 117)).alloc (.map #[] 0)=W0:=⟨_,rfl⟩;have HG0:Hid (Grew w W0):=show Grew _ _ by rw[<-hW0];exact((grew_alloc _ _).trans (grew_alloc _ _)).trans (grew_alloc _ _)
 have X0:Hid (Box W0 w.heap.size [.slice vf.a vf.n vf.c,.int .i64 m.hand,.slice vs.a vs.n vs.c,.slice vsb.a vsb.n vsb.c,.slice vsq.a vsq.n vsq.c,.slice vdb.a vdb.n vdb.c,.slice vdq.a vdq.n vdq.c,.slice vfl.a vfl.n vfl.c,.int .i64 m.cnt,.slice caa can cac,.slice vsp.a vsp.n vsp.c]):=show Box _ _ _ by rw[<-hW0];exact((Box.top _ _ _ rfl).alloc _).alloc _
 have Y0:Hid (Box W0 (w.heap.size+1) [.slice none 0 0,.int .i64 0,.slice none 0 0,.slice none 0 0,.slice none 0 0,.slice none 0 0,.slice none 0 0,.slice none 0 0,.int .i64 0,.slice none 0 0,.slice none 0 0,.map none]):=show Box _ _ _ by rw[<-hW0];exact(Box.top _ _ _ (by simp)).alloc _
 have M0:Hid (MapF plK W0 (w.heap.size+1+1) (idxG (m.ca.take 0))):=show MapF _ _ _ _ by
  rw[<-hW0];have:=MapF.made plK ((w.alloc (.cells #[.slice vf.a vf.n vf.c,.int .i64 m.hand,.slice vs.a vs.n vs.c,.slice vsb.a vsb.n vsb.c,.slice vsq.a vsq.n vsq.c,.slice vdb.a vdb.n vdb.c,.slice vdq.a vdq.n vdq.c,.slice vfl.a vfl.n vfl.c,.int .i64 m.cnt,.slice caa can cac,.slice vsp.a vsp.n vsp.c] 40)).alloc (.cells #[.slice none 0 0,.int .i64 0,.slice none 0 0,.slice none 0 0,.slice none 0 0,.slice none 0 0,.slice none 0 0,.slice none 0 0,.int .i64 0,.slice none 0 0,.slice none 0 0,.map none] 117));have hs:((w.alloc (.cells #[.slice vf.a vf.n vf.c,.int .i64 m.hand,.slice vs.a vs.n vs.c,.slice vsb.a vsb.n vsb.c,.slice vsq.a vsq.n vsq.c,.slice vdb.a vdb.n vdb.c,.slice vdq.a vdq.n vdq.c,.slice vfl.a vfl.n vfl.c,.int .i64 m.cnt,.slice caa can cac,.slice vsp.a vsp.n vsp.c] 40)).alloc (.cells #[.slice none 0 0,.int .i64 0,.slice none 0 0,.slice none 0 0,.slice none 0 0,.slice none 0 0,.slice none 0 0,.slice none 0 0,.int .i64 0,.slice none 0 0,.slice none 0 0,.map none] 117)).heap.size=w.heap.size+1+1:=by simp
  rw[hs]at this;exact this.congr fun k=>by rw[List.take_zero];rfl
 have HW0:Hid (_=W0):=hW0;clear hW0
 go_enter Tryz.func58,Tryz.ntmps58
 go_upto_region 2 with fail;rw[HW0.out];clear hmm;have x9:=X0.out.c 9 rfl;go_wp2;clear x9
 go_loopg [10] can (fun gg s10 wr=>∃kk:Nat,kk<=can/\can - kk<=gg/\s10= .int .i64 kk/\Hid (Grew w wr)/\Hid (Box wr w.heap.size [.slice vf.a vf.n vf.c,.int .i64 m.hand,.slice vs.a vs.n vs.c,.slice vsb.a vsb.n vsb.c,.slice vsq.a vsq.n vsq.c,.slice vdb.a vdb.n vdb.c,.slice vdq.a vdq.n vdq.c,.slice vfl.a vfl.n vfl.c,.int .i64 m.cnt,.slice caa can cac,.slice vsp.a vsp.n vsp.c])/\Hid (Box wr (w.heap.size+1) [.slice none 0 0,.int .i64 0,.slice none 0 0,.slice none 0 0,.slice none 0 0,.slice none 0 0,.slice none 0 0,.slice none 0 0,.int .i64 0,.slice none 0 0,.slice none 0 0,.map none])/\Hid (MapF plK wr (w.heap.size+1+1) (idxG (m.ca.take kk))))
 case atStart=>exact⟨0,nZ _,by omega,rfl,HG0.out,X0.out,Y0.out,M0.out⟩
 obtain⟨kk,hkk,hgg,rfl,BW,XW,YW,MW⟩:=hrel;clear X0 Y0 M0 HG0
 by_cases hlt:kk<can
 ·have hltz:(kk:Int)< (can:Int):=by omega
  obtain⟨c,HC⟩:∃c,Hid (m.ca[kk]? =some c):=⟨_,gE (by rw[HN.out];exact hlt)⟩
  obtain⟨ad,rfl,hl⟩:=HR.out kk c HC.out;obtain⟨d0,d1,d2⟩:=hl wr BW.out;clear hl;go_upto_region 5 with fail;obtain⟨W1,hW1⟩:∃W1,wr.alloc (.cells #[.int .i64 c.file,.int .i64 c.idx,.int .i64 c.fr] 83)=W1:=⟨_,rfl⟩;have HG1:=gT hW1 BW
  have X1:=yA hW1 XW
  have Y1:=yA hW1 YW
  have M1:Hid (MapF plK W1 (w.heap.size+1+1) (idxG (m.ca.take kk))):=show MapF _ _ _ _ by rw[<-hW1];exact MW.out.grew (grew_alloc _ _)
  have C1:=xA hW1
  rw[hW1];clear hW1 d0 d1 d2;obtain⟨c0,c1,c2⟩:=C1.out.c3
  go_wp2_with (refine wp_putMap (K:=plK) rfl 115 3 (.tmp 14) (.tmp 19) (.tmp 21) rfl Tryz.underlying115 (w.heap.size+1+1) _ M1.out (c.file,c.idx) c.fr rfl rfl rfl ?_)
  clear c0 c1 c2;intro W2 m2 hg2 _;have M2:Hid (MapF plK W2 (w.heap.size+1+1) (idxG (m.ca.take (kk+1)))):=show MapF _ _ _ _ from m2.congr fun k=>by rw[take_snoc HC.out,idxG_snoc]
  have HG2:Hid (Grew w W2):=show Grew _ _ from grew_grown HG1.out hg2 (by omega)
  have X2:Hid (Box W2 w.heap.size [.slice vf.a vf.n vf.c,.int .i64 m.hand,.slice vs.a vs.n vs.c,.slice vsb.a vsb.n vsb.c,.slice vsq.a vsq.n vsq.c,.slice vdb.a vdb.n vdb.c,.slice vdq.a vdq.n vdq.c,.slice vfl.a vfl.n vfl.c,.int .i64 m.cnt,.slice (some ad) can cac,.slice vsp.a vsp.n vsp.c]):=X1.out.grown hg2 (by omega)
  have Y2:Hid (Box W2 (w.heap.size+1) [.slice none 0 0,.int .i64 0,.slice none 0 0,.slice none 0 0,.slice none 0 0,.slice none 0 0,.slice none 0 0,.slice none 0 0,.int .i64 0,.slice none 0 0,.slice none 0 0,.map none]):=Y1.out.grown hg2 (by omega)
  clear m2 hg2;go_wp2
  go_roundg (can -(kk+1))
  case measure=>omega
  exact⟨kk+1,by omega,by omega,by go_num,HG2.out,X2.out,Y2.out,M2.out⟩
 have hltz:¬(kk:Int)< (can:Int):=by omega
 have:kk=can:=by omega
 subst this;have MA1:Hid (MapF plK wr (w.heap.size+1+1) (idxG m.ca)):=show MapF _ _ _ _ by
  have:=MW.out;rw[List.take_of_length_le (by rw[HN.out];exact nR _)]at this
  exact this
 obtain⟨x0,x1,x2,x3,x4,x5,x6,x7,x8,x9,x10⟩:=XW.out.c11
 go_wp2_with (refine wp_storeAll rfl 117 (.tmp 2) (.tmp 25) rfl (w.heap.size+1) rfl [.slice vf.a vf.n vf.c,.int .i64 m.hand,.slice vs.a vs.n vs.c,.slice vsb.a vsb.n vsb.c,.slice vsq.a vsq.n vsq.c,.slice vdb.a vdb.n vdb.c,.slice vdq.a vdq.n vdq.c,.slice vfl.a vfl.n vfl.c,.int .i64 m.cnt,.slice caa kk cac,.slice vsp.a vsp.n vsp.c,.map (some (w.heap.size+1+1))] rfl YW.out rfl (by kernel_rfl) (fun v hv=>by
  simp only[mC,nM,or_false]at hv
  rcases hv with rfl | rfl | rfl | rfl | rfl | rfl | rfl | rfl | rfl | rfl | rfl | rfl <;> rfl) ?_)
 clear x0 x1 x2 x3 x4 x5 x6 x7 x8 x9 x10;intro W5 hb5 hg5 _;have G5:Hid (Grew w W5):=show Grew _ _ from grew_grown BW.out hg5 (by omega)
 have M5:Hid (MapF plK W5 (w.heap.size+1+1) (idxG m.ca)):=MA1.out.kept hg5 (by simp)
 go_wp2;refine bodyPost_ret (ret_cell rfl _ rfl hb5 Tryz.underlying117 rfl (by kernel_rfl)) rfl ⟨_,rfl,M5.out,G5.out⟩
theorem hasCached_any (V:MaV) (m:Ma) (B k:Nat) (g:Int × Int->Option Int) (w:World) (hm:MachAt w V m) (hk:k<m.fs.length) (hmap:MapF plK w B g):
  Calls Tryz.prog 95 #[.agg #[.slice V.f.a V.f.n V.f.c,.int .i64 m.hand,.slice V.s.a V.s.n V.s.c,.slice V.sb.a V.sb.n V.sb.c,.slice V.sq.a V.sq.n V.sq.c,.slice V.db.a V.db.n V.db.c,.slice V.dq.a V.dq.n V.dq.c,.slice V.fl.a V.fl.n V.fl.c,.int .i64 m.cnt,.slice V.ca.a V.ca.n V.ca.c,.slice V.sp.a V.sp.n V.sp.c,.map (some B)],.int .i64 (k:Int)] w fun e w'=>e= .returned (.bool (decide (g ((frAt m k).f,(frAt m k).x)=some (k:Int))))/\Grew w w':=by
 obtain⟨⟨fa,fn,fc⟩,vs,vsb,vsq,vdb,vdq,vfl,vca,vsp⟩:=V;dsimp only;obtain⟨n1,-⟩:=hm.ns;dsimp only at n1;have hkn:k<fn:=by omega
 obtain⟨q,HQ⟩:∃q,Hid (m.fs[k]? =some q):=⟨_,gE hk⟩;have hfr:frAt m (k:Int)=q:=by unfold frAt;rw[tN,gD,HQ.out];rfl
 rw[hfr];obtain⟨ad,rfl,hl⟩:=(show FrRows w fa m.fs from hm.frs) k q HQ.out
 clear hfr hm n1 hk;obtain⟨W1,hW1⟩:∃W1,w.alloc (.cells #[.slice (some ad) fn fc,.int .i64 m.hand,.slice vs.a vs.n vs.c,.slice vsb.a vsb.n vsb.c,.slice vsq.a vsq.n vsq.c,.slice vdb.a vdb.n vdb.c,.slice vdq.a vdq.n vdq.c,.slice vfl.a vfl.n vfl.c,.int .i64 m.cnt,.slice vca.a vca.n vca.c,.slice vsp.a vsp.n vsp.c,.map (some B)] 117)=W1:=⟨_,rfl⟩;have HG1:=gA hW1
 have X1:=xA hW1
 have HS1:=sA hW1
 obtain⟨d0,d1,d2,d3,d4,d5,d6,d7,d8,d9,d10,d11,d12⟩:=hl W1 HG1.out;obtain⟨W2,hW2⟩:∃W2,W1.alloc (.cells #[.int .u8 q.p.b0,.int .u8 q.p.b1,.int .u8 q.p.b2,.int .u8 q.p.b3,.int .u8 q.p.b4,.int .u8 q.p.b5,.int .u8 q.p.b6,.int .u8 q.p.b7,.int .i64 q.r,.bool q.u,.bool q.d,.int .i64 q.f,.int .i64 q.x] 59)=W2:=⟨_,rfl⟩;have HG2:=gT hW2 HG1
 have X2:=yA hW2 X1
 have F2:=xP hW2 HS1
 have hlook:(Instr.lookup 115 (.map (some B)) (.agg #[.int .i64 q.f,.int .i64 q.x]) true).run Tryz.prog W2= .ok (.tuple #[.int .i64 ((g (q.f,q.x)).getD 0),.bool (g (q.f,q.x)).isSome]) W2:=(hmap.grew HG2.out).look (K:=plK) Tryz.underlying115 (Tryz.zeroInt W2) (q.f,q.x) true;have HW1:Hid (_=W1):=hW1;have HW2:Hid (_=W2):=hW2;clear hW1 hW2 hl hmap;obtain⟨R,HRR⟩:∃R,Hid (decide (g (q.f,q.x)=some (k:Int))=R):=⟨_,rfl⟩;rw[HRR.out];obtain⟨gv,HGV⟩:∃gv,Hid (g (q.f,q.x)=gv):=⟨_,rfl⟩;rw[HGV.out]at hlook HRR
 go_enter Tryz.func95,Tryz.ntmps95
 go_upto_region 1 with fail;rw[HW1.out];have x0:=X1.out.c 0 rfl;go_upto_region 2 with fail;rw[HW2.out];rw[HS1.out];clear d0 d1 d2 d3 d4 d5 d6 d7 d8 d9 d10 d11 d12 x0;have x11:=X2.out.c 11 rfl;have f11:=F2.out.c 11 rfl;have f12:=F2.out.c 12 rfl
 cases gv with
 | none=>
  simp only[Option.getD_none,Option.isSome_none]at hlook;go_wp2;go_ret;exact⟨by rw[<-HRR.out];rfl,HG2.out⟩
 | some z=>
  simp only[Option.getD_some,Option.isSome_some]at hlook;have HE:Hid ((z ==(k:Int))=R):=show _=_ by rw[<-HRR.out,Bool.eq_iff_iff];simp
  go_wp2;go_ret;exact⟨by rw[<-HE.out];rfl,HG2.out⟩
def MapH (K:KeyK) (w:World) (b:Nat) (H:Int × Int->Int):Prop:=∃g,MapF K w b g/\∀k,(g k).getD 0=H k
theorem MapH.grew {K:KeyK} {w w':World} {b:Nat} {H:Int × Int->Int} (h:MapH K w b H) (k:Grew w w'):MapH K w' b H:=by
 obtain⟨g,h1,h2⟩:=h;exact⟨g,h1.grew k,h2⟩
theorem MapH.congr {K:KeyK} {w:World} {b:Nat} {H H':Int × Int->Int} (h:MapH K w b H) (e:∀k,H k=H' k):MapH K w b H':=by
 obtain⟨g,h1,h2⟩:=h;exact⟨g,h1,fun k=>(h2 k).trans (e k)⟩
theorem MapH.ne_box {K:KeyK} {w:World} {b B:Nat} {cs:List Value} {H:Int × Int->Int} (k:MapH K w B H) (h:Box w b cs):b≠B:=by
 obtain⟨g,h1,_⟩:=k;exact h.ne_map h1
theorem MapH.ne_own {α:Type} {E:Elt α} {K:KeyK} {w:World} {base B:Nat} {v:Value} {l:List α} {H:Int × Int->Int} (k:MapH K w B H) (h:OwnRow E base w v l):∀x,v.ownBlock=some x->some B≠some x:=by
 obtain⟨g,h1,_⟩:=k;exact h.ne_map h1
def MapEH (K:KeyK) (w:World) (b:Nat) (H:Int × Int->Int) (k:Int × Int) (st:Int):Prop:=∃g,MapE K w b g k st/\∀x,(g x).getD 0=H x
theorem MapH.entry {K:KeyK} {w:World} {b:Nat} {H:Int × Int->Int} (h:MapH K w b H) {t e:TypeId} (ht:Tryz.prog.underlying t=some (.map K.ty e)) (hz:(zeroValue e).run Tryz.prog w= .ok (.int .i64 0) w) (k:Int × Int):
  ∃w' st,(Instr.mapEntry t (.map (some b)) (K.enc k)).run Tryz.prog w= .ok (.tuple #[.int .i64 (H k),.int .i64 st]) w'/\MapEH K w' b H k st/\w.grownBy w' (some b)/\w'.heap.size=w.heap.size:=by
 obtain⟨g,h1,h2⟩:=h;obtain⟨w',st,r1,r2,r3,r4⟩:=h1.entry ht hz k;rw[h2 k]at r1;refine⟨w',st,r1,⟨_,r2,fun x=>?_⟩,r3,r4⟩
 by_cases e:x=k
 ·subst e;rw[if_pos rfl];exact h2 x
 rw[if_neg e];exact h2 x
theorem MapEH.h {K:KeyK} {w:World} {b:Nat} {H:Int × Int->Int} {k:Int × Int} {st:Int} (h:MapEH K w b H k st):MapH K w b H:=by
 obtain⟨g,h1,h2⟩:=h;exact⟨g,h1.f,h2⟩
theorem MapH.look {K:KeyK} {w:World} {b:Nat} {H:Int × Int->Int} (h:MapH K w b H) {t e:TypeId} (ht:Tryz.prog.underlying t=some (.map K.ty e)) (hz:(zeroValue e).run Tryz.prog w= .ok (.int .i64 0) w) (k:Int × Int):
  (Instr.lookup t (.map (some b)) (K.enc k) false).run Tryz.prog w= .ok (.int .i64 (H k)) w:=by
 obtain⟨g,h1,h2⟩:=h;have:=h1.look ht hz k false;rw[h2 k]at this;exact this
def addH (H:Int × Int->Int) (k:Int × Int):Int × Int->Int:=fun x=>H x+(if x=k then 1 else 0)
theorem wp_storeEntry {K:KeyK} {w:World} {ops:Array Oper} {rest:List Oper} {o:Oper} {a:Act} {Q:Exit->Act->World->Prop} (hgd:o.guard=none) (t:TypeId) (m s x:Operand) (hop:o.op= .entryStore t m s x) (b:Nat) (H:Int × Int->Int) (k:Int × Int) (st:Int) (h:MapEH K w b H k st)
  (hm:a.eval m= .map (some b)) (hs:a.eval s= .int .i64 st) (hv:a.eval x= .int .i64 (H k+1))
  (hK:∀w',MapH K w' b (addH H k)->w.grownBy w' (some b)->w'.heap.size=w.heap.size->wpList Tryz.prog ops Q rest (a.put o.dst undef) w'):wpList Tryz.prog ops Q (o :: rest) a w:=by
 refine wpList_plain hgd fun K' hK'=>?_
 obtain⟨g,h1,h2⟩:=h;obtain⟨w',hrun,r1,r2,r3⟩:=h1.store t (H k+1);unfold Oper.wp
 simp[execOp,hop,hm,hs,hv,hrun,Result.andThen]
 refine hK' _ _ (hK w' ⟨_,r1,fun y=>?_⟩ r2 r3)
 unfold addH
 by_cases e:y=k
 ·subst e;rw[if_pos rfl,if_pos rfl];rfl
 rw[if_neg e,if_neg e,h2 y];omega
theorem heldC_le (l:List Ca) (key:Int × Int):0<=heldC l key/\heldC l key<=l.length:=by
 unfold heldC cachedN
 split
 ·have:=List.countP_le_length (p:=fun c:Ca=>decide (c.fr=key.2)) (l:=l)
  omega
 omega
theorem pagesN_len (s:Sp):(pagesN s).length<=64:=by
 unfold pagesN;have:=List.length_filter_le (fun n=>enS (flatN s n)) (List.range 64)
 simpa using this
theorem held_le (m:Ma) (i:Nat) (l:List Nat) (s:Sp) (key:Int × Int):0<=heldTo m i l s key/\heldTo m i l s key<=m.ca.length+64*m.sp.length+l.length:=by
 unfold heldTo;have h1:(if key.1=1 then cachedN m.ca key.2 else 0)<=m.ca.length:=by
  split
  ·exact List.countP_le_length
  omega
 have h2:∀(L:List Sp),(L.map fun s=>(pagesN s).countP fun n=>isE (flatN s n) key.1 key.2).sum<=64*L.length:=by
  intro L
  induction L with
  | nil=>simp
  | cons a L ih=>
   have h3:=List.countP_le_length (p:=fun n=>isE (flatN a n) key.1 key.2) (l:=pagesN a)
   have h4:=pagesN_len a;simp only[mP,List.sum_cons,List.length_cons];omega
 have h5:=h2 (m.sp.take i);have h6:(m.sp.take i).length<=m.sp.length:=by simp;omega
 have h7:=List.countP_le_length (p:=fun n=>isE (flatN s n) key.1 key.2) (l:=l)
 omega
def sp00:Sp:=⟨true,[],[]⟩
theorem holders_any (V:MaV) (m:Ma) (w:World) (hm:MachAt w V m) (hsp4:m.sp.length<=4) (htb:∀s∈m.sp,tbW s.tb=0):
  Calls Tryz.prog 94 #[.agg #[.slice V.f.a V.f.n V.f.c,.int .i64 m.hand,.slice V.s.a V.s.n V.s.c,.slice V.sb.a V.sb.n V.sb.c,.slice V.sq.a V.sq.n V.sq.c,.slice V.db.a V.db.n V.db.c,.slice V.dq.a V.dq.n V.dq.c,.slice V.fl.a V.fl.n V.fl.c,.int .i64 m.cnt,.slice V.ca.a V.ca.n V.ca.c,.slice V.sp.a V.sp.n V.sp.c]] w fun e w'=>∃B,e= .returned (.map (some B))/\MapH enK w' B (heldTo m m.sp.length [] sp00)/\Grew w w':=by
 obtain⟨vf,vs,vsb,vsq,vdb,vdq,vfl,⟨caa,can,cac⟩,⟨spa,spn,spc⟩⟩:=V;dsimp only;obtain⟨-,-,-,-,-,-,-,n8,n9⟩:=hm.ns;dsimp only at n8 n9;have HR:Hid (CaRows w caa m.ca):=hm.cas;have HN:Hid (m.ca.length=can):=n8.symm;have hbig:can<=140737488355328:=by have:=hm.ca.2;have h24:cchE.bytes=24:=rfl;rw[h24]at this;omega
 obtain⟨xs,hxl,hrow,hsp⟩:=hm.spaces;have HXL:Hid (xs.length=m.sp.length):=hxl;have HRS:Hid (∀(j:Nat) x,xs[j]? =some x->∃ad,spa=some ad/\∀W,Grew w W->Sp10 W (ad.add (j*10)) x):=hrow;have HSP:Hid (∀(i:Nat) x s,xs[i]? =some x->m.sp[i]? =some s->SpaceAt w x s):=hsp;have HNS:Hid (m.sp.length=spn):=n9.symm;have HTBS:Hid (∀s∈m.sp,tbW s.tb=0):=htb;have HC0:Hid (∀j key,0<=heldC (m.ca.take j) key/\heldC (m.ca.take j) key<=140737488355328):=show∀j key,_ from fun j key=>by
  have h1:=heldC_le (m.ca.take j) key;have h2:(m.ca.take j).length<=m.ca.length:=by simp;omega
  omega
 have HH0:Hid (∀i l s key,l.length<=64->0<=heldTo m i l s key/\heldTo m i l s key<=140737488360000):=show∀i l s key,_ from fun i l s key hl=>by
  have h1:=held_le m i l s key;omega
 have hsn4:spn<=4:=by omega
 clear hm n8 n9 hxl hrow hsp hsp4 htb;have hmm:=@run_makeMap Tryz.prog;obtain⟨W0,hW0⟩:∃W0,(w.alloc (.cells #[.slice vf.a vf.n vf.c,.int .i64 m.hand,.slice vs.a vs.n vs.c,.slice vsb.a vsb.n vsb.c,.slice vsq.a vsq.n vsq.c,.slice vdb.a vdb.n vdb.c,.slice vdq.a vdq.n vdq.c,.slice vfl.a vfl.n vfl.c,.int .i64 m.cnt,.slice caa can cac,.slice spa spn spc] 40)).alloc (.map #[] 0)=W0:=⟨_,rfl⟩;have HG0:Hid (Grew w W0):=show Grew _ _ by rw[<-hW0];exact(grew_alloc _ _).trans (grew_alloc _ _)
 have X0:Hid (Box W0 w.heap.size [.slice vf.a vf.n vf.c,.int .i64 m.hand,.slice vs.a vs.n vs.c,.slice vsb.a vsb.n vsb.c,.slice vsq.a vsq.n vsq.c,.slice vdb.a vdb.n vdb.c,.slice vdq.a vdq.n vdq.c,.slice vfl.a vfl.n vfl.c,.int .i64 m.cnt,.slice caa can cac,.slice spa spn spc]):=show Box _ _ _ by rw[<-hW0];exact(Box.top _ _ _ rfl).alloc _
 have M0:Hid (MapH enK W0 (w.heap.size+1) (heldC (m.ca.take 0))):=show MapH _ _ _ _ by
  rw[<-hW0];have:=MapF.made enK (w.alloc (.cells #[.slice vf.a vf.n vf.c,.int .i64 m.hand,.slice vs.a vs.n vs.c,.slice vsb.a vsb.n vsb.c,.slice vsq.a vsq.n vsq.c,.slice vdb.a vdb.n vdb.c,.slice vdq.a vdq.n vdq.c,.slice vfl.a vfl.n vfl.c,.int .i64 m.cnt,.slice caa can cac,.slice spa spn spc] 40));have hs:(w.alloc (.cells #[.slice vf.a vf.n vf.c,.int .i64 m.hand,.slice vs.a vs.n vs.c,.slice vsb.a vsb.n vsb.c,.slice vsq.a vsq.n vsq.c,.slice vdb.a vdb.n vdb.c,.slice vdq.a vdq.n vdq.c,.slice vfl.a vfl.n vfl.c,.int .i64 m.cnt,.slice caa can cac,.slice spa spn spc] 40)).heap.size=w.heap.size+1:=by simp
  rw[hs]at this;exact⟨_,this,fun k=>by rw[List.take_zero,heldC_nil];rfl⟩
 have HW0:Hid (_=W0):=hW0;clear hW0
 go_enter Tryz.func94,Tryz.ntmps94
 go_upto_region 2 with fail;rw[HW0.out];clear hmm;have x9:=X0.out.c 9 rfl;go_wp2;clear x9
 go_loopg [15] can (fun gg s15 wr=>∃kk:Nat,kk<=can/\can - kk<=gg/\s15= .int .i64 kk/\Hid (Grew w wr)/\Hid (Box wr w.heap.size [.slice vf.a vf.n vf.c,.int .i64 m.hand,.slice vs.a vs.n vs.c,.slice vsb.a vsb.n vsb.c,.slice vsq.a vsq.n vsq.c,.slice vdb.a vdb.n vdb.c,.slice vdq.a vdq.n vdq.c,.slice vfl.a vfl.n vfl.c,.int .i64 m.cnt,.slice caa can cac,.slice spa spn spc])/\Hid (MapH enK wr (w.heap.size+1) (heldC (m.ca.take kk))))
 case atStart=>exact⟨0,nZ _,by omega,rfl,HG0.out,X0.out,M0.out⟩
 obtain⟨kk,hkk,hgg,rfl,BW,XW,MW⟩:=hrel;clear X0 M0 HG0
 by_cases hlt:kk<can
 ·have hltz:(kk:Int)< (can:Int):=by omega
  obtain⟨c,HC⟩:∃c,Hid (m.ca[kk]? =some c):=⟨_,gE (by rw[HN.out];exact hlt)⟩
  obtain⟨ad,rfl,hl⟩:=HR.out kk c HC.out;obtain⟨d0,d1,d2⟩:=hl wr BW.out;clear hl;go_upto_region 5 with fail;obtain⟨W1,hW1⟩:∃W1,wr.alloc (.cells #[.int .i64 c.file,.int .i64 c.idx,.int .i64 c.fr] 83)=W1:=⟨_,rfl⟩;have HG1:=gT hW1 BW
  have X1:=yA hW1 XW
  have M1:Hid (MapH enK W1 (w.heap.size+1) (heldC (m.ca.take kk))):=show MapH _ _ _ _ by rw[<-hW1];exact MW.out.grew (grew_alloc _ _)
  have C1:=xA hW1
  rw[hW1];clear hW1 d0 d1 d2;obtain⟨pb,HPB⟩:∃pb,Hid (wr.heap.size=pb):=⟨_,rfl⟩;rw[HPB.out]at C1⊢;obtain⟨H,HH⟩:∃H,Hid (heldC (m.ca.take kk)=H):=⟨_,rfl⟩;rw[HH.out]at M1;obtain⟨hb0,hb1⟩:0<=H (1,c.fr)/\H (1,c.fr)<=140737488355328:=by rw[<-HH.out];exact HC0.out kk (1,c.fr)
  obtain⟨I,hI⟩:∃I:World->Prop,I=fun u=>MapH enK u (w.heap.size+1) H/\Box u pb [.int .i64 c.file,.int .i64 c.idx,.int .i64 c.fr]/\Box u w.heap.size [.slice vf.a vf.n vf.c,.int .i64 m.hand,.slice vs.a vs.n vs.c,.slice vsb.a vsb.n vsb.c,.slice vsq.a vsq.n vsq.c,.slice vdb.a vdb.n vdb.c,.slice vdq.a vdq.n vdq.c,.slice vfl.a vfl.n vfl.c,.int .i64 m.cnt,.slice (some ad) can cac,.slice spa spn spc]/\Grew w u:=⟨_,rfl⟩
  have HI:Hid (∀u,I u↔MapH enK u (w.heap.size+1) H/\Box u pb [.int .i64 c.file,.int .i64 c.idx,.int .i64 c.fr]/\Box u w.heap.size [.slice vf.a vf.n vf.c,.int .i64 m.hand,.slice vs.a vs.n vs.c,.slice vsb.a vsb.n vsb.c,.slice vsq.a vsq.n vsq.c,.slice vdb.a vdb.n vdb.c,.slice vdq.a vdq.n vdq.c,.slice vfl.a vfl.n vfl.c,.int .i64 m.cnt,.slice (some ad) can cac,.slice spa spn spc]/\Grew w u):=show∀u,_ from fun u=>by rw[hI]
  clear hI;have hx2:∀y:HoldI I,y.world.cell? ⟨pb,2,none⟩=some (.int .i64 c.fr):=fun y=>((HI.out _).1 y.holds).2.1.c 2 rfl
  have hlk:∀y:HoldI I,(Instr.lookup 163 (.map (some (w.heap.size+1))) (.agg #[.int .i64 1,.int .i64 c.fr,.bool false]) false).run Tryz.prog y.world= .ok (.int .i64 (H (1,c.fr))) y.world:=fun y=>((HI.out _).1 y.holds).1.look (K:=enK) Tryz.underlying163 (Tryz.zeroInt _) (1,c.fr)
  have hI0:I W1.drew:=(HI.out _).2 ⟨M1.out.grew (gW _),C1.out.grew (gW _),X1.out.grew (gW _),HG1.out.trans (gW _)⟩
  have hne:Nonempty (HoldI I):=⟨⟨_,hI0⟩⟩;refine wp_lax_tailI (I:=I) 8 [(6,⟨fun v=>∃st,v= .tuple #[.int .i64 (H (1,c.fr)),.int .i64 st],fun v w'=>∃st,v= .tuple #[.int .i64 (H (1,c.fr)),.int .i64 st]/\MapEH enK w' (w.heap.size+1) H (1,c.fr) st,fun _ _=>True,fun _=>True⟩)] hI0 mixed (by kernel_rfl) rfl rfl (by decide) ?hS ?hp ?hpre ?hpr0 ?_
  case hS=>
   intro y hy;simp only[mC,nM,or_false]at hy;subst hy;exact⟨_,0,rfl⟩
  case hp=>
   intro k s j t' hk hj hjk _ v p q hst hpo;obtain⟨rfl,rfl⟩:=look1 hk;obtain⟨rfl,rfl⟩:=look1 hj;exact absurd rfl hjk
  case hpre=>
   intro j t' k s hj hk hjk p q hst hpr;obtain⟨rfl,rfl⟩:=look1 hj;trivial
  case hpr0=>
   intro k t' hk;obtain⟨rfl,rfl⟩:=look1 hk;trivial
  simp only[List.take,List.drop];iterate 6 (refine laxI_quiet rfl rfl rfl (fun K hK=>?_);go_big_quiet_op;refine hK _ ?_;clear hK K)
  refine laxI_spec rfl rfl (fun w' hI' hpr hF=>?_) (fun v1 hv=>?_)
  ·obtain⟨i1,i2,i3,i4⟩:=(HI.out _).1 hI';obtain⟨w2,st,hrun,r1,r2,r3⟩:=i1.entry (K:=enK) Tryz.underlying163 (Tryz.zeroInt w') (1,c.fr);have hrun':(Instr.mapEntry 163 (.map (some (w.heap.size+1))) (.agg #[.int .i64 1,.int .i64 c.fr,.bool false])).run Tryz.prog w'= .ok (.tuple #[.int .i64 (H (1,c.fr)),.int .i64 st]) w2:=hrun;clear hx2 hlk hne;refine Does.step (v:= .tuple #[.int .i64 (H (1,c.fr)),.int .i64 st]) (w':=w2) (by simp only[execOp];go_simp) ⟨(HI.out _).2 ⟨r1.h,i2.grown r2 (i1.ne_box i2),i3.grown r2 (i1.ne_box i3),grew_grown i4 r2 (by omega)⟩,trivial,⟨_,rfl⟩,_,rfl,r1⟩
  obtain⟨st,rfl⟩:=hv;simp only[Act.put,sB,sS,sZ];iterate 1 (refine laxI_quiet rfl rfl rfl (fun K hK=>?_);go_big_quiet_op;refine hK _ ?_;clear hK K)
  refine laxI_nil fun W3 hI3 hF=>?_
  obtain⟨i1,i2,i3,i4⟩:=(HI.out _).1 hI3;obtain⟨st',hst,hE⟩:∃st',(Value.tuple #[.int .i64 (H (1,c.fr)),.int .i64 st])= .tuple #[.int .i64 (H (1,c.fr)),.int .i64 st']/\MapEH enK W3 (w.heap.size+1) H (1,c.fr) st':=hF 6;have hE':MapEH enK W3 (w.heap.size+1) H (1,c.fr) st:=by
   simp at hst
   rw[hst];exact hE
  have X3:Hid (Box W3 w.heap.size [.slice vf.a vf.n vf.c,.int .i64 m.hand,.slice vs.a vs.n vs.c,.slice vsb.a vsb.n vsb.c,.slice vsq.a vsq.n vsq.c,.slice vdb.a vdb.n vdb.c,.slice vdq.a vdq.n vdq.c,.slice vfl.a vfl.n vfl.c,.int .i64 m.cnt,.slice (some ad) can cac,.slice spa spn spc]):=i3;have HG3:Hid (Grew w W3):=i4;have HE3:Hid (MapEH enK W3 (w.heap.size+1) H (1,c.fr) st):=hE';clear hx2 hlk hne hF hI3 i1 i2 i3 i4 hE hst hE' hI0;refine wp_storeEntry (K:=enK) rfl 163 (.tmp 19) (.tmp 26) (.tmp 24) rfl (w.heap.size+1) H (1,c.fr) st HE3.out rfl rfl (by go_num) ?_
  intro W4 m4 hg4 _;have X4:Hid (Box W4 w.heap.size [.slice vf.a vf.n vf.c,.int .i64 m.hand,.slice vs.a vs.n vs.c,.slice vsb.a vsb.n vsb.c,.slice vsq.a vsq.n vsq.c,.slice vdb.a vdb.n vdb.c,.slice vdq.a vdq.n vdq.c,.slice vfl.a vfl.n vfl.c,.int .i64 m.cnt,.slice (some ad) can cac,.slice spa spn spc]):=X3.out.grown hg4 (by omega)
  have HG4:Hid (Grew w W4):=show Grew _ _ from grew_grown HG3.out hg4 (by omega)
  have M4:Hid (MapH enK W4 (w.heap.size+1) (heldC (m.ca.take (kk+1)))):=show MapH _ _ _ _ from m4.congr fun k=>by rw[take_snoc HC.out,heldC_step,<-HH.out];rfl
  clear m4 hg4 hb0 hb1;go_wp2
  go_roundg (can -(kk+1))
  case measure=>omega
  exact⟨kk+1,by omega,by omega,by go_num,HG4.out,X4.out,M4.out⟩
 have hltz:¬(kk:Int)< (can:Int):=by omega
 have:kk=can:=by omega
 subst this;have MA1:Hid (MapH enK wr (w.heap.size+1) (heldTo m 0 [] sp00)):=show MapH _ _ _ _ from MW.out.congr fun k=>by
  rw[List.take_of_length_le (by rw[HN.out];exact nR _)]
  exact heldC_all m sp00 k
 have x10:=XW.out.c 10 rfl;go_wp2;clear x10;have HBW:Hid (Grew w wr):=BW;clear BW XW MW
 go_loopg [31] spn (fun gg s31 wr=>∃i:Nat,i<=spn/\spn - i<=gg/\s31= .int .i64 i/\Hid (Grew w wr)/\Hid (MapH enK wr (w.heap.size+1) (heldTo m i [] sp00)))
 case atStart=>exact⟨0,nZ _,by omega,rfl,HBW.out,MA1.out⟩
 obtain⟨i,hi,hg2,rfl,BW,MW⟩:=hrel;clear HBW MA1
 by_cases hlt2:i<spn
 ·have hltz2:(i:Int)< (spn:Int):=by omega
  obtain⟨s,HS⟩:∃s,Hid (m.sp[i]? =some s):=⟨_,gE (by rw[HNS.out];exact hlt2)⟩
  obtain⟨x,HX⟩:∃x,Hid (xs[i]? =some x):=⟨_,gE (by rw[HXL.out,HNS.out];exact hlt2)⟩
  have HAT:Hid (SpaceAt w x s):=HSP.out i x s HX.out HS.out;obtain⟨ad,rfl,hl⟩:=HRS.out i x HX.out;obtain⟨d0,d1,d2,d3,d4,d5,d6,d7,d8,d9⟩:=hl wr BW.out;clear hl;go_upto_region 10 with fail;obtain⟨W1,hW1⟩:∃W1,wr.alloc (.cells #[.bool x.live,.slice x.ar.a x.ar.n x.ar.c,.slice x.t0.a x.t0.n x.t0.c,.slice x.t1.a x.t1.n x.t1.c,.slice x.t2.a x.t2.n x.t2.c,.slice x.t3.a x.t3.n x.t3.c,.slice x.t4.a x.t4.n x.t4.c,.slice x.t5.a x.t5.n x.t5.c,.slice x.t6.a x.t6.n x.t6.c,.slice x.t7.a x.t7.n x.t7.c] 65)=W1:=⟨_,rfl⟩;have HG1:=gT hW1 BW
  have M1:Hid (MapH enK W1 (w.heap.size+1) (heldTo m i [] s)):=show MapH _ _ _ _ by rw[<-hW1];exact(MW.out.grew (grew_alloc _ _)).congr fun k=>by unfold heldTo;simp
  have S1:=xA hW1
  rw[hW1];clear hW1 d0 d1 d2 d3 d4 d5 d6 d7 d8 d9;obtain⟨pb,HPB⟩:∃pb,Hid (wr.heap.size=pb):=⟨_,rfl⟩;rw[HPB.out]at S1⊢;have hcall:Calls Tryz.prog 92 #[.agg #[.slice x.t0.a x.t0.n x.t0.c,.slice x.t1.a x.t1.n x.t1.c,.slice x.t2.a x.t2.n x.t2.c,.slice x.t3.a x.t3.n x.t3.c,.slice x.t4.a x.t4.n x.t4.c,.slice x.t5.a x.t5.n x.t5.c,.slice x.t6.a x.t6.n x.t6.c,.slice x.t7.a x.t7.n x.t7.c]] W1 fun e w'=>∃v,e= .returned v/\OwnRow blE W1.heap.size w' v (pagesTo s.tb anyEn 64)/\Grew W1 w':=pagesTb_any x.tab s.tb W1 (HAT.out.grew HG1.out).tb
  have s2:=S1.out.c 2 rfl;have s3:=S1.out.c 3 rfl;have s4:=S1.out.c 4 rfl;have s5:=S1.out.c 5 rfl;have s6:=S1.out.c 6 rfl;have s7:=S1.out.c 7 rfl;have s8:=S1.out.c 8 rfl;have s9:=S1.out.c 9 rfl;go_wp2_with fail;refine hcall.mono ?_;clear hcall s2 s3 s4 s5 s6 s7 s8 s9;rintro e' W2 ⟨pv,rfl,ow2,hg2'⟩;have HG2:=dD (HG1.out.trans hg2');have M2:=dD (M1.out.grew hg2');have S2:=dD (S1.out.grew hg2');have HW1L:Hid (w.heap.size<=W1.heap.size):=show _<=_ from bS HG1.out
  clear hg2';obtain⟨pa,pc,rfl⟩:=ow2.form;have hq0:=ow2.at.short;rw[pagesTo_any]at ow2 hq0⊢;rw[List.length_map]at ow2 hq0⊢;obtain⟨q,HQ⟩:∃q,Hid ((pagesN s).length=q):=⟨_,rfl⟩;rw[HQ.out]at ow2 hq0⊢;have OW2:Hid (OwnRow blE W1.heap.size W2 (.slice pa q pc) ((pagesN s).map fun(n:Nat)=>(n:Int))):=ow2
  have hq64:q<=64:=by rw[<-HQ.out];exact pagesN_len s
  clear ow2;go_wp2;clear BW MW
  go_loopg [39] q (fun gg s39 wr=>∃j:Nat,j<=q/\q - j<=gg/\s39= .int .i64 j/\Hid (Grew w wr)/\Hid (OwnRow blE W1.heap.size wr (.slice pa q pc) ((pagesN s).map fun(n:Nat)=>(n:Int)))/\Hid (Box wr pb [.bool x.live,.slice x.ar.a x.ar.n x.ar.c,.slice x.t0.a x.t0.n x.t0.c,.slice x.t1.a x.t1.n x.t1.c,.slice x.t2.a x.t2.n x.t2.c,.slice x.t3.a x.t3.n x.t3.c,.slice x.t4.a x.t4.n x.t4.c,.slice x.t5.a x.t5.n x.t5.c,.slice x.t6.a x.t6.n x.t6.c,.slice x.t7.a x.t7.n x.t7.c])/\Hid (MapH enK wr (w.heap.size+1) (heldTo m i ((pagesN s).take j) s)))
  case atStart=>exact⟨0,nZ _,by omega,rfl,HG2.out,OW2.out,S2.out,by rw[List.take_zero];exact M2.out⟩
  obtain⟨j,hj,hg3,rfl,BW,OW,SW,MW⟩:=hrel;clear S2 M2 OW2 HG2
  by_cases hlt3:j<q
  ·have hltz3:(j:Int)< (q:Int):=by omega
   obtain⟨n,HNI⟩:∃n,Hid ((pagesN s)[j]? =some n):=⟨_,gE (by rw[HQ.out];exact hlt3)⟩
   have hn64:n<64:=pagesN_lt HNI.out;have HTS:Hid ((pagesN s).take (j+1)=(pagesN s).take j++ [n]):=take_snoc HNI.out;obtain⟨_,_,heq,hnr⟩:=OW.out.at.nums;simp only[vJ]at heq;obtain⟨ad2,had2,hl2⟩:=hnr j (n:Int) (by rw[List.getElem?_map,HNI.out];rfl)
   have e0:=hl2 wr (Grew.refl _);rw[<-heq.1]at had2;subst had2;clear hl2 heq hnr;have hcg:Calls Tryz.prog 65 #[.agg #[.slice x.t0.a x.t0.n x.t0.c,.slice x.t1.a x.t1.n x.t1.c,.slice x.t2.a x.t2.n x.t2.c,.slice x.t3.a x.t3.n x.t3.c,.slice x.t4.a x.t4.n x.t4.c,.slice x.t5.a x.t5.n x.t5.c,.slice x.t6.a x.t6.n x.t6.c,.slice x.t7.a x.t7.n x.t7.c],.int .i64 (n:Int)] wr fun e w'=>e= .returned (enV (flatN s n))/\Grew wr w':=by
    have:=getTb_any x.tab s.tb (n:Int) wr (HAT.out.grew BW.out).tb;rw[get_flat hn64]at this;exact this
   obtain⟨en,HEN⟩:∃en,Hid (flatN s n=en):=⟨_,rfl⟩;rw[HEN.out]at hcg;have s2:=SW.out.c 2 rfl;have s3:=SW.out.c 3 rfl;have s4:=SW.out.c 4 rfl;have s5:=SW.out.c 5 rfl;have s6:=SW.out.c 6 rfl;have s7:=SW.out.c 7 rfl;have s8:=SW.out.c 8 rfl;have s9:=SW.out.c 9 rfl;go_wp2_with fail;refine hcg.mono ?_;clear hcg e0 s2 s3 s4 s5 s6 s7 s8 s9;rintro e' W4 ⟨rfl,hg4⟩;have HG4:=dD (BW.out.trans hg4);have OW4:=dD (OW.out.grew hg4)
   have S4:=dD (SW.out.grew hg4);have M4:=dD (MW.out.grew hg4);clear hg4;unfold enV;go_upto_region 14 with fail;obtain⟨W5,hW5⟩:∃W5,W4.alloc (.cells #[.int .i64 en.kind,.int .i64 en.n,.bool en.wr] 67)=W5:=⟨_,rfl⟩;have HG5:=gT hW5 HG4
   have OW5:Hid (OwnRow blE W1.heap.size W5 (.slice (some ad2) q pc) ((pagesN s).map fun(n:Nat)=>(n:Int))):=show OwnRow _ _ _ _ _ by rw[<-hW5];exact OW4.out.grew (grew_alloc _ _)
   have S5:=yA hW5 S4
   have M5:Hid (MapH enK W5 (w.heap.size+1) (heldTo m i ((pagesN s).take j) s)):=show MapH _ _ _ _ by rw[<-hW5];exact M4.out.grew (grew_alloc _ _)
   have E5:=xA hW5
   rw[hW5];clear hW5;obtain⟨pe,HPE⟩:∃pe,Hid (W4.heap.size=pe):=⟨_,rfl⟩;rw[HPE.out]at E5⊢;obtain⟨H,HH⟩:∃H,Hid (heldTo m i ((pagesN s).take j) s=H):=⟨_,rfl⟩;rw[HH.out]at M5;obtain⟨hb0,hb1⟩:0<=H (en.kind,en.n)/\H (en.kind,en.n)<=140737488360000:=by rw[<-HH.out];exact HH0.out i _ s (en.kind,en.n) (by simp;omega)
   obtain⟨I,hI⟩:∃I:World->Prop,I=fun u=>MapH enK u (w.heap.size+1) H/\Box u pe [.int .i64 en.kind,.int .i64 en.n,.bool en.wr]/\Box u pb [.bool x.live,.slice x.ar.a x.ar.n x.ar.c,.slice x.t0.a x.t0.n x.t0.c,.slice x.t1.a x.t1.n x.t1.c,.slice x.t2.a x.t2.n x.t2.c,.slice x.t3.a x.t3.n x.t3.c,.slice x.t4.a x.t4.n x.t4.c,.slice x.t5.a x.t5.n x.t5.c,.slice x.t6.a x.t6.n x.t6.c,.slice x.t7.a x.t7.n x.t7.c]/\OwnRow blE W1.heap.size u (.slice (some ad2) q pc) ((pagesN s).map fun(n:Nat)=>(n:Int))/\Grew w u:=⟨_,rfl⟩
   have HI:Hid (∀u,I u↔MapH enK u (w.heap.size+1) H/\Box u pe [.int .i64 en.kind,.int .i64 en.n,.bool en.wr]/\Box u pb [.bool x.live,.slice x.ar.a x.ar.n x.ar.c,.slice x.t0.a x.t0.n x.t0.c,.slice x.t1.a x.t1.n x.t1.c,.slice x.t2.a x.t2.n x.t2.c,.slice x.t3.a x.t3.n x.t3.c,.slice x.t4.a x.t4.n x.t4.c,.slice x.t5.a x.t5.n x.t5.c,.slice x.t6.a x.t6.n x.t6.c,.slice x.t7.a x.t7.n x.t7.c]/\OwnRow blE W1.heap.size u (.slice (some ad2) q pc) ((pagesN s).map fun(n:Nat)=>(n:Int))/\Grew w u):=show∀u,_ from fun u=>by rw[hI]
   clear hI;have hx0:∀y:HoldI I,y.world.cell? ⟨pe,0,none⟩=some (.int .i64 en.kind):=fun y=>((HI.out _).1 y.holds).2.1.c 0 rfl
   have hx1:∀y:HoldI I,y.world.cell? ⟨pe,1,none⟩=some (.int .i64 en.n):=fun y=>((HI.out _).1 y.holds).2.1.c 1 rfl
   have hlk:∀y:HoldI I,(Instr.lookup 163 (.map (some (w.heap.size+1))) (.agg #[.int .i64 en.kind,.int .i64 en.n,.bool false]) false).run Tryz.prog y.world= .ok (.int .i64 (H (en.kind,en.n))) y.world:=fun y=>((HI.out _).1 y.holds).1.look (K:=enK) Tryz.underlying163 (Tryz.zeroInt _) (en.kind,en.n)
   have hI0:I W5.drew:=(HI.out _).2 ⟨M5.out.grew (gW _),E5.out.grew (gW _),S5.out.grew (gW _),OW5.out.grew (gW _),HG5.out.trans (gW _)⟩
   have hne:Nonempty (HoldI I):=⟨⟨_,hI0⟩⟩;refine wp_lax_tailI (I:=I) 10 [(8,⟨fun v=>∃st,v= .tuple #[.int .i64 (H (en.kind,en.n)),.int .i64 st],fun v w'=>∃st,v= .tuple #[.int .i64 (H (en.kind,en.n)),.int .i64 st]/\MapEH enK w' (w.heap.size+1) H (en.kind,en.n) st,fun _ _=>True,fun _=>True⟩)] hI0 mixed (by kernel_rfl) rfl rfl (by decide) ?hS ?hp ?hpre ?hpr0 ?_
   case hS=>
    intro y hy;simp only[mC,nM,or_false]at hy;subst hy;exact⟨_,0,rfl⟩
   case hp=>
    intro k s j t' hk hj hjk _ v p q hst hpo;obtain⟨rfl,rfl⟩:=look1 hk;obtain⟨rfl,rfl⟩:=look1 hj;exact absurd rfl hjk
   case hpre=>
    intro j t' k s hj hk hjk p q hst hpr;obtain⟨rfl,rfl⟩:=look1 hj;trivial
   case hpr0=>
    intro k t' hk;obtain⟨rfl,rfl⟩:=look1 hk;trivial
   simp only[List.take,List.drop];iterate 8 (refine laxI_quiet rfl rfl rfl (fun K hK=>?_);go_big_quiet_op;refine hK _ ?_;clear hK K)
   refine laxI_spec rfl rfl (fun w' hI' hpr hF=>?_) (fun v1 hv=>?_)
   ·obtain⟨i1,i2,i3,i4,i5⟩:=(HI.out _).1 hI';obtain⟨w2,st,hrun,r1,r2,r3⟩:=i1.entry (K:=enK) Tryz.underlying163 (Tryz.zeroInt w') (en.kind,en.n);have hrun':(Instr.mapEntry 163 (.map (some (w.heap.size+1))) (.agg #[.int .i64 en.kind,.int .i64 en.n,.bool false])).run Tryz.prog w'= .ok (.tuple #[.int .i64 (H (en.kind,en.n)),.int .i64 st]) w2:=hrun;clear hx0 hx1 hlk hne;refine Does.step (v:= .tuple #[.int .i64 (H (en.kind,en.n)),.int .i64 st]) (w':=w2) (by simp only[execOp];go_simp) ⟨(HI.out _).2 ⟨r1.h,i2.grown r2 (i1.ne_box i2),i3.grown r2 (i1.ne_box i3),i4.grown r2 (i1.ne_own i4),grew_grown i5 r2 (by omega)⟩,trivial,⟨_,rfl⟩,_,rfl,r1⟩
   obtain⟨st,rfl⟩:=hv;simp only[Act.put,sB,sS,sZ];iterate 1 (refine laxI_quiet rfl rfl rfl (fun K hK=>?_);go_big_quiet_op;refine hK _ ?_;clear hK K)
   refine laxI_nil fun W6 hI6 hF=>?_
   obtain⟨i1,i2,i3,i4,i5⟩:=(HI.out _).1 hI6;obtain⟨st',hst,hE⟩:∃st',(Value.tuple #[.int .i64 (H (en.kind,en.n)),.int .i64 st])= .tuple #[.int .i64 (H (en.kind,en.n)),.int .i64 st']/\MapEH enK W6 (w.heap.size+1) H (en.kind,en.n) st':=hF 8;have hE':MapEH enK W6 (w.heap.size+1) H (en.kind,en.n) st:=by
    simp at hst
    rw[hst];exact hE
   have S6:Hid (Box W6 pb [.bool x.live,.slice x.ar.a x.ar.n x.ar.c,.slice x.t0.a x.t0.n x.t0.c,.slice x.t1.a x.t1.n x.t1.c,.slice x.t2.a x.t2.n x.t2.c,.slice x.t3.a x.t3.n x.t3.c,.slice x.t4.a x.t4.n x.t4.c,.slice x.t5.a x.t5.n x.t5.c,.slice x.t6.a x.t6.n x.t6.c,.slice x.t7.a x.t7.n x.t7.c]):=i3;have OW6:Hid (OwnRow blE W1.heap.size W6 (.slice (some ad2) q pc) ((pagesN s).map fun(n:Nat)=>(n:Int))):=i4
   have HG6:Hid (Grew w W6):=i5;have M6:Hid (MapH enK W6 (w.heap.size+1) H):=i1;have HE6:Hid (MapEH enK W6 (w.heap.size+1) H (en.kind,en.n) st):=hE';clear hx0 hx1 hlk hne hF hI6 i1 i2 i3 i4 i5 hE hst hE' hI0;refine wp_storeEntry (K:=enK) rfl 163 (.tmp 47) (.tmp 56) (.tmp 54) rfl (w.heap.size+1) H (en.kind,en.n) st HE6.out rfl rfl (by go_num) ?_
   intro W7 m7 hg7 _;have S7:Hid (Box W7 pb [.bool x.live,.slice x.ar.a x.ar.n x.ar.c,.slice x.t0.a x.t0.n x.t0.c,.slice x.t1.a x.t1.n x.t1.c,.slice x.t2.a x.t2.n x.t2.c,.slice x.t3.a x.t3.n x.t3.c,.slice x.t4.a x.t4.n x.t4.c,.slice x.t5.a x.t5.n x.t5.c,.slice x.t6.a x.t6.n x.t6.c,.slice x.t7.a x.t7.n x.t7.c]):=S6.out.grown hg7 (M6.out.ne_box S6.out);have OW7:Hid (OwnRow blE W1.heap.size W7 (.slice (some ad2) q pc) ((pagesN s).map fun(n:Nat)=>(n:Int))):=OW6.out.grown hg7 (M6.out.ne_own OW6.out)
   have HG7:Hid (Grew w W7):=show Grew _ _ from grew_grown HG6.out hg7 (by omega)
   have M7:Hid (MapH enK W7 (w.heap.size+1) (heldTo m i ((pagesN s).take (j+1)) s)):=show MapH _ _ _ _ from m7.congr fun k=>by rw[HTS.out,held_page,HEN.out,HH.out];rfl
   clear m7 hg7 hb0 hb1;go_wp2
   go_roundg (q -(j+1))
   case measure=>omega
   exact⟨j+1,by omega,by omega,by go_num,HG7.out,OW7.out,S7.out,M7.out⟩
  have hltz3:¬(j:Int)< (q:Int):=by omega
  have:j=q:=by omega
  subst this;have M8:Hid (MapH enK wr (w.heap.size+1) (heldTo m (i+1) [] sp00)):=show MapH _ _ _ _ from MW.out.congr fun k=>by
   rw[List.take_of_length_le (by rw[HQ.out];exact nR _)]
   exact held_next m i s sp00 HS.out k
  go_wp2
  go_roundg (spn -(i+1))
  case measure=>omega
  exact⟨i+1,by omega,by omega,by go_num,BW.out,M8.out⟩
 have hltz2:¬(i:Int)< (spn:Int):=by omega
 have:i=spn:=by omega
 subst this;have M9:Hid (MapH enK wr (w.heap.size+1) (heldTo m m.sp.length [] sp00)):=show MapH _ _ _ _ by rw[HNS.out];exact MW.out
 go_wp2;go_ret;exact⟨_,rfl,M9.out,BW.out⟩
def filedTo (fl:List Fl) (i:Nat) (bl:List Int):List Int:=(allB (fl.take i))++bl
theorem marks_congr {n:Nat} {g h:List Int} (e:∀i:Nat,i<n->g.contains (i:Int)=h.contains (i:Int)):marks n g=marks n h:=by
 unfold marks
 apply List.map_congr_left
 intro i hi;rw[e i (List.mem_range.1 hi)]
theorem filed_skip (fl:List Fl) (i:Nat) (bl:List Int) {b:Int} (hb:b<0) (n:Nat):marks n (filedTo fl i (bl++ [b]))=marks n (filedTo fl i bl):=marks_congr fun j _=>by
 unfold filedTo;have:¬(j:Int)=b:=by omega
 simp[this]
theorem filed_put (fl:List Fl) (i:Nat) (bl:List Int) (b:Nat) (n:Nat):marks n ((b:Int) :: filedTo fl i bl)=marks n (filedTo fl i (bl++ [(b:Int)])):=marks_congr fun j _=>by
 unfold filedTo;rw[Bool.eq_iff_iff];simp only[List.contains_eq_mem,mC,List.mem_append,nM,or_false,decide_eq_true_eq];constructor
 ·rintro(h | h | h)
  ·exact .inr (.inr h)
  ·exact .inl h
  exact .inr (.inl h)
 rintro(h | h | h)
 ·exact .inr (.inl h)
 ·exact .inr (.inr h)
 exact .inl h
theorem filed_next {fl:List Fl} {i:Nat} {f:Fl} (hf:fl[i]? =some f):filedTo fl i f.bl=filedTo fl (i+1) []:=by
 unfold filedTo allB;rw[List.take_add_one,hf];simp
theorem filed_all (fl:List Fl) (b:Int):(filedTo fl fl.length []).contains b=usedB fl b:=by
 unfold filedTo allB usedB;rw[List.take_length,List.append_nil,Bool.eq_iff_iff];simp
theorem Tryz.sizeGiven:(Tryz.prog.info? 156).map (·.size)=some 80:=by kernel_rfl
theorem marks_one (n:Nat) (g:List Int):∀v∈marks n g,v.oneCell'=true:=fun v hv=>by
 unfold marks at hv;obtain⟨i,_,rfl⟩:=List.mem_map.1 hv;rfl
theorem marks_len (n:Nat) (g:List Int):(marks n g).length=n:=by simp[marks]
theorem filedBlocks_any (v:Value) (fl:List Fl) (cnt:Int) (w:World) (hv:FilesAt w v fl) (hst:stW fl cnt=0):
  Calls Tryz.prog 88 #[.agg #[v,.int .i64 cnt]] w fun e w'=>e= .returned (.agg (marks 80 (filedTo fl fl.length [])).toArray)/\Grew w w':=by
 have hz:=run_zGiven;obtain⟨a,c,rfl,hbig,hrow⟩:=hv.rows;have HR:Hid (FlRows w a fl):=hrow;clear hrow hv;have HB:Hid (∀f∈fl,∀b∈f.bl,b=-1\/(0<=b/\b<80)):=show∀f∈fl,_ from fun f hf b hb=>by
  obtain⟨⟨_,_,h80⟩,h2,_⟩:=(stW_zero fl cnt).1 hst
  rcases(h2 f hf).2.2 b hb with h | h
  ·exact .inl h
  exact .inr (by omega)
 clear hst;obtain⟨n,HN⟩:∃n,Hid (fl.length=n):=⟨_,rfl⟩;rw[HN.out]at hbig⊢;obtain⟨W0,hW0⟩:∃W0,((w.alloc (.cells #[.slice a n c,.int .i64 cnt] 36)).alloc (.cells zGiven 156)).alloc (.cells zGiven 156)=W0:=⟨_,rfl⟩;have HG0:Hid (Grew w W0):=show Grew _ _ by rw[<-hW0];exact((grew_alloc _ _).trans (grew_alloc _ _)).trans (grew_alloc _ _)
 have X0:Hid (Box W0 w.heap.size [.slice a n c,.int .i64 cnt]):=show Box _ _ _ by rw[<-hW0];exact((Box.top _ _ _ rfl).alloc _).alloc _
 have Y0:Hid (Box W0 (w.heap.size+1) (marks 80 [])):=show Box _ _ _ by rw[<-hW0,marks_nil];exact(Box.top _ (List.replicate 80 (.bool false)) _ (by simp)).alloc _
 have Z0:Hid (Box W0 (w.heap.size+1+1) (marks 80 (filedTo fl 0 []))):=show Box _ _ _ by
  have:marks 80 (filedTo fl 0 [])=marks 80 []:=marks_congr fun i _=>by simp[filedTo,allB]
  rw[<-hW0,this,marks_nil];exact Box.top _ (List.replicate 80 (.bool false)) _ (by simp)
 have HW0:Hid (_=W0):=hW0;clear hW0
 go_enter Tryz.func88,Tryz.ntmps88
 go_upto_region 2 with fail;rw[HW0.out];clear hz;have x0:=X0.out.c 0 rfl;go_wp2;clear x0
 go_loopg [5,11] n (fun gg _ s11 wr=>∃i:Nat,i<=n/\n - i<=gg/\s11= .int .i64 i/\Hid (Grew w wr)/\Hid (Box wr (w.heap.size+1) (marks 80 []))/\Hid (Box wr (w.heap.size+1+1) (marks 80 (filedTo fl i []))))
 case atStart=>exact⟨0,nZ _,by omega,rfl,HG0.out,Y0.out,Z0.out⟩
 obtain⟨i,hi,hgg,rfl,BW,YW,ZW⟩:=hrel;clear X0 Y0 Z0
 by_cases hlt:i<n
 ·have hltz:(i:Int)< (n:Int):=by omega
  obtain⟨f,HF⟩:∃f,Hid (fl[i]? =some f):=⟨_,gE (by rw[HN.out];exact hlt)⟩
  obtain⟨ad,rfl,xa,xc,hr2,hl⟩:=HR.out i f HF.out;obtain⟨d0,d1⟩:=hl wr BW.out;obtain⟨_,_,heq,hnr⟩:=hr2.nums;have hq:=hr2.short;have HNR:Hid (NumRows w xa f.bl):=show NumRows _ _ _ by
   simp only[vJ]at heq;rw[heq.1];exact hnr
  clear heq hnr hr2 hl;obtain⟨q,HQ⟩:∃q,Hid (f.bl.length=q):=⟨_,rfl⟩;rw[HQ.out]at d1 hq;go_upto_region 5 with fail;obtain⟨W1,hW1⟩:∃W1,wr.alloc (.cells #[.int .i64 f.size,.slice xa q xc] 71)=W1:=⟨_,rfl⟩;have HG1:=gT hW1 BW
  have F1:=xA hW1
  have Y1:=yA hW1 YW
  have Z1:=yA hW1 ZW
  rw[hW1];clear hW1 d0 d1;have f1:=F1.out.c 1 rfl;go_wp2;clear f1;have HBW:Hid (Grew w wr):=BW;clear BW YW ZW
  go_loopg [7,18] q (fun gg _ s18 wr=>∃j:Nat,j<=q/\q - j<=gg/\s18= .int .i64 j/\Hid (Grew w wr)/\Hid (Box wr (w.heap.size+1) (marks 80 []))/\Hid (Box wr (w.heap.size+1+1) (marks 80 (filedTo fl i (f.bl.take j)))))
  case atStart=>exact⟨0,nZ _,by omega,rfl,HG1.out,Y1.out,by rw[List.take_zero];exact Z1.out⟩
  obtain⟨j,hj,hg2,rfl,BW,YW,ZW⟩:=hrel;clear F1 Y1 Z1
  by_cases hlt2:j<q
  ·have hltz2:(j:Int)< (q:Int):=by omega
   obtain⟨b,HBJ⟩:∃b,Hid (f.bl[j]? =some b):=⟨_,gE (by rw[HQ.out];exact hlt2)⟩
   obtain⟨ad2,rfl,hl2⟩:=HNR.out j b HBJ.out;have e0:=hl2 wr BW.out;have HRB:Hid (b=-1\/(0<=b/\b<80)):=HB.out f (mG HF.out) b (mG HBJ.out);have HTS:Hid (f.bl.take (j+1)=f.bl.take j++ [b]):=take_snoc HBJ.out;clear hl2
   by_cases hb:0<=b
   ·obtain⟨k,rfl⟩:∃k:Nat,b=(k:Int):=⟨b.toNat,by omega⟩
    have hk80:k<80:=by have:=HRB.out;omega
    have z0:=ZW.out.c k (marks_at _ hk80);have zf:=ZW.out.f;have Z2:Hid (Box (wr.setCell ⟨w.heap.size+1+1,k,none⟩ (.bool true)) (w.heap.size+1+1) (marks 80 (filedTo fl i (f.bl.take (j+1))))):=show Box _ _ _ by
     rw[HTS.out,<-filed_put,<-marks_set _ hk80];exact ZW.out.set k _
    have Y2:Hid (Box (wr.setCell ⟨w.heap.size+1+1,k,none⟩ (.bool true)) (w.heap.size+1) (marks 80 [])):=show Box _ _ _ from YW.out.other (by simp) _
    have G2:Hid (Grew w (wr.setCell ⟨w.heap.size+1+1,k,none⟩ (.bool true))):=show Grew _ _ from grew_set BW.out (by simp;omega) _
    go_wp2
    go_roundg (q -(j+1))
    case measure=>omega
    exact⟨j+1,by omega,by omega,by go_num,G2.out,Y2.out,Z2.out⟩
   have Z2:Hid (Box wr (w.heap.size+1+1) (marks 80 (filedTo fl i (f.bl.take (j+1))))):=show Box _ _ _ by
    rw[HTS.out,filed_skip _ _ _ (by omega)]
    exact ZW.out
   go_wp2
   go_roundg (q -(j+1))
   case measure=>omega
   exact⟨j+1,by omega,by omega,by go_num,BW.out,YW.out,Z2.out⟩
  have hltz2:¬(j:Int)< (q:Int):=by omega
  have:j=q:=by omega
  subst this;have Z2:Hid (Box wr (w.heap.size+1+1) (marks 80 (filedTo fl (i+1) []))):=show Box _ _ _ by
   have h1:=ZW.out;rw[List.take_of_length_le (by rw[HQ.out];exact nR _),filed_next HF.out]at h1
   exact h1
  go_wp2
  go_roundg (n -(i+1))
  case measure=>omega
  exact⟨i+1,by omega,by omega,by go_num,BW.out,YW.out,Z2.out⟩
 have hltz:¬(i:Int)< (n:Int):=by omega
 have:i=n:=by omega
 subst this;obtain⟨ms,HMS⟩:∃ms,Hid (marks 80 (filedTo fl i [])=ms):=⟨_,rfl⟩;have HML:Hid (ms.length=80):=show _=_ by rw[<-HMS.out];exact marks_len _ _
 have HMO:Hid (∀v∈ms,v.oneCell'=true):=show∀v∈ms,_ by rw[<-HMS.out];exact marks_one _ _
 rw[HMS.out]at ZW;go_upto_region 12 with fail
 go_wp2_with (first | (refine wp_loadAll rfl 156 (.tmp 3) rfl (w.heap.size+1+1) rfl ZW.out Tryz.underlying156 rfl (by rw[HML.out];exact Tryz.sizeGiven) ?_) | (refine wp_storeAll rfl 156 (.tmp 2) (.tmp 28) rfl (w.heap.size+1) rfl ms rfl YW.out (by rw[HML.out,marks_len]) (by rw[marks_len];exact Tryz.sizeGiven) HMO.out ?_))
 intro W5 hb5 hg5 _;have G5:Hid (Grew w W5):=show Grew _ _ from grew_grown BW.out hg5 (by omega)
 go_wp2;refine bodyPost_ret (ret_cell rfl _ rfl hb5 Tryz.underlying156 rfl (by rw[HML.out];exact Tryz.sizeGiven)) rfl ⟨by rw[<-HMS.out],G5.out⟩
theorem zero_page (b0 b1 b2 b3 b4 b5 b6 b7:Int):pgEqB ⟨b0,b1,b2,b3,b4,b5,b6,b7⟩ ⟨0,0,0,0,0,0,0,0⟩=([b0,b1,b2,b3,b4,b5,b6,b7] == zero8):=by
 rw[Bool.eq_iff_iff,pgEqB_iff]
 simp[zero8]
def badBlk (m:Ma) (b:Nat):Bool:=!usedB m.fl (b:Int) && !(m.db.getD b [] == zero8)
theorem blockE_no {m:Ma} (h:∀b,b<m.db.length->badBlk m b=false):blockE m=0:=by
 unfold blockE;rw[if_neg];rw[List.any_eq_true];rintro⟨b,hb,hx⟩;have:=h b (List.mem_range.1 hb);unfold badBlk at this;rw[this]at hx;cases hx
theorem blockE_yes {m:Ma} {b:Nat} (hb:b<m.db.length) (h:badBlk m b=true):blockE m=7:=by
 unfold blockE;rw[if_pos];rw[List.any_eq_true];exact⟨b,List.mem_range.2 hb,h⟩
theorem queueE_no {m:Ma} (h:∀(j:Nat) q,m.dq[j]? =some q->usedB m.fl q.1=true):queueE m=0:=by
 unfold queueE;rw[if_neg];rw[List.any_eq_true];rintro⟨q,hq,hx⟩;obtain⟨j,hj⟩:=List.getElem?_of_mem hq;rw[h j q hj]at hx;cases hx
theorem queueE_yes {m:Ma} {j:Nat} {q:Int × List Int} (hq:m.dq[j]? =some q) (h:usedB m.fl q.1=false):queueE m=7:=by
 unfold queueE;rw[if_pos];rw[List.any_eq_true];exact⟨q,mG hq,by rw[h];rfl⟩
theorem wrongL_fine {n:Nat} {qs:List (Int × List Int)} (h:wrongL n qs=0):n<=80/\∀(j:Nat) q,qs[j]? =some q->0<=q.1/\q.1<n:=by
 unfold wrongL at h
 split at h
 ·cases h
 split at h
 ·cases h
 split at h
 ·cases h
 rename_i h1 h2 h3
 refine⟨by omega,fun j q hq=>?_⟩
 have:(!dkInB q.1 n)=false:=by
  cases e:(!dkInB q.1 n)with
  | false=>rfl
  | true=>exact absurd (List.any_eq_true.2 ⟨q,mG hq,e⟩) h3
 simp[dkInB]at this
 exact this
theorem filed_at {m:Ma} {b:Nat} (hb:b<80):(marks 80 (filedTo m.fl m.fl.length []))[b]? =some (.bool (usedB m.fl (b:Int))):=by
 rw[marks_at _ hb,filed_all]
theorem wrongDisks_any (V:MaV) (m:Ma) (w:World) (hm:MachAt w V m) (h1:Right1 m):
  Calls Tryz.prog 35 #[.agg #[.slice V.f.a V.f.n V.f.c,.int .i64 m.hand,.slice V.s.a V.s.n V.s.c,.slice V.sb.a V.sb.n V.sb.c,.slice V.sq.a V.sq.n V.sq.c,.slice V.db.a V.db.n V.db.c,.slice V.dq.a V.dq.n V.dq.c,.slice V.fl.a V.fl.n V.fl.c,.int .i64 m.cnt,.slice V.ca.a V.ca.n V.ca.c,.slice V.sp.a V.sp.n V.sp.c]] w fun e w'=>e= .returned (.int .i64 (firstE (wDisksL m)))/\Grew w w':=by
 obtain⟨vf,vs,vsb,vsq,⟨dba,dbn,dbc⟩,⟨dqa,dqn,dqc⟩,vfl,vca,vsp⟩:=V;dsimp only;have hz:=run_zGiven;obtain⟨-,n2,n3,-,n5,n6,-⟩:=hm.ns;dsimp only at n2 n3 n5 n6;have HFB:Hid (∀W,Grew w W->Calls Tryz.prog 88 #[.agg #[.slice vfl.a vfl.n vfl.c,.int .i64 m.cnt]] W fun e w'=>e= .returned (.agg (marks 80 (filedTo m.fl m.fl.length [])).toArray)/\Grew W w'):=show∀W,_ from fun W hW=>filedBlocks_any _ m.fl m.cnt W (hm.grew hW).fl h1.st
 have HPG:Hid (PageRows w dba m.db):=hm.pgs;have HPU:Hid (PutRows w dqa m.dq):=hm.puts;obtain⟨h80,hqs⟩:=wrongL_fine h1.dq;have HQS:Hid (∀(j:Nat) q,m.dq[j]? =some q->0<=q.1/\q.1<m.db.length):=hqs;have HN5:Hid (m.db.length=dbn):=n5.symm;have HN6:Hid (m.dq.length=dqn):=n6.symm;have hb6:dqn<=9223372036854775807:=by have:=hm.dq.2.2;omega
 rw[HN5.out]at h80;obtain⟨Z,HZ⟩:∃Z,Hid (firstE (wDisksL m)=Z):=⟨_,rfl⟩;rw[HZ.out];have HZ2:Hid (firstE [fitE m,blockE m,queueE m]=Z):=HZ.out;have hfit:fitE m=if vs.n≠vsb.n\/m.cnt≠(dbn:Int)then 7 else 0:=by unfold fitE;rw[n2,n3,n5]
 clear hm h1 hqs n2 n3 n5 n6;obtain⟨W0,hW0⟩:∃W0,w.alloc (.cells #[.slice vf.a vf.n vf.c,.int .i64 m.hand,.slice vs.a vs.n vs.c,.slice vsb.a vsb.n vsb.c,.slice vsq.a vsq.n vsq.c,.slice dba dbn dbc,.slice dqa dqn dqc,.slice vfl.a vfl.n vfl.c,.int .i64 m.cnt,.slice vca.a vca.n vca.c,.slice vsp.a vsp.n vsp.c] 40)=W0:=⟨_,rfl⟩;have HG0:=gA hW0
 have X0:=xA hW0
 have HS0:Hid (w.heap.size<W0.heap.size):=show _<_ by rw[<-hW0];simp
 have HW0:Hid (_=W0):=hW0;clear hW0
 by_cases c1:vsb.n=vs.n
 ·by_cases c2:m.cnt=(dbn:Int)
  ·have HF:Hid (fitE m=0):=show _=_ by rw[hfit,if_neg (by omega)]
   have c1e:((vsb.n:Int) !=(vs.n:Int))=false:=by simp[c1]
   have c2e:((dbn:Int) != m.cnt)=false:=by simp[c2]
   have c1f:(vsb.n != vs.n)=false:=by simp[c1]
   have HB0:Hid (∀b,b<m.db.length->badBlk m b=true->Z=7):=show∀b,_ from fun b hb h=>by rw[<-HZ2.out,firstE_cons,if_pos HF.out,firstE_cons,blockE_yes hb h];rfl
   have HB1:Hid ((∀b,b<m.db.length->badBlk m b=false)->∀(j:Nat) q,m.dq[j]? =some q->usedB m.fl q.1=false->Z=7):=show _->_ from fun h j q hq hu=>by rw[<-HZ2.out,firstE_cons,if_pos HF.out,firstE_cons,if_pos (blockE_no h),firstE_cons,queueE_yes hq hu];rfl
   have HB2:Hid ((∀b,b<m.db.length->badBlk m b=false)->(∀(j:Nat) q,m.dq[j]? =some q->usedB m.fl q.1=true)->Z=0):=show _->_ from fun h h'=>by rw[<-HZ2.out,firstE_cons,if_pos HF.out,firstE_cons,if_pos (blockE_no h),firstE_cons,queueE_no h'];rfl
   have hFB:=HFB.out W0 HG0.out;clear hfit HFB HF HZ HZ2;have HC1:Hid (vsb.n=vs.n):=c1;have HC2:Hid (m.cnt=(dbn:Int)):=c2;clear c1 c2
   go_enter Tryz.func35,Tryz.ntmps35
   go_upto_region 1 with fail;rw[HW0.out];have x2:=X0.out.c 2 rfl;have x3:=X0.out.c 3 rfl;have x5:=X0.out.c 5 rfl;have x6:=X0.out.c 6 rfl;have x7:=X0.out.c 7 rfl;have x8:=X0.out.c 8 rfl;go_upto_region 3 with fail;go_wp2_with fail;refine hFB.mono ?_;clear hFB x2 x3 x5 x6 x7 x8;rintro e W1 ⟨rfl,hg1⟩;have HG1:=dD (HG0.out.trans hg1);have X1:=dD (X0.out.grew hg1);clear hg1;obtain⟨ms,HMS⟩:∃ms,Hid (marks 80 (filedTo m.fl m.fl.length [])=ms):=⟨_,rfl⟩;have HML:Hid (ms.length=80):=show _=_ by rw[<-HMS.out];exact marks_len _ _
   have HMO:Hid (∀v∈ms,v.oneCell'=true):=show∀v∈ms,_ by rw[<-HMS.out];exact marks_one _ _
   have HMA:Hid (∀b:Nat,b<80->ms[b]? =some (.bool (usedB m.fl (b:Int)))):=show∀b:Nat,_ from fun b hb=>by rw[<-HMS.out];exact filed_at hb
   rw[HMS.out];obtain⟨W2,hW2⟩:∃W2,W1.alloc (.cells zGiven 156)=W2:=⟨_,rfl⟩;have HG2:=gT hW2 HG1
   have X2:=yA hW2 X1
   have Z2:Hid (Box W2 W1.heap.size (List.replicate 80 (.bool false))):=show Box _ _ _ by rw[<-hW2];exact Box.top _ (List.replicate 80 (.bool false)) _ rfl
   have HW2:Hid (_=W2):=hW2;clear hW2;have HLT:Hid (w.heap.size<=W1.heap.size):=show _<=_ from bS HG1.out
   have HXL:Hid (w.heap.size<W1.heap.size):=show _<_ from X1.out.lt
   go_wp2_with (first | (rw[HW2.out];refine wp_storeAll rfl 156 (.tmp 3) (.tmp 28) rfl W1.heap.size rfl ms rfl Z2.out (by rw[HML.out];simp) (by simpa using Tryz.sizeGiven) HMO.out ?_))
   intro W3 hb3 hg3 _;have HG3:Hid (Grew w W3):=show Grew _ _ from grew_grown HG2.out hg3 HLT.out
   have X3:Hid (Box W3 w.heap.size [.slice vf.a vf.n vf.c,.int .i64 m.hand,.slice vs.a vs.n vs.c,.slice vsb.a vsb.n vsb.c,.slice vsq.a vsq.n vsq.c,.slice dba dbn dbc,.slice dqa dqn dqc,.slice vfl.a vfl.n vfl.c,.int .i64 m.cnt,.slice vca.a vca.n vca.c,.slice vsp.a vsp.n vsp.c]):=X2.out.grown hg3 (by have:=HXL.out;omega)
   have Z3:Hid (Box W3 W1.heap.size ms):=hb3;obtain⟨p3,HP3⟩:∃p3,Hid (W1.heap.size=p3):=⟨_,rfl⟩;rw[HP3.out]at Z3⊢;clear hb3 hg3 Z2 X2 HG2 HW2 HXL HLT hz;have x5:=X3.out.c 5 rfl;go_wp2;clear x5;obtain⟨n,HN⟩:∃n,Hid (dbn=n):=⟨_,rfl⟩;rw[HN.out]at h80⊢
   go_loopg [33] n (fun gg s33 wr=>∃kk:Nat,kk<=n/\n - kk<=gg/\s33= .int .i64 kk/\Hid (Grew w wr)/\Hid (Box wr w.heap.size [.slice vf.a vf.n vf.c,.int .i64 m.hand,.slice vs.a vs.n vs.c,.slice vsb.a vsb.n vsb.c,.slice vsq.a vsq.n vsq.c,.slice dba dbn dbc,.slice dqa dqn dqc,.slice vfl.a vfl.n vfl.c,.int .i64 m.cnt,.slice vca.a vca.n vca.c,.slice vsp.a vsp.n vsp.c])/\Hid (Box wr p3 ms)/\Hid (∀b,b<kk->badBlk m b=false))
   case atStart=>exact⟨0,nZ _,by omega,rfl,HG3.out,X3.out,Z3.out,fun b hb=>absurd hb (nL _)⟩
   obtain⟨kk,hkk,hgg,rfl,BW,XW,ZW,OW⟩:=hrel;clear X3 Z3 HG3
   by_cases hlt:kk<n
   ·have hltz:(kk:Int)< (n:Int):=by omega
    have hk80:kk<80:=by omega
    have HKL:Hid (kk<m.db.length):=show _<_ by rw[HN5.out,HN.out];exact hlt
    obtain⟨p,HP⟩:∃p,Hid (m.db[kk]? =some p):=⟨_,gE HKL.out⟩;obtain⟨ad,b0,b1,b2,b3,b4,b5,b6,b7,rfl,rfl,hl⟩:=HPG.out kk p HP.out;have HBD:Hid (badBlk m kk=(!usedB m.fl (kk:Int) && !([b0,b1,b2,b3,b4,b5,b6,b7] == zero8))):=show _=_ by unfold badBlk;rw[gD,HP.out];rfl
    obtain⟨d0,d1,d2,d3,d4,d5,d6,d7⟩:=hl wr BW.out;have hqp:=fun W=>page_eq_at 9998 b0 b1 b2 b3 b4 b5 b6 b7 0 0 0 0 0 0 0 0 W
    simp only[zero_page]at hqp;obtain⟨U,HU⟩:∃U,Hid (usedB m.fl (kk:Int)=U):=⟨_,rfl⟩;have hmu:=HMA.out kk hk80;rw[HU.out]at hmu;rw[HU.out]at HBD;obtain⟨PZ,HPZ⟩:∃PZ,Hid (([b0,b1,b2,b3,b4,b5,b6,b7] == zero8)=PZ):=⟨_,rfl⟩;rw[HPZ.out]at hqp HBD;clear hl;go_upto_region 7 with fail;obtain⟨W4,hW4⟩:∃W4,wr.alloc (.cells #[.int .u8 b0,.int .u8 b1,.int .u8 b2,.int .u8 b3,.int .u8 b4,.int .u8 b5,.int .u8 b6,.int .u8 b7] 50)=W4:=⟨_,rfl⟩;have HG4:=gT hW4 BW
    have X4:=yA hW4 XW
    have Z4:=yA hW4 ZW
    have P4:=xA hW4
    rw[hW4];clear hW4 d0 d1 d2 d3 d4 d5 d6 d7;have z0:=Z4.out.c kk hmu;obtain⟨p0,p1,p2,p3,p4,p5,p6,p7⟩:=P4.out.c8;clear hmu
    cases U with
    | true=>
     have HB:Hid (badBlk m kk=false):=show _=_ by rw[HBD.out];rfl
     have OW':Hid (∀b,b<kk+1->badBlk m b=false):=show∀b,_ from fun b hb=>by
      by_cases e:b=kk
      ·rw[e];exact HB.out
      exact OW.out b (by omega)
     clear p0 p1 p2 p3 p4 p5 p6 p7 hqp;go_wp2
     go_roundg (n -(kk+1))
     case measure=>omega
     exact⟨kk+1,by omega,by omega,by go_num,HG4.out,X4.out,Z4.out,OW'.out⟩
    | false=>
     cases PZ with
     | true=>
      have HB:Hid (badBlk m kk=false):=show _=_ by rw[HBD.out];rfl
      have OW':Hid (∀b,b<kk+1->badBlk m b=false):=show∀b,_ from fun b hb=>by
       by_cases e:b=kk
       ·rw[e];exact HB.out
       exact OW.out b (by omega)
      go_wp2
      go_roundg (n -(kk+1))
      case measure=>omega
      exact⟨kk+1,by omega,by omega,by go_num,HG4.out,X4.out,Z4.out,OW'.out⟩
     | false=>
      have HE:Hid (Z=7):=HB0.out kk HKL.out (by rw[HBD.out];rfl)
      go_wp2;go_ret;exact⟨by rw[HE.out];rfl,HG4.out⟩
   have hltz:¬(kk:Int)< (n:Int):=by omega
   have:kk=n:=by omega
   subst this;have OA:Hid (∀b,b<m.db.length->badBlk m b=false):=show∀b,_ from fun b hb=>OW.out b (by rw[<-HN.out,<-HN5.out];exact hb)
   have x6:=XW.out.c 6 rfl;go_wp2;clear x6;obtain⟨n2,HN2⟩:∃n2,Hid (dqn=n2):=⟨_,rfl⟩;rw[HN2.out]at hb6⊢;have HBW:Hid (Grew w wr):=BW;have HZW:Hid (Box wr p3 ms):=ZW;clear BW XW ZW OW
   go_loopg [52] n2 (fun gg s52 wr=>∃j:Nat,j<=n2/\n2 - j<=gg/\s52= .int .i64 j/\Hid (Grew w wr)/\Hid (Box wr p3 ms)/\Hid (∀(i:Nat) q,i<j->m.dq[i]? =some q->usedB m.fl q.1=true))
   case atStart=>exact⟨0,nZ _,by omega,rfl,HBW.out,HZW.out,fun i q hi=>absurd hi (nL _)⟩
   obtain⟨j,hj,hg2,rfl,BW,ZW,OW⟩:=hrel;clear HBW HZW
   by_cases hlt2:j<n2
   ·have hltz2:(j:Int)< (n2:Int):=by omega
    obtain⟨q,HQ⟩:∃q,Hid (m.dq[j]? =some q):=⟨_,gE (by rw[HN6.out,HN2.out];exact hlt2)⟩
    obtain⟨ad,mm,b0,b1,b2,b3,b4,b5,b6,b7,rfl,rfl,hl⟩:=HPU.out j q HQ.out;obtain⟨r0,r1⟩:=HQS.out j _ HQ.out;simp only at r0 r1;obtain⟨b,rfl⟩:∃b:Nat,mm=(b:Int):=⟨mm.toNat,by omega⟩
    have hk80:b<80:=by rw[HN5.out,HN.out]at r1;omega
    obtain⟨d0,d1,d2,d3,d4,d5,d6,d7,d8⟩:=hl wr BW.out;obtain⟨U,HU⟩:∃U,Hid (usedB m.fl (b:Int)=U):=⟨_,rfl⟩;have hmu:=HMA.out b hk80;rw[HU.out]at hmu;clear hl r0 r1;go_upto_region 13 with fail;obtain⟨W4,hW4⟩:∃W4,wr.alloc (.cells #[.int .i64 (b:Int),.int .u8 b0,.int .u8 b1,.int .u8 b2,.int .u8 b3,.int .u8 b4,.int .u8 b5,.int .u8 b6,.int .u8 b7] 91)=W4:=⟨_,rfl⟩;have HG4:=gT hW4 BW
    have Z4:=yA hW4 ZW
    have P4:=xA hW4
    rw[hW4];clear hW4 d0 d1 d2 d3 d4 d5 d6 d7 d8;have z0:=Z4.out.c b hmu;have p0:=P4.out.c 0 rfl;clear hmu
    cases U with
    | true=>
     have OW':Hid (∀(i:Nat) q,i<j+1->m.dq[i]? =some q->usedB m.fl q.1=true):=show∀(i:Nat) q,_ from fun i q hi hq=>by
      by_cases e:i=j
      ·subst e;rw[HQ.out]at hq;cases hq;exact HU.out
      exact OW.out i q (by omega) hq
     go_wp2
     go_roundg (n2 -(j+1))
     case measure=>omega
     exact⟨j+1,by omega,by omega,by go_num,HG4.out,Z4.out,OW'.out⟩
    | false=>
     have HE:Hid (Z=7):=HB1.out OA.out j _ HQ.out HU.out;go_wp2;go_ret;exact⟨by rw[HE.out];rfl,HG4.out⟩
   have hltz2:¬(j:Int)< (n2:Int):=by omega
   have:j=n2:=by omega
   subst this;have HE:Hid (Z=0):=HB2.out OA.out fun i q hq=>OW.out i q (by rw[<-HN2.out,<-HN6.out];exact(gS.1 hq).1) hq
   go_wp2;go_ret;exact⟨by rw[HE.out];rfl,BW.out⟩
  have HE:Hid (Z=7):=show _=_ by
   have hf7:fitE m=7:=by rw[hfit,if_pos (.inr c2)]
   rw[<-HZ2.out,firstE_cons,hf7];rfl
  have c1e:((vsb.n:Int) !=(vs.n:Int))=false:=by simp[c1]
  have c1f:(vsb.n != vs.n)=false:=by simp[c1]
  have c2e:((dbn:Int) != m.cnt)=true:=by simp;omega
  clear c1 c2 hfit
  go_enter Tryz.func35,Tryz.ntmps35
  go_upto_region 1 with fail;rw[HW0.out];have x2:=X0.out.c 2 rfl;have x3:=X0.out.c 3 rfl;have x5:=X0.out.c 5 rfl;have x8:=X0.out.c 8 rfl;go_wp2;go_ret;exact⟨by rw[HE.out];rfl,HG0.out⟩
 have HE:Hid (Z=7):=show _=_ by
  have hf7:fitE m=7:=by rw[hfit,if_pos (.inl (fun e=>c1 e.symm))]
  rw[<-HZ2.out,firstE_cons,hf7];rfl
 have c1e:((vsb.n:Int) !=(vs.n:Int))=true:=by simp;omega
 have c1f:(vsb.n != vs.n)=true:=by simp[c1]
 clear c1 hfit
 go_enter Tryz.func35,Tryz.ntmps35
 go_upto_region 1 with fail;rw[HW0.out];have x2:=X0.out.c 2 rfl;have x3:=X0.out.c 3 rfl;go_wp2;go_ret;exact⟨by rw[HE.out];rfl,HG0.out⟩
theorem frE_prog {m:Ma} (hca:caGo m none m.ca=0) (k:Nat):frE m k=if(frAt m k).r≠heldTo m m.sp.length [] sp00 (1,(k:Int))\/(0<=(frAt m k).f/\¬idxG m.ca ((frAt m k).f,(frAt m k).x)=some (k:Int))then 7 else 0:=by
 unfold frE;rw[held_all m sp00 (k:Int) (by decide:(1:Int)≠0),if_pos rfl]
 have:=has_cached hca k
 by_cases h:cachedN m.ca k=0
 ·have h2:¬idxG m.ca ((frAt m k).f,(frAt m k).x)=some (k:Int):=fun e=>(this.1 e) h
  simp only[h,h2,not_false_iff,and_true]
 have h2:idxG m.ca ((frAt m k).f,(frAt m k).x)=some (k:Int):=this.2 h;simp only[h,h2,not_true,and_false]
theorem sloE_prog (m:Ma) (k:Nat):sloE m k=if m.sl.getD k 0≠heldTo m m.sp.length [] sp00 (2,(k:Int))then 7 else 0:=by
 unfold sloE;have h:=held_all m sp00 (k:Int) (by decide:(2:Int)≠0)
 have h2:¬(2:Int)=1:=by decide
 rw[if_neg h2,Nat.add_zero]at h;rw[h]
theorem wrongCounts_any (V:MaV) (m:Ma) (w:World) (hm:MachAt w V m) (hca:caGo m none m.ca=0) (hsp4:m.sp.length<=4) (htb:∀s∈m.sp,tbW s.tb=0):
  Calls Tryz.prog 39 #[.agg #[.slice V.f.a V.f.n V.f.c,.int .i64 m.hand,.slice V.s.a V.s.n V.s.c,.slice V.sb.a V.sb.n V.sb.c,.slice V.sq.a V.sq.n V.sq.c,.slice V.db.a V.db.n V.db.c,.slice V.dq.a V.dq.n V.dq.c,.slice V.fl.a V.fl.n V.fl.c,.int .i64 m.cnt,.slice V.ca.a V.ca.n V.ca.c,.slice V.sp.a V.sp.n V.sp.c]] w fun e w'=>e= .returned (.int .i64 (wCounts m))/\Grew w w':=by
 have HWI:Hid (∀W,Grew w W->Calls Tryz.prog 58 #[.agg #[.slice V.f.a V.f.n V.f.c,.int .i64 m.hand,.slice V.s.a V.s.n V.s.c,.slice V.sb.a V.sb.n V.sb.c,.slice V.sq.a V.sq.n V.sq.c,.slice V.db.a V.db.n V.db.c,.slice V.dq.a V.dq.n V.dq.c,.slice V.fl.a V.fl.n V.fl.c,.int .i64 m.cnt,.slice V.ca.a V.ca.n V.ca.c,.slice V.sp.a V.sp.n V.sp.c]] W fun e w'=>∃B,e= .returned (.agg #[.slice V.f.a V.f.n V.f.c,.int .i64 m.hand,.slice V.s.a V.s.n V.s.c,.slice V.sb.a V.sb.n V.sb.c,.slice V.sq.a V.sq.n V.sq.c,.slice V.db.a V.db.n V.db.c,.slice V.dq.a V.dq.n V.dq.c,.slice V.fl.a V.fl.n V.fl.c,.int .i64 m.cnt,.slice V.ca.a V.ca.n V.ca.c,.slice V.sp.a V.sp.n V.sp.c,.map (some B)])/\MapF plK w' B (idxG m.ca)/\Grew W w'):=show∀W,_ from fun W hW=>withIndex_any V m W (hm.grew hW)
 have HHO:Hid (∀W,Grew w W->Calls Tryz.prog 94 #[.agg #[.slice V.f.a V.f.n V.f.c,.int .i64 m.hand,.slice V.s.a V.s.n V.s.c,.slice V.sb.a V.sb.n V.sb.c,.slice V.sq.a V.sq.n V.sq.c,.slice V.db.a V.db.n V.db.c,.slice V.dq.a V.dq.n V.dq.c,.slice V.fl.a V.fl.n V.fl.c,.int .i64 m.cnt,.slice V.ca.a V.ca.n V.ca.c,.slice V.sp.a V.sp.n V.sp.c]] W fun e w'=>∃B,e= .returned (.map (some B))/\MapH enK w' B (heldTo m m.sp.length [] sp00)/\Grew W w'):=show∀W,_ from fun W hW=>holders_any V m W (hm.grew hW) hsp4 htb
 have HHC:Hid (∀(B k:Nat) W,Grew w W->k<m.fs.length->MapF plK W B (idxG m.ca)->Calls Tryz.prog 95 #[.agg #[.slice V.f.a V.f.n V.f.c,.int .i64 m.hand,.slice V.s.a V.s.n V.s.c,.slice V.sb.a V.sb.n V.sb.c,.slice V.sq.a V.sq.n V.sq.c,.slice V.db.a V.db.n V.db.c,.slice V.dq.a V.dq.n V.dq.c,.slice V.fl.a V.fl.n V.fl.c,.int .i64 m.cnt,.slice V.ca.a V.ca.n V.ca.c,.slice V.sp.a V.sp.n V.sp.c,.map (some B)],.int .i64 (k:Int)] W fun e w'=>e= .returned (.bool (decide (idxG m.ca ((frAt m k).f,(frAt m k).x)=some (k:Int))))/\Grew W w'):=show∀(B k:Nat) W,_ from fun B k W hW hk hM=>hasCached_any V m B k (idxG m.ca) W (hm.grew hW) hk hM
 obtain⟨⟨fa,fn,fc⟩,⟨sa,sn,sc⟩,vsb,vsq,vdb,vdq,vfl,vca,vsp⟩:=V;dsimp only at HWI HHO HHC⊢;obtain⟨n1,n2,-⟩:=hm.ns;dsimp only at n1 n2;have HFR:Hid (FrRows w fa m.fs):=hm.frs;have HSL:Hid (SlRows w sa m.sl):=hm.sls;have HN1:Hid (m.fs.length=fn):=n1.symm;have HN2:Hid (m.sl.length=sn):=n2.symm;have hb1:fn<=9223372036854775807:=by have:=hm.fs.short;omega
 have hb2:sn<=9223372036854775807:=by have:=hm.sl.short;omega
 have HFE:Hid (∀k:Nat,frE m k=if(frAt m k).r≠(heldTo m m.sp.length [] sp00) (1,(k:Int))\/(0<=(frAt m k).f/\¬idxG m.ca ((frAt m k).f,(frAt m k).x)=some (k:Int))then 7 else 0):=show∀k:Nat,_ from fun k=>frE_prog hca k
 clear hm hca hsp4 htb n1 n2;obtain⟨Z,HZ⟩:∃Z,Hid (wCounts m=Z):=⟨_,rfl⟩;rw[HZ.out];have HZ1:Hid (∀k:Nat,k<m.fs.length->(∀j:Nat,j<k->frE m j=0)->frE m k=7->Z=7):=show∀k:Nat,_ from fun k hk h1 h2=>by
  have h3:=firstE_range hk h1 (by rw[h2];decide)
  rw[<-HZ.out];unfold wCounts;rw[h3,h2,if_neg (by decide)]
 have HZ2:Hid ((∀j:Nat,j<m.fs.length->frE m j=0)->∀k:Nat,k<m.sl.length->(∀j:Nat,j<k->sloE m j=0)->sloE m k=7->Z=7):=show _->_ from fun h0 k hk h1 h2=>by
  have h3:=firstE_range hk h1 (by rw[h2];decide)
  rw[<-HZ.out];unfold wCounts;rw[firstE_range_all h0,if_pos rfl,h3,h2]
 have HZ3:Hid ((∀j:Nat,j<m.fs.length->frE m j=0)->(∀j:Nat,j<m.sl.length->sloE m j=0)->Z=0):=show _->_ from fun h0 h1=>by
  rw[<-HZ.out];unfold wCounts;rw[firstE_range_all h0,if_pos rfl,firstE_range_all h1]
 clear HZ;obtain⟨W0,hW0⟩:∃W0,w.alloc (.cells #[.slice fa fn fc,.int .i64 m.hand,.slice sa sn sc,.slice vsb.a vsb.n vsb.c,.slice vsq.a vsq.n vsq.c,.slice vdb.a vdb.n vdb.c,.slice vdq.a vdq.n vdq.c,.slice vfl.a vfl.n vfl.c,.int .i64 m.cnt,.slice vca.a vca.n vca.c,.slice vsp.a vsp.n vsp.c] 40)=W0:=⟨_,rfl⟩;have HG0:=gA hW0
 have X0:=xA hW0
 have HW0:Hid (_=W0):=hW0;clear hW0
 go_enter Tryz.func39,Tryz.ntmps39
 go_upto_region 1 with fail;rw[HW0.out];have hx0:=X0.out.gw 0 rfl
 have hx1:=X0.out.gw 1 rfl
 have hx2:=X0.out.gw 2 rfl
 have hx3:=X0.out.gw 3 rfl
 have hx4:=X0.out.gw 4 rfl
 have hx5:=X0.out.gw 5 rfl
 have hx6:=X0.out.gw 6 rfl
 have hx7:=X0.out.gw 7 rfl
 have hx8:=X0.out.gw 8 rfl
 have hx9:=X0.out.gw 9 rfl
 have hx10:=X0.out.gw 10 rfl
 have hne:Nonempty (GrownW W0):=⟨⟨_,Grew.refl _⟩⟩;refine wp_lax_tail 5 [(1,⟨fun v=>∃B,v= .agg #[.slice fa fn fc,.int .i64 m.hand,.slice sa sn sc,.slice vsb.a vsb.n vsb.c,.slice vsq.a vsq.n vsq.c,.slice vdb.a vdb.n vdb.c,.slice vdq.a vdq.n vdq.c,.slice vfl.a vfl.n vfl.c,.int .i64 m.cnt,.slice vca.a vca.n vca.c,.slice vsp.a vsp.n vsp.c,.map (some B)],fun v w'=>∃B,v= .agg #[.slice fa fn fc,.int .i64 m.hand,.slice sa sn sc,.slice vsb.a vsb.n vsb.c,.slice vsq.a vsq.n vsq.c,.slice vdb.a vdb.n vdb.c,.slice vdq.a vdq.n vdq.c,.slice vfl.a vfl.n vfl.c,.int .i64 m.cnt,.slice vca.a vca.n vca.c,.slice vsp.a vsp.n vsp.c,.map (some B)]/\MapF plK w' B (idxG m.ca)⟩),(3,⟨fun v=>∃B,v= .map (some B),fun v w'=>∃B,v= .map (some B)/\MapH enK w' B (heldTo m m.sp.length [] sp00)⟩),(4,⟨fun v=>∃p,v= .pointer (some ⟨p,0,none⟩),fun v w'=>∃p,v= .pointer (some ⟨p,0,none⟩)/\Box w' p [.slice none 0 0,.int .i64 0,.slice none 0 0,.slice none 0 0,.slice none 0 0,.slice none 0 0,.slice none 0 0,.slice none 0 0,.int .i64 0,.slice none 0 0,.slice none 0 0,.map none]/\w.heap.size<=p⟩)] mixed (by kernel_rfl) rfl rfl (by decide) ?hS ?hp ?_
 case hS=>
  intro x hx;simp only[mC,nM,or_false]at hx
  rcases hx with rfl | rfl | rfl
  ·exact⟨_,0,rfl⟩
  ·exact⟨_,0,rfl⟩
  exact⟨_,0,rfl⟩
 case hp=>
  intro x hx;simp only[mC,nM,or_false]at hx
  rcases hx with rfl | rfl | rfl
  ·exact fun _ _ _ hg h=>by obtain⟨B,h1,h2⟩:=h;exact⟨B,h1,h2.grew hg⟩
  ·exact fun _ _ _ hg h=>by obtain⟨B,h1,h2⟩:=h;exact⟨B,h1,h2.grew hg⟩
  exact fun _ _ _ hg h=>by obtain⟨p,h1,h2,h3⟩:=h;exact⟨p,h1,h2.grew hg,h3⟩
 simp only[List.take,List.drop];iterate 1 (refine lax_quiet rfl rfl rfl (fun K hK=>?_);go_big_quiet_op;refine hK _ ?_;clear hK K)
 refine lax_spec rfl rfl (fun w' hg hF=>?_) (fun v1 hv=>?_)
 ·refine Does.call [.agg #[.slice fa fn fc,.int .i64 m.hand,.slice sa sn sc,.slice vsb.a vsb.n vsb.c,.slice vsq.a vsq.n vsq.c,.slice vdb.a vdb.n vdb.c,.slice vdq.a vdq.n vdq.c,.slice vfl.a vfl.n vfl.c,.int .i64 m.cnt,.slice vca.a vca.n vca.c,.slice vsp.a vsp.n vsp.c]] rfl Tryz.func58 rfl rfl rfl ?_;refine(HWI.out w' (HG0.out.trans hg)).mono ?_;rintro e w'' ⟨B,rfl,hM,hg2⟩;exact⟨_,rfl,hg2,⟨B,rfl⟩,B,rfl,hM⟩
 obtain⟨B1,rfl⟩:=hv;simp only[Act.put,sB,sS,sZ];iterate 1 (refine lax_quiet rfl rfl rfl (fun K hK=>?_);go_big_quiet_op;refine hK _ ?_;clear hK K)
 refine lax_spec rfl rfl (fun w' hg hF=>?_) (fun v1 hv=>?_)
 ·refine Does.call [.agg #[.slice fa fn fc,.int .i64 m.hand,.slice sa sn sc,.slice vsb.a vsb.n vsb.c,.slice vsq.a vsq.n vsq.c,.slice vdb.a vdb.n vdb.c,.slice vdq.a vdq.n vdq.c,.slice vfl.a vfl.n vfl.c,.int .i64 m.cnt,.slice vca.a vca.n vca.c,.slice vsp.a vsp.n vsp.c]] rfl Tryz.func94 rfl rfl rfl ?_;refine(HHO.out w' (HG0.out.trans hg)).mono ?_;rintro e w'' ⟨B,rfl,hM,hg2⟩;exact⟨_,rfl,hg2,⟨B,rfl⟩,B,rfl,hM⟩
 obtain⟨B2,rfl⟩:=hv;simp only[Act.put,sB,sS,sZ];refine lax_spec rfl rfl (fun w' hg hF=>?_) (fun v1 hv=>?_)
 ·have hnew:Box (w'.alloc (.cells #[.slice none 0 0,.int .i64 0,.slice none 0 0,.slice none 0 0,.slice none 0 0,.slice none 0 0,.slice none 0 0,.slice none 0 0,.int .i64 0,.slice none 0 0,.slice none 0 0,.map none] 117)) w'.heap.size [.slice none 0 0,.int .i64 0,.slice none 0 0,.slice none 0 0,.slice none 0 0,.slice none 0 0,.slice none 0 0,.slice none 0 0,.int .i64 0,.slice none 0 0,.slice none 0 0,.map none]:=Box.top _ _ _ rfl;have hle:w.heap.size<=w'.heap.size:=bS (HG0.out.trans hg);clear hx0 hx1 hx2 hx3 hx4 hx5 hx6 hx7 hx8 hx9 hx10 hne;refine Does.step (v:= .pointer (some ⟨w'.heap.size,0,none⟩)) (w':=w'.alloc (.cells #[.slice none 0 0,.int .i64 0,.slice none 0 0,.slice none 0 0,.slice none 0 0,.slice none 0 0,.slice none 0 0,.slice none 0 0,.int .i64 0,.slice none 0 0,.slice none 0 0,.map none] 117)) (by simp only[execOp];go_simp) ⟨grew_alloc _ _,⟨_,rfl⟩,_,rfl,hnew,hle⟩
 obtain⟨p3,rfl⟩:=hv;simp only[Act.put,sB,sS,sZ];refine lax_nil fun W3 hg3 hF=>?_
 obtain⟨B1',he1,hM1⟩:∃B,(Value.agg #[.slice fa fn fc,.int .i64 m.hand,.slice sa sn sc,.slice vsb.a vsb.n vsb.c,.slice vsq.a vsq.n vsq.c,.slice vdb.a vdb.n vdb.c,.slice vdq.a vdq.n vdq.c,.slice vfl.a vfl.n vfl.c,.int .i64 m.cnt,.slice vca.a vca.n vca.c,.slice vsp.a vsp.n vsp.c,.map (some B1)])= .agg #[.slice fa fn fc,.int .i64 m.hand,.slice sa sn sc,.slice vsb.a vsb.n vsb.c,.slice vsq.a vsq.n vsq.c,.slice vdb.a vdb.n vdb.c,.slice vdq.a vdq.n vdq.c,.slice vfl.a vfl.n vfl.c,.int .i64 m.cnt,.slice vca.a vca.n vca.c,.slice vsp.a vsp.n vsp.c,.map (some B)]/\MapF plK W3 B (idxG m.ca):=hF 1;obtain⟨B2',he2,hM2⟩:∃B,(Value.map (some B2))= .map (some B)/\MapH enK W3 B (heldTo m m.sp.length [] sp00):=hF 3;obtain⟨p3',he3,hB3,hle3⟩:∃p,(Value.pointer (some ⟨p3,0,none⟩))= .pointer (some ⟨p,0,none⟩)/\Box W3 p [.slice none 0 0,.int .i64 0,.slice none 0 0,.slice none 0 0,.slice none 0 0,.slice none 0 0,.slice none 0 0,.slice none 0 0,.int .i64 0,.slice none 0 0,.slice none 0 0,.map none]/\w.heap.size<=p:=hF 4;have e1:B1'=B1:=by simp at he1;exact he1.symm
 have e2:B2'=B2:=by simp at he2;exact he2.symm
 have e3:p3'=p3:=by simp at he3;exact he3.symm
 subst e1 e2 e3;have M1:Hid (MapF plK W3 B1' (idxG m.ca)):=hM1;have M2:Hid (MapH enK W3 B2' (heldTo m m.sp.length [] sp00)):=hM2;have Y3:Hid (Box W3 p3' [.slice none 0 0,.int .i64 0,.slice none 0 0,.slice none 0 0,.slice none 0 0,.slice none 0 0,.slice none 0 0,.slice none 0 0,.int .i64 0,.slice none 0 0,.slice none 0 0,.map none]):=hB3;have HL3:Hid (w.heap.size<=p3'):=hle3;have HG3:=dD (HG0.out.trans hg3);have X3:=dD (X0.out.grew hg3);clear he1 he2 he3 hM1 hM2 hB3 hle3 hg3 hF hx0 hx1 hx2 hx3 hx4 hx5 hx6 hx7 hx8 hx9 hx10 hne;have HXP:Hid (w.heap.size≠p3'):=show _≠_ from fun e=>by
  obtain⟨t1,h1⟩:=X3.out;obtain⟨t2,h2⟩:=Y3.out;rw[<-e,h1]at h2
  simp at h2
 go_wp2_with (refine wp_storeAll rfl 117 (.tmp 3) (.tmp 10) rfl p3' rfl [.slice fa fn fc,.int .i64 m.hand,.slice sa sn sc,.slice vsb.a vsb.n vsb.c,.slice vsq.a vsq.n vsq.c,.slice vdb.a vdb.n vdb.c,.slice vdq.a vdq.n vdq.c,.slice vfl.a vfl.n vfl.c,.int .i64 m.cnt,.slice vca.a vca.n vca.c,.slice vsp.a vsp.n vsp.c,.map (some B1')] rfl Y3.out rfl (by kernel_rfl) (fun v hv=>by
    simp only[mC,nM,or_false]at hv
    rcases hv with rfl | rfl | rfl | rfl | rfl | rfl | rfl | rfl | rfl | rfl | rfl | rfl <;> rfl) ?_)
 intro W4 hb4 hg4 _;have Y4:Hid (Box W4 p3' [.slice fa fn fc,.int .i64 m.hand,.slice sa sn sc,.slice vsb.a vsb.n vsb.c,.slice vsq.a vsq.n vsq.c,.slice vdb.a vdb.n vdb.c,.slice vdq.a vdq.n vdq.c,.slice vfl.a vfl.n vfl.c,.int .i64 m.cnt,.slice vca.a vca.n vca.c,.slice vsp.a vsp.n vsp.c,.map (some B1')]):=hb4;have X4:Hid (Box W4 w.heap.size [.slice fa fn fc,.int .i64 m.hand,.slice sa sn sc,.slice vsb.a vsb.n vsb.c,.slice vsq.a vsq.n vsq.c,.slice vdb.a vdb.n vdb.c,.slice vdq.a vdq.n vdq.c,.slice vfl.a vfl.n vfl.c,.int .i64 m.cnt,.slice vca.a vca.n vca.c,.slice vsp.a vsp.n vsp.c]):=X3.out.grown hg4 HXP.out;have N1:Hid (MapF plK W4 B1' (idxG m.ca)):=M1.out.kept hg4 (fun e=>by cases e;exact Y3.out.ne_map M1.out rfl)
 have N2:Hid (MapH enK W4 B2' (heldTo m m.sp.length [] sp00)):=show MapH _ _ _ _ by
  obtain⟨g,k1,k2⟩:=M2.out;exact⟨g,k1.kept hg4 (fun e=>by cases e;exact Y3.out.ne_map k1 rfl),k2⟩
 have HG4:Hid (Grew w W4):=show Grew _ _ from grew_grown HG3.out hg4 HL3.out
 clear hb4 hg4 M1 M2 Y3 X3;have x0:=X4.out.c 0 rfl;go_wp2;clear x0
 go_loopg [17] fn (fun gg s17 wr=>∃kk:Nat,kk<=fn/\fn - kk<=gg/\s17= .int .i64 kk/\Hid (Grew W4 wr)/\Hid (∀j:Nat,j<kk->frE m j=0))
 case atStart=>exact⟨0,nZ _,by omega,rfl,Grew.refl _,fun j hj=>absurd hj (nL _)⟩
 obtain⟨kk,hkk,hgg,rfl,BW,OW⟩:=hrel
 by_cases hlt:kk<fn
 ·have hltz:(kk:Int)< (fn:Int):=by omega
  have HKL:Hid (kk<m.fs.length):=show _<_ by rw[HN1.out];exact hlt
  obtain⟨q,HQ⟩:∃q,Hid (m.fs[kk]? =some q):=⟨_,gE HKL.out⟩;have HFQ:Hid (frAt m (kk:Int)=q):=show _=_ by unfold frAt;rw[tN,gD,HQ.out];rfl
  obtain⟨ad,rfl,hl⟩:=HFR.out kk q HQ.out;obtain⟨d0,d1,d2,d3,d4,d5,d6,d7,d8,d9,d10,d11,d12⟩:=hl wr (HG4.out.trans BW.out);clear hl;go_upto_region 5 with fail;obtain⟨W5,hW5⟩:∃W5,wr.alloc (.cells #[.int .u8 q.p.b0,.int .u8 q.p.b1,.int .u8 q.p.b2,.int .u8 q.p.b3,.int .u8 q.p.b4,.int .u8 q.p.b5,.int .u8 q.p.b6,.int .u8 q.p.b7,.int .i64 q.r,.bool q.u,.bool q.d,.int .i64 q.f,.int .i64 q.x] 59)=W5:=⟨_,rfl⟩;have HG5:=gT hW5 BW
  have HGw5:=dD (HG4.out.trans HG5.out);have F5:=xA hW5
  have Y5:=dD (Y4.out.grew HG5.out);rw[hW5];clear hW5 d0 d1 d2 d3 d4 d5 d6 d7 d8 d9 d10 d11 d12;obtain⟨pf,HPF⟩:∃pf,Hid (wr.heap.size=pf):=⟨_,rfl⟩;rw[HPF.out]at F5⊢;obtain⟨h,HHK⟩:∃h,Hid ((heldTo m m.sp.length [] sp00) (1,(kk:Int))=h):=⟨_,rfl⟩;have hlk:∀y:GrownW W5,(Instr.lookup 163 (.map (some B2')) (.agg #[.int .i64 1,.int .i64 (kk:Int),.bool false]) false).run Tryz.prog y.world= .ok (.int .i64 h) y.world:=fun y=>by
   have:=(N2.out.grew (HG5.out.trans y.grew)).look (K:=enK) Tryz.underlying163 (Tryz.zeroInt _) (1,(kk:Int));rw[HHK.out]at this;exact this
  have hf8:=F5.out.gw 8 rfl
  have hf11:=F5.out.gw 11 rfl
  have hy0:=Y5.out.gw 0 rfl
  have hy1:=Y5.out.gw 1 rfl
  have hy2:=Y5.out.gw 2 rfl
  have hy3:=Y5.out.gw 3 rfl
  have hy4:=Y5.out.gw 4 rfl
  have hy5:=Y5.out.gw 5 rfl
  have hy6:=Y5.out.gw 6 rfl
  have hy7:=Y5.out.gw 7 rfl
  have hy8:=Y5.out.gw 8 rfl
  have hy9:=Y5.out.gw 9 rfl
  have hy10:=Y5.out.gw 10 rfl
  have hy11:=Y5.out.gw 11 rfl
  have hne:Nonempty (GrownW W5):=⟨⟨_,Grew.refl _⟩⟩;have HFK:=HFE.out kk;rw[HFQ.out,HHK.out]at HFK
  by_cases hr:q.r=h
  ·have hre:(q.r != h)=false:=by simp[hr]
   by_cases hf0:0<=q.f
   ·have hf0d:decide (0<=q.f)=true:=by simpa using hf0
    obtain⟨U,HU⟩:∃U,Hid (decide (idxG m.ca ((frAt m (kk:Int)).f,(frAt m (kk:Int)).x)=some (kk:Int))=U):=⟨_,rfl⟩;have HUF:Hid (frE m kk=if U=true then 0 else 7):=show _=_ by
     have h1:=HU.out;rw[HFQ.out]at h1;rw[HFK,<-h1]
     by_cases hc:idxG m.ca (q.f,q.x)=some (kk:Int)
     ·rw[if_neg (by simp[hr,hc]),if_pos (by simpa using hc)]
     rw[if_pos (.inr ⟨hf0,hc⟩),if_neg (by simpa using hc)]
    have HCC:Hid (∀W,Grew W4 W->Calls Tryz.prog 95 #[.agg #[.slice (some ad) fn fc,.int .i64 m.hand,.slice sa sn sc,.slice vsb.a vsb.n vsb.c,.slice vsq.a vsq.n vsq.c,.slice vdb.a vdb.n vdb.c,.slice vdq.a vdq.n vdq.c,.slice vfl.a vfl.n vfl.c,.int .i64 m.cnt,.slice vca.a vca.n vca.c,.slice vsp.a vsp.n vsp.c,.map (some B1')],.int .i64 (kk:Int)] W fun e w'=>e= .returned (.bool U)/\Grew W w'):=show∀W,_ from fun W hW=>by
     have h1:=HHC.out B1' kk W (HG4.out.trans hW) HKL.out (N1.out.grew hW);rw[HU.out]at h1;exact h1
    clear hr hf0 HFK;refine wp_lax [(14,⟨fun v=>v= .bool U,fun v w'=>True⟩)] mixed (by kernel_rfl) ?hS ?hp ?_
    case hS=>
     intro x hx;simp only[mC,nM,or_false]at hx;subst hx;exact⟨_,rfl⟩
    case hp=>
     intro x hx;simp only[mC,nM,or_false]at hx;subst hx;exact fun _ _ _ _ h=>h
    iterate 14 (refine lax_quiet rfl rfl rfl (fun K hK=>?_);go_big_quiet_op;refine hK _ ?_;clear hK K)
    refine lax_spec rfl rfl (fun w' hg hF=>?_) (fun v1 hv=>?_)
    ·refine Does.call [.agg #[.slice (some ad) fn fc,.int .i64 m.hand,.slice sa sn sc,.slice vsb.a vsb.n vsb.c,.slice vsq.a vsq.n vsq.c,.slice vdb.a vdb.n vdb.c,.slice vdq.a vdq.n vdq.c,.slice vfl.a vfl.n vfl.c,.int .i64 m.cnt,.slice vca.a vca.n vca.c,.slice vsp.a vsp.n vsp.c,.map (some B1')],.int .i64 (kk:Int)] rfl Tryz.func95 rfl rfl rfl ?_;refine(HCC.out w' (HG5.out.trans hg)).mono ?_;rintro e w'' ⟨rfl,hg3⟩;exact⟨_,rfl,hg3,rfl,trivial⟩
    subst hv;simp only[Act.put,sB,sS,sZ];iterate 3 (refine lax_quiet rfl rfl rfl (fun K hK=>?_);go_big_quiet_op;refine hK _ ?_;clear hK K)
    refine lax_nil fun W6 hg6 hF=>?_
    have HG6:=dD (HG5.out.trans hg6);clear hg6 hF hlk hf8 hf11 hy0 hy1 hy2 hy3 hy4 hy5 hy6 hy7 hy8 hy9 hy10 hy11 hne
    cases U with
    | true=>
     have OW':Hid (∀j:Nat,j<kk+1->frE m j=0):=show∀j:Nat,_ from fun j hj=>by
      by_cases e:j=kk
      ·rw[e,HUF.out,if_pos rfl]
      exact OW.out j (by omega)
     go_wp2
     go_roundg (fn -(kk+1))
     case measure=>omega
     exact⟨kk+1,by omega,by omega,by go_num,HG6.out,OW'.out⟩
    | false=>
     have HZE:Hid (Z=7):=HZ1.out kk HKL.out OW.out (by rw[HUF.out,if_neg (by decide)])
     have HGW:=dD (HG4.out.trans HG6.out);go_wp2;go_ret;exact⟨by rw[HZE.out];rfl,HGW.out⟩
   have hf0d:decide (0<=q.f)=false:=by simpa using hf0
   have HFZ:Hid (frE m kk=0):=show _=_ by rw[HFK,if_neg (by simp[hr,hf0])]
   have OW':Hid (∀j:Nat,j<kk+1->frE m j=0):=show∀j:Nat,_ from fun j hj=>by
    by_cases e:j=kk
    ·rw[e];exact HFZ.out
    exact OW.out j (by omega)
   clear hr hf0 HFK;refine wp_lax [] mixed (by kernel_rfl) (by simp) (by simp) ?_
   iterate 12 (refine lax_quiet rfl rfl rfl (fun K hK=>?_);go_big_quiet_op;refine hK _ ?_;clear hK K)
   refine lax_skip ?_ ?_
   ·kernel_rfl
   simp only[Act.put,sB,sS,sZ];refine lax_skip ?_ ?_
   ·kernel_rfl
   simp only[Act.put,sB,sS,sZ];refine lax_skip ?_ ?_
   ·kernel_rfl
   simp only[Act.put,sB,sS,sZ];refine lax_skip ?_ ?_
   ·kernel_rfl
   simp only[Act.put,sB,sS,sZ];iterate 2 (refine lax_quiet rfl rfl rfl (fun K hK=>?_);go_big_quiet_op;refine hK _ ?_;clear hK K)
   refine lax_nil fun W6 hg6 hF=>?_
   have HG6:=dD (HG5.out.trans hg6);clear hg6 hF hlk hf8 hf11 hy0 hy1 hy2 hy3 hy4 hy5 hy6 hy7 hy8 hy9 hy10 hy11 hne;go_wp2
   go_roundg (fn -(kk+1))
   case measure=>omega
   exact⟨kk+1,by omega,by omega,by go_num,HG6.out,OW'.out⟩
  have hre:(q.r != h)=true:=by simp[hr]
  have HZE:Hid (Z=7):=HZ1.out kk HKL.out OW.out (by rw[HFK,if_pos (.inl hr)])
  clear hr HFK;refine wp_lax [] mixed (by kernel_rfl) (by simp) (by simp) ?_
  iterate 8 (refine lax_quiet rfl rfl rfl (fun K hK=>?_);go_big_quiet_op;refine hK _ ?_;clear hK K)
  refine lax_skip ?_ ?_
  ·kernel_rfl
  simp only[Act.put,sB,sS,sZ];refine lax_skip ?_ ?_
  ·kernel_rfl
  simp only[Act.put,sB,sS,sZ];refine lax_skip ?_ ?_
  ·kernel_rfl
  simp only[Act.put,sB,sS,sZ];refine lax_skip ?_ ?_
  ·kernel_rfl
  simp only[Act.put,sB,sS,sZ];refine lax_skip ?_ ?_
  ·kernel_rfl
  simp only[Act.put,sB,sS,sZ];refine lax_skip ?_ ?_
  ·kernel_rfl
  simp only[Act.put,sB,sS,sZ];refine lax_skip ?_ ?_
  ·kernel_rfl
  simp only[Act.put,sB,sS,sZ];refine lax_skip ?_ ?_
  ·kernel_rfl
  simp only[Act.put,sB,sS,sZ];refine lax_skip ?_ ?_
  ·kernel_rfl
  simp only[Act.put,sB,sS,sZ];iterate 1 (refine lax_quiet rfl rfl rfl (fun K hK=>?_);go_big_quiet_op;refine hK _ ?_;clear hK K)
  refine lax_nil fun W6 hg6 hF=>?_
  have HG6:=dD (HGw5.out.trans hg6);clear hg6 hF hlk hf8 hf11 hy0 hy1 hy2 hy3 hy4 hy5 hy6 hy7 hy8 hy9 hy10 hy11 hne;go_wp2;go_ret;exact⟨by rw[HZE.out];rfl,HG6.out⟩
 have hltz:¬(kk:Int)< (fn:Int):=by omega
 have:kk=fn:=by omega
 subst this;have OA:Hid (∀j:Nat,j<m.fs.length->frE m j=0):=show∀j:Nat,_ from fun j hj=>OW.out j (by rw[<-HN1.out];exact hj)
 have x2:=(X4.out.grew BW.out).c 2 rfl;go_wp2;clear x2;have HBW:Hid (Grew W4 wr):=BW;clear BW OW
 go_loopg [44] sn (fun gg s44 wr=>∃i:Nat,i<=sn/\sn - i<=gg/\s44= .int .i64 i/\Hid (Grew W4 wr)/\Hid (∀j:Nat,j<i->sloE m j=0))
 case atStart=>exact⟨0,nZ _,by omega,rfl,HBW.out,fun j hj=>absurd hj (nL _)⟩
 obtain⟨i,hi,hg2,rfl,BW,OW⟩:=hrel;clear HBW
 by_cases hlt2:i<sn
 ·have hltz2:(i:Int)< (sn:Int):=by omega
  have HKL:Hid (i<m.sl.length):=show _<_ by rw[HN2.out];exact hlt2
  obtain⟨z,HZI⟩:∃z,Hid (m.sl[i]? =some z):=⟨_,gE HKL.out⟩;obtain⟨ad,rfl,hl⟩:=HSL.out i z HZI.out;have d0:=hl wr (HG4.out.trans BW.out);clear hl;obtain⟨h,HHK⟩:∃h,Hid ((heldTo m m.sp.length [] sp00) (2,(i:Int))=h):=⟨_,rfl⟩;have hlk:(Instr.lookup 163 (.map (some B2')) (.agg #[.int .i64 2,.int .i64 (i:Int),.bool false]) false).run Tryz.prog wr= .ok (.int .i64 h) wr:=by
   have:=(N2.out.grew BW.out).look (K:=enK) Tryz.underlying163 (Tryz.zeroInt _) (2,(i:Int));rw[HHK.out]at this;exact this
  have HSE:Hid (sloE m i=if z≠h then 7 else 0):=show _=_ by rw[sloE_prog,gD,HZI.out,HHK.out];rfl
  by_cases hr:z=h
  ·have hre:(z != h)=false:=by simp[hr]
   have OW':Hid (∀j:Nat,j<i+1->sloE m j=0):=show∀j:Nat,_ from fun j hj=>by
    by_cases e:j=i
    ·rw[e,HSE.out,if_neg (by simp[hr])]
    exact OW.out j (by omega)
   clear hr;go_wp2
   go_roundg (sn -(i+1))
   case measure=>omega
   exact⟨i+1,by omega,by omega,by go_num,BW.out,OW'.out⟩
  have hre:(z != h)=true:=by simp[hr]
  have HZE:Hid (Z=7):=HZ2.out OA.out i HKL.out OW.out (by rw[HSE.out,if_pos hr])
  have HGW:=dD (HG4.out.trans BW.out);clear hr;go_wp2;go_ret;exact⟨by rw[HZE.out];rfl,HGW.out⟩
 have hltz2:¬(i:Int)< (sn:Int):=by omega
 have:i=sn:=by omega
 subst this;have HZE:Hid (Z=0):=HZ3.out OA.out fun j hj=>OW.out j (by rw[<-HN2.out];exact hj)
 have HGW:=dD (HG4.out.trans BW.out);go_wp2;go_ret;exact⟨by rw[HZE.out];rfl,HGW.out⟩
def chk:List Nat:=[34,35,36,37,38,39]
def chkE (m:Ma):List Int:=[firstE (wPartsL m),firstE (wDisksL m),wSpaces m,wCache m,wPages m,wCounts m]
theorem wSpaces_four {m:Ma} (h:wSpaces m=0):m.sp.length<=4:=by
 unfold wSpaces at h
 split at h
 ·cases h
 omega
theorem chk_any (V:MaV) (m:Ma) (w:World) (hm:MachAt w V m) (k:Nat) (hb:∀j,j<k->(chkE m)[j]?.getD 0=0) (f:Nat) (hf:chk[k]? =some f) (e:Int) (he:(chkE m)[k]? =some e):
  Calls Tryz.prog f #[.agg #[.slice V.f.a V.f.n V.f.c,.int .i64 m.hand,.slice V.s.a V.s.n V.s.c,.slice V.sb.a V.sb.n V.sb.c,.slice V.sq.a V.sq.n V.sq.c,.slice V.db.a V.db.n V.db.c,.slice V.dq.a V.dq.n V.dq.c,.slice V.fl.a V.fl.n V.fl.c,.int .i64 m.cnt,.slice V.ca.a V.ca.n V.ca.c,.slice V.sp.a V.sp.n V.sp.c]] w fun r w'=>r= .returned (.int .i64 e)/\Grew w w':=by
 have h1:1<=k->Right1 m:=fun h=>right1.1 (hb 0 (by omega))
 have h3:3<=k->RightSp m/\m.sp.length<=4:=fun h=>⟨rightSp (hb 2 (by omega)),wSpaces_four (hb 2 (by omega))⟩
 have h4:4<=k->caGo m none m.ca=0:=fun h=>hb 3 (by omega)
 match k,hf,he with
 | 0,hf,he=>cases hf;cases he;exact wrongParts_any V m w hm
 | 1,hf,he=>cases hf;cases he;exact wrongDisks_any V m w hm (h1 (by omega))
 | 2,hf,he=>cases hf;cases he;exact wrongSpaces_any V m w hm
 | 3,hf,he=>cases hf;cases he;exact wrongCache_any V m w hm (h1 (by omega))
 | 4,hf,he=>cases hf;cases he;exact wrongPagesM_any V m w hm (h1 (by omega)) (h3 (by omega)).1
 | 5,hf,he=>cases hf;cases he;exact wrongCounts_any V m w hm (h4 (by omega)) (h3 (by omega)).2 (fun s hs=>((h3 (by omega)).1 s hs).2)
 | k+6,hf,he=>simp[chk]at hf
theorem chk_enters (k f:Nat) (hf:chk[k]? =some f):∀args w,(callFunc f args).run Tryz.prog w= .ok (.enter f args) w:=by
 match k,hf with
 | 0,hf=>cases hf;exact enters_of Tryz.func34 (by kernel_rfl) rfl
 | 1,hf=>cases hf;exact enters_of Tryz.func35 (by kernel_rfl) rfl
 | 2,hf=>cases hf;exact enters_of Tryz.func36 (by kernel_rfl) rfl
 | 3,hf=>cases hf;exact enters_of Tryz.func37 (by kernel_rfl) rfl
 | 4,hf=>cases hf;exact enters_of Tryz.func38 (by kernel_rfl) rfl
 | 5,hf=>cases hf;exact enters_of Tryz.func39 (by kernel_rfl) rfl
 | k+6,hf=>simp[chk]at hf
def fnV (f:Nat):Value:= .func (.func f) #[] #[]
theorem wrongM_any (V:MaV) (m:Ma) (w:World) (hm:MachAt w V m):
  Calls Tryz.prog 9 #[.agg #[.slice V.f.a V.f.n V.f.c,.int .i64 m.hand,.slice V.s.a V.s.n V.s.c,.slice V.sb.a V.sb.n V.sb.c,.slice V.sq.a V.sq.n V.sq.c,.slice V.db.a V.db.n V.db.c,.slice V.dq.a V.dq.n V.dq.c,.slice V.fl.a V.fl.n V.fl.c,.int .i64 m.cnt,.slice V.ca.a V.ca.n V.ca.c,.slice V.sp.a V.sp.n V.sp.c]] w fun e w'=>e= .returned (.int .i64 (maW m))/\Grew w w':=by
 have HCK:Hid (∀W,Grew w W->∀(k:Nat),(∀j,j<k->(chkE m)[j]?.getD 0=0)->∀f,chk[k]? =some f->∀e,(chkE m)[k]? =some e->Calls Tryz.prog f #[.agg #[.slice V.f.a V.f.n V.f.c,.int .i64 m.hand,.slice V.s.a V.s.n V.s.c,.slice V.sb.a V.sb.n V.sb.c,.slice V.sq.a V.sq.n V.sq.c,.slice V.db.a V.db.n V.db.c,.slice V.dq.a V.dq.n V.dq.c,.slice V.fl.a V.fl.n V.fl.c,.int .i64 m.cnt,.slice V.ca.a V.ca.n V.ca.c,.slice V.sp.a V.sp.n V.sp.c]] W fun r w'=>r= .returned (.int .i64 e)/\Grew W w'):=show∀W,_ from fun W hW k hb f hf e he=>chk_any V m W (hm.grew hW) k hb f hf e he
 clear hm;obtain⟨Z,HZ⟩:∃Z,Hid (maW m=Z):=⟨_,rfl⟩;rw[HZ.out];have HZ2:Hid (firstE (chkE m)=Z):=show _=_ by rw[<-HZ.out,maW_six];rfl
 clear HZ;obtain⟨W0,hW0⟩:∃W0,(w.alloc (.cells #[.slice V.f.a V.f.n V.f.c,.int .i64 m.hand,.slice V.s.a V.s.n V.s.c,.slice V.sb.a V.sb.n V.sb.c,.slice V.sq.a V.sq.n V.sq.c,.slice V.db.a V.db.n V.db.c,.slice V.dq.a V.dq.n V.dq.c,.slice V.fl.a V.fl.n V.fl.c,.int .i64 m.cnt,.slice V.ca.a V.ca.n V.ca.c,.slice V.sp.a V.sp.n V.sp.c] 40)).alloc (.cells #[.func (.func 34) #[] #[],.func (.func 35) #[] #[],.func (.func 36) #[] #[],.func (.func 37) #[] #[],.func (.func 38) #[] #[],.func (.func 39) #[] #[]] 44)=W0:=⟨_,rfl⟩;have HG0:=gD2 hW0
 have X0:=x2a hW0
 have Y0:Hid (Box W0 (w.heap.size+1) (chk.map fnV)):=show Box _ _ _ by rw[<-hW0];exact Box.top _ (chk.map fnV) _ (by simp)
 have HW0:Hid (_=W0):=hW0;clear hW0
 go_enter Tryz.func9,Tryz.ntmps9
 go_upto_region 2 with fail;rw[HW0.out];go_wp2
 go_loopg [10] 6 (fun gg s10 wr=>∃kk:Nat,kk<=6/\6 - kk<=gg/\s10= .int .i64 kk/\Hid (Grew w wr)/\Hid (Box wr w.heap.size [.slice V.f.a V.f.n V.f.c,.int .i64 m.hand,.slice V.s.a V.s.n V.s.c,.slice V.sb.a V.sb.n V.sb.c,.slice V.sq.a V.sq.n V.sq.c,.slice V.db.a V.db.n V.db.c,.slice V.dq.a V.dq.n V.dq.c,.slice V.fl.a V.fl.n V.fl.c,.int .i64 m.cnt,.slice V.ca.a V.ca.n V.ca.c,.slice V.sp.a V.sp.n V.sp.c])/\Hid (Box wr (w.heap.size+1) (chk.map fnV))/\Hid (∀j,j<kk->(chkE m)[j]?.getD 0=0))
 case atStart=>exact⟨0,nZ _,by omega,rfl,HG0.out,X0.out,Y0.out,fun j hj=>absurd hj (nL _)⟩
 obtain⟨kk,hkk,hgg,rfl,BW,XW,YW,OW⟩:=hrel;clear X0 Y0 HG0
 by_cases hlt:kk<6
 ·have hltz:(kk:Int)<6:=by omega
  obtain⟨f,HF⟩:∃f,Hid (chk[kk]? =some f):=⟨_,gE (by simp[chk];exact hlt)⟩
  obtain⟨e,HE⟩:∃e,Hid ((chkE m)[kk]? =some e):=⟨_,gE (by simp[chkE];exact hlt)⟩
  have y0:wr.cell? ⟨w.heap.size+1,kk,none⟩=some (.func (.func f) #[] #[]):=YW.out.c kk (by rw[List.getElem?_map,HF.out];rfl)
  have eg:=chk_enters kk f HF.out;have hcall:=HCK.out wr BW.out kk OW.out f HF.out e HE.out;obtain⟨x0,x1,x2,x3,x4,x5,x6,x7,x8,x9,x10⟩:=XW.out.c11;go_wp2_with fail;refine hcall.mono ?_;clear hcall x0 x1 x2 x3 x4 x5 x6 x7 x8 x9 x10 y0;rintro e' W2 ⟨rfl,hg2⟩;have HG2:=dD (BW.out.trans hg2);have X2:=dD (XW.out.grew hg2);have Y2:=dD (YW.out.grew hg2);clear hg2 eg
  by_cases h0:e=0
  ·have h0e:(e != 0)=false:=by simp[h0]
   have OW':Hid (∀j,j<kk+1->(chkE m)[j]?.getD 0=0):=show∀j,_ from fun j hj=>by
    by_cases ej:j=kk
    ·rw[ej,HE.out,h0];rfl
    exact OW.out j (by omega)
   clear h0;go_wp2
   go_roundg (6 -(kk+1))
   case measure=>omega
   exact⟨kk+1,by omega,by omega,by go_num,HG2.out,X2.out,Y2.out,OW'.out⟩
  have h0e:(e != 0)=true:=by simp[h0]
  have HZE:Hid (Z=e):=show _=_ by
   rw[<-HZ2.out];exact firstE_take (fun j x hj hx=>by have:=OW.out j hj;rw[hx]at this;exact this) HE.out h0
  clear h0;go_wp2;go_ret;exact⟨by rw[HZE.out];rfl,HG2.out⟩
 have hltz:¬(kk:Int)<6:=by omega
 have:kk=6:=by omega
 subst this;have HZE:Hid (Z=0):=show _=_ by
  rw[<-HZ2.out];refine firstE_none fun j x hx=>?_
  have hj:=(gS.1 hx).1;have:=OW.out j (by simpa [chkE]using hj)
  rw[hx]at this;exact this
 go_wp2;go_ret;exact⟨by rw[HZE.out];rfl,BW.out⟩
theorem fork1_any {w0 w:World} {p:Nat} {V:MaV} {m:Ma} (h:ChM w0 p w V m) (q r:Nat) (hq:q<m.sp.length) (hr:r<m.sp.length) (n:Int) (x y z:Nat) (hx:Box w x [.pointer (some ⟨p,0,none⟩)]) (hy:Box w y [.int .i64 (q:Int)]) (hz:Box w z [.int .i64 (r:Int)]):
  Calls Tryz.prog 78 #[.int .i64 n,.pointer (some ⟨x,0,none⟩),.pointer (some ⟨y,0,none⟩),.pointer (some ⟨z,0,none⟩)] w fun e w'=>(∃v,e= .returned v)/\Chd w0 p w V (shareM m q r n) w':=by
 have x0:=hx.c 0 rfl;have y0:=hy.c 0 rfl;have z0:=hz.c 0 rfl;have hsh:=chShare_any h q r hq hr n;clear h hq hr hx hy hz
 go_enter Tryz.func78,Tryz.ntmps78
 go_wp2_with fail;refine hsh.mono ?_;rintro e W1 ⟨⟨v1,rfl⟩,h1⟩;have M1:Hid (Chd w0 p w V (shareM m q r n) W1):=h1;clear h1 hsh;go_wp2
 (first | go_end0 | ((try simp only[Exit.inBlock,Exit.then]);refine bodyPost_ret (results_none rfl _ _ _) rfl ?_))
 first | exact M1.out | exact⟨⟨_,rfl⟩,M1.out⟩
theorem exit1_any {w0 w:World} {p:Nat} {V:MaV} {m:Ma} (h:ChM w0 p w V m) (q:Nat) (hq:q<m.sp.length) (n:Int) (x y:Nat) (hx:Box w x [.pointer (some ⟨p,0,none⟩)]) (hy:Box w y [.int .i64 (q:Int)]):
  Calls Tryz.prog 80 #[.int .i64 n,.pointer (some ⟨x,0,none⟩),.pointer (some ⟨y,0,none⟩)] w fun e w'=>(∃v,e= .returned v)/\Chd w0 p w V (dropP m q n) w':=by
 have x0:=hx.c 0 rfl;have y0:=hy.c 0 rfl;have hsh:=chDrop_any h q hq n;clear h hq hx hy
 go_enter Tryz.func80,Tryz.ntmps80
 go_wp2_with fail;refine hsh.mono ?_;rintro e W1 ⟨⟨v1,rfl⟩,h1⟩;have M1:Hid (Chd w0 p w V (dropP m q n) W1):=h1;clear h1 hsh;go_wp2
 (first | go_end0 | ((try simp only[Exit.inBlock,Exit.then]);refine bodyPost_ret (results_none rfl _ _ _) rfl ?_))
 first | exact M1.out | exact⟨⟨_,rfl⟩,M1.out⟩
theorem ownsRow_own {b size n g:Nat} {w:World} {e:TypeId} {v:Value} {xs:List Value} (h:w.ownsRow b e size v n xs) (hv:v.ownBlock=some g):b<=g/\g<w.heap.size/\∃cs,w.heap[g]? =some (.cells cs e (0,0)):=by
 rcases h.2 with⟨rfl,_⟩ | ⟨k,cap,cur,rfl,h2,h3,h4⟩
 ·cases hv
 simp only[Value.ownBlock,Option.some.injEq]at hv;subst hv;exact⟨h2,(aS.1 h3).1,cur,h3⟩
theorem ownsRow_outD {D:Nat->Prop} {b size n:Nat} {w W:World} {e:TypeId} {v:Value} {xs:List Value} (h:w.ownsRow b e size v n xs) (k:OutD D w W) (hn:∀g,v.ownBlock=some g->¬D g):W.ownsRow b e size v n xs:=by
 refine⟨h.1,?_⟩
 rcases h.2 with h1 | ⟨g,cap,cur,rfl,h2,h3,h4⟩
 ·exact .inl h1
 exact .inr ⟨g,cap,cur,rfl,h2,by rw[k.block g (aS.1 h3).1 (hn g rfl)];exact h3,h4⟩
theorem OwnM.changed {base B p:Nat} {w W:World} {V:MaV} {m:Ma} (h:OwnM base w V m) (hB:B<=base) (hp:w.heap.size<=p) (k:OutD (Dq B p V.sp) w W):RestAt W V m/\∀(xs:List SpV) (Bs:Nat->Nat),base<=Bs 0->(∀i,Bs i<=Bs (i+1))->(∀(i:Nat) x s,xs[i]? =some x->m.sp[i]? =some s->OwnSp (Bs i) (Bs (i+1)) w x s)->∀(i:Nat) x s,xs[i]? =some x->m.sp[i]? =some s->SpaceAt W x s:=by
 obtain⟨ys,_,s1,_⟩:=h.sp;have key:∀{b size n:Nat} {e:TypeId} {v:Value} {xs:List Value},w.ownsRow b e size v n xs->base<=b->spcE.ty≠e->W.ownsRow b e size v n xs:=fun hr hb he=>ownsRow_outD hr k fun g hg hd=>by
  obtain⟨h1,h2,cs,h3⟩:=ownsRow_own hr hg
  rcases hd with hd | hd | hd
  ·omega
  ·omega
  obtain⟨ds,h4⟩:=s1.obj hd;rw[h4]at h3;cases h3;exact he rfl
 have keyR:∀{α:Type} {E:Elt α} {b:Nat} {v:Value} {l:List α},OwnRow E b w v l->base<=b->spcE.ty≠E.ty->OwnRow E b W v l:=fun hr hb he=>⟨key hr.1 hb he,hr.2⟩
 obtain⟨lo,⟨zs,f1,f2,f3,f4⟩,l1,l2⟩:=h.fl;have hf':OwnFiles lo W (.slice V.fl.a V.fl.n V.fl.c) m.fl:=⟨zs,keyR f1 l1 (by decide),f2,fun i x f hx hf=>⟨(f3 i x f hx hf).1,keyR (f3 i x f hx hf).2 l1 (by decide)⟩,f4⟩
 have hb:=nR base;refine⟨⟨(keyR h.fs hb (by decide)).at,(keyR h.sl hb (by decide)).at,OwnPages.at ⟨key h.sb.1 hb (by decide),h.sb.2⟩,OwnPuts.at ⟨key h.sq.1 hb (by decide),h.sq.2⟩,OwnPages.at ⟨key h.db.1 hb (by decide),h.db.2⟩,OwnPuts.at ⟨key h.dq.1 hb (by decide),h.dq.2⟩,hf'.new.now0,(keyR h.ca hb (by decide)).at⟩,fun xs Bs b0 bm h5 i x s hx hs=>?_⟩
 have o:=h5 i x s hx hs;have hbi:base<=Bs i:=nT b0 (mono_le bm (nZ i));have o':OwnSp (Bs i) (Bs (i+1)) W x s:=⟨o.live,keyR o.ar hbi (by decide),⟨o.tb.len,o.tb.tlen,fun j v y hv hy=>keyR (o.tb.row j v y hv hy) hbi (by decide),o.tb.two⟩,o.arh,o.tbh⟩
 exact o'.at
theorem of_any (V:MaV) (m:Ma) (w:World) (hm:MachAt w V m):
  Calls Tryz.prog 74 #[.agg #[.slice V.f.a V.f.n V.f.c,.int .i64 m.hand,.slice V.s.a V.s.n V.s.c,.slice V.sb.a V.sb.n V.sb.c,.slice V.sq.a V.sq.n V.sq.c,.slice V.db.a V.db.n V.db.c,.slice V.dq.a V.dq.n V.dq.c,.slice V.fl.a V.fl.n V.fl.c,.int .i64 m.cnt,.slice V.ca.a V.ca.n V.ca.c,.slice V.sp.a V.sp.n V.sp.c]] w fun e w'=>∃(p:Nat) (V':MaV),e= .returned (.pointer (some ⟨p,0,none⟩))/\ChM w p w' V' m:=by
 obtain⟨W1,hW1⟩:∃W1,w.alloc (.cells #[.slice V.f.a V.f.n V.f.c,.int .i64 m.hand,.slice V.s.a V.s.n V.s.c,.slice V.sb.a V.sb.n V.sb.c,.slice V.sq.a V.sq.n V.sq.c,.slice V.db.a V.db.n V.db.c,.slice V.dq.a V.dq.n V.dq.c,.slice V.fl.a V.fl.n V.fl.c,.int .i64 m.cnt,.slice V.ca.a V.ca.n V.ca.c,.slice V.sp.a V.sp.n V.sp.c] 40)=W1:=⟨_,rfl⟩;have G1:=gA hW1
 have X1:=xA hW1
 have HW1:Hid (_=W1):=hW1;clear hW1;have how:=ownM_any V m W1 (hm.grew G1.out);clear hm
 go_enter Tryz.func74,Tryz.ntmps74
 go_upto_region 1 with fail;rw[HW1.out];obtain⟨x0,x1,x2,x3,x4,x5,x6,x7,x8,x9,x10⟩:=X1.out.c11;go_wp2_with fail;refine how.mono ?_;clear how x0 x1 x2 x3 x4 x5 x6 x7 x8 x9 x10;rintro e W2 ⟨V',rfl,ow,g2⟩;have G2:=dD (G1.out.trans g2);have O2:Hid (OwnM W1.heap.size W2 V' m):=ow;have HS:Hid (w.heap.size<=W1.heap.size):=show _<=_ from bS G1.out
 clear ow g2;have HF:Hid (ChM w W2.heap.size (W2.alloc (.cells (chL V' m).toArray 141)) V' m):=show ChM _ _ _ _ _ by
  have ga:Grew W2 (W2.alloc (.cells (chL V' m).toArray 141)):=grew_alloc _ _;obtain⟨xs,B,s1,s2,s3,s4,s5⟩:=O2.out.sp;refine⟨G2.out.trans ga,bS G2.out,BoxT.top _ _ _ rfl,fun W hW=>(O2.out.changed HS.out (nR _) ((OutD.grew ga).trans hW)).1,⟨xs,(s1.grew ga).base HS.out,s2,fun i x s hx hs W hW=>(O2.out.changed HS.out (nR _) ((OutD.grew ga).trans hW)).2 xs B s3 s4 s5 i x s hx hs⟩⟩
 go_wp2;go_ret;exact⟨_,V',rfl,HF.out⟩
section
variable{α:Type} {E:Elt α}
theorem run_append_apart {w:World} {base:Nat} {v:Value} {l0:List α} (ty:TypeId) (h0:OwnRow E base w v l0) (vx:Value) (l:List α) (hv:RowAt E w vx l) (hb:(l0.length+l.length)*E.bytes<=140737488355328) (hbase:base<=w.heap.size):
  ∃v' w',(Builtin.append_ #[E.st,E.st] ty #[v,vx]).run Tryz.prog w= .ok v' w'/\OwnRow E base w' v' (l0++l)/\w.grownBy w' v.ownBlock/\∀g,v'.ownBlock=some g->v.ownBlock=some g\/w.heap.size<=g:=by
 obtain⟨i0,hi,hz0,hz1,hz2⟩:=info_parts E.info;obtain⟨⟨ax,c,rfl,hnone,hcells⟩,hby⟩:=hv;have h2:(l0.length+l.length)*1<=(l0.length+l.length)*E.bytes:=Nat.mul_le_mul_left _ (nT E.pos E.few)
 cases ax with
 | none=>
  have hps:=hnone rfl;subst hps;exact⟨v,w,run_append_none ty h0 c,by simpa using h0,World.grownBy.rfl' _ _,fun g h=> .inl h⟩
 | some ad=>
  rcases h0.1.2 with⟨rfl,hn0⟩ | ⟨g,cap,cur,rfl,hgb,hgc,hnc,hcm,hcs,hct⟩
  ·have hl0:l0=[]:=eN hn0;subst hl0;obtain⟨v',w',hr,ho,hg,_⟩:=run_append_own (P:=Tryz.prog) w w.heap.size E.st ty E.ty i0 _ E.k E.bytes E.und hi hz0 hz1 hz2 (zsize E) E.pos _ 0 [] (World.ownsRow_nil _ _ _ _) ad l.length c (l.flatMap E.enc) (row_len E l) (hcells ad rfl) (flatMap_one E.one l) (maxLen_of (by simp at h2 hb⊢;omega)) (by simpa using hb) (nR _)
   have ho':OwnRow E w.heap.size w' v' ([]++l):=⟨by simpa using ho,by simpa using hb⟩
   exact⟨v',w',hr,ho'.base hbase,hg,fun g h=> .inr (ho'.lt g h).1⟩
  by_cases hroom:l0.length+l.length<=cap
  ·obtain⟨w',hr,ho,hg⟩:=run_append_fits (P:=Tryz.prog) w base E.st ty E.ty i0 E.k E.und hi hz1 g l0.length cap _ h0.1 ad l.length c (l.flatMap E.enc) (row_len E l) (hcells ad rfl) (flatMap_one E.one l) hroom;exact⟨_,w',hr,⟨by rw[lA,List.flatMap_append];exact ho,by rw[lA];exact hb⟩,hg,fun g' h=> .inl h⟩
  obtain⟨v',w',hr,ho,hg⟩:=run_append_arg_grows (P:=Tryz.prog) w E.st ty E.ty i0 _ E.k E.bytes E.und hi hz0 hz1 hz2 (zsize E) E.pos ⟨g,0,none⟩ l0.length cap (l0.flatMap E.enc) (row_len E l0) (h0.1.cells rfl) ad l.length c (l.flatMap E.enc) (row_len E l) (hcells ad rfl) (by omega) (maxLen_of (by omega)) hb
  have ho':OwnRow E w.heap.size w' v' (l0++l):=⟨by rw[lA,List.flatMap_append];exact ho,by rw[lA];exact hb⟩
  exact⟨v',w',hr,ho'.base hbase,⟨hg.os,hg.tape,hg.output,hg.size,fun k hk _=>hg.block k hk (by simp)⟩,fun g' h=> .inr (ho'.lt g' h).1⟩
theorem wpList_append_apart {w:World} {ops:Array Oper} {rest:List Oper} {o:Oper} {a:Act} {Q:Exit->Act->World->Prop} (hgd:o.guard=none) (s x:Operand) (ho:o.op= .call { callee:= .builtin .append,args:=#[s,x],argTypes:=#[E.st,E.st] })
  (base:Nat) (vs:Value) (l0:List α) (hs:a.eval s=vs) (hown:OwnRow E base w vs l0) (vx:Value) (l:List α) (hx:a.eval x=vx) (hv:RowAt E w vx l) (hb:(l0.length+l.length)*E.bytes<=140737488355328) (hbase:base<=w.heap.size)
  (h:∀v' w',OwnRow E base w' v' (l0++l)->w.grownBy w' vs.ownBlock->(∀g,v'.ownBlock=some g->vs.ownBlock=some g\/w.heap.size<=g)->wpList Tryz.prog ops Q rest (a.put o.dst v') w'):wpList Tryz.prog ops Q (o :: rest) a w:=by
 refine wpList_plain hgd fun K hK=>?_
 obtain⟨v',w',hrun,h1,h2,h3⟩:=run_append_apart o.type hown vx l hv hb hbase;unfold Oper.wp execOp;simp only[ho,resolve,invoke,builtin,Sem.run_bind,Sem.run_pure,rA,List.map_toArray,mP,List.map_nil,hs,hx,hrun];exact hK _ _ (h v' w' h1 h2 h3)
end
theorem vacant1_any (x:SpV) (w:World):
  Calls Tryz.prog 121 #[.agg #[.bool x.live,.slice x.ar.a x.ar.n x.ar.c,.slice x.t0.a x.t0.n x.t0.c,.slice x.t1.a x.t1.n x.t1.c,.slice x.t2.a x.t2.n x.t2.c,.slice x.t3.a x.t3.n x.t3.c,.slice x.t4.a x.t4.n x.t4.c,.slice x.t5.a x.t5.n x.t5.c,.slice x.t6.a x.t6.n x.t6.c,.slice x.t7.a x.t7.n x.t7.c]] w fun e w'=>e= .returned (.bool (!x.live))/\Grew w w':=by
 obtain⟨W0,hW0⟩:∃W0,w.alloc (.cells #[.bool x.live,.slice x.ar.a x.ar.n x.ar.c,.slice x.t0.a x.t0.n x.t0.c,.slice x.t1.a x.t1.n x.t1.c,.slice x.t2.a x.t2.n x.t2.c,.slice x.t3.a x.t3.n x.t3.c,.slice x.t4.a x.t4.n x.t4.c,.slice x.t5.a x.t5.n x.t5.c,.slice x.t6.a x.t6.n x.t6.c,.slice x.t7.a x.t7.n x.t7.c] 65)=W0:=⟨_,rfl⟩;have HG0:=gA hW0
 have X0:=xA hW0
 have HW0:Hid (_=W0):=hW0;clear hW0
 go_enter Tryz.func121,Tryz.ntmps121
 go_upto_region 1 with fail;rw[HW0.out];have x0:=X0.out.c 0 rfl;go_wp2;go_ret;exact⟨rfl,HG0.out⟩
def VacZ (l:List SpV) (z:Int):Prop:=(∃(k:Nat) (x:SpV),z=k/\l[k]? =some x/\x.live=false/\∀(j:Nat) (q:SpV),j<k->l[j]? =some q->q.live=true)\/(z=-1/\∀(j:Nat) (q:SpV),l[j]? =some q->q.live=true)
theorem indexSpace_any (v:Value) (l:List SpV) (w:World) (hv:RowAt spcE w v l):
  Calls Tryz.prog 120 #[v,.func (.func 121) #[] #[]] w fun e w'=>(∃z:Int,e= .returned (.int .i64 z)/\VacZ l z)/\Grew w w':=by
 have hbig:=hv.short;obtain⟨a,c,rfl,hrow⟩:=hv.sps;have HR:Hid (SpRows w a l):=hrow;have eg:=enters_of Tryz.func121 (by kernel_rfl) rfl
 clear hrow hv;obtain⟨n,HN⟩:∃n,Hid (l.length=n):=⟨_,rfl⟩;rw[HN.out]at hbig⊢;obtain⟨ANS,HANS⟩:∃ANS:Int->Prop,Hid (∀z,VacZ l z=ANS z):=⟨VacZ l,fun _=>rfl⟩
 simp only[HANS.out]
 go_enter Tryz.func120,Tryz.ntmps120
 go_wp2
 go_loopg [5,8] n (fun gg _ s8 wr=>∃kk:Nat,kk<=n/\n - kk<=gg/\s8= .int .i64 kk/\Hid (Grew w wr)/\Hid (∀(j:Nat) (q:SpV),j<kk->l[j]? =some q->q.live=true))
 case atStart=>exact⟨0,nZ _,by omega,rfl,Grew.refl w,fun j q hj=>absurd hj (nL _)⟩
 obtain⟨kk,hkk,hg,rfl,BW,A⟩:=hrel
 by_cases hlt:kk<n
 ·have hltz:(kk:Int)< (n:Int):=by omega
  obtain⟨x,HQ⟩:∃q,Hid (l[kk]? =some q):=⟨_,gE (by rw[HN.out];exact hlt)⟩
  obtain⟨ad,rfl,hl⟩:=HR.out kk x HQ.out;obtain⟨d0,d1,d2,d3,d4,d5,d6,d7,d8,d9⟩:=Cells.sp10 (hl wr BW.out);have hcall:=vacant1_any x wr;clear hl
  cases hq:x.live with
  | false=>
   have HF:Hid (ANS (kk:Int)):=show ANS _ by
    rw[<-HANS.out];exact .inl ⟨kk,x,rfl,HQ.out,hq,A.out⟩
   rw[hq]at hcall d0;clear hq;go_wp2_with fail;refine hcall.mono ?_;rintro e W2 ⟨rfl,g2⟩;have G2:=dD (BW.out.trans g2);clear g2 hcall d0 d1 d2 d3 d4 d5 d6 d7 d8 d9;go_wp2;go_ret;exact⟨⟨_,rfl,HF.out⟩,G2.out⟩
  | true=>
   have A2:Hid (∀(j:Nat) (q:SpV),j<kk+1->l[j]? =some q->q.live=true):=show∀(j:Nat) (q:SpV),_ from fun j q hj hjq=>by
    by_cases e:j=kk
    ·subst e;rw[HQ.out]at hjq;cases hjq;exact hq
    exact A.out j q (by omega) hjq
   rw[hq]at hcall d0;clear hq;go_wp2_with fail;refine hcall.mono ?_;rintro e W2 ⟨rfl,g2⟩;have G2:=dD (BW.out.trans g2);clear g2 hcall d0 d1 d2 d3 d4 d5 d6 d7 d8 d9;go_wp2
   go_roundg (n -(kk+1))
   case measure=>omega
   exact⟨kk+1,by omega,by omega,by go_num,G2.out,A2.out⟩
 have hltz:¬(kk:Int)< (n:Int):=by omega
 have HF:Hid (ANS (-1)):=show ANS _ by
  rw[<-HANS.out];refine .inr ⟨rfl,fun j q hjq=>A.out j q ?_ hjq⟩
  have:=(gS.1 hjq).1;have:=HN.out;omega
 go_wp2;go_ret;exact⟨⟨_,rfl,HF.out⟩,BW.out⟩
def Vac (l:List Sp) (k:Nat):Prop:=k<=l.length/\(∀s,l[k]? =some s->s.live=false)/\∀(j:Nat) (s:Sp),j<k->l[j]? =some s->s.live=true
theorem vacant_any (v:Value) (ss:List Sp) (w:World) (hv:SpacesAt w v ss):
  Calls Tryz.prog 73 #[v] w fun e w'=>(∃k:Nat,e= .returned (.int .i64 (k:Int))/\Vac ss k)/\Grew w w':=by
 obtain⟨xs,k1,k2,k3⟩:=hv;have hix:=indexSpace_any v xs w k1;have HV:Hid (∀z,VacZ xs z->(∃k:Nat,z=(k:Int)/\Vac ss k)\/(z=-1/\Vac ss xs.length)):=show∀z,_ from fun z hz=>by
  have key:∀(j:Nat) s,ss[j]? =some s->∃x,xs[j]? =some x/\x.live=s.live:=fun j s hs=>by
   have hj:j<xs.length:=by rw[k2];exact(gS.1 hs).1
   exact⟨_,gE hj,(k3 j _ s (gE hj) hs).live⟩
  rcases hz with⟨k,x,rfl,h1,h2,h3⟩ | ⟨rfl,h1⟩
  ·refine .inl ⟨k,rfl,?_,fun s hs=>?_,fun j s hj hs=>?_⟩
   ·rw[<-k2];exact Nat.le_of_lt (gS.1 h1).1
   ·obtain⟨y,e1,e2⟩:=key k s hs;rw[h1]at e1;cases e1;rw[<-e2,h2]
   obtain⟨y,e1,e2⟩:=key j s hs;rw[<-e2];exact h3 j y hj e1
  refine .inr ⟨rfl,by rw[k2];exact nR _,fun s hs=>?_,fun j s hj hs=>?_⟩
  ·rw[k2,gN (nR _)]at hs;cases hs
  obtain⟨y,e1,e2⟩:=key j s hs;rw[<-e2];exact h1 j y e1
 obtain⟨a,c,rfl,_⟩:=k1.rows;clear k1 k2 k3;obtain⟨n,HN⟩:∃n,Hid (xs.length=n):=⟨_,rfl⟩;rw[HN.out]at hix HV⊢
 go_enter Tryz.func73,Tryz.ntmps73
 go_wp2_with fail;refine hix.mono ?_;clear hix;rintro e W1 ⟨⟨z,rfl,hz⟩,g1⟩;have G1:Hid (Grew w W1):=g1;clear g1
 rcases HV.out z hz with⟨k,rfl,hk⟩ | ⟨rfl,hk⟩
 ·have HK:Hid (Vac ss k):=hk;have hneg:¬(k:Int)<0:=by omega
  clear hk hz;go_wp2;go_ret;exact⟨⟨k,rfl,HK.out⟩,G1.out⟩
 have HK:Hid (Vac ss n):=hk;clear hk hz;go_wp2;go_ret;exact⟨⟨n,rfl,HK.out⟩,G1.out⟩
def setK {α:Type} (l:List α) (k:Nat) (y:α):List α:=if k=l.length then l++ [y]else l.set k y
theorem setK_at {α:Type} {l:List α} {k:Nat} (hk:k<=l.length) (y:α) (i:Nat):(setK l k y)[i]? =if i=k then some y else l[i]?:=by
 unfold setK
 by_cases h:k=l.length
 ·rw[if_pos h];subst h
  by_cases e:i=l.length
  ·subst e;simp
  rw[if_neg e]
  rcases Nat.lt_or_gt_of_ne e with h1 | h1
  ·rw[List.getElem?_append_left h1]
  rw[gN (by simp;omega),gN (by omega)]
 rw[if_neg h,List.getElem?_set]
 by_cases e:k=i
 ·subst e;rw[if_pos rfl,if_pos rfl,if_pos (by omega)]
 rw[if_neg e,if_neg (fun h=>e h.symm)]
theorem setK_len {α:Type} {l:List α} {k:Nat} (hk:k<=l.length) (y:α):(setK l k y).length=max l.length (k+1):=by
 unfold setK
 by_cases h:k=l.length
 ·rw[if_pos h];simp;omega
 rw[if_neg h];simp;omega
theorem settled_any (base:Nat) (v:Value) (xs:List SpV) (k:Nat) (y:SpV) (w:World) (hv:OwnRow spcE base w v xs) (hb:base<=w.heap.size) (hk:k<=xs.length) (h4:xs.length<=4):
  Calls Tryz.prog 75 #[v,.int .i64 (k:Int),.agg #[.bool y.live,.slice y.ar.a y.ar.n y.ar.c,.slice y.t0.a y.t0.n y.t0.c,.slice y.t1.a y.t1.n y.t1.c,.slice y.t2.a y.t2.n y.t2.c,.slice y.t3.a y.t3.n y.t3.c,.slice y.t4.a y.t4.n y.t4.c,.slice y.t5.a y.t5.n y.t5.c,.slice y.t6.a y.t6.n y.t6.c,.slice y.t7.a y.t7.n y.t7.c]] w fun e w'=>∃v',e= .returned v'/\OwnRow spcE base w' v' (setK xs k y)/\w.grownBy w' v.ownBlock/\∀g,v'.ownBlock=some g->v.ownBlock=some g\/w.heap.size<=g:=by
 have HV:Hid (OwnRow spcE base w v xs):=hv;have HB:Hid (base<=w.heap.size):=hb;obtain⟨a,c,rfl⟩:=hv.form;obtain⟨n,HN⟩:∃n,Hid (xs.length=n):=⟨_,rfl⟩;rw[HN.out]at HV hk h4⊢;clear hv hb;obtain⟨W0,hW0⟩:∃W0,w.alloc (.cells #[.bool y.live,.slice y.ar.a y.ar.n y.ar.c,.slice y.t0.a y.t0.n y.t0.c,.slice y.t1.a y.t1.n y.t1.c,.slice y.t2.a y.t2.n y.t2.c,.slice y.t3.a y.t3.n y.t3.c,.slice y.t4.a y.t4.n y.t4.c,.slice y.t5.a y.t5.n y.t5.c,.slice y.t6.a y.t6.n y.t6.c,.slice y.t7.a y.t7.n y.t7.c] 65)=W0:=⟨_,rfl⟩;have G0:=gA hW0
 have X0:=xA hW0
 have HW0:Hid (_=W0):=hW0;clear hW0
 go_enter Tryz.func75,Tryz.ntmps75
 go_upto_region 1 with fail;rw[HW0.out];obtain⟨b,HBB⟩:∃b,Hid (w.heap.size=b):=⟨_,rfl⟩;rw[HBB.out]at X0⊢;obtain⟨x0,x1,x2,x3,x4,x5,x6,x7,x8,x9⟩:=X0.out.c10
 by_cases he:k=n
 ·have hez:((k:Int) ==(n:Int))=true:=by rw[he];simp
  have HSS:Hid (setK xs k y=xs++ [y]):=show _=_ by unfold setK;rw[if_pos (by rw[HN.out];exact he)]
  clear he;obtain⟨W1,hW1⟩:∃W1,W0.alloc (.cells #[.bool y.live,.slice y.ar.a y.ar.n y.ar.c,.slice y.t0.a y.t0.n y.t0.c,.slice y.t1.a y.t1.n y.t1.c,.slice y.t2.a y.t2.n y.t2.c,.slice y.t3.a y.t3.n y.t3.c,.slice y.t4.a y.t4.n y.t4.c,.slice y.t5.a y.t5.n y.t5.c,.slice y.t6.a y.t6.n y.t6.c,.slice y.t7.a y.t7.n y.t7.c] 65)=W1:=⟨_,rfl⟩;have G1:=gT hW1 G0
  have R1:Hid (RowAt spcE W1 (.slice (some ⟨W0.heap.size,0,none⟩) 1 1) [y]):=show RowAt _ _ _ _ by rw[<-hW1];exact row_lit spcE W0 [y] _ rfl (show 1*224<=140737488355328 by decide)
  have HW1:Hid (_=W1):=hW1;clear hW1
  go_wp2_with (at_builtin;rw[HW1.out];refine wpList_append_apart (E:=spcE) rfl (.tmp 11) (.tmp 13) rfl base _ xs rfl (HV.out.grew G1.out) _ [y] rfl R1.out ?hb (nT HB.out (bS G1.out)) ?_)
  case hb=>
   show(xs.length+1)*224<=_
   rw[HN.out];omega
  intro v' W2 ow2 gr2 ap2;have HF:Hid (OwnRow spcE base W2 v' (setK xs k y)/\w.grownBy W2 (Value.slice a n c).ownBlock/\∀g,v'.ownBlock=some g->(Value.slice a n c).ownBlock=some g\/w.heap.size<=g):=show _/\_ from⟨by rw[HSS.out];exact ow2,⟨gr2.os.trans (Below.os G1.out),gr2.tape.trans (Below.tape G1.out),gr2.output.trans (Below.output G1.out),nT (bS G1.out) gr2.size,fun i hi hne=>(gr2.block i (Nat.lt_of_lt_of_le hi (bS G1.out)) hne).trans (Below.block G1.out i hi)⟩,fun g hg=>(ap2 g hg).imp id (fun h=>nT (bS G1.out) h)⟩
  clear ow2 gr2 ap2;go_wp2;go_ret;exact⟨_,rfl,HF.out⟩
 have hez:((k:Int) ==(n:Int))=false:=by
  have:(k:Int)≠(n:Int):=by omega
  simpa using this
 have HSS:Hid (setK xs k y=xs.set k y):=show _=_ by unfold setK;rw[if_neg (by rw[HN.out];exact he)]
 have hkn:k<n:=by omega
 have hkz:(k:Int)< (n:Int):=by omega
 clear he;obtain⟨g,c',heq⟩:=HV.out.formS (by rw[HN.out];omega)
 rw[HN.out]at heq;cases heq
 go_wp2_with (refine wpList_store_elt (E:=spcE) rfl (.tmp 18) (.tmp 17) rfl base _ xs (HV.out.grew G0.out) g k rfl y (by rw[HN.out];exact hkn) _ rfl (by simp[spcE]) _ rfl rfl ?_)
 intro W2 ow2 gr2 sz2;have HF:Hid (OwnRow spcE base W2 (.slice (some ⟨g,0,none⟩) n c) (setK xs k y)/\w.grownBy W2 (Value.slice (some ⟨g,0,none⟩) n c).ownBlock/\∀g',(Value.slice (some ⟨g,0,none⟩) n c).ownBlock=some g'->(Value.slice (some ⟨g,0,none⟩) n c).ownBlock=some g'\/w.heap.size<=g'):=show _/\_ from⟨by rw[HSS.out];exact ow2,⟨gr2.os.trans (Below.os G0.out),gr2.tape.trans (Below.tape G0.out),gr2.output.trans (Below.output G0.out),nT (bS G0.out) gr2.size,fun i hi hne=>(gr2.block i (Nat.lt_of_lt_of_le hi (bS G0.out)) hne).trans (Below.block G0.out i hi)⟩,fun g' hg=> .inl hg⟩
 clear ow2 gr2 sz2 x0 x1 x2 x3 x4 x5 x6 x7 x8 x9;go_wp2;go_ret;exact⟨_,rfl,HF.out⟩
theorem ChM.space {w0 w w1 w2 w3:World} {p k:Nat} {V:MaV} {m:Ma} (h:ChM w0 p w V m) {xs:List SpV} {ya sv:Sli} {l:List Ar} (hk:k<=m.sp.length) (s2:xs.length=m.sp.length) (s3:∀(i:Nat) x s,xs[i]? =some x->m.sp[i]? =some s->∀W,OutD (Dq w0.heap.size p V.sp) w W->SpaceAt W x s)
  (g1:Grew w w1) (ar:OwnRow arE w.heap.size w1 (.slice ya.a ya.n ya.c) l) (ow:OwnRow spcE w0.heap.size w2 (.slice sv.a sv.n sv.c) (setK xs k ⟨true,ya,sli0,sli0,sli0,sli0,sli0,sli0,sli0,sli0⟩)) (g2:w1.grownBy w2 (Value.slice V.sp.a V.sp.n V.sp.c).ownBlock)
  (ap:∀g,(Value.slice sv.a sv.n sv.c).ownBlock=some g->(Value.slice V.sp.a V.sp.n V.sp.c).ownBlock=some g\/w1.heap.size<=g) (g3:w2.grownBy w3 (some p)) (bx:BoxT w3 p 141 (chL { V with sp:=sv } m)):
  ChM w0 p w3 { V with sp:=sv } { m with sp:=setK m.sp k ⟨true,l,none8⟩ }:=by
 have o12:OutD (Dp p V.sp) w1 w2:=⟨g2.os,g2.tape,g2.output,g2.size,fun i hi hb=>g2.block i hi (fun e=>hb (.inr e.symm))⟩
 have o23:OutD (Dp p V.sp) w2 w3:=OutD.grown g3 (.inl rfl);have o13:=o12.trans o23;have key:∀W,OutD (Dq w0.heap.size p sv) w3 W->OutD (Dq w0.heap.size p V.sp) w1 W:=fun W hW=>have o13:=o13.big w0.heap.size;⟨hW.os.trans o13.os,hW.tape.trans o13.tape,hW.output.trans o13.output,nT o13.size hW.size,fun i hi hb=>(hW.block i (Nat.lt_of_lt_of_le hi o13.size) (fun e=>by
  rcases e with e | e | e
  ·exact hb (.inl e)
  ·exact hb (.inr (.inl e))
  rcases ap i e with e | e
  ·exact hb (.inr (.inr e))
  omega)).trans (o13.block i hi hb)⟩
 have key0:∀W,OutD (Dq w0.heap.size p sv) w3 W->OutD (Dq w0.heap.size p V.sp) w W:=fun W hW=>(OutD.grew g1).trans (key W hW)
 have gr3:Grew w0 w3:=by
  have a1:=h.gr.trans g1;have hd:=h.dlo;exact⟨o13.os.trans (Below.os a1),o13.tape.trans (Below.tape a1),o13.output.trans (Below.output a1),nT (bS a1) o13.size,fun i hi=>(o13.block i (Nat.lt_of_lt_of_le hi (bS a1)) (fun e=>by have:=hd i e;omega)).trans (Below.block a1 i hi)⟩
 have hpt:(141:TypeId)≠spcE.ty:=by decide
 refine⟨gr3,h.lo,bx,fun W hW=>?_,⟨_,ow.grown g3 (fun g hg e=>?_),?_,fun i x s hx hs W hW=>?_⟩⟩
 ·have r:=h.rest W (key0 W hW);exact⟨r.fs,r.sl,r.sb,r.sq,r.db,r.dq,r.fl,r.ca⟩
 ·have hb1:BoxT w2 p 141 (chL V m):=(h.box.grew g1).beside g2 (fun g' e=>h.ne g' e)
  cases e;exact ow.ne hb1 hpt _ hg rfl
 ·show(setK xs k _).length=(setK m.sp k _).length
  rw[setK_len (by omega),setK_len hk,s2]
 have hs:(setK m.sp k ⟨true,l,none8⟩)[i]? =some s:=hs;rw[setK_at (by omega)]at hx
 rw[setK_at hk]at hs
 by_cases e:i=k
 ·rw[if_pos e]at hx hs;cases hx;cases hs;exact⟨rfl,ar.new.staysD h.dqt W (key W hW),ar.cap,TabS.nil _ _ _⟩
 rw[if_neg e]at hx hs;exact s3 i x s hx hs W (key0 W hW)
def LiveP (m:Ma) (p:Int) (q:Nat) (s:Sp):Prop:=p=(q:Int)/\m.sp[q]? =some s/\s.live=true
theorem wrongProcess_any (V:MaV) (m:Ma) (p:Int) (w:World) (hm:MachAt w V m) (h0:maW m=0):
  Calls Tryz.prog 72 #[.agg #[.slice V.f.a V.f.n V.f.c,.int .i64 m.hand,.slice V.s.a V.s.n V.s.c,.slice V.sb.a V.sb.n V.sb.c,.slice V.sq.a V.sq.n V.sq.c,.slice V.db.a V.db.n V.db.c,.slice V.dq.a V.dq.n V.dq.c,.slice V.fl.a V.fl.n V.fl.c,.int .i64 m.cnt,.slice V.ca.a V.ca.n V.ca.c,.slice V.sp.a V.sp.n V.sp.c],.int .i64 p] w fun e w'=>((e= .returned (.int .i64 0)/\∃q s,LiveP m p q s)\/(e= .returned (.int .i64 5)/\∀q s,¬LiveP m p q s))/\Grew w w':=by
 obtain⟨W1,hW1⟩:∃W1,w.alloc (.cells #[.slice V.f.a V.f.n V.f.c,.int .i64 m.hand,.slice V.s.a V.s.n V.s.c,.slice V.sb.a V.sb.n V.sb.c,.slice V.sq.a V.sq.n V.sq.c,.slice V.db.a V.db.n V.db.c,.slice V.dq.a V.dq.n V.dq.c,.slice V.fl.a V.fl.n V.fl.c,.int .i64 m.cnt,.slice V.ca.a V.ca.n V.ca.c,.slice V.sp.a V.sp.n V.sp.c] 40)=W1:=⟨_,rfl⟩;have G1:=gA hW1
 have X1:=xA hW1
 have HM:Hid (MachAt w V m):=hm;have HW1:Hid (_=W1):=hW1;clear hW1;have hwr:=wrongM_any V m W1 (hm.grew G1.out);rw[h0]at hwr;obtain⟨-,-,-,-,-,-,-,-,n9⟩:=hm.ns;have HN9:Hid (V.sp.n=m.sp.length):=n9;clear hm h0 n9
 go_enter Tryz.func72,Tryz.ntmps72
 go_upto_region 1 with fail;rw[HW1.out];obtain⟨b,HB⟩:∃b,Hid (w.heap.size=b):=⟨_,rfl⟩;rw[HB.out]at X1⊢;obtain⟨x0,x1,x2,x3,x4,x5,x6,x7,x8,x9,x10⟩:=X1.out.c11;go_wp2_with fail;refine hwr.mono ?_;clear hwr x0 x1 x2 x3 x4 x5 x6 x7 x8 x9 x10;rintro e W2 ⟨rfl,g2⟩;have G2:=dD (G1.out.trans g2);have X2:=dD (X1.out.grew g2);clear g2 X1 G1;have x10:=X2.out.c 10 rfl;obtain⟨sn,HSN⟩:∃sn,Hid (V.sp.n=sn):=⟨_,rfl⟩;rw[HSN.out]at x10
 by_cases hneg:p<0
 ·have HF:Hid (∀q s,¬LiveP m p q s):=show∀q s,_ from fun q s h=>by have:=h.1;omega
  go_wp2;go_ret;exact⟨.inr ⟨rfl,HF.out⟩,G2.out⟩
 by_cases hge:(sn:Int)<=p
 ·have HF:Hid (∀q s,¬LiveP m p q s):=show∀q s,_ from fun q s h=>by
   have:=h.1;have:=(gS.1 h.2.1).1;have:=HSN.out;have:=HN9.out;omega
  go_wp2;go_ret;exact⟨.inr ⟨rfl,HF.out⟩,G2.out⟩
 obtain⟨q,rfl⟩:∃q:Nat,p=(q:Int):=⟨p.toNat,by omega⟩
 have hqz:(q:Int)< (sn:Int):=by omega
 obtain⟨xs,s1,s2,s3⟩:=(HM.out.grew G2.out).sp;obtain⟨x,hx⟩:∃x,xs[q]? =some x:=⟨_,gE (by rw[s2,<-HN9.out,HSN.out];omega)⟩
 obtain⟨s,hs⟩:∃s,m.sp[q]? =some s:=⟨_,gE (by rw[<-HN9.out,HSN.out];omega)⟩
 have hlv:=(s3 q x s hx hs).live;obtain⟨a,c,heq,hrow⟩:=s1.sps;have ha:V.sp.a=a:=by
  simp only[vJ]at heq;exact heq.1
 obtain⟨ad,had,hl⟩:=hrow q x hx;have HS:Hid (m.sp[q]? =some s):=hs;obtain⟨d0,-⟩:=Cells.sp10 (hl W2 (Grew.refl _));rw[ha,had]at x10;clear hl hrow heq ha had s1 s2 s3 hx hs
 cases hv:s.live with
 | true=>
  rw[hlv,hv]at d0;have HF:Hid (∃q' s,LiveP m (q:Int) q' s):=show∃q' s,_ from⟨q,s,rfl,HS.out,hv⟩
  clear hv hlv;go_wp2;go_ret;exact⟨.inl ⟨rfl,HF.out⟩,G2.out⟩
 | false=>
  rw[hlv,hv]at d0;have HF:Hid (∀q' s,¬LiveP m (q:Int) q' s):=show∀q' s,_ from fun q' s' h=>by
   have e:q'=q:=by have:=h.1;omega
   rw[e]at h;have h2:=h.2.1;rw[HS.out]at h2;cases h2;have h3:=h.2.2;rw[hv]at h3;cases h3
  clear hv hlv;go_wp2;go_ret;exact⟨.inr ⟨rfl,HF.out⟩,G2.out⟩
def fewB (f s b:Int):Prop:=(0<=f/\f<=40)/\(0<=s/\s<=60)/\(0<=b/\b<=80)
def newMa (f s b:Int):Ma:=⟨List.replicate f.toNat frF,0,List.replicate s.toNat 0,List.replicate s.toNat zero8,[],List.replicate b.toNat zero8,[],[],b,[],[⟨true,[],none8⟩]⟩
theorem ret_cell_tmp2 {fn:Func} {p u t:Tmp} {ty:TypeId} (h:fn.results=#[.cell p ty,.tmp u,.tmp t]) (tmps:Array Value) {w:World} {b:Nat} (hp:tmps.getD p undef= .pointer (some ⟨b,0,none⟩)) {vs:List Value} (hb:Box w b vs) {d:TypeDesc} (hu:Tryz.prog.underlying ty=some d) (hd:d.isRow=true) (hi:(Tryz.prog.info? ty).map (·.size)=some vs.length):
  (results fn tmps).run Tryz.prog w= .ok (.tuple #[.agg vs.toArray,tmps.getD u undef,tmps.getD t undef]) w:=by
 have hp':tmps[p]?.getD undef= .pointer (some ⟨b,0,none⟩):=by simpa using hp
 have hld:=run_loadVar_mid (P:=Tryz.prog) w b 0 ty vs d hb.range hu hd hi
 simp[results,h,hp',asAddr,hld]
structure SpecE where
 arg:Operand
 pv:Value->Prop
 post:Value->Value->World->Prop
 step:World->World->Prop
 pre:World->Prop:=fun _=>True
theorem Does.storeAllT {o:Oper} {a:Act} {w:World} {K:Value->World->Prop} (ty:TypeId) (p x:Operand) (ho:o.op= .store ty p x) (b:Nat) (hp:a.eval p= .pointer (some ⟨b,0,none⟩)) (vs:List Value) (hx:a.eval x= .agg vs.toArray)
  {t:TypeId} {cs:List Value} (hb:BoxT w b t cs) (hl:vs.length=cs.length) (hi:(Tryz.prog.info? ty).map (·.size)=some cs.length) (h1:∀v∈vs,v.oneCell'=true)
  (h:∀w',BoxT w' b t vs->w.grownBy w' (some b)->w'.heap.size=w.heap.size->K undef w'):Does Tryz.prog o a w K:=by
 unfold Does;have hr:(execOp a.eval o).run Tryz.prog w= .ok .skip (w.setCells b 0 vs):=by
  have:=run_storeAt_mid (P:=Tryz.prog) w b 0 ty vs.toArray (by simpa [hl]using hb.box.there) (by simpa [hl]using hi) (all_oneCell_toArray h1)
  simp only[execOp,ho,hp,hx,Sem.run_bind,this,rA,Sem.run_pure]
 rw[hr];have hp:=hb.part (ds:=vs) (o:=0) (by omega)
 rw[splice_all hl]at hp;exact h _ hp (setCells_grown b vs 0 w).1 (setCells_grown b vs 0 w).2
def bornM (m:Ma) (k:Nat) (s:Sp):Ma:={ m with sp:=setK m.sp k ⟨true,s.ars,none8⟩ }
def shareL (m:Ma) (k q:Nat) (l:List Int):Ma:=l.foldl (fun m n=>shareM m k q n) m
theorem shareL_snoc (m:Ma) (k q:Nat) (l:List Int) (n:Int):shareL m k q (l++ [n])=shareM (shareL m k q l) k q n:=by simp[shareL]
theorem shareM_len (m:Ma) (k q:Nat) (n:Int):(shareM m k q n).sp.length=m.sp.length:=by unfold shareM;rw[enterM_len,enterM_len,holdM_sp]
theorem shareL_len (m:Ma) (k q:Nat):∀(l:List Int),(shareL m k q l).sp.length=m.sp.length:=by
 intro l;unfold shareL
 induction l generalizing m with
 | nil=>rfl
 | cons n l ih=>rw[List.foldl_cons,ih,shareM_len]
def forkP (m:Ma) (k q:Nat) (s:Sp):Ma:=shareL (bornM m k s) k q (pagesTo s.tb anyEn 64)
def zeroM:List Value:=[.slice none 0 0,.int .i64 0,.slice none 0 0,.slice none 0 0,.slice none 0 0,.slice none 0 0,.slice none 0 0,.slice none 0 0,.int .i64 0,.slice none 0 0,.slice none 0 0]
def Forked (m:Ma) (p:Int) (e:Ending) (w':World):Prop:=
 ((∀q s,¬LiveP m p q s)/\e= .returned (.tuple #[.agg zeroM.toArray,.int .i64 0,.int .i64 5]))\/
 ∃q s k,LiveP m p q s/\Vac m.sp k/\((k=4/\e= .returned (.tuple #[.agg zeroM.toArray,.int .i64 0,.int .i64 4]))\/(k<4/\∃V':MaV,e= .returned (.tuple #[.agg #[.slice V'.f.a V'.f.n V'.f.c,.int .i64 (forkP m k q s).hand,.slice V'.s.a V'.s.n V'.s.c,.slice V'.sb.a V'.sb.n V'.sb.c,.slice V'.sq.a V'.sq.n V'.sq.c,.slice V'.db.a V'.db.n V'.db.c,.slice V'.dq.a V'.dq.n V'.dq.c,.slice V'.fl.a V'.fl.n V'.fl.c,.int .i64 (forkP m k q s).cnt,.slice V'.ca.a V'.ca.n V'.ca.c,.slice V'.sp.a V'.sp.n V'.sp.c],.int .i64 (k:Int),.int .i64 0])/\MachAt w' V' (forkP m k q s)))
theorem forkF_any (V:MaV) (m:Ma) (p:Int) (w:World) (hm:MachAt w V m) (h0:maW m=0) (h4:m.sp.length<=4):
  Calls Tryz.prog 21 #[.agg #[.slice V.f.a V.f.n V.f.c,.int .i64 m.hand,.slice V.s.a V.s.n V.s.c,.slice V.sb.a V.sb.n V.sb.c,.slice V.sq.a V.sq.n V.sq.c,.slice V.db.a V.db.n V.db.c,.slice V.dq.a V.dq.n V.dq.c,.slice V.fl.a V.fl.n V.fl.c,.int .i64 m.cnt,.slice V.ca.a V.ca.n V.ca.c,.slice V.sp.a V.sp.n V.sp.c],.int .i64 p] w fun e w'=>Forked m p e w'/\Grew w w':=by
 obtain⟨W1,hW1⟩:∃W1,((w.alloc (.cells #[.slice V.f.a V.f.n V.f.c,.int .i64 m.hand,.slice V.s.a V.s.n V.s.c,.slice V.sb.a V.sb.n V.sb.c,.slice V.sq.a V.sq.n V.sq.c,.slice V.db.a V.db.n V.db.c,.slice V.dq.a V.dq.n V.dq.c,.slice V.fl.a V.fl.n V.fl.c,.int .i64 m.cnt,.slice V.ca.a V.ca.n V.ca.c,.slice V.sp.a V.sp.n V.sp.c] 40)).alloc (.cells #[.int .i64 p] 3)).alloc (.cells #[.slice none 0 0,.int .i64 0,.slice none 0 0,.slice none 0 0,.slice none 0 0,.slice none 0 0,.slice none 0 0,.slice none 0 0,.int .i64 0,.slice none 0 0,.slice none 0 0] 40)=W1:=⟨_,rfl⟩;have G1:Hid (Grew w W1):=show Grew _ _ by rw[<-hW1];exact((grew_alloc _ _).trans (grew_alloc _ _)).trans (grew_alloc _ _)
 obtain⟨b,HB⟩:∃b,Hid (w.heap.size=b):=⟨_,rfl⟩;have X1:Hid (BoxT W1 b 40 [.slice V.f.a V.f.n V.f.c,.int .i64 m.hand,.slice V.s.a V.s.n V.s.c,.slice V.sb.a V.sb.n V.sb.c,.slice V.sq.a V.sq.n V.sq.c,.slice V.db.a V.db.n V.db.c,.slice V.dq.a V.dq.n V.dq.c,.slice V.fl.a V.fl.n V.fl.c,.int .i64 m.cnt,.slice V.ca.a V.ca.n V.ca.c,.slice V.sp.a V.sp.n V.sp.c]):=show BoxT _ _ _ _ by rw[<-hW1];exact((BoxT.top w [.slice V.f.a V.f.n V.f.c,.int .i64 m.hand,.slice V.s.a V.s.n V.s.c,.slice V.sb.a V.sb.n V.sb.c,.slice V.sq.a V.sq.n V.sq.c,.slice V.db.a V.db.n V.db.c,.slice V.dq.a V.dq.n V.dq.c,.slice V.fl.a V.fl.n V.fl.c,.int .i64 m.cnt,.slice V.ca.a V.ca.n V.ca.c,.slice V.sp.a V.sp.n V.sp.c] _ HB.out.symm).grew (grew_alloc _ _)).grew (grew_alloc _ _)
 have Y1:Hid (BoxT W1 (b+1) 3 [.int .i64 p]):=show BoxT _ _ _ _ by rw[<-hW1];exact(BoxT.top _ [.int .i64 p] _ (by have:=HB.out;simp;omega)).grew (grew_alloc _ _)
 have Z1:Hid (BoxT W1 (b+1+1) 40 zeroM):=show BoxT _ _ _ _ by rw[<-hW1];exact BoxT.top _ zeroM _ (by have:=HB.out;simp;omega)
 have HM:Hid (MachAt w V m):=hm;have HW1:Hid (_=W1):=hW1;clear hW1;have hwp:=wrongProcess_any V m p W1 (hm.grew G1.out) h0;clear hm h0
 go_enter Tryz.func21,Tryz.ntmps21
 go_upto_region 1 with fail;rw[HW1.out,HB.out];obtain⟨x0,x1,x2,x3,x4,x5,x6,x7,x8,x9,x10⟩:=X1.out.box.c11;have y0:=Y1.out.box.c 0 rfl;go_wp2_with fail;refine hwp.mono ?_;clear hwp x0 x1 x2 x3 x4 x5 x6 x7 x8 x9 x10 y0;rintro e W2 ⟨hE,g2⟩;have G2:=dD (G1.out.trans g2);have X2:=dD (X1.out.grew g2);have Y2:=dD (Y1.out.grew g2);have Z2:=dD (Z1.out.grew g2);clear g2 X1 Y1 Z1 G1 HW1
 rcases hE with⟨rfl,hL⟩ | ⟨rfl,hL⟩
 case inr=>
  have HF:Hid (∀q s,¬LiveP m p q s):=hL;clear hL;have hzl:∀v∈zeroM,v.oneCell'=true:=by simp[zeroM,Value.oneCell']
  go_wp2_with (refine wp_storeAllT rfl 40 (.tmp 4) (.tmp 15) rfl (b+1+1) rfl zeroM rfl Z2.out rfl (by kernel_rfl) hzl ?_)
  intro W3 bx3 gr3 _;have G3:Hid (Grew w W3):=show Grew _ _ from grew_grown G2.out gr3 (by have:=HB.out;omega)
  have B3:Hid (BoxT W3 (b+1+1) 40 zeroM):=bx3;clear bx3 gr3;go_wp2;refine bodyPost_ret (ret_cell_tmp2 rfl _ rfl B3.out.box Tryz.underlying40 rfl (by kernel_rfl)) rfl ⟨.inl ⟨HF.out,rfl⟩,G3.out⟩
 obtain⟨q,s,hp,hs,hl⟩:=hL;subst hp;have HS:Hid (m.sp[q]? =some s):=hs;have HLV:Hid (s.live=true):=hl;clear hs hl;have hva:=vacant_any (.slice V.sp.a V.sp.n V.sp.c) m.sp W2 (HM.out.grew G2.out).sp;have x10:=X2.out.box.c 10 rfl;go_wp2_with fail;refine hva.mono ?_;clear hva x10;rintro e W3 ⟨⟨k,rfl,hk⟩,g3⟩;have HK:Hid (Vac m.sp k):=hk;have hk4:k<=4:=nT hk.1 h4;have hg3:Grew W2 W3:=g3;clear hk;have G3:Hid (Grew w W3):=show Grew _ _ from G2.out.trans g3
 have X3:=dD (X2.out.grew g3);have Y3:=dD (Y2.out.grew g3);have Z3:=dD (Z2.out.grew g3);clear g3 hg3 X2 Y2 Z2 G2;go_upto_region 5 with fail;obtain⟨c,HC⟩:∃c,Hid (W3.heap.size=c):=⟨_,rfl⟩;obtain⟨W4,hW4⟩:∃W4,W3.alloc (.cells #[.int .i64 (k:Int)] 3)=W4:=⟨_,rfl⟩;have g4:=gP hW4
 have G4:Hid (Grew w W4):=show Grew _ _ from G3.out.trans g4
 have X4:=dD (X3.out.grew g4);have Y4:=dD (Y3.out.grew g4);have Z4:=dD (Z3.out.grew g4);have C4:=xPT hW4 HC
 have HCL:Hid (b+1+1<c):=show _<_ by have:=Z3.out.box.lt;have:=HC.out;omega
 rw[hW4,HC.out];clear hW4 g4 X3 Y3 Z3 G3 HC;have c0:=C4.out.box.c 0 rfl
 by_cases h4k:k=4
 ·have h4z:((k:Int) == 4)=true:=by rw[h4k];rfl
  have HK4:Hid (k=4):=h4k;clear h4k;have hzl:∀v∈zeroM,v.oneCell'=true:=by simp[zeroM,Value.oneCell']
  go_wp2_with (refine wp_storeAllT rfl 40 (.tmp 4) (.tmp 22) rfl (b+1+1) rfl zeroM rfl Z4.out rfl (by kernel_rfl) hzl ?_)
  intro W5 bx5 gr5 _;have G5:Hid (Grew w W5):=show Grew _ _ from grew_grown G4.out gr5 (by have:=HB.out;omega)
  have B5:Hid (BoxT W5 (b+1+1) 40 zeroM):=bx5;clear bx5 gr5 c0;go_wp2;refine bodyPost_ret (ret_cell_tmp2 rfl _ rfl B5.out.box Tryz.underlying40 rfl (by kernel_rfl)) rfl ⟨.inr ⟨q,s,k,⟨rfl,HS.out,HLV.out⟩,HK.out,.inl ⟨HK4.out,rfl⟩⟩,G5.out⟩
 have h4z:((k:Int) == 4)=false:=by
  have:(k:Int)≠4:=by omega
  simpa using this
 have HKL:Hid (k<4):=show k<4 by omega
 clear h4k;have hof:=of_any V m W4 (HM.out.grew G4.out);obtain⟨x0,x1,x2,x3,x4,x5,x6,x7,x8,x9,x10⟩:=X4.out.box.c11;go_wp2_with fail;refine hof.mono ?_;clear hof x0 x1 x2 x3 x4 x5 x6 x7 x8 x9 x10 c0;rintro e W5 ⟨r,V5,rfl,m5⟩;go_upto_region 8 with fail;obtain⟨d,HD⟩:∃d,Hid (W5.heap.size=d):=⟨_,rfl⟩;obtain⟨W6,hW6⟩:∃W6,W5.alloc (.cells #[.pointer (some ⟨r,0,none⟩)] 137)=W6:=⟨_,rfl⟩;have g6:=gP hW6
 have g46:Grew W4 W6:=m5.gr.trans g6;have M6:Hid (ChM W4 r W6 V5 m):=m5.grew g6;have D6:=xPT hW6 HD
 have C6:=dD (C4.out.grew g46);have Y6:=dD (Y4.out.grew g46);have Z6:=dD (Z4.out.grew g46);have HND:Hid (c<W4.heap.size/\r<d/\(∀k,Dp r V5.sp k->W4.heap.size<=k/\k<d)):=show _/\_ by
  have:=HD.out;exact⟨C4.out.box.lt,by have:=m5.dlt r (.inl rfl);omega,fun k hk=>⟨m5.dlo k hk,by have:=m5.dlt k hk;omega⟩⟩
 rw[hW6,HD.out];clear hW6 g6 g46 m5 X4 Y4 Z4 C4 HD;obtain⟨xs,s1,s2,s3⟩:=M6.out.sp;have hql:q<m.sp.length:=(gS.1 HS.out).1;obtain⟨x,hx⟩:∃x,xs[q]? =some x:=⟨_,gE (by rw[s2];exact hql)⟩
 have HAT:Hid (SpaceAt W6 x s):=s3 q x s hx HS.out W6 (OutD.refl _ _);obtain⟨xn,HXN⟩:∃xn,Hid (xs.length=xn):=⟨_,rfl⟩;obtain⟨g,gc,heq⟩:=s1.formS (by omega)
 rw[HXN.out]at heq;have hqz:(q:Int)< (xn:Int):=by have:=HXN.out;omega
 have HVS:Hid (Value.slice V5.sp.a V5.sp.n V5.sp.c= .slice (some ⟨g,0,none⟩) xn gc):=heq;rw[heq]at s1;have HS1:Hid (OwnRow spcE W4.heap.size W6 (.slice (some ⟨g,0,none⟩) xn gc) xs):=s1;have HS2:Hid (xs.length=m.sp.length):=s2;have HS3:Hid (∀(i:Nat) x s,xs[i]? =some x->m.sp[i]? =some s->∀W,OutD (Dq W4.heap.size r V5.sp) W6 W->SpaceAt W x s):=s3;have HX:Hid (xs[q]? =some x):=hx;have HXL:Hid (xn<=4/\k<=xn):=show _/\_ by have:=HXN.out;have:=HK.out.1;omega
 have HRG:Hid (r≠g/\W4.heap.size<=g):=show _/\_ by
  exact⟨M6.out.ne g (by rw[HVS.out];rfl),(HS1.out.lt g rfl).1⟩
 have HCE:Hid (∀W,Grew W6 W->Sp10 W ⟨g,q*10,none⟩ x):=show∀W,_ from fun W hW=>by
  have:=((s1.grew hW).one hx).sp10;rw[Addr.add_lit,zA]at this;exact this
 clear s1 s2 s3 hx heq hql;obtain⟨I,HI⟩:∃I:World->Prop,Hid (∀u,I u↔(BoxT u r 141 (chL V5 m)/\BoxT u d 137 [.pointer (some ⟨r,0,none⟩)]/\BoxT u c 3 [.int .i64 (k:Int)]/\BoxT u (b+1) 3 [.int .i64 (q:Int)])):=⟨_,fun _=>Iff.rfl⟩
 have hI0:I W6.drew:=(HI.out _).2 ⟨M6.out.box.grew (gW _),D6.out.grew (gW _),C6.out.grew (gW _),Y6.out.grew (gW _)⟩
 have hF0:Grew W6 W6.drew:=show Below _ _ _ from(bR _ _).drew
 have hr10:∀y:HoldI I,y.world.cell? ⟨r,10,none⟩=some (.slice (some ⟨g,0,none⟩) xn gc):=fun y=>by rw[<-HVS.out];exact((HI.out _).1 y.holds).1.box.c 10 rfl
 have hd0:∀y:HoldI I,y.world.cell? ⟨d,0,none⟩=some (.pointer (some ⟨r,0,none⟩)):=fun y=>((HI.out _).1 y.holds).2.1.box.c 0 rfl
 have hc0:∀y:HoldI I,y.world.cell? ⟨c,0,none⟩=some (.int .i64 (k:Int)):=fun y=>((HI.out _).1 y.holds).2.2.1.box.c 0 rfl
 have hy0:∀y:HoldI I,y.world.cell? ⟨b+1,0,none⟩=some (.int .i64 (q:Int)):=fun y=>((HI.out _).1 y.holds).2.2.2.box.c 0 rfl
 have hne:Nonempty (HoldI I):=⟨⟨_,hI0⟩⟩;refine wp_lax_tailD (I:=I) 22 [(15,fun v=>v= .slice x.ar.a x.ar.n x.ar.c),(16,fun v=>∃t:Sli,v= .slice t.a t.n t.c),(18,fun v=>∃t:Sli,v= .slice t.a t.n t.c)] (fun u=>Grew W6 u) hI0 hF0 mixed (by kernel_rfl) rfl rfl (by decide) ?hS (by kernel_rfl) ?_
 case hS=>
  intro x hx;simp only[mC,nM,or_false]at hx
  rcases hx with rfl | rfl | rfl
  ·exact⟨_,rfl⟩
  ·exact⟨_,sli0,rfl⟩
  exact⟨_,sli0,rfl⟩
 simp only[List.take,List.drop];iterate 2 (refine laxD_quiet rfl rfl rfl (fun K hK=>?_);go_big_quiet_op;refine hK _ ?_;clear hK K)
 refine laxD_nilc (.tmp 26) ⟨r,0,none⟩ rfl rfl rfl rfl ?_;simp only[Act.put,sB,sS,sZ];iterate 5 (refine laxD_quiet rfl rfl rfl (fun K hK=>?_);go_big_quiet_op;refine hK _ ?_;clear hK K)
 refine laxD_nilc (.tmp 32) ⟨r,0,none⟩ rfl rfl rfl rfl ?_;simp only[Act.put,sB,sS,sZ];iterate 6 (refine laxD_quiet rfl rfl rfl (fun K hK=>?_);go_big_quiet_op;refine hK _ ?_;clear hK K)
 refine laxD_spec rfl rfl (fun _ u=>Grew W6 u) (fun w' hI' hF'=>?_) (fun v1 hv=>?_)
 ·exact does_load1 60 (.tmp 39) rfl g (q*10+1) rfl (.slice x.ar.a x.ar.n x.ar.c) (HCE.out _ hF').2.1 Tryz.underlying60 rfl ⟨hI',rfl,hF'⟩
 cases hv;simp only[Act.put,sB,sS,sZ];refine laxD_spec rfl rfl (fun v u=>Grew W6 u/\OwnRow arE W6.heap.size u v s.ars) (fun w' hI' hF'=>?_) (fun v1 hv=>?_)
 ·refine Does.call [.slice x.ar.a x.ar.n x.ar.c] rfl Tryz.func76 rfl rfl rfl ?_;refine(cloneAr_any _ s.ars w' (HAT.out.grew hF').ar).mono ?_;rintro e w'' ⟨v',rfl,ow,g2⟩;obtain⟨a',c',rfl⟩:=ow.form;obtain⟨i1,i2,i3,i4⟩:=(HI.out _).1 hI';exact⟨_,rfl,(HI.out _).2 ⟨i1.grew g2,i2.grew g2,i3.grew g2,i4.grew g2⟩,⟨⟨a',_,c'⟩,rfl⟩,hF'.trans g2,ow.base (bS hF')⟩
 obtain⟨ya,rfl⟩:=hv;simp only[Act.put,sB,sS,sZ];iterate 1 (refine laxD_quiet rfl rfl rfl (fun K hK=>?_);go_big_quiet_op;refine hK _ ?_;clear hK K)
 refine laxD_spec rfl rfl (fun v u=>∃w1,Grew W6 w1/\OwnRow arE W6.heap.size w1 (.slice ya.a ya.n ya.c) s.ars/\OwnRow spcE W4.heap.size u v (setK xs k ⟨true,ya,sli0,sli0,sli0,sli0,sli0,sli0,sli0,sli0⟩)/\w1.grownBy u (some g)/\∀g',v.ownBlock=some g'->g=g'\/w1.heap.size<=g') (fun w' hI' hF'=>?_) (fun v1 hv=>?_)
 ·refine Does.call [.slice (some ⟨g,0,none⟩) xn gc,.int .i64 (k:Int),.agg #[.bool true,.slice ya.a ya.n ya.c,.slice none 0 0,.slice none 0 0,.slice none 0 0,.slice none 0 0,.slice none 0 0,.slice none 0 0,.slice none 0 0,.slice none 0 0]] rfl Tryz.func75 rfl rfl rfl ?_;refine(settled_any W4.heap.size _ xs k ⟨true,ya,sli0,sli0,sli0,sli0,sli0,sli0,sli0,sli0⟩ w' (HS1.out.grew hF'.1) (nT (bS M6.out.gr) (bS hF'.1)) (by rw[HXN.out];exact HXL.out.2) (by rw[HXN.out];exact HXL.out.1)).mono ?_
  rintro e w'' ⟨v',rfl,ow,gr,ap⟩;obtain⟨i1,i2,i3,i4⟩:=(HI.out _).1 hI';obtain⟨a',c',rfl⟩:=ow.form;obtain⟨hn1,hn2,hn3⟩:=HND.out;have hcl:=HCL.out;have hrg:=HRG.out.1;obtain⟨hg1,hg2⟩:=hn3 g (.inr (by rw[HVS.out];rfl))
  have e1:d≠g:=by omega
  have e2:c≠g:=by omega
  have e3:b+1≠g:=by omega
  exact⟨_,rfl,(HI.out _).2 ⟨i1.beside gr (fun k e=>by cases e;exact hrg),i2.beside gr (fun k e=>by cases e;exact e1),i3.beside gr (fun k e=>by cases e;exact e2),i4.beside gr (fun k e=>by cases e;exact e3)⟩,⟨⟨a',_,c'⟩,rfl⟩,w',hF'.1,hF'.2,ow,gr,fun g' hg'=>(ap g' hg').imp (fun e=>by cases e;rfl) id⟩
 obtain⟨sv,rfl⟩:=hv;simp only[Act.put,sB,sS,sZ];refine laxD_nilc (.tmp 25) ⟨r,0,none⟩ rfl rfl rfl rfl ?_;simp only[Act.put,sB,sS,sZ];iterate 2 (refine laxD_quiet rfl rfl rfl (fun K hK=>?_);go_big_quiet_op;refine hK _ ?_;clear hK K)
 refine laxD_nil fun W7 hI7 hF7=>?_
 obtain⟨b7,d7,c7,y7⟩:=(HI.out _).1 hI7;obtain⟨w1,g61,ar1,ow7,gr7,ap7⟩:=hF7;have HZ7:Hid (BoxT W7 (b+1+1) 40 zeroM):=show BoxT _ _ _ _ from(Z6.out.grew g61).beside gr7 (fun k e=>by
  cases e;have:=HCL.out;have:=HND.out.1;have:=HRG.out.2
  omega)
 have HND8:Hid (∀x,Dp r sv x->W4.heap.size<=x/\x≠d):=show∀x,_ from fun x hx=>by
  obtain⟨hn1,hn2,hn3⟩:=HND.out
  rcases hx with rfl | hx
  ·exact⟨M6.out.lo,by omega⟩
  rcases ap7 x hx with e | e
  ·subst e;have:=hn3 g (.inr (by rw[HVS.out];rfl))
   exact⟨this.1,by omega⟩
  have h1:=bS g61;have h2:=bS M6.out.gr;have h3:=D6.out.box.lt;exact⟨by omega,by omega⟩
 refine wp_storeT rfl 38 (.tmp 46) (.tmp 43) rfl r 10 rfl (.slice sv.a sv.n sv.c) rfl [.slice sv.a sv.n sv.c] rfl b7 (by simp[chL]) (by kernel_rfl) (by simp[Value.oneCell']) ?_
 intro W8 bx8 gr8 _;have M8:Hid (ChM W4 r W8 { V5 with sp:=sv } (bornM m k s)):=show ChM _ _ _ _ _ from M6.out.space HK.out.1 HS2.out HS3.out g61 ar1 ow7 (by rw[HVS.out];exact gr7) (by rw[HVS.out];exact fun g' hg'=>(ap7 g' hg').imp (fun e=>by rw[e];rfl) id) gr8 bx8
 have D8:Hid (BoxT W8 d 137 [.pointer (some ⟨r,0,none⟩)]):=show BoxT _ _ _ _ from d7.beside gr8 (fun k e=>by cases e;have:=HND.out.2.1;omega)
 have C8:Hid (BoxT W8 c 3 [.int .i64 (k:Int)]):=show BoxT _ _ _ _ from c7.beside gr8 (fun k e=>by cases e;have:=HND.out.1;have:=M6.out.lo;omega)
 have Y8:Hid (BoxT W8 (b+1) 3 [.int .i64 (q:Int)]):=show BoxT _ _ _ _ from y7.beside gr8 (fun k e=>by cases e;have:=HND.out.1;have:=HCL.out;have:=M6.out.lo;omega)
 have Z8:Hid (BoxT W8 (b+1+1) 40 zeroM):=show BoxT _ _ _ _ from HZ7.out.beside gr8 (fun k e=>by cases e;have:=HND.out.1;have:=HCL.out;have:=M6.out.lo;omega)
 clear hI7 d7 c7 y7 g61 ar1 ow7 gr7 ap7 hI0 hF0 hr10 hd0 hc0 hy0 hne HI b7 HS1 HS3 HX HCE HAT D6 C6 Y6 Z6 HZ7 bx8 gr8;go_upto_region 9 with fail;obtain⟨V8,HV8⟩:∃V8:MaV,Hid (V8.sp=sv/\ChM W4 r W8 V8 (bornM m k s)):=⟨{ V5 with sp:=sv },(show _/\_ from⟨rfl,M8.out⟩)⟩
 have hkq:q≠k:=fun e=>by
  have h1:=HK.out.2.1 s (by rw[<-e];exact HS.out)
  rw[HLV.out]at h1;cases h1
 have HSB:Hid ((bornM m k s).sp[q]? =some s):=show(setK m.sp k _)[q]? =some s by rw[setK_at HK.out.1,if_neg hkq];exact HS.out
 have HBL:Hid (k< (bornM m k s).sp.length/\q< (bornM m k s).sp.length):=show _/\_ by
  refine⟨?_,(gS.1 HSB.out).1⟩
  show k< (setK m.sp k _).length
  rw[setK_len HK.out.1];omega
 clear hkq;have hep:=eachPage_any HV8.out.2 q s HSB.out 78 #[.pointer (some ⟨d,0,none⟩),.pointer (some ⟨c,0,none⟩),.pointer (some ⟨b+1,0,none⟩)]
  (fun j W=>∃V':MaV,V'.sp=sv/\ChM W4 r W V' (shareL (bornM m k s) k q ((pagesTo s.tb anyEn 64).take j))/\BoxT W d 137 [.pointer (some ⟨r,0,none⟩)]/\BoxT W c 3 [.int .i64 (k:Int)]/\BoxT W (b+1) 3 [.int .i64 (q:Int)]/\BoxT W (b+1+1) 40 zeroM)
  (enters_of Tryz.func78 (by kernel_rfl) rfl)
  (fun W hW=>⟨V8,HV8.out.1,by rw[List.take_zero];exact HV8.out.2.grew hW,D8.out.grew hW,C8.out.grew hW,Y8.out.grew hW,Z8.out.grew hW⟩)
  (fun j n W hj hJ=>by
   obtain⟨V',e1,e2,e3,e4,e5,e6⟩:=hJ;refine(fork1_any e2 k q (by rw[shareL_len];exact HBL.out.1) (by rw[shareL_len];exact HBL.out.2) n d c (b+1) e3.box e4.box e5.box).mono ?_
   rintro e w' ⟨hv,V'',f1,f2,f3⟩;rw[e1]at f1 f3;have hn1:=HND.out.1;have hcl:=HCL.out;refine⟨hv,⟨V'',f1,?_,e3.outD f3 (fun h=>(HND8.out _ h).2 rfl),e4.outD f3 (fun h=>by have:=(HND8.out _ h).1;omega),e5.outD f3 (fun h=>by have:=(HND8.out _ h).1;omega),e6.outD f3 (fun h=>by have:=(HND8.out _ h).1;omega)⟩,by rw[HV8.out.1];exact f3⟩
   rw[take_snoc hj,shareL_snoc];exact f2)
 rw[List.take_length]at hep;have hmf:∀(fn:Fn) (first cap:Array Value) (w:World),(Instr.makeFunc fn first cap).run Tryz.prog w= .ok (.func fn first cap) w:=fun _ _ _ _=>rfl
 have d0:=D8.out.box.c 0 rfl;have y0:=Y8.out.box.c 0 rfl;go_wp2_with fail;refine hep.mono ?_;clear hep d0 y0;rintro e W9 ⟨⟨v9,rfl⟩,⟨V9,e1,e2,e3,e4,e5,e6⟩,_⟩;have M9:Hid (ChM W4 r W9 V9 (forkP m k q s)):=e2;have D9:Hid (BoxT W9 d 137 [.pointer (some ⟨r,0,none⟩)]):=e3;have C9:Hid (BoxT W9 c 3 [.int .i64 (k:Int)]):=e4;have Z9:Hid (BoxT W9 (b+1+1) 40 zeroM):=e6;clear e1 e2 e3 e4 e5 e6;obtain⟨FM,HFM⟩:∃FM,Hid (forkP m k q s=FM):=⟨_,rfl⟩;rw[HFM.out]at M9;go_upto_region 10 with fail;obtain⟨I,HI⟩:∃I:World->Prop,Hid (∀u,I u↔(BoxT u r 141 (chL V9 FM)/\BoxT u d 137 [.pointer (some ⟨r,0,none⟩)]/\BoxT u c 3 [.int .i64 (k:Int)])):=⟨_,fun _=>Iff.rfl⟩
 have hI0:I W9.drew:=(HI.out _).2 ⟨M9.out.box.grew (gW _),D9.out.grew (gW _),C9.out.grew (gW _)⟩
 have hF0:Grew W9 W9.drew:=show Below _ _ _ from(bR _ _).drew
 have hr0:∀y:HoldI I,y.world.cell? ⟨r,0,none⟩=_:=fun y=>((HI.out _).1 y.holds).1.box.c 0 rfl
 have hr1:∀y:HoldI I,y.world.cell? ⟨r,1,none⟩=_:=fun y=>((HI.out _).1 y.holds).1.box.c 1 rfl
 have hr2:∀y:HoldI I,y.world.cell? ⟨r,2,none⟩=_:=fun y=>((HI.out _).1 y.holds).1.box.c 2 rfl
 have hr3:∀y:HoldI I,y.world.cell? ⟨r,3,none⟩=_:=fun y=>((HI.out _).1 y.holds).1.box.c 3 rfl
 have hr4:∀y:HoldI I,y.world.cell? ⟨r,4,none⟩=_:=fun y=>((HI.out _).1 y.holds).1.box.c 4 rfl
 have hr5:∀y:HoldI I,y.world.cell? ⟨r,5,none⟩=_:=fun y=>((HI.out _).1 y.holds).1.box.c 5 rfl
 have hr6:∀y:HoldI I,y.world.cell? ⟨r,6,none⟩=_:=fun y=>((HI.out _).1 y.holds).1.box.c 6 rfl
 have hr7:∀y:HoldI I,y.world.cell? ⟨r,7,none⟩=_:=fun y=>((HI.out _).1 y.holds).1.box.c 7 rfl
 have hr8:∀y:HoldI I,y.world.cell? ⟨r,8,none⟩=_:=fun y=>((HI.out _).1 y.holds).1.box.c 8 rfl
 have hr9:∀y:HoldI I,y.world.cell? ⟨r,9,none⟩=_:=fun y=>((HI.out _).1 y.holds).1.box.c 9 rfl
 have hr10:∀y:HoldI I,y.world.cell? ⟨r,10,none⟩=_:=fun y=>((HI.out _).1 y.holds).1.box.c 10 rfl
 have hd0:∀y:HoldI I,y.world.cell? ⟨d,0,none⟩=some (.pointer (some ⟨r,0,none⟩)):=fun y=>((HI.out _).1 y.holds).2.1.box.c 0 rfl
 have hc0:∀y:HoldI I,y.world.cell? ⟨c,0,none⟩=some (.int .i64 (k:Int)):=fun y=>((HI.out _).1 y.holds).2.2.box.c 0 rfl
 have hne:Nonempty (HoldI I):=⟨⟨_,hI0⟩⟩;have HZL:Hid (∀v∈chL V9 FM,v.oneCell'=true):=show∀v∈chL V9 FM,_ by simp[chL,Value.oneCell']
 refine wp_lax_tailD (I:=I) 8 [(5,fun _=>True)] (fun u=>Grew W9 u) hI0 hF0 mixed (by kernel_rfl) rfl rfl (by decide) ?hS (by kernel_rfl) ?_
 case hS=>
  intro x hx;simp only[mC,nM,or_false]at hx;subst hx;exact⟨undef,trivial⟩
 simp only[List.take,List.drop];iterate 1 (refine laxD_quiet rfl rfl rfl (fun K hK=>?_);go_big_quiet_op;refine hK _ ?_;clear hK K)
 refine laxD_nilc (.tmp 51) ⟨r,0,none⟩ rfl rfl rfl rfl ?_;simp only[Act.put,sB,sS,sZ];iterate 3 (refine laxD_quiet rfl rfl rfl (fun K hK=>?_);go_big_quiet_op;refine hK _ ?_;clear hK K)
 refine laxD_spec rfl rfl (fun _ u=>Grew w u/\BoxT u (b+1+1) 40 (chL V9 FM)/\MachAt u V9 FM) (fun w' hI' hF'=>?_) (fun v1 hv=>?_)
 ·refine Does.storeAllT 40 (.tmp 4) (.tmp 54) rfl (b+1+1) rfl (chL V9 FM) rfl (Z9.out.grew hF') rfl (by kernel_rfl) HZL.out ?_
  intro W11 bx gr11 sz11;have hcl:=HCL.out;have hn1:=HND.out.1;have hrl:=M9.out.lo;obtain⟨i1,i2,i3⟩:=(HI.out _).1 hI';have k9:=M9.out.grew hF';have hd:=M9.out.dlt;refine⟨(HI.out _).2 ⟨i1.beside gr11 (fun k e=>by cases e;omega),i2.beside gr11 (fun k e=>by cases e;have:=HND.out.2.1;omega),i3.beside gr11 (fun k e=>by cases e;omega)⟩,trivial,grew_grown (G4.out.trans k9.gr) gr11 (by have:=HB.out;omega),bx,?_⟩
  have o:OutD (Dq W4.heap.size r V9.sp) w' W11:=OutD.grown gr11 (.inl (by omega))
  have rs:=k9.rest W11 o;obtain⟨ys,t1,t2,t3⟩:=k9.sp;exact⟨rs.fs,rs.sl,rs.sb,rs.sq,rs.db,rs.dq,rs.fl,rs.ca,⟨ys,(t1.grown gr11 (fun g' hg' e=>by cases e;have:=(t1.lt _ hg').1;omega)).at,t2,fun i x s hx hs=>t3 i x s hx hs W11 o⟩⟩
 clear hv;try simp only[Act.put]
 iterate 2 (refine laxD_quiet rfl rfl rfl (fun K hK=>?_);go_big_quiet_op;refine hK _ ?_;clear hK K)
 refine laxD_nil fun W11 hI11 hF11=>?_
 have G11:Hid (Grew w W11):=hF11.1;have B11:Hid (BoxT W11 (b+1+1) 40 (chL V9 FM)):=hF11.2.1;have HF:Hid (MachAt W11 V9 FM):=hF11.2.2;clear hI11 hF11 hI0 hF0 hne HI hr0 hr1 hr2 hr3 hr4 hr5 hr6 hr7 hr8 hr9 hr10 hd0 hc0;go_wp2;refine bodyPost_ret (ret_cell_tmp2 rfl _ rfl B11.out.box Tryz.underlying40 rfl (by kernel_rfl)) rfl ⟨.inr ⟨q,s,k,⟨rfl,HS.out,HLV.out⟩,HK.out,.inr ⟨HKL.out,V9,?_,?_⟩⟩,G11.out⟩
 ·rw[HFM.out];rfl
 rw[HFM.out];exact HF.out
end
end Go.Proofs.YtangilolcekceaaGreat
