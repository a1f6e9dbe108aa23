import Derived.Test.YtempiodbdhiboaaGreatTP3
import Derived.ChangeKeysEq
import Derived.Shelf.Bits.Mul64
import Derived.Deep.Cut
namespace Go.Proofs.YtempiodbdhiboaaGreat
open Go.Value renaming slice→O,int→Xe,bool→Xh,agg→Xi,pointer→Xj,tuple→Xm
open Go.IntKind renaming i64→Xf,u8→Xg
open Go.Obj renaming cells→Xk
open Go.Ending renaming returned→Xl
open Go renaming World→Xn,Calls→Xp,Value→Xq
open Go.RowKit renaming Hid→Xo
open Option renaming some→Xa,none→Xb
open Bool renaming true→Xc,false→Xd
open List renaming replicate→Xr
open _root_.Nat renaming lt_of_lt_of_le→Xs,mul_le_mul_right→Yh,min→Yn
open _root_.List renaming flatMap_append→Xt,take_of_length_le→Xu,countP_le_length→Xw,any_eq_true→Xx,getElem?_append_left→Xy,getElem?_map→Xz,replicate_append_replicate→Ya,take_zero→Yd,length→Ye,mem_map→Yf,mem_range→Yg,drop_replicate→Yj,getElem?_set→Ym
open Go.Act renaming put→Xv
open _root_.Bool renaming eq_iff_iff→Yb
open Go.Sem renaming run_bind→Yc
open _root_.Array renaming toList_modify→Yi,forIn_toList→Yk,toList_push→Yl
set_option maxRecDepth 100000
set_option maxHeartbeats 4000000
section
open Go.RowKit
structure KeyK where
 ty:TypeId
 enc:Int × Int->Xq
 und:∃fs,Tryz.prog.underlying ty=Xa (.struct fs)
 check:∀(em:Bool) (a:Int × Int) (w:Xn),(Instr.checkKey em 10000 ty (enc a)).run Tryz.prog w= .ok () w
 same:∀(a b:Int × Int) (w:Xn),(Op.equal ty (enc a) (enc b)).run Tryz.prog w= .ok (decide (a=b)) w
 bits:∀a:Int × Int,Instr.sameBits 10000 (enc a) (enc a)=Xc
def lookP:List ((Int × Int) × Int)->Int × Int->Option Int
 | [],_=>Xb
 | p :: l,k=>if k=p.1 then Xa p.2 else lookP l k
def findP:List ((Int × Int) × Int)->Int × Int->Nat->Option (Nat × Xq)
 | [],_,_=>Xb
 | p :: l,k,i=>if k=p.1 then Xa (i,Xe Xf p.2)else findP l k (i+1)
def putP:List ((Int × Int) × Int)->Int × Int->Int->List ((Int × Int) × Int)
 | [],k,v=>[(k,v)]
 | p :: l,k,v=>if k=p.1 then(k,v) :: l else p :: putP l k v
theorem lookP_put:∀(l:List ((Int × Int) × Int)) (k x:Int × Int) (v:Int),lookP (putP l k v) x=if x=k then Xa v else lookP l x
 | [],k,x,v=>by simp[putP,lookP]
 | p :: l,k,x,v=>by
  unfold putP
  by_cases h:k=p.1
  ·rw[if_pos h];unfold lookP
   by_cases hx:x=k
   ·simp[hx]
   have hx':¬x=p.1:=fun e=>hx (e.trans h.symm)
   simp[hx,hx']
  rw[if_neg h];unfold lookP;rw[lookP_put l]
  by_cases hp:x=p.1
  ·rw[if_pos hp,if_pos hp,if_neg (fun e=>h (e.symm.trans hp))]
  rw[if_neg hp,if_neg hp]
theorem findP_none:∀{l:List ((Int × Int) × Int)} {k:Int × Int} {i:Nat},findP l k i=Xb->lookP l k=Xb/\∀v,putP l k v=l++ [(k,v)]
 | [],k,i,_=>⟨rfl,fun v=>rfl⟩
 | p :: l,k,i,h=>by
  unfold findP at h
  by_cases e:k=p.1
  ·rw[if_pos e]at h;cases h
  rw[if_neg e]at h;obtain⟨h1,h2⟩:=findP_none h;refine⟨by unfold lookP;rw[if_neg e,h1],fun v=>?_⟩
  unfold putP;rw[if_neg e,h2];rfl
theorem findP_some:∀{l:List ((Int × Int) × Int)} {k:Int × Int} {i j:Nat} {u:Xq},findP l k i=Xa (j,u)->∃n z,u= Xe Xf z/\j=i+n/\l[n]? =Xa (k,z)/\lookP l k=Xa z/\∀v,putP l k v=l.set n (k,v)
 | [],k,i,j,u,h=>by cases h
 | p :: l,k,i,j,u,h=>by
  unfold findP at h
  by_cases e:k=p.1
  ·rw[if_pos e]at h;cases h;refine⟨0,p.2,rfl,rfl,by rw[e];rfl,by unfold lookP;rw[if_pos e],fun v=>?_⟩
   unfold putP;rw[if_pos e];rfl
  rw[if_neg e]at h;obtain⟨n,z,h1,h2,h3,h4,h5⟩:=findP_some h;refine⟨n+1,z,h1,by omega,by simpa using h3,by unfold lookP;rw[if_neg e,h4],fun v=>?_⟩
  unfold putP;rw[if_neg e,h5];rfl
def MapF (K:KeyK) (w:Xn) (b:Nat) (g:Int × Int->Option Int):Prop:=
 ∃es clock l,w.heap[b]? =Xa (.map es clock)/\(es.toList.map (fun e=>(e.key,e.val))=l.map (fun p:(Int × Int) × Int=>(K.enc p.1,Value.int .i64 p.2))/\(es.toList.map (·.born)).Pairwise (·< ·)/\∀e∈es.toList,e.born<clock)/\∀k,lookP l k=g k
theorem MapF.lt {K:KeyK} {w:Xn} {b:Nat} {g:Int × Int->Option Int} (h:MapF K w b g):b<w.heap.size:=by
 obtain⟨es,c,l,h1,_⟩:=h;exact(aS.1 h1).1
theorem MapF.made (K:KeyK) (w:Xn):MapF K (w.alloc (.map #[] 0)) w.heap.size (fun _=>Xb):=⟨#[],0,[],by
 show(w.heap.push _)[w.heap.size]? =_
 simp,⟨rfl,List.Pairwise.nil,fun e he=>by cases he⟩,fun k=>rfl⟩
theorem MapF.grew {K:KeyK} {w w':Xn} {b:Nat} {g:Int × Int->Option Int} (h:MapF K w b g) (hg:Grew w w'):MapF K w' b g:=by
 have hlt:=h.lt;obtain⟨es,c,l,h1,h2⟩:=h;exact⟨es,c,l,(Below.block hg b hlt).trans h1,h2⟩
theorem MapF.kept {K:KeyK} {w w':Xn} {b:Nat} {g:Int × Int->Option Int} {row:Option Nat} (h:MapF K w b g) (hg:w.grownBy w' row) (hne:Xa b≠row):MapF K w' b g:=by
 have hlt:=h.lt;obtain⟨es,c,l,h1,h2⟩:=h;exact⟨es,c,l,(hg.block b hlt hne).trans h1,h2⟩
theorem MapF.congr {K:KeyK} {w:Xn} {b:Nat} {g g':Int × Int->Option Int} (h:MapF K w b g) (e:∀k,g k=g' k):MapF K w b g':=by
 obtain⟨es,c,l,h1,h2,h3⟩:=h;exact⟨es,c,l,h1,h2,fun k=>(h3 k).trans (e k)⟩
theorem run_findAsking (K:KeyK) (k:Int × Int) (w:Xn):∀(l:List ((Int × Int) × Int)) (es:List MapEntry) (i:Nat),es.map (fun e=>(e.key,e.val))=l.map (fun p=>(K.enc p.1,Value.int .i64 p.2))->(Instr.findAsking K.ty (K.enc k) es i).run Tryz.prog w= .ok (findP l k i) w
 | [],[],i,_=>rfl
 | [],e :: es,i,h=>by simp at h
 | p :: l,[],i,h=>by simp at h
 | p :: l,e :: es,i,h=>by
  simp only[mP,List.cons.injEq,pJ]at h;obtain⟨⟨h1,h2⟩,h3⟩:=h;unfold Instr.findAsking findP;simp only[Yc,h1,K.same,rA]
  by_cases e':k=p.1
  ·simp[e',h2]
  simp[e',run_findAsking K k w l es (i+1) h3]
theorem run_findKey (K:KeyK) (k:Int × Int) (w:Xn) (l:List ((Int × Int) × Int)) (es:List MapEntry) (h:es.map (fun e=>(e.key,e.val))=l.map (fun p=>(K.enc p.1,Value.int .i64 p.2))):(Instr.findKey K.ty (K.enc k) es).run Tryz.prog w= .ok (findP l k 0) w:=by
 obtain⟨fs,hu⟩:=K.und;unfold Instr.findKey;simp only[Yc,run_underlying hu,rA]
 cases es with
 | nil=>
  cases l with
  | nil=>rfl
  | cons p l=>simp at h
 | cons e es=>
  have:Instr.findNow (.struct fs) (K.enc k) (e :: es) 0=Xb:=by simp[Instr.findNow,Instr.sameNow]
  rw[this];exact run_findAsking K k w l (e :: es) 0 h
theorem MapF.look {K:KeyK} {w:Xn} {b:Nat} {g:Int × Int->Option Int} (h:MapF K w b g) {t e:TypeId} (ht:Tryz.prog.underlying t=Xa (.map K.ty e)) (hz:(zeroValue e).run Tryz.prog w= .ok (Xe Xf 0) w) (k:Int × Int) (c:Bool):
  (Instr.lookup t (.map (Xa b)) (K.enc k) c).run Tryz.prog w= .ok (if c then Xm #[Xe Xf ((g k).getD 0),Xh (g k).isSome]else Xe Xf ((g k).getD 0)) w:=by
 obtain⟨es,cl,l,h1,⟨h2,_⟩,h3⟩:=h;have hf:=run_findKey K k w l es.toList h2;unfold Instr.lookup
 cases hp:findP l k 0 with
 | none=>
  rw[hp]at hf;have:=(findP_none hp).1;rw[h3 k]at this
  cases c <;> simp[run_underlying ht,MapKept.run_getObj_map h1,K.check,hf,hz,this]
 | some q=>
  obtain⟨j,u⟩:=q;rw[hp]at hf;obtain⟨n,z,rfl,_,_,h4,_⟩:=findP_some hp;rw[h3 k]at h4
  cases c <;> simp[run_underlying ht,MapKept.run_getObj_map h1,K.check,hf,h4]
theorem modify_born (f:MapEntry->MapEntry) (hf:∀e,(f e).born=e.born):∀(es:List MapEntry) (n:Nat),(es.modify n f).map (·.born)=es.map (·.born)
 | [],n=>by simp
 | e :: es,0=>by simp[hf]
 | e :: es,n+1=>by simp[modify_born f hf es n]
structure Stamped (K:KeyK) (es:Array MapEntry) (cl:Nat) (l:List ((Int × Int) × Int)):Prop where
 pairs:es.toList.map (fun e=>(e.key,e.val))=l.map (fun p=>(K.enc p.1,Value.int .i64 p.2))
 rise:(es.toList.map (·.born)).Pairwise (·< ·)
 low:∀e∈es.toList,e.born<cl
theorem Stamped.push {K:KeyK} {es:Array MapEntry} {cl:Nat} {l:List ((Int × Int) × Int)} (h:Stamped K es cl l) (k:Int × Int) (v:Int):Stamped K (es.push ⟨K.enc k,Xe Xf v,cl⟩) (cl+1) (l++ [(k,v)]):=by
 refine⟨by simp[h.pairs],?_,fun e he=>?_⟩
 ·simp only[Yl,List.map_append,mP,List.map_nil];rw[List.pairwise_append];refine⟨h.rise,by simp,fun a ha b hb=>?_⟩
  obtain⟨e,he,rfl⟩:=Yf.1 ha
  simp at hb
  rw[hb];exact h.low e he
 simp only[Yl,List.mem_append,List.mem_singleton]at he
 rcases he with he | rfl
 ·have:=h.low e he;omega
 simp
theorem Stamped.modify {K:KeyK} {es:Array MapEntry} {cl:Nat} {l:List ((Int × Int) × Int)} (h:Stamped K es cl l) {n:Nat} {k:Int × Int} {z:Int} (hn:l[n]? =Xa (k,z)) (f:MapEntry->MapEntry) (v:Int) (hf:∀e,(f e).born=e.born) (hg:∀e,e.key=K.enc k->e.val= Xe Xf z->(f e).key=K.enc k/\(f e).val= Xe Xf v):Stamped K (es.modify n f) cl (l.set n (k,v)):=by
 have hb:(es.modify n f).toList.map (·.born)=es.toList.map (·.born):=by rw[Yi];exact modify_born f hf es.toList n
 refine⟨?_,by rw[hb];exact h.rise,fun e he=>?_⟩
 ·have hp:=h.pairs;rw[Yi]
  apply List.ext_getElem?
  intro j;have hj:=congrArg (fun(x:List (Xq × Xq))=>x[j]?) hp
  simp only[Xz,List.getElem?_modify,Ym]at hj⊢
  by_cases e:n=j
  ·subst e;rw[hn]at hj;have hnl:=(gS.1 hn).1
   cases hq:es.toList[n]? with
   | none=>rw[hq]at hj;simp at hj
   | some e0=>
    rw[hq]at hj
    simp at hj
    obtain⟨g1,g2⟩:=hg e0 hj.1 hj.2
    simp[hnl,g1,g2]
  simp only[e,if_false]at hj⊢
  cases hq:es.toList[j]? <;> rw[hq]at hj <;> simpa using hj
 have:e.born∈es.toList.map (·.born):=by rw[<-hb];exact Yf.2 ⟨e,he,rfl⟩
 obtain⟨e',he',h'⟩:=Yf.1 this;rw[<-h'];exact h.low e' he'
theorem Stamped.at {K:KeyK} {es:Array MapEntry} {cl:Nat} {l:List ((Int × Int) × Int)} (h:Stamped K es cl l) {n:Nat} {k:Int × Int} {z:Int} (hn:l[n]? =Xa (k,z)):∃e0,es[n]? =Xa e0/\e0.key=K.enc k/\e0.val= Xe Xf z:=by
 have:=congrArg (fun(x:List (Xq × Xq))=>x[n]?) h.pairs
 simp only[Xz,hn,Option.map_some]at this
 cases hq:es[n]? with
 | none=>simp[hq]at this
 | some e0=>simp[hq]at this;exact⟨e0,rfl,this.1,this.2⟩
theorem born_inj:∀{l:List Nat},l.Pairwise (·< ·)->∀{i j:Nat} {x:Nat},l[i]? =Xa x->l[j]? =Xa x->i=j
 | [],_,i,j,x,h,_=>by simp at h
 | a :: l,hp,i,j,x,h,h'=>by
  rw[List.pairwise_cons]at hp
  cases i with
  | zero=>
   cases j with
   | zero=>rfl
   | succ j=>
    simp at h h'
    subst h;have:=hp.1 a (mG h');omega
  | succ i=>
   cases j with
   | zero=>
    simp at h h'
    subst h';have:=hp.1 a (mG h);omega
   | succ j=>
    simp at h h'
    rw[born_inj hp.2 h h']
theorem map_put {K:KeyK} {w:Xn} {b:Nat} {es es':Array MapEntry} {cl cl':Nat} {l:List ((Int × Int) × Int)} {g:Int × Int->Option Int} {k:Int × Int} {v:Int} (h1:w.heap[b]? =Xa (.map es cl)) (h3:∀k,lookP l k=g k) (hs:Stamped K es' cl' (putP l k v)):
  MapF K (ChangeMaps.setBlock w b (.map es' cl')) b (fun x=>if x=k then Xa v else g x)/\w.grownBy (ChangeMaps.setBlock w b (.map es' cl')) (Xa b)/\(ChangeMaps.setBlock w b (.map es' cl')).heap.size=w.heap.size:=by
 refine⟨⟨es',cl',putP l k v,ChangeMaps.heap_setBlock_same h1 _,⟨hs.pairs,hs.rise,hs.low⟩,fun x=>?_⟩,⟨rfl,rfl,rfl,by simp[ChangeMaps.setBlock],fun i _ hi=>ChangeMaps.heap_setBlock_other h1 _ (fun e=>hi (by rw[e]))⟩,by simp[ChangeMaps.setBlock]⟩
 rw[lookP_put,h3]
theorem MapF.put {K:KeyK} {w:Xn} {b:Nat} {g:Int × Int->Option Int} (h:MapF K w b g) {t e:TypeId} (ht:Tryz.prog.underlying t=Xa (.map K.ty e)) (k:Int × Int) (v:Int):
  ∃w',(Instr.mapUpdate t (.map (Xa b)) (K.enc k) (Xe Xf v)).run Tryz.prog w= .ok () w'/\MapF K w' b (fun x=>if x=k then Xa v else g x)/\w.grownBy w' (Xa b)/\w'.heap.size=w.heap.size:=by
 obtain⟨es,cl,l,h1,⟨h2,h4,h5⟩,h3⟩:=h;have hst:Stamped K es cl l:=⟨h2,h4,h5⟩;have hf:=run_findKey K k w l es.toList h2
 cases hp:findP l k 0 with
 | none=>
  rw[hp]at hf;have hput:=(findP_none hp).2 v;refine⟨ChangeMaps.setBlock w b (.map (es.push ⟨K.enc k,Xe Xf v,cl⟩) (cl+1)),?_,map_put h1 h3 (by rw[hput];exact hst.push k v)⟩
  simp[Instr.mapUpdate,run_underlying ht,MapKept.run_getObj_map h1,K.check,hf,MapKept.run_setObj_map _ h1,ChangeMaps.setBlock]
 | some q=>
  obtain⟨j,u⟩:=q;rw[hp]at hf;obtain⟨n,z,rfl,rfl,h6,_,h7⟩:=findP_some hp;rw[zA]at hf;obtain⟨e0,he0,hk0,_⟩:=hst.at h6;refine⟨ChangeMaps.setBlock w b (.map (es.modify n fun e=>{ e with key:=K.enc k,val:= Xe Xf v }) cl),?_,map_put h1 h3 (by rw[h7];exact hst.modify h6 _ v (fun _=>rfl) (fun _ _ _=>⟨rfl,rfl⟩))⟩
  simp[Instr.mapUpdate,run_underlying ht,MapKept.run_getObj_map h1,K.check,hf,he0,hk0,Instr.keyThatStays,K.bits,MapKept.run_setObj_map _ h1,ChangeMaps.setBlock]
def MapE (K:KeyK) (w:Xn) (b:Nat) (g:Int × Int->Option Int) (k:Int × Int) (st:Int):Prop:=
 ∃es cl l,w.heap[b]? =Xa (.map es cl)/\Stamped K es cl l/\(∀k,lookP l k=g k)/\∃(n:Nat) (z:Int) (e:MapEntry),l[n]? =Xa (k,z)/\(∀v,putP l k v=l.set n (k,v))/\es[n]? =Xa e/\(e.born:Int)=st
theorem MapE.f {K:KeyK} {w:Xn} {b:Nat} {g:Int × Int->Option Int} {k:Int × Int} {st:Int} (h:MapE K w b g k st):MapF K w b g:=by
 obtain⟨es,cl,l,h1,h2,h3,_⟩:=h;exact⟨es,cl,l,h1,⟨h2.pairs,h2.rise,h2.low⟩,h3⟩
theorem putP_snoc:∀{l:List ((Int × Int) × Int)} {k:Int × Int} (z v:Int),lookP l k=Xb->putP (l++ [(k,z)]) k v=(l++ [(k,z)]).set l.length (k,v)
 | [],k,z,v,_=>by simp[putP]
 | p :: l,k,z,v,h=>by
  unfold lookP at h
  by_cases e:k=p.1
  ·rw[if_pos e]at h;cases h
  rw[if_neg e]at h;simp only[List.cons_append,putP,e,if_false,List.length_cons,sS];rw[putP_snoc z v h]
theorem MapF.entry {K:KeyK} {w:Xn} {b:Nat} {g:Int × Int->Option Int} (h:MapF K w b g) {t e:TypeId} (ht:Tryz.prog.underlying t=Xa (.map K.ty e)) (hz:(zeroValue e).run Tryz.prog w= .ok (Xe Xf 0) w) (k:Int × Int):
  ∃w' st,(Instr.mapEntry t (.map (Xa b)) (K.enc k)).run Tryz.prog w= .ok (Xm #[Xe Xf ((g k).getD 0),Xe Xf st]) w'/\MapE K w' b (fun x=>if x=k then Xa ((g k).getD 0)else g x) k st/\w.grownBy w' (Xa b)/\w'.heap.size=w.heap.size:=by
 obtain⟨es,cl,l,h1,⟨h2,h4,h5⟩,h3⟩:=h;have hst:Stamped K es cl l:=⟨h2,h4,h5⟩;have hf:=run_findKey K k w l es.toList h2
 cases hp:findP l k 0 with
 | none=>
  rw[hp]at hf;obtain⟨hno,hput⟩:=findP_none hp;have hg:g k=Xb:=by rw[<-h3];exact hno
  have hs':=hst.push k 0;have hm:=map_put h1 h3 (k:=k) (v:=0) (by rw[hput];exact hs')
  refine⟨ChangeMaps.setBlock w b (.map (es.push ⟨K.enc k,Xe Xf 0,cl⟩) (cl+1)),cl,?_,⟨_,_,_,ChangeMaps.heap_setBlock_same h1 _,hs',fun x=>?_,l.length,0,⟨K.enc k,Xe Xf 0,cl⟩,by simp,fun v=>putP_snoc 0 v hno,?_,rfl⟩,hm.2⟩
  ·rw[hg]
   simp[Instr.mapEntry,run_underlying ht,MapKept.run_getObj_map h1,K.check,hf,hz,MapKept.run_setObj_map _ h1,ChangeMaps.setBlock,goInt]
  ·rw[hg,<-hput,lookP_put,h3];rfl
  have:es.size=l.length:=by have:=congrArg Ye h2;simpa using this
  simp[<-this]
 | some q=>
  obtain⟨j,u⟩:=q;rw[hp]at hf;obtain⟨n,z,rfl,rfl,h6,h8,h7⟩:=findP_some hp;rw[zA]at hf;obtain⟨e0,he0,hk0,hv0⟩:=hst.at h6;have hg:g k=Xa z:=by rw[<-h3];exact h8
  have hs':Stamped K (es.modify n fun e=>{ e with key:=K.enc k }) cl (l.set n (k,z)):=hst.modify h6 (fun e=>{ e with key:=K.enc k }) z (fun _=>rfl) (fun _ _ hv=>⟨rfl,hv⟩)
  have hm:=map_put h1 h3 (k:=k) (v:=z) (by rw[h7];exact hs')
  have hnl:=(gS.1 h6).1;refine⟨ChangeMaps.setBlock w b (.map (es.modify n fun e=>{ e with key:=K.enc k }) cl),e0.born,?_,⟨_,_,_,ChangeMaps.heap_setBlock_same h1 _,hs',fun x=>?_,n,z,{ e0 with key:=K.enc k },sF hnl,fun v=>?_,?_,rfl⟩,hm.2⟩
  ·rw[hg]
   simp[Instr.mapEntry,run_underlying ht,MapKept.run_getObj_map h1,K.check,hf,he0,hk0,Instr.keyThatStays,K.bits,MapKept.run_setObj_map _ h1,ChangeMaps.setBlock,goInt]
  ·rw[hg,<-h7,lookP_put,h3];rfl
  ·rw[set_same h6,h7]
  rw[Array.getElem?_modify,if_pos rfl,he0];rfl
theorem MapE.store {K:KeyK} {w:Xn} {b:Nat} {g:Int × Int->Option Int} {k:Int × Int} {st:Int} (h:MapE K w b g k st) (t:TypeId) (v:Int):
  ∃w',(Instr.entryStore t (.map (Xa b)) (Xe Xf st) (Xe Xf v)).run Tryz.prog w= .ok () w'/\MapF K w' b (fun x=>if x=k then Xa v else g x)/\w.grownBy w' (Xa b)/\w'.heap.size=w.heap.size:=by
 obtain⟨es,cl,l,h1,hst,h3,n,z,e0,h6,h7,he0,rfl⟩:=h;have hnl:n<es.size:=(aS.1 he0).1;have hfind:es.findIdx? (fun e=>(e.born:Int) ==(e0.born:Int))=Xa n:=by
  rw[Array.findIdx?_eq_some_iff_getElem];refine⟨hnl,?_,fun j hj=>?_⟩
  ·have:es[n]=e0:=(aS.1 he0).2
   simp[this]
  intro hc;have hjl:j<es.size:=by omega
  have hc':es[j].born=e0.born:=by
   have:(es[j].born:Int)=(e0.born:Int):=by simpa using hc
   omega
  have q1:(es.toList.map (·.born))[n]? =Xa e0.born:=by simp[he0]
  have q2:(es.toList.map (·.born))[j]? =Xa e0.born:=by simp[hjl,hc']
  have:=born_inj hst.rise q1 q2;omega
 refine⟨ChangeMaps.setBlock w b (.map (es.modify n fun e=>{ e with val:= Xe Xf v }) cl),?_,map_put h1 h3 (by rw[h7];exact hst.modify h6 _ v (fun _=>rfl) (fun _ hk _=>⟨hk,rfl⟩))⟩
 simp[Instr.entryStore,MapKept.run_getObj_map h1,asInt,asIntOf,hfind,MapKept.run_setObj_map _ h1,ChangeMaps.setBlock]
theorem wp_putMap {K:KeyK} {w:Xn} {ops:Array Oper} {rest:List Oper} {o:Oper} {a:Act} {Q:Exit->Act->Xn->Prop} (hgd:o.guard=Xb) (t e:TypeId) (m x v:Operand) (hop:o.op= .mapUpdate t m x v) (ht:Tryz.prog.underlying t=Xa (.map K.ty e)) (b:Nat) (g:Int × Int->Option Int) (h:MapF K w b g) (k:Int × Int) (z:Int)
  (hm:a.eval m= .map (Xa b)) (hx:a.eval x=K.enc k) (hv:a.eval v= Xe Xf z)
  (hK:∀w',MapF K w' b (fun x=>if x=k then Xa z else g x)->w.grownBy w' (Xa b)->w'.heap.size=w.heap.size->wpList Tryz.prog ops Q rest (a.put o.dst undef) w'):wpList Tryz.prog ops Q (o :: rest) a w:=by
 refine wpList_plain hgd fun K' hK'=>?_
 obtain⟨w',hrun,r1,r2,r3⟩:=h.put ht k z;unfold Oper.wp
 simp[execOp,hop,hm,hx,hv,hrun,Result.andThen]
 exact hK' _ _ (hK w' r1 r2 r3)
theorem plK_check (em:Bool) (a:Int × Int) (w:Xn):(Instr.checkKey em 10000 197 (Xi #[Xe Xf a.1,Xe Xf a.2])).run Tryz.prog w= .ok () w:=by
 have hf : (Tryz.prog.fieldsOf 197).toList.map (fun f => (f.name, f.type, f.offset)) = [("file", 3, 0), ("index", 3, 1)] := by kernel_rfl
 have hu:∃fs,Tryz.prog.underlying 197=Xa (.struct fs)/\Tryz.prog.fieldsOf 197=fs:=⟨_,Tryz.underlying197,by kernel_rfl⟩
 obtain⟨fs,hu,hfe⟩:=hu;rw[hfe]at hf;obtain⟨f0,f1,hfs⟩:∃f0 f1,fs.toList=[f0,f1]:=by
  have hl:fs.toList.length=2:=by have:=congrArg Ye hf;simpa using this
  match hq:fs.toList,hl with
  | [f0,f1],_=>exact⟨f0,f1,rfl⟩
 rw[hfs]at hf
 simp at hf
 obtain⟨⟨n0,t0,o0⟩,⟨n1,t1,o1⟩⟩:=hf;have pI:∀(zs:Array Xq) (o:Nat) v,zs[o]? =Xa (Xe Xf v)->(part 3 zs o).run Tryz.prog w= .ok (Xe Xf v) w:=fun zs o v hz=>run_part_plain w (by simp[Program.plainKey,Tryz.underlying3]) hz
 have pB:∀(zs:Array Xq) (o:Nat) v,zs[o]? =Xa (Xh v)->(part 4 zs o).run Tryz.prog w= .ok (Xh v) w:=fun zs o v hz=>run_part_plain w (by simp[Program.plainKey,Tryz.underlying4]) hz
 have cI:∀(v:Int) (n:Nat),(Instr.checkKey em (n+1) 3 (Xe Xf v)).run Tryz.prog w= .ok () w:=fun v n=>by
  unfold Instr.checkKey
  simp[run_underlying Tryz.underlying3]
 have cB:∀(v:Bool) (n:Nat),(Instr.checkKey em (n+1) 4 (Xh v)).run Tryz.prog w= .ok () w:=fun v n=>by
  unfold Instr.checkKey
  simp[run_underlying Tryz.underlying4]
 rw[show(10000:Nat)=9999+1 from rfl,Instr.checkKey]
 simp only[Yc,run_underlying hu,rA];rw[<-Yk,hfs];have k1:=cI a.1 9998;have k2:=cI a.2 9998;have k3:=cB Xd 9998;have q0:=pI (#[Xe Xf a.1,Xe Xf a.2]) 0 a.1 rfl;have q1:=pI (#[Xe Xf a.1,Xe Xf a.2]) 1 a.2 rfl
 simp[List.forIn_cons,n0,t0,o0,n1,t1,o1,q0,q1,k1,k2]
theorem plK_same (a b:Int × Int) (w:Xn):(Op.equal 197 (Xi #[Xe Xf a.1,Xe Xf a.2]) (Xi #[Xe Xf b.1,Xe Xf b.2])).run Tryz.prog w= .ok (decide (a=b)) w:=by
 have hf : (Tryz.prog.fieldsOf 197).toList.map (fun f => (f.name, f.type, f.offset)) = [("file", 3, 0), ("index", 3, 1)] := by kernel_rfl
 unfold Op.equal Op.maxDepth;rw[run_equalIn_struct w 9999 197 _ _ (by kernel_rfl) (by kernel_rfl)]
 obtain⟨f0,f1,hfs⟩:∃f0 f1,(Tryz.prog.fieldsOf 197).toList=[f0,f1]:=by
  have hl:(Tryz.prog.fieldsOf 197).toList.length=2:=by have:=congrArg Ye hf;simpa using this
  match hq:(Tryz.prog.fieldsOf 197).toList,hl with
  | [f0,f1],_=>exact⟨f0,f1,rfl⟩
 rw[hfs]at hf⊢
 simp at hf
 obtain⟨⟨n0,t0,o0⟩,⟨n1,t1,o1⟩⟩:=hf;have pI:∀(zs:Array Xq) (o:Nat) v,zs[o]? =Xa (Xe Xf v)->(part 3 zs o).run Tryz.prog w= .ok (Xe Xf v) w:=fun zs o v hz=>run_part_plain w (by simp[Program.plainKey,Tryz.underlying3]) hz
 have pB:∀(zs:Array Xq) (o:Nat) v,zs[o]? =Xa (Xh v)->(part 4 zs o).run Tryz.prog w= .ok (Xh v) w:=fun zs o v hz=>run_part_plain w (by simp[Program.plainKey,Tryz.underlying4]) hz
 simp only[Op.eqFields,n0,t0,o0,n1,t1,o1];obtain⟨a1,a2⟩:=a;obtain⟨b1,b2⟩:=b
 simp[pI,run_equalIn_int w _ _ _ _ _ _ Tryz.underlying3]
 by_cases e1:a1=b1 <;> by_cases e2:a2=b2 <;> simp[e1,e2]
def plK:KeyK where
 ty:=197
 enc:=fun a=> Xi #[Xe Xf a.1,Xe Xf a.2]
 und:=⟨_,Tryz.underlying197⟩
 check:=plK_check
 same:=plK_same
 bits:=fun a=>by simp[Instr.sameBits]
theorem enK_check (em:Bool) (a:Int × Int) (w:Xn):(Instr.checkKey em 10000 127 (Xi #[Xe Xf a.1,Xe Xf a.2,Xh Xd])).run Tryz.prog w= .ok () w:=by
 have hf : (Tryz.prog.fieldsOf 127).toList.map (fun f => (f.name, f.type, f.offset)) = [("Kind", 3, 0), ("N", 3, 1), ("Write", 4, 2)] := by kernel_rfl
 have hu:∃fs,Tryz.prog.underlying 127=Xa (.struct fs)/\Tryz.prog.fieldsOf 127=fs:=⟨_,Tryz.underlying127,by kernel_rfl⟩
 obtain⟨fs,hu,hfe⟩:=hu;rw[hfe]at hf;obtain⟨f0,f1,f2,hfs⟩:∃f0 f1 f2,fs.toList=[f0,f1,f2]:=by
  have hl:fs.toList.length=3:=by have:=congrArg Ye hf;simpa using this
  match hq:fs.toList,hl with
  | [f0,f1,f2],_=>exact⟨f0,f1,f2,rfl⟩
 rw[hfs]at hf
 simp at hf
 obtain⟨⟨n0,t0,o0⟩,⟨n1,t1,o1⟩,⟨n2,t2,o2⟩⟩:=hf;have pI:∀(zs:Array Xq) (o:Nat) v,zs[o]? =Xa (Xe Xf v)->(part 3 zs o).run Tryz.prog w= .ok (Xe Xf v) w:=fun zs o v hz=>run_part_plain w (by simp[Program.plainKey,Tryz.underlying3]) hz
 have pB:∀(zs:Array Xq) (o:Nat) v,zs[o]? =Xa (Xh v)->(part 4 zs o).run Tryz.prog w= .ok (Xh v) w:=fun zs o v hz=>run_part_plain w (by simp[Program.plainKey,Tryz.underlying4]) hz
 have cI:∀(v:Int) (n:Nat),(Instr.checkKey em (n+1) 3 (Xe Xf v)).run Tryz.prog w= .ok () w:=fun v n=>by
  unfold Instr.checkKey
  simp[run_underlying Tryz.underlying3]
 have cB:∀(v:Bool) (n:Nat),(Instr.checkKey em (n+1) 4 (Xh v)).run Tryz.prog w= .ok () w:=fun v n=>by
  unfold Instr.checkKey
  simp[run_underlying Tryz.underlying4]
 rw[show(10000:Nat)=9999+1 from rfl,Instr.checkKey]
 simp only[Yc,run_underlying hu,rA];rw[<-Yk,hfs];have k1:=cI a.1 9998;have k2:=cI a.2 9998;have k3:=cB Xd 9998;have q0:=pI (#[Xe Xf a.1,Xe Xf a.2,Xh Xd]) 0 a.1 rfl;have q1:=pI (#[Xe Xf a.1,Xe Xf a.2,Xh Xd]) 1 a.2 rfl;have q2:=pB (#[Xe Xf a.1,Xe Xf a.2,Xh Xd]) 2 Xd rfl
 simp[List.forIn_cons,n0,t0,o0,n1,t1,o1,n2,t2,o2,q0,q1,q2,k1,k2,k3]
theorem enK_same (a b:Int × Int) (w:Xn):(Op.equal 127 (Xi #[Xe Xf a.1,Xe Xf a.2,Xh Xd]) (Xi #[Xe Xf b.1,Xe Xf b.2,Xh Xd])).run Tryz.prog w= .ok (decide (a=b)) w:=by
 have hf : (Tryz.prog.fieldsOf 127).toList.map (fun f => (f.name, f.type, f.offset)) = [("Kind", 3, 0), ("N", 3, 1), ("Write", 4, 2)] := by kernel_rfl
 unfold Op.equal Op.maxDepth;rw[run_equalIn_struct w 9999 127 _ _ (by kernel_rfl) (by kernel_rfl)]
 obtain⟨f0,f1,f2,hfs⟩:∃f0 f1 f2,(Tryz.prog.fieldsOf 127).toList=[f0,f1,f2]:=by
  have hl:(Tryz.prog.fieldsOf 127).toList.length=3:=by have:=congrArg Ye hf;simpa using this
  match hq:(Tryz.prog.fieldsOf 127).toList,hl with
  | [f0,f1,f2],_=>exact⟨f0,f1,f2,rfl⟩
 rw[hfs]at hf⊢
 simp at hf
 obtain⟨⟨n0,t0,o0⟩,⟨n1,t1,o1⟩,⟨n2,t2,o2⟩⟩:=hf;have pI:∀(zs:Array Xq) (o:Nat) v,zs[o]? =Xa (Xe Xf v)->(part 3 zs o).run Tryz.prog w= .ok (Xe Xf v) w:=fun zs o v hz=>run_part_plain w (by simp[Program.plainKey,Tryz.underlying3]) hz
 have pB:∀(zs:Array Xq) (o:Nat) v,zs[o]? =Xa (Xh v)->(part 4 zs o).run Tryz.prog w= .ok (Xh v) w:=fun zs o v hz=>run_part_plain w (by simp[Program.plainKey,Tryz.underlying4]) hz
 simp only[Op.eqFields,n0,t0,o0,n1,t1,o1,n2,t2,o2];obtain⟨a1,a2⟩:=a;obtain⟨b1,b2⟩:=b
 simp[pI,pB,run_equalIn_bool' w _ _ _ _ Tryz.underlying4,run_equalIn_int w _ _ _ _ _ _ Tryz.underlying3]
 by_cases e1:a1=b1 <;> by_cases e2:a2=b2 <;> simp[e1,e2]
def enK:KeyK where
 ty:=127
 enc:=fun a=> Xi #[Xe Xf a.1,Xe Xf a.2,Xh Xd]
 und:=⟨_,Tryz.underlying127⟩
 check:=enK_check
 same:=enK_same
 bits:=fun a=>by simp[Instr.sameBits]
theorem Box.ne_map {K:KeyK} {w:Xn} {b B:Nat} {cs:List Xq} {g:Int × Int->Option Int} (h:Box w b cs) (k:MapF K w B g):b≠B:=fun e=>by
 subst e;obtain⟨t,h⟩:=h;obtain⟨es,cl,l,k1,_⟩:=k;rw[h]at k1;cases k1
theorem OwnRow.ne_map {α:Type} {E:Elt α} {K:KeyK} {w:Xn} {base B:Nat} {v:Xq} {l:List α} {g:Int × Int->Option Int} (h:OwnRow E base w v l) (k:MapF K w B g):∀x,v.ownBlock=Xa x->Xa B≠Xa x:=fun x hx e=>by
 cases e;obtain⟨cs,h1⟩:=h.obj hx;obtain⟨es,cl,l,k1,_⟩:=k;rw[h1]at k1;cases k1
theorem Tryz.zeroInt (w:Xn):(zeroValue 3).run Tryz.prog w= .ok (Xe Xf 0) w:=by kernel_rfl
theorem withIndex_any (V:MaV) (m:Ma) (w:Xn) (hm:MachAt w V m):
  Xp Tryz.prog 70 #[Xi #[O V.f.a V.f.n V.f.c,Xe Xf m.hand,O V.s.a V.s.n V.s.c,O V.sb.a V.sb.n V.sb.c,O V.sq.a V.sq.n V.sq.c,O V.db.a V.db.n V.db.c,O V.dq.a V.dq.n V.dq.c,O V.fl.a V.fl.n V.fl.c,Xe Xf m.cnt,O V.ca.a V.ca.n V.ca.c,O V.sp.a V.sp.n V.sp.c]] w fun e w'=>∃B,e= Xl (Xi #[O V.f.a V.f.n V.f.c,Xe Xf m.hand,O V.s.a V.s.n V.s.c,O V.sb.a V.sb.n V.sb.c,O V.sq.a V.sq.n V.sq.c,O V.db.a V.db.n V.db.c,O V.dq.a V.dq.n V.dq.c,O V.fl.a V.fl.n V.fl.c,Xe Xf m.cnt,O V.ca.a V.ca.n V.ca.c,O V.sp.a V.sp.n V.sp.c,.map (Xa B)])/\MapF plK w' B (idxG m.ca)/\Grew w w':=by
 obtain⟨vf,vs,vsb,vsq,vdb,vdq,vfl,⟨caa,can,cac⟩,vsp⟩:=V;dsimp only;obtain⟨-,-,-,-,-,-,-,n8,-⟩:=hm.ns;dsimp only at n8;have HR:Xo (CaRows w caa m.ca):=hm.cas;have HN:Xo (m.ca.length=can):=n8.symm;have hbig:can<=9223372036854775807:=by have:=hm.ca.short;omega
 clear hm n8;have hmm:=@run_makeMap Tryz.prog;obtain⟨W0,hW0⟩:∃W0,((w.alloc (Xk #[O vf.a vf.n vf.c,Xe Xf m.hand,O vs.a vs.n vs.c,O vsb.a vsb.n vsb.c,O vsq.a vsq.n vsq.c,O vdb.a vdb.n vdb.c,O vdq.a vdq.n vdq.c,O vfl.a vfl.n vfl.c,Xe Xf m.cnt,O caa can cac,O vsp.a vsp.n vsp.c] 42)).alloc (Xk #[O Xb 0 0,Xe Xf 0,O Xb 0 0,O Xb 0 0,O Xb 0 0,O Xb 0 0,O Xb 0 0,O Xb 0 0,Xe Xf 0,O Xb 0 0,O Xb 0 0,.map Xb] 131)).alloc (.map #[] 0)=W0:=⟨_,rfl⟩;have HG0:Xo (Grew w W0):=show Grew _ _ by rw[<-hW0];exact((grew_alloc _ _).trans (grew_alloc _ _)).trans (grew_alloc _ _)
 have X0:Xo (Box W0 w.heap.size [O vf.a vf.n vf.c,Xe Xf m.hand,O vs.a vs.n vs.c,O vsb.a vsb.n vsb.c,O vsq.a vsq.n vsq.c,O vdb.a vdb.n vdb.c,O vdq.a vdq.n vdq.c,O vfl.a vfl.n vfl.c,Xe Xf m.cnt,O caa can cac,O vsp.a vsp.n vsp.c]):=show Box _ _ _ by rw[<-hW0];exact((Box.top _ _ _ rfl).alloc _).alloc _
 have Y0:Xo (Box W0 (w.heap.size+1) [O Xb 0 0,Xe Xf 0,O Xb 0 0,O Xb 0 0,O Xb 0 0,O Xb 0 0,O Xb 0 0,O Xb 0 0,Xe Xf 0,O Xb 0 0,O Xb 0 0,.map Xb]):=show Box _ _ _ by rw[<-hW0];exact(Box.top _ _ _ (by simp)).alloc _
 have M0:Xo (MapF plK W0 (w.heap.size+1+1) (idxG (m.ca.take 0))):=show MapF _ _ _ _ by
  rw[<-hW0];have:=MapF.made plK ((w.alloc (Xk #[O vf.a vf.n vf.c,Xe Xf m.hand,O vs.a vs.n vs.c,O vsb.a vsb.n vsb.c,O vsq.a vsq.n vsq.c,O vdb.a vdb.n vdb.c,O vdq.a vdq.n vdq.c,O vfl.a vfl.n vfl.c,Xe Xf m.cnt,O caa can cac,O vsp.a vsp.n vsp.c] 42)).alloc (Xk #[O Xb 0 0,Xe Xf 0,O Xb 0 0,O Xb 0 0,O Xb 0 0,O Xb 0 0,O Xb 0 0,O Xb 0 0,Xe Xf 0,O Xb 0 0,O Xb 0 0,.map Xb] 131));have hs:((w.alloc (Xk #[O vf.a vf.n vf.c,Xe Xf m.hand,O vs.a vs.n vs.c,O vsb.a vsb.n vsb.c,O vsq.a vsq.n vsq.c,O vdb.a vdb.n vdb.c,O vdq.a vdq.n vdq.c,O vfl.a vfl.n vfl.c,Xe Xf m.cnt,O caa can cac,O vsp.a vsp.n vsp.c] 42)).alloc (Xk #[O Xb 0 0,Xe Xf 0,O Xb 0 0,O Xb 0 0,O Xb 0 0,O Xb 0 0,O Xb 0 0,O Xb 0 0,Xe Xf 0,O Xb 0 0,O Xb 0 0,.map Xb] 131)).heap.size=w.heap.size+1+1:=by simp
  rw[hs]at this;exact this.congr fun k=>by rw[Yd];rfl
 have HW0:Xo (_=W0):=hW0;clear hW0
 go_enter Tryz.func70,Tryz.ntmps70
 go_upto_region 2 with fail;rw[HW0.out];clear hmm;have x9:=X0.out.c 9 rfl;go_wp2;clear x9
 go_loopg [10] can (fun gg s10 wr=>∃kk:Nat,kk<=can/\can - kk<=gg/\s10= Xe Xf kk/\Xo (Grew w wr)/\Xo (Box wr w.heap.size [O vf.a vf.n vf.c,Xe Xf m.hand,O vs.a vs.n vs.c,O vsb.a vsb.n vsb.c,O vsq.a vsq.n vsq.c,O vdb.a vdb.n vdb.c,O vdq.a vdq.n vdq.c,O vfl.a vfl.n vfl.c,Xe Xf m.cnt,O caa can cac,O vsp.a vsp.n vsp.c])/\Xo (Box wr (w.heap.size+1) [O Xb 0 0,Xe Xf 0,O Xb 0 0,O Xb 0 0,O Xb 0 0,O Xb 0 0,O Xb 0 0,O Xb 0 0,Xe Xf 0,O Xb 0 0,O Xb 0 0,.map Xb])/\Xo (MapF plK wr (w.heap.size+1+1) (idxG (m.ca.take kk))))
 case atStart=>exact⟨0,nZ _,by omega,rfl,HG0.out,X0.out,Y0.out,M0.out⟩
 obtain⟨kk,hkk,hgg,rfl,BW,XW,YW,MW⟩:=hrel;clear X0 Y0 M0 HG0
 by_cases hlt:kk<can
 ·have hltz:(kk:Int)< (can:Int):=by omega
  obtain⟨c,HC⟩:∃c,Xo (m.ca[kk]? =Xa c):=⟨_,gE (by rw[HN.out];exact hlt)⟩
  obtain⟨ad,rfl,hl⟩:=HR.out kk c HC.out;obtain⟨d0,d1,d2⟩:=hl wr BW.out;clear hl;go_upto_region 5 with fail;obtain⟨W1,hW1⟩:∃W1,wr.alloc (Xk #[Xe Xf c.file,Xe Xf c.idx,Xe Xf c.fr] 105)=W1:=⟨_,rfl⟩;have HG1:=gT hW1 BW
  have X1:=yA hW1 XW
  have Y1:=yA hW1 YW
  have M1:Xo (MapF plK W1 (w.heap.size+1+1) (idxG (m.ca.take kk))):=show MapF _ _ _ _ by rw[<-hW1];exact MW.out.grew (grew_alloc _ _)
  have C1:=xA hW1
  rw[hW1];clear hW1 d0 d1 d2;obtain⟨c0,c1,c2⟩:=C1.out.c3
  go_wp2_with (refine wp_putMap (K:=plK) rfl 129 3 (.tmp 14) (.tmp 19) (.tmp 21) rfl Tryz.underlying129 (w.heap.size+1+1) _ M1.out (c.file,c.idx) c.fr rfl rfl rfl ?_)
  clear c0 c1 c2;intro W2 m2 hg2 _;have M2:Xo (MapF plK W2 (w.heap.size+1+1) (idxG (m.ca.take (kk+1)))):=show MapF _ _ _ _ from m2.congr fun k=>by rw[take_snoc HC.out,idxG_snoc]
  have HG2:Xo (Grew w W2):=show Grew _ _ from grew_grown HG1.out hg2 (by omega)
  have X2:Xo (Box W2 w.heap.size [O vf.a vf.n vf.c,Xe Xf m.hand,O vs.a vs.n vs.c,O vsb.a vsb.n vsb.c,O vsq.a vsq.n vsq.c,O vdb.a vdb.n vdb.c,O vdq.a vdq.n vdq.c,O vfl.a vfl.n vfl.c,Xe Xf m.cnt,O (Xa ad) can cac,O vsp.a vsp.n vsp.c]):=X1.out.grown hg2 (by omega)
  have Y2:Xo (Box W2 (w.heap.size+1) [O Xb 0 0,Xe Xf 0,O Xb 0 0,O Xb 0 0,O Xb 0 0,O Xb 0 0,O Xb 0 0,O Xb 0 0,Xe Xf 0,O Xb 0 0,O Xb 0 0,.map Xb]):=Y1.out.grown hg2 (by omega)
  clear m2 hg2;go_wp2
  go_roundg (can -(kk+1))
  case measure=>omega
  exact⟨kk+1,by omega,by omega,by go_num,HG2.out,X2.out,Y2.out,M2.out⟩
 have hltz:¬(kk:Int)< (can:Int):=by omega
 have:kk=can:=by omega
 subst this;have MA1:Xo (MapF plK wr (w.heap.size+1+1) (idxG m.ca)):=show MapF _ _ _ _ by
  have:=MW.out;rw[Xu (by rw[HN.out];exact nR _)]at this
  exact this
 obtain⟨x0,x1,x2,x3,x4,x5,x6,x7,x8,x9,x10⟩:=XW.out.c11
 go_wp2_with (refine wp_storeAll rfl 131 (.tmp 2) (.tmp 25) rfl (w.heap.size+1) rfl [O vf.a vf.n vf.c,Xe Xf m.hand,O vs.a vs.n vs.c,O vsb.a vsb.n vsb.c,O vsq.a vsq.n vsq.c,O vdb.a vdb.n vdb.c,O vdq.a vdq.n vdq.c,O vfl.a vfl.n vfl.c,Xe Xf m.cnt,O caa kk cac,O vsp.a vsp.n vsp.c,.map (Xa (w.heap.size+1+1))] rfl YW.out rfl (by kernel_rfl) (fun v hv=>by
  simp only[mC,nM,or_false]at hv
  rcases hv with rfl | rfl | rfl | rfl | rfl | rfl | rfl | rfl | rfl | rfl | rfl | rfl <;> rfl) ?_)
 clear x0 x1 x2 x3 x4 x5 x6 x7 x8 x9 x10;intro W5 hb5 hg5 _;have G5:Xo (Grew w W5):=show Grew _ _ from grew_grown BW.out hg5 (by omega)
 have M5:Xo (MapF plK W5 (w.heap.size+1+1) (idxG m.ca)):=MA1.out.kept hg5 (by simp)
 go_wp2;refine bodyPost_ret (ret_cell rfl _ rfl hb5 Tryz.underlying131 rfl (by kernel_rfl)) rfl ⟨_,rfl,M5.out,G5.out⟩
theorem hasCached_any (V:MaV) (m:Ma) (B k:Nat) (g:Int × Int->Option Int) (w:Xn) (hm:MachAt w V m) (hk:k<m.fs.length) (hmap:MapF plK w B g):
  Xp Tryz.prog 72 #[Xi #[O V.f.a V.f.n V.f.c,Xe Xf m.hand,O V.s.a V.s.n V.s.c,O V.sb.a V.sb.n V.sb.c,O V.sq.a V.sq.n V.sq.c,O V.db.a V.db.n V.db.c,O V.dq.a V.dq.n V.dq.c,O V.fl.a V.fl.n V.fl.c,Xe Xf m.cnt,O V.ca.a V.ca.n V.ca.c,O V.sp.a V.sp.n V.sp.c,.map (Xa B)],Xe Xf (k:Int)] w fun e w'=>e= Xl (Xh (decide (g ((frAt m k).f,(frAt m k).x)=Xa (k:Int))))/\Grew w w':=by
 obtain⟨⟨fa,fn,fc⟩,vs,vsb,vsq,vdb,vdq,vfl,vca,vsp⟩:=V;dsimp only;obtain⟨n1,-⟩:=hm.ns;dsimp only at n1;have hkn:k<fn:=by omega
 obtain⟨q,HQ⟩:∃q,Xo (m.fs[k]? =Xa q):=⟨_,gE hk⟩;have hfr:frAt m (k:Int)=q:=by unfold frAt;rw[tN,gD,HQ.out];rfl
 rw[hfr];obtain⟨ad,rfl,hl⟩:=(show FrRows w fa m.fs from hm.frs) k q HQ.out
 clear hfr hm n1 hk;obtain⟨W1,hW1⟩:∃W1,w.alloc (Xk #[O (Xa ad) fn fc,Xe Xf m.hand,O vs.a vs.n vs.c,O vsb.a vsb.n vsb.c,O vsq.a vsq.n vsq.c,O vdb.a vdb.n vdb.c,O vdq.a vdq.n vdq.c,O vfl.a vfl.n vfl.c,Xe Xf m.cnt,O vca.a vca.n vca.c,O vsp.a vsp.n vsp.c,.map (Xa B)] 131)=W1:=⟨_,rfl⟩;have HG1:=gA hW1
 have X1:=xA hW1
 have HS1:=sA hW1
 obtain⟨d0,d1,d2,d3,d4,d5,d6,d7,d8,d9,d10,d11,d12⟩:=hl W1 HG1.out;obtain⟨W2,hW2⟩:∃W2,W1.alloc (Xk #[Xe Xg q.p.b0,Xe Xg q.p.b1,Xe Xg q.p.b2,Xe Xg q.p.b3,Xe Xg q.p.b4,Xe Xg q.p.b5,Xe Xg q.p.b6,Xe Xg q.p.b7,Xe Xf q.r,Xh q.u,Xh q.d,Xe Xf q.f,Xe Xf q.x] 93)=W2:=⟨_,rfl⟩;have HG2:=gT hW2 HG1
 have X2:=yA hW2 X1
 have F2:=xP hW2 HS1
 have hlook:(Instr.lookup 129 (.map (Xa B)) (Xi #[Xe Xf q.f,Xe Xf q.x]) Xc).run Tryz.prog W2= .ok (Xm #[Xe Xf ((g (q.f,q.x)).getD 0),Xh (g (q.f,q.x)).isSome]) W2:=(hmap.grew HG2.out).look (K:=plK) Tryz.underlying129 (Tryz.zeroInt W2) (q.f,q.x) Xc;have HW1:Xo (_=W1):=hW1;have HW2:Xo (_=W2):=hW2;clear hW1 hW2 hl hmap;obtain⟨R,HRR⟩:∃R,Xo (decide (g (q.f,q.x)=Xa (k:Int))=R):=⟨_,rfl⟩;rw[HRR.out];obtain⟨gv,HGV⟩:∃gv,Xo (g (q.f,q.x)=gv):=⟨_,rfl⟩;rw[HGV.out]at hlook HRR
 go_enter Tryz.func72,Tryz.ntmps72
 go_upto_region 1 with fail;rw[HW1.out];have x0:=X1.out.c 0 rfl;go_upto_region 2 with fail;rw[HW2.out];rw[HS1.out];clear d0 d1 d2 d3 d4 d5 d6 d7 d8 d9 d10 d11 d12 x0;have x11:=X2.out.c 11 rfl;have f11:=F2.out.c 11 rfl;have f12:=F2.out.c 12 rfl
 cases gv with
 | none=>
  simp only[Option.getD_none,Option.isSome_none]at hlook;go_wp2;go_ret;exact⟨by rw[<-HRR.out];rfl,HG2.out⟩
 | some z=>
  simp only[Option.getD_some,Option.isSome_some]at hlook;have HE:Xo ((z ==(k:Int))=R):=show _=_ by rw[<-HRR.out,Yb];simp
  go_wp2;go_ret;exact⟨by rw[<-HE.out];rfl,HG2.out⟩
def MapH (K:KeyK) (w:Xn) (b:Nat) (H:Int × Int->Int):Prop:=∃g,MapF K w b g/\∀k,(g k).getD 0=H k
theorem MapH.grew {K:KeyK} {w w':Xn} {b:Nat} {H:Int × Int->Int} (h:MapH K w b H) (k:Grew w w'):MapH K w' b H:=by
 obtain⟨g,h1,h2⟩:=h;exact⟨g,h1.grew k,h2⟩
theorem MapH.congr {K:KeyK} {w:Xn} {b:Nat} {H H':Int × Int->Int} (h:MapH K w b H) (e:∀k,H k=H' k):MapH K w b H':=by
 obtain⟨g,h1,h2⟩:=h;exact⟨g,h1,fun k=>(h2 k).trans (e k)⟩
theorem MapH.ne_box {K:KeyK} {w:Xn} {b B:Nat} {cs:List Xq} {H:Int × Int->Int} (k:MapH K w B H) (h:Box w b cs):b≠B:=by
 obtain⟨g,h1,_⟩:=k;exact h.ne_map h1
theorem MapH.ne_own {α:Type} {E:Elt α} {K:KeyK} {w:Xn} {base B:Nat} {v:Xq} {l:List α} {H:Int × Int->Int} (k:MapH K w B H) (h:OwnRow E base w v l):∀x,v.ownBlock=Xa x->Xa B≠Xa x:=by
 obtain⟨g,h1,_⟩:=k;exact h.ne_map h1
def MapEH (K:KeyK) (w:Xn) (b:Nat) (H:Int × Int->Int) (k:Int × Int) (st:Int):Prop:=∃g,MapE K w b g k st/\∀x,(g x).getD 0=H x
theorem MapH.entry {K:KeyK} {w:Xn} {b:Nat} {H:Int × Int->Int} (h:MapH K w b H) {t e:TypeId} (ht:Tryz.prog.underlying t=Xa (.map K.ty e)) (hz:(zeroValue e).run Tryz.prog w= .ok (Xe Xf 0) w) (k:Int × Int):
  ∃w' st,(Instr.mapEntry t (.map (Xa b)) (K.enc k)).run Tryz.prog w= .ok (Xm #[Xe Xf (H k),Xe Xf st]) w'/\MapEH K w' b H k st/\w.grownBy w' (Xa b)/\w'.heap.size=w.heap.size:=by
 obtain⟨g,h1,h2⟩:=h;obtain⟨w',st,r1,r2,r3,r4⟩:=h1.entry ht hz k;rw[h2 k]at r1;refine⟨w',st,r1,⟨_,r2,fun x=>?_⟩,r3,r4⟩
 by_cases e:x=k
 ·subst e;rw[if_pos rfl];exact h2 x
 rw[if_neg e];exact h2 x
theorem MapEH.h {K:KeyK} {w:Xn} {b:Nat} {H:Int × Int->Int} {k:Int × Int} {st:Int} (h:MapEH K w b H k st):MapH K w b H:=by
 obtain⟨g,h1,h2⟩:=h;exact⟨g,h1.f,h2⟩
theorem MapH.look {K:KeyK} {w:Xn} {b:Nat} {H:Int × Int->Int} (h:MapH K w b H) {t e:TypeId} (ht:Tryz.prog.underlying t=Xa (.map K.ty e)) (hz:(zeroValue e).run Tryz.prog w= .ok (Xe Xf 0) w) (k:Int × Int):
  (Instr.lookup t (.map (Xa b)) (K.enc k) Xd).run Tryz.prog w= .ok (Xe Xf (H k)) w:=by
 obtain⟨g,h1,h2⟩:=h;have:=h1.look ht hz k Xd;rw[h2 k]at this;exact this
def addH (H:Int × Int->Int) (k:Int × Int):Int × Int->Int:=fun x=>H x+(if x=k then 1 else 0)
theorem wp_storeEntry {K:KeyK} {w:Xn} {ops:Array Oper} {rest:List Oper} {o:Oper} {a:Act} {Q:Exit->Act->Xn->Prop} (hgd:o.guard=Xb) (t:TypeId) (m s x:Operand) (hop:o.op= .entryStore t m s x) (b:Nat) (H:Int × Int->Int) (k:Int × Int) (st:Int) (h:MapEH K w b H k st)
  (hm:a.eval m= .map (Xa b)) (hs:a.eval s= Xe Xf st) (hv:a.eval x= Xe Xf (H k+1))
  (hK:∀w',MapH K w' b (addH H k)->w.grownBy w' (Xa b)->w'.heap.size=w.heap.size->wpList Tryz.prog ops Q rest (a.put o.dst undef) w'):wpList Tryz.prog ops Q (o :: rest) a w:=by
 refine wpList_plain hgd fun K' hK'=>?_
 obtain⟨g,h1,h2⟩:=h;obtain⟨w',hrun,r1,r2,r3⟩:=h1.store t (H k+1);unfold Oper.wp
 simp[execOp,hop,hm,hs,hv,hrun,Result.andThen]
 refine hK' _ _ (hK w' ⟨_,r1,fun y=>?_⟩ r2 r3)
 unfold addH
 by_cases e:y=k
 ·subst e;rw[if_pos rfl,if_pos rfl];rfl
 rw[if_neg e,if_neg e,h2 y];omega
theorem heldC_le (l:List Ca) (key:Int × Int):0<=heldC l key/\heldC l key<=l.length:=by
 unfold heldC cachedN
 split
 ·have:=Xw (p:=fun c:Ca=>decide (c.fr=key.2)) (l:=l)
  omega
 omega
theorem pagesN_len (s:Sp):(pagesN s).length<=64:=by
 unfold pagesN;have:=List.length_filter_le (fun n=>enS (flatN s n)) (List.range 64)
 simpa using this
theorem held_le (m:Ma) (i:Nat) (l:List Nat) (s:Sp) (key:Int × Int):0<=heldTo m i l s key/\heldTo m i l s key<=m.ca.length+64*m.sp.length+l.length:=by
 unfold heldTo;have h1:(if key.1=1 then cachedN m.ca key.2 else 0)<=m.ca.length:=by
  split
  ·exact Xw
  omega
 have h2:∀(L:List Sp),(L.map fun s=>(pagesN s).countP fun n=>isE (flatN s n) key.1 key.2).sum<=64*L.length:=by
  intro L
  induction L with
  | nil=>simp
  | cons a L ih=>
   have h3:=Xw (p:=fun n=>isE (flatN a n) key.1 key.2) (l:=pagesN a)
   have h4:=pagesN_len a;simp only[mP,List.sum_cons,List.length_cons];omega
 have h5:=h2 (m.sp.take i);have h6:(m.sp.take i).length<=m.sp.length:=by simp;omega
 have h7:=Xw (p:=fun n=>isE (flatN s n) key.1 key.2) (l:=l)
 omega
def sp00:Sp:=⟨Xc,[],[]⟩
theorem holders_any (V:MaV) (m:Ma) (w:Xn) (hm:MachAt w V m) (hsp4:m.sp.length<=4) (htb:∀s∈m.sp,tbW s.tb=0):
  Xp Tryz.prog 71 #[Xi #[O V.f.a V.f.n V.f.c,Xe Xf m.hand,O V.s.a V.s.n V.s.c,O V.sb.a V.sb.n V.sb.c,O V.sq.a V.sq.n V.sq.c,O V.db.a V.db.n V.db.c,O V.dq.a V.dq.n V.dq.c,O V.fl.a V.fl.n V.fl.c,Xe Xf m.cnt,O V.ca.a V.ca.n V.ca.c,O V.sp.a V.sp.n V.sp.c]] w fun e w'=>∃B,e= Xl (.map (Xa B))/\MapH enK w' B (heldTo m m.sp.length [] sp00)/\Grew w w':=by
 obtain⟨vf,vs,vsb,vsq,vdb,vdq,vfl,⟨caa,can,cac⟩,⟨spa,spn,spc⟩⟩:=V;dsimp only;obtain⟨-,-,-,-,-,-,-,n8,n9⟩:=hm.ns;dsimp only at n8 n9;have HR:Xo (CaRows w caa m.ca):=hm.cas;have HN:Xo (m.ca.length=can):=n8.symm;have hbig:can<=140737488355328:=by have:=hm.ca.2;have h24:cchE.bytes=24:=rfl;rw[h24]at this;omega
 obtain⟨xs,hxl,hrow,hsp⟩:=hm.spaces;have HXL:Xo (xs.length=m.sp.length):=hxl;have HRS:Xo (∀(j:Nat) x,xs[j]? =Xa x->∃ad,spa=Xa ad/\∀W,Grew w W->Sp10 W (ad.add (j*10)) x):=hrow;have HSP:Xo (∀(i:Nat) x s,xs[i]? =Xa x->m.sp[i]? =Xa s->SpaceAt w x s):=hsp;have HNS:Xo (m.sp.length=spn):=n9.symm;have HTBS:Xo (∀s∈m.sp,tbW s.tb=0):=htb;have HC0:Xo (∀j key,0<=heldC (m.ca.take j) key/\heldC (m.ca.take j) key<=140737488355328):=show∀j key,_ from fun j key=>by
  have h1:=heldC_le (m.ca.take j) key;have h2:(m.ca.take j).length<=m.ca.length:=by simp;omega
  omega
 have HH0:Xo (∀i l s key,l.length<=64->0<=heldTo m i l s key/\heldTo m i l s key<=140737488360000):=show∀i l s key,_ from fun i l s key hl=>by
  have h1:=held_le m i l s key;omega
 have hsn4:spn<=4:=by omega
 clear hm n8 n9 hxl hrow hsp hsp4 htb;have hmm:=@run_makeMap Tryz.prog;obtain⟨W0,hW0⟩:∃W0,(w.alloc (Xk #[O vf.a vf.n vf.c,Xe Xf m.hand,O vs.a vs.n vs.c,O vsb.a vsb.n vsb.c,O vsq.a vsq.n vsq.c,O vdb.a vdb.n vdb.c,O vdq.a vdq.n vdq.c,O vfl.a vfl.n vfl.c,Xe Xf m.cnt,O caa can cac,O spa spn spc] 42)).alloc (.map #[] 0)=W0:=⟨_,rfl⟩;have HG0:Xo (Grew w W0):=show Grew _ _ by rw[<-hW0];exact(grew_alloc _ _).trans (grew_alloc _ _)
 have X0:Xo (Box W0 w.heap.size [O vf.a vf.n vf.c,Xe Xf m.hand,O vs.a vs.n vs.c,O vsb.a vsb.n vsb.c,O vsq.a vsq.n vsq.c,O vdb.a vdb.n vdb.c,O vdq.a vdq.n vdq.c,O vfl.a vfl.n vfl.c,Xe Xf m.cnt,O caa can cac,O spa spn spc]):=show Box _ _ _ by rw[<-hW0];exact(Box.top _ _ _ rfl).alloc _
 have M0:Xo (MapH enK W0 (w.heap.size+1) (heldC (m.ca.take 0))):=show MapH _ _ _ _ by
  rw[<-hW0];have:=MapF.made enK (w.alloc (Xk #[O vf.a vf.n vf.c,Xe Xf m.hand,O vs.a vs.n vs.c,O vsb.a vsb.n vsb.c,O vsq.a vsq.n vsq.c,O vdb.a vdb.n vdb.c,O vdq.a vdq.n vdq.c,O vfl.a vfl.n vfl.c,Xe Xf m.cnt,O caa can cac,O spa spn spc] 42));have hs:(w.alloc (Xk #[O vf.a vf.n vf.c,Xe Xf m.hand,O vs.a vs.n vs.c,O vsb.a vsb.n vsb.c,O vsq.a vsq.n vsq.c,O vdb.a vdb.n vdb.c,O vdq.a vdq.n vdq.c,O vfl.a vfl.n vfl.c,Xe Xf m.cnt,O caa can cac,O spa spn spc] 42)).heap.size=w.heap.size+1:=by simp
  rw[hs]at this;exact⟨_,this,fun k=>by rw[Yd,heldC_nil];rfl⟩
 have HW0:Xo (_=W0):=hW0;clear hW0
 go_enter Tryz.func71,Tryz.ntmps71
 go_upto_region 2 with fail;rw[HW0.out];clear hmm;have x9:=X0.out.c 9 rfl;go_wp2;clear x9
 go_loopg [15] can (fun gg s15 wr=>∃kk:Nat,kk<=can/\can - kk<=gg/\s15= Xe Xf kk/\Xo (Grew w wr)/\Xo (Box wr w.heap.size [O vf.a vf.n vf.c,Xe Xf m.hand,O vs.a vs.n vs.c,O vsb.a vsb.n vsb.c,O vsq.a vsq.n vsq.c,O vdb.a vdb.n vdb.c,O vdq.a vdq.n vdq.c,O vfl.a vfl.n vfl.c,Xe Xf m.cnt,O caa can cac,O spa spn spc])/\Xo (MapH enK wr (w.heap.size+1) (heldC (m.ca.take kk))))
 case atStart=>exact⟨0,nZ _,by omega,rfl,HG0.out,X0.out,M0.out⟩
 obtain⟨kk,hkk,hgg,rfl,BW,XW,MW⟩:=hrel;clear X0 M0 HG0
 by_cases hlt:kk<can
 ·have hltz:(kk:Int)< (can:Int):=by omega
  obtain⟨c,HC⟩:∃c,Xo (m.ca[kk]? =Xa c):=⟨_,gE (by rw[HN.out];exact hlt)⟩
  obtain⟨ad,rfl,hl⟩:=HR.out kk c HC.out;obtain⟨d0,d1,d2⟩:=hl wr BW.out;clear hl;go_upto_region 5 with fail;obtain⟨W1,hW1⟩:∃W1,wr.alloc (Xk #[Xe Xf c.file,Xe Xf c.idx,Xe Xf c.fr] 105)=W1:=⟨_,rfl⟩;have HG1:=gT hW1 BW
  have X1:=yA hW1 XW
  have M1:Xo (MapH enK W1 (w.heap.size+1) (heldC (m.ca.take kk))):=show MapH _ _ _ _ by rw[<-hW1];exact MW.out.grew (grew_alloc _ _)
  have C1:=xA hW1
  rw[hW1];clear hW1 d0 d1 d2;obtain⟨pb,HPB⟩:∃pb,Xo (wr.heap.size=pb):=⟨_,rfl⟩;rw[HPB.out]at C1⊢;obtain⟨H,HH⟩:∃H,Xo (heldC (m.ca.take kk)=H):=⟨_,rfl⟩;rw[HH.out]at M1;obtain⟨hb0,hb1⟩:0<=H (1,c.fr)/\H (1,c.fr)<=140737488355328:=by rw[<-HH.out];exact HC0.out kk (1,c.fr)
  obtain⟨I,hI⟩:∃I:Xn->Prop,I=fun u=>MapH enK u (w.heap.size+1) H/\Box u pb [Xe Xf c.file,Xe Xf c.idx,Xe Xf c.fr]/\Box u w.heap.size [O vf.a vf.n vf.c,Xe Xf m.hand,O vs.a vs.n vs.c,O vsb.a vsb.n vsb.c,O vsq.a vsq.n vsq.c,O vdb.a vdb.n vdb.c,O vdq.a vdq.n vdq.c,O vfl.a vfl.n vfl.c,Xe Xf m.cnt,O (Xa ad) can cac,O spa spn spc]/\Grew w u:=⟨_,rfl⟩
  have HI:Xo (∀u,I u↔MapH enK u (w.heap.size+1) H/\Box u pb [Xe Xf c.file,Xe Xf c.idx,Xe Xf c.fr]/\Box u w.heap.size [O vf.a vf.n vf.c,Xe Xf m.hand,O vs.a vs.n vs.c,O vsb.a vsb.n vsb.c,O vsq.a vsq.n vsq.c,O vdb.a vdb.n vdb.c,O vdq.a vdq.n vdq.c,O vfl.a vfl.n vfl.c,Xe Xf m.cnt,O (Xa ad) can cac,O spa spn spc]/\Grew w u):=show∀u,_ from fun u=>by rw[hI]
  clear hI;have hx2:∀y:HoldI I,y.world.cell? ⟨pb,2,Xb⟩=Xa (Xe Xf c.fr):=fun y=>((HI.out _).1 y.holds).2.1.c 2 rfl
  have hlk:∀y:HoldI I,(Instr.lookup 133 (.map (Xa (w.heap.size+1))) (Xi #[Xe Xf 1,Xe Xf c.fr,Xh Xd]) Xd).run Tryz.prog y.world= .ok (Xe Xf (H (1,c.fr))) y.world:=fun y=>((HI.out _).1 y.holds).1.look (K:=enK) Tryz.underlying133 (Tryz.zeroInt _) (1,c.fr)
  have hI0:I W1.drew:=(HI.out _).2 ⟨M1.out.grew (gW _),C1.out.grew (gW _),X1.out.grew (gW _),HG1.out.trans (gW _)⟩
  have hne:Nonempty (HoldI I):=⟨⟨_,hI0⟩⟩;refine wp_lax_tailI (I:=I) 8 [(6,⟨fun v=>∃st,v= Xm #[Xe Xf (H (1,c.fr)),Xe Xf st],fun v w'=>∃st,v= Xm #[Xe Xf (H (1,c.fr)),Xe Xf st]/\MapEH enK w' (w.heap.size+1) H (1,c.fr) st,fun _ _=>True,fun _=>True⟩)] hI0 mixed (by kernel_rfl) rfl rfl (by decide) ?hS ?hp ?hpre ?hpr0 ?_
  case hS=>
   intro y hy;simp only[mC,nM,or_false]at hy;subst hy;exact⟨_,0,rfl⟩
  case hp=>
   intro k s j t' hk hj hjk _ v p q hst hpo;obtain⟨rfl,rfl⟩:=look1 hk;obtain⟨rfl,rfl⟩:=look1 hj;exact absurd rfl hjk
  case hpre=>
   intro j t' k s hj hk hjk p q hst hpr;obtain⟨rfl,rfl⟩:=look1 hj;trivial
  case hpr0=>
   intro k t' hk;obtain⟨rfl,rfl⟩:=look1 hk;trivial
  simp only[List.take,List.drop];iterate 6 (refine laxI_quiet rfl rfl rfl (fun K hK=>?_);go_big_quiet_op;refine hK _ ?_;clear hK K)
  refine laxI_spec rfl rfl (fun w' hI' hpr hF=>?_) (fun v1 hv=>?_)
  ·obtain⟨i1,i2,i3,i4⟩:=(HI.out _).1 hI';obtain⟨w2,st,hrun,r1,r2,r3⟩:=i1.entry (K:=enK) Tryz.underlying133 (Tryz.zeroInt w') (1,c.fr);have hrun':(Instr.mapEntry 133 (.map (Xa (w.heap.size+1))) (Xi #[Xe Xf 1,Xe Xf c.fr,Xh Xd])).run Tryz.prog w'= .ok (Xm #[Xe Xf (H (1,c.fr)),Xe Xf st]) w2:=hrun;clear hx2 hlk hne;refine Does.step (v:= Xm #[Xe Xf (H (1,c.fr)),Xe Xf st]) (w':=w2) (by simp only[execOp];go_simp) ⟨(HI.out _).2 ⟨r1.h,i2.grown r2 (i1.ne_box i2),i3.grown r2 (i1.ne_box i3),grew_grown i4 r2 (by omega)⟩,trivial,⟨_,rfl⟩,_,rfl,r1⟩
  obtain⟨st,rfl⟩:=hv;simp only[Xv,sB,sS,sZ];iterate 1 (refine laxI_quiet rfl rfl rfl (fun K hK=>?_);go_big_quiet_op;refine hK _ ?_;clear hK K)
  refine laxI_nil fun W3 hI3 hF=>?_
  obtain⟨i1,i2,i3,i4⟩:=(HI.out _).1 hI3;obtain⟨st',hst,hE⟩:∃st',(Value.tuple #[Xe Xf (H (1,c.fr)),Xe Xf st])= Xm #[Xe Xf (H (1,c.fr)),Xe Xf st']/\MapEH enK W3 (w.heap.size+1) H (1,c.fr) st':=hF 6;have hE':MapEH enK W3 (w.heap.size+1) H (1,c.fr) st:=by
   simp at hst
   rw[hst];exact hE
  have X3:Xo (Box W3 w.heap.size [O vf.a vf.n vf.c,Xe Xf m.hand,O vs.a vs.n vs.c,O vsb.a vsb.n vsb.c,O vsq.a vsq.n vsq.c,O vdb.a vdb.n vdb.c,O vdq.a vdq.n vdq.c,O vfl.a vfl.n vfl.c,Xe Xf m.cnt,O (Xa ad) can cac,O spa spn spc]):=i3;have HG3:Xo (Grew w W3):=i4;have HE3:Xo (MapEH enK W3 (w.heap.size+1) H (1,c.fr) st):=hE';clear hx2 hlk hne hF hI3 i1 i2 i3 i4 hE hst hE' hI0;refine wp_storeEntry (K:=enK) rfl 133 (.tmp 19) (.tmp 26) (.tmp 24) rfl (w.heap.size+1) H (1,c.fr) st HE3.out rfl rfl (by go_num) ?_
  intro W4 m4 hg4 _;have X4:Xo (Box W4 w.heap.size [O vf.a vf.n vf.c,Xe Xf m.hand,O vs.a vs.n vs.c,O vsb.a vsb.n vsb.c,O vsq.a vsq.n vsq.c,O vdb.a vdb.n vdb.c,O vdq.a vdq.n vdq.c,O vfl.a vfl.n vfl.c,Xe Xf m.cnt,O (Xa ad) can cac,O spa spn spc]):=X3.out.grown hg4 (by omega)
  have HG4:Xo (Grew w W4):=show Grew _ _ from grew_grown HG3.out hg4 (by omega)
  have M4:Xo (MapH enK W4 (w.heap.size+1) (heldC (m.ca.take (kk+1)))):=show MapH _ _ _ _ from m4.congr fun k=>by rw[take_snoc HC.out,heldC_step,<-HH.out];rfl
  clear m4 hg4 hb0 hb1;go_wp2
  go_roundg (can -(kk+1))
  case measure=>omega
  exact⟨kk+1,by omega,by omega,by go_num,HG4.out,X4.out,M4.out⟩
 have hltz:¬(kk:Int)< (can:Int):=by omega
 have:kk=can:=by omega
 subst this;have MA1:Xo (MapH enK wr (w.heap.size+1) (heldTo m 0 [] sp00)):=show MapH _ _ _ _ from MW.out.congr fun k=>by
  rw[Xu (by rw[HN.out];exact nR _)]
  exact heldC_all m sp00 k
 have x10:=XW.out.c 10 rfl;go_wp2;clear x10;have HBW:Xo (Grew w wr):=BW;clear BW XW MW
 go_loopg [31] spn (fun gg s31 wr=>∃i:Nat,i<=spn/\spn - i<=gg/\s31= Xe Xf i/\Xo (Grew w wr)/\Xo (MapH enK wr (w.heap.size+1) (heldTo m i [] sp00)))
 case atStart=>exact⟨0,nZ _,by omega,rfl,HBW.out,MA1.out⟩
 obtain⟨i,hi,hg2,rfl,BW,MW⟩:=hrel;clear HBW MA1
 by_cases hlt2:i<spn
 ·have hltz2:(i:Int)< (spn:Int):=by omega
  obtain⟨s,HS⟩:∃s,Xo (m.sp[i]? =Xa s):=⟨_,gE (by rw[HNS.out];exact hlt2)⟩
  obtain⟨x,HX⟩:∃x,Xo (xs[i]? =Xa x):=⟨_,gE (by rw[HXL.out,HNS.out];exact hlt2)⟩
  have HAT:Xo (SpaceAt w x s):=HSP.out i x s HX.out HS.out;obtain⟨ad,rfl,hl⟩:=HRS.out i x HX.out;obtain⟨d0,d1,d2,d3,d4,d5,d6,d7,d8,d9⟩:=hl wr BW.out;clear hl;go_upto_region 10 with fail;obtain⟨W1,hW1⟩:∃W1,wr.alloc (Xk #[Xh x.live,O x.ar.a x.ar.n x.ar.c,O x.t0.a x.t0.n x.t0.c,O x.t1.a x.t1.n x.t1.c,O x.t2.a x.t2.n x.t2.c,O x.t3.a x.t3.n x.t3.c,O x.t4.a x.t4.n x.t4.c,O x.t5.a x.t5.n x.t5.c,O x.t6.a x.t6.n x.t6.c,O x.t7.a x.t7.n x.t7.c] 76)=W1:=⟨_,rfl⟩;have HG1:=gT hW1 BW
  have M1:Xo (MapH enK W1 (w.heap.size+1) (heldTo m i [] s)):=show MapH _ _ _ _ by rw[<-hW1];exact(MW.out.grew (grew_alloc _ _)).congr fun k=>by unfold heldTo;simp
  have S1:=xA hW1
  rw[hW1];clear hW1 d0 d1 d2 d3 d4 d5 d6 d7 d8 d9;obtain⟨pb,HPB⟩:∃pb,Xo (wr.heap.size=pb):=⟨_,rfl⟩;rw[HPB.out]at S1⊢;have hcall:Xp Tryz.prog 66 #[Xi #[O x.t0.a x.t0.n x.t0.c,O x.t1.a x.t1.n x.t1.c,O x.t2.a x.t2.n x.t2.c,O x.t3.a x.t3.n x.t3.c,O x.t4.a x.t4.n x.t4.c,O x.t5.a x.t5.n x.t5.c,O x.t6.a x.t6.n x.t6.c,O x.t7.a x.t7.n x.t7.c]] W1 fun e w'=>∃v,e= Xl v/\OwnRow blE W1.heap.size w' v (pagesTo s.tb anyEn 64)/\Grew W1 w':=pagesTb_any x.tab s.tb W1 (HAT.out.grew HG1.out).tb
  have s2:=S1.out.c 2 rfl;have s3:=S1.out.c 3 rfl;have s4:=S1.out.c 4 rfl;have s5:=S1.out.c 5 rfl;have s6:=S1.out.c 6 rfl;have s7:=S1.out.c 7 rfl;have s8:=S1.out.c 8 rfl;have s9:=S1.out.c 9 rfl;go_wp2_with fail;refine hcall.mono ?_;clear hcall s2 s3 s4 s5 s6 s7 s8 s9;rintro e' W2 ⟨pv,rfl,ow2,hg2'⟩;have HG2:=dD (HG1.out.trans hg2');have M2:=dD (M1.out.grew hg2');have S2:=dD (S1.out.grew hg2');have HW1L:Xo (w.heap.size<=W1.heap.size):=show _<=_ from bS HG1.out
  clear hg2';obtain⟨pa,pc,rfl⟩:=ow2.form;have hq0:=ow2.at.short;rw[pagesTo_any]at ow2 hq0⊢;rw[List.length_map]at ow2 hq0⊢;obtain⟨q,HQ⟩:∃q,Xo ((pagesN s).length=q):=⟨_,rfl⟩;rw[HQ.out]at ow2 hq0⊢;have OW2:Xo (OwnRow blE W1.heap.size W2 (O pa q pc) ((pagesN s).map fun(n:Nat)=>(n:Int))):=ow2
  have hq64:q<=64:=by rw[<-HQ.out];exact pagesN_len s
  clear ow2;go_wp2;clear BW MW
  go_loopg [39] q (fun gg s39 wr=>∃j:Nat,j<=q/\q - j<=gg/\s39= Xe Xf j/\Xo (Grew w wr)/\Xo (OwnRow blE W1.heap.size wr (O pa q pc) ((pagesN s).map fun(n:Nat)=>(n:Int)))/\Xo (Box wr pb [Xh x.live,O x.ar.a x.ar.n x.ar.c,O x.t0.a x.t0.n x.t0.c,O x.t1.a x.t1.n x.t1.c,O x.t2.a x.t2.n x.t2.c,O x.t3.a x.t3.n x.t3.c,O x.t4.a x.t4.n x.t4.c,O x.t5.a x.t5.n x.t5.c,O x.t6.a x.t6.n x.t6.c,O x.t7.a x.t7.n x.t7.c])/\Xo (MapH enK wr (w.heap.size+1) (heldTo m i ((pagesN s).take j) s)))
  case atStart=>exact⟨0,nZ _,by omega,rfl,HG2.out,OW2.out,S2.out,by rw[Yd];exact M2.out⟩
  obtain⟨j,hj,hg3,rfl,BW,OW,SW,MW⟩:=hrel;clear S2 M2 OW2 HG2
  by_cases hlt3:j<q
  ·have hltz3:(j:Int)< (q:Int):=by omega
   obtain⟨n,HNI⟩:∃n,Xo ((pagesN s)[j]? =Xa n):=⟨_,gE (by rw[HQ.out];exact hlt3)⟩
   have hn64:n<64:=pagesN_lt HNI.out;have HTS:Xo ((pagesN s).take (j+1)=(pagesN s).take j++ [n]):=take_snoc HNI.out;obtain⟨_,_,heq,hnr⟩:=OW.out.at.nums;simp only[vJ]at heq;obtain⟨ad2,had2,hl2⟩:=hnr j (n:Int) (by rw[Xz,HNI.out];rfl)
   have e0:=hl2 wr (Grew.refl _);rw[<-heq.1]at had2;subst had2;clear hl2 heq hnr;have hcg:Xp Tryz.prog 69 #[Xi #[O x.t0.a x.t0.n x.t0.c,O x.t1.a x.t1.n x.t1.c,O x.t2.a x.t2.n x.t2.c,O x.t3.a x.t3.n x.t3.c,O x.t4.a x.t4.n x.t4.c,O x.t5.a x.t5.n x.t5.c,O x.t6.a x.t6.n x.t6.c,O x.t7.a x.t7.n x.t7.c],Xe Xf (n:Int)] wr fun e w'=>e= Xl (enV (flatN s n))/\Grew wr w':=by
    have:=getTb_any x.tab s.tb (n:Int) wr (HAT.out.grew BW.out).tb;rw[get_flat hn64]at this;exact this
   obtain⟨en,HEN⟩:∃en,Xo (flatN s n=en):=⟨_,rfl⟩;rw[HEN.out]at hcg;have s2:=SW.out.c 2 rfl;have s3:=SW.out.c 3 rfl;have s4:=SW.out.c 4 rfl;have s5:=SW.out.c 5 rfl;have s6:=SW.out.c 6 rfl;have s7:=SW.out.c 7 rfl;have s8:=SW.out.c 8 rfl;have s9:=SW.out.c 9 rfl;go_wp2_with fail;refine hcg.mono ?_;clear hcg e0 s2 s3 s4 s5 s6 s7 s8 s9;rintro e' W4 ⟨rfl,hg4⟩;have HG4:=dD (BW.out.trans hg4);have OW4:=dD (OW.out.grew hg4)
   have S4:=dD (SW.out.grew hg4);have M4:=dD (MW.out.grew hg4);clear hg4;unfold enV;go_upto_region 14 with fail;obtain⟨W5,hW5⟩:∃W5,W4.alloc (Xk #[Xe Xf en.kind,Xe Xf en.n,Xh en.wr] 127)=W5:=⟨_,rfl⟩;have HG5:=gT hW5 HG4
   have OW5:Xo (OwnRow blE W1.heap.size W5 (O (Xa ad2) q pc) ((pagesN s).map fun(n:Nat)=>(n:Int))):=show OwnRow _ _ _ _ _ by rw[<-hW5];exact OW4.out.grew (grew_alloc _ _)
   have S5:=yA hW5 S4
   have M5:Xo (MapH enK W5 (w.heap.size+1) (heldTo m i ((pagesN s).take j) s)):=show MapH _ _ _ _ by rw[<-hW5];exact M4.out.grew (grew_alloc _ _)
   have E5:=xA hW5
   rw[hW5];clear hW5;obtain⟨pe,HPE⟩:∃pe,Xo (W4.heap.size=pe):=⟨_,rfl⟩;rw[HPE.out]at E5⊢;obtain⟨H,HH⟩:∃H,Xo (heldTo m i ((pagesN s).take j) s=H):=⟨_,rfl⟩;rw[HH.out]at M5;obtain⟨hb0,hb1⟩:0<=H (en.kind,en.n)/\H (en.kind,en.n)<=140737488360000:=by rw[<-HH.out];exact HH0.out i _ s (en.kind,en.n) (by simp;omega)
   obtain⟨I,hI⟩:∃I:Xn->Prop,I=fun u=>MapH enK u (w.heap.size+1) H/\Box u pe [Xe Xf en.kind,Xe Xf en.n,Xh en.wr]/\Box u pb [Xh x.live,O x.ar.a x.ar.n x.ar.c,O x.t0.a x.t0.n x.t0.c,O x.t1.a x.t1.n x.t1.c,O x.t2.a x.t2.n x.t2.c,O x.t3.a x.t3.n x.t3.c,O x.t4.a x.t4.n x.t4.c,O x.t5.a x.t5.n x.t5.c,O x.t6.a x.t6.n x.t6.c,O x.t7.a x.t7.n x.t7.c]/\OwnRow blE W1.heap.size u (O (Xa ad2) q pc) ((pagesN s).map fun(n:Nat)=>(n:Int))/\Grew w u:=⟨_,rfl⟩
   have HI:Xo (∀u,I u↔MapH enK u (w.heap.size+1) H/\Box u pe [Xe Xf en.kind,Xe Xf en.n,Xh en.wr]/\Box u pb [Xh x.live,O x.ar.a x.ar.n x.ar.c,O x.t0.a x.t0.n x.t0.c,O x.t1.a x.t1.n x.t1.c,O x.t2.a x.t2.n x.t2.c,O x.t3.a x.t3.n x.t3.c,O x.t4.a x.t4.n x.t4.c,O x.t5.a x.t5.n x.t5.c,O x.t6.a x.t6.n x.t6.c,O x.t7.a x.t7.n x.t7.c]/\OwnRow blE W1.heap.size u (O (Xa ad2) q pc) ((pagesN s).map fun(n:Nat)=>(n:Int))/\Grew w u):=show∀u,_ from fun u=>by rw[hI]
   clear hI;have hx0:∀y:HoldI I,y.world.cell? ⟨pe,0,Xb⟩=Xa (Xe Xf en.kind):=fun y=>((HI.out _).1 y.holds).2.1.c 0 rfl
   have hx1:∀y:HoldI I,y.world.cell? ⟨pe,1,Xb⟩=Xa (Xe Xf en.n):=fun y=>((HI.out _).1 y.holds).2.1.c 1 rfl
   have hlk:∀y:HoldI I,(Instr.lookup 133 (.map (Xa (w.heap.size+1))) (Xi #[Xe Xf en.kind,Xe Xf en.n,Xh Xd]) Xd).run Tryz.prog y.world= .ok (Xe Xf (H (en.kind,en.n))) y.world:=fun y=>((HI.out _).1 y.holds).1.look (K:=enK) Tryz.underlying133 (Tryz.zeroInt _) (en.kind,en.n)
   have hI0:I W5.drew:=(HI.out _).2 ⟨M5.out.grew (gW _),E5.out.grew (gW _),S5.out.grew (gW _),OW5.out.grew (gW _),HG5.out.trans (gW _)⟩
   have hne:Nonempty (HoldI I):=⟨⟨_,hI0⟩⟩;refine wp_lax_tailI (I:=I) 10 [(8,⟨fun v=>∃st,v= Xm #[Xe Xf (H (en.kind,en.n)),Xe Xf st],fun v w'=>∃st,v= Xm #[Xe Xf (H (en.kind,en.n)),Xe Xf st]/\MapEH enK w' (w.heap.size+1) H (en.kind,en.n) st,fun _ _=>True,fun _=>True⟩)] hI0 mixed (by kernel_rfl) rfl rfl (by decide) ?hS ?hp ?hpre ?hpr0 ?_
   case hS=>
    intro y hy;simp only[mC,nM,or_false]at hy;subst hy;exact⟨_,0,rfl⟩
   case hp=>
    intro k s j t' hk hj hjk _ v p q hst hpo;obtain⟨rfl,rfl⟩:=look1 hk;obtain⟨rfl,rfl⟩:=look1 hj;exact absurd rfl hjk
   case hpre=>
    intro j t' k s hj hk hjk p q hst hpr;obtain⟨rfl,rfl⟩:=look1 hj;trivial
   case hpr0=>
    intro k t' hk;obtain⟨rfl,rfl⟩:=look1 hk;trivial
   simp only[List.take,List.drop];iterate 8 (refine laxI_quiet rfl rfl rfl (fun K hK=>?_);go_big_quiet_op;refine hK _ ?_;clear hK K)
   refine laxI_spec rfl rfl (fun w' hI' hpr hF=>?_) (fun v1 hv=>?_)
   ·obtain⟨i1,i2,i3,i4,i5⟩:=(HI.out _).1 hI';obtain⟨w2,st,hrun,r1,r2,r3⟩:=i1.entry (K:=enK) Tryz.underlying133 (Tryz.zeroInt w') (en.kind,en.n);have hrun':(Instr.mapEntry 133 (.map (Xa (w.heap.size+1))) (Xi #[Xe Xf en.kind,Xe Xf en.n,Xh Xd])).run Tryz.prog w'= .ok (Xm #[Xe Xf (H (en.kind,en.n)),Xe Xf st]) w2:=hrun;clear hx0 hx1 hlk hne;refine Does.step (v:= Xm #[Xe Xf (H (en.kind,en.n)),Xe Xf st]) (w':=w2) (by simp only[execOp];go_simp) ⟨(HI.out _).2 ⟨r1.h,i2.grown r2 (i1.ne_box i2),i3.grown r2 (i1.ne_box i3),i4.grown r2 (i1.ne_own i4),grew_grown i5 r2 (by omega)⟩,trivial,⟨_,rfl⟩,_,rfl,r1⟩
   obtain⟨st,rfl⟩:=hv;simp only[Xv,sB,sS,sZ];iterate 1 (refine laxI_quiet rfl rfl rfl (fun K hK=>?_);go_big_quiet_op;refine hK _ ?_;clear hK K)
   refine laxI_nil fun W6 hI6 hF=>?_
   obtain⟨i1,i2,i3,i4,i5⟩:=(HI.out _).1 hI6;obtain⟨st',hst,hE⟩:∃st',(Value.tuple #[Xe Xf (H (en.kind,en.n)),Xe Xf st])= Xm #[Xe Xf (H (en.kind,en.n)),Xe Xf st']/\MapEH enK W6 (w.heap.size+1) H (en.kind,en.n) st':=hF 8;have hE':MapEH enK W6 (w.heap.size+1) H (en.kind,en.n) st:=by
    simp at hst
    rw[hst];exact hE
   have S6:Xo (Box W6 pb [Xh x.live,O x.ar.a x.ar.n x.ar.c,O x.t0.a x.t0.n x.t0.c,O x.t1.a x.t1.n x.t1.c,O x.t2.a x.t2.n x.t2.c,O x.t3.a x.t3.n x.t3.c,O x.t4.a x.t4.n x.t4.c,O x.t5.a x.t5.n x.t5.c,O x.t6.a x.t6.n x.t6.c,O x.t7.a x.t7.n x.t7.c]):=i3;have OW6:Xo (OwnRow blE W1.heap.size W6 (O (Xa ad2) q pc) ((pagesN s).map fun(n:Nat)=>(n:Int))):=i4
   have HG6:Xo (Grew w W6):=i5;have M6:Xo (MapH enK W6 (w.heap.size+1) H):=i1;have HE6:Xo (MapEH enK W6 (w.heap.size+1) H (en.kind,en.n) st):=hE';clear hx0 hx1 hlk hne hF hI6 i1 i2 i3 i4 i5 hE hst hE' hI0;refine wp_storeEntry (K:=enK) rfl 133 (.tmp 47) (.tmp 56) (.tmp 54) rfl (w.heap.size+1) H (en.kind,en.n) st HE6.out rfl rfl (by go_num) ?_
   intro W7 m7 hg7 _;have S7:Xo (Box W7 pb [Xh x.live,O x.ar.a x.ar.n x.ar.c,O x.t0.a x.t0.n x.t0.c,O x.t1.a x.t1.n x.t1.c,O x.t2.a x.t2.n x.t2.c,O x.t3.a x.t3.n x.t3.c,O x.t4.a x.t4.n x.t4.c,O x.t5.a x.t5.n x.t5.c,O x.t6.a x.t6.n x.t6.c,O x.t7.a x.t7.n x.t7.c]):=S6.out.grown hg7 (M6.out.ne_box S6.out);have OW7:Xo (OwnRow blE W1.heap.size W7 (O (Xa ad2) q pc) ((pagesN s).map fun(n:Nat)=>(n:Int))):=OW6.out.grown hg7 (M6.out.ne_own OW6.out)
   have HG7:Xo (Grew w W7):=show Grew _ _ from grew_grown HG6.out hg7 (by omega)
   have M7:Xo (MapH enK W7 (w.heap.size+1) (heldTo m i ((pagesN s).take (j+1)) s)):=show MapH _ _ _ _ from m7.congr fun k=>by rw[HTS.out,held_page,HEN.out,HH.out];rfl
   clear m7 hg7 hb0 hb1;go_wp2
   go_roundg (q -(j+1))
   case measure=>omega
   exact⟨j+1,by omega,by omega,by go_num,HG7.out,OW7.out,S7.out,M7.out⟩
  have hltz3:¬(j:Int)< (q:Int):=by omega
  have:j=q:=by omega
  subst this;have M8:Xo (MapH enK wr (w.heap.size+1) (heldTo m (i+1) [] sp00)):=show MapH _ _ _ _ from MW.out.congr fun k=>by
   rw[Xu (by rw[HQ.out];exact nR _)]
   exact held_next m i s sp00 HS.out k
  go_wp2
  go_roundg (spn -(i+1))
  case measure=>omega
  exact⟨i+1,by omega,by omega,by go_num,BW.out,M8.out⟩
 have hltz2:¬(i:Int)< (spn:Int):=by omega
 have:i=spn:=by omega
 subst this;have M9:Xo (MapH enK wr (w.heap.size+1) (heldTo m m.sp.length [] sp00)):=show MapH _ _ _ _ by rw[HNS.out];exact MW.out
 go_wp2;go_ret;exact⟨_,rfl,M9.out,BW.out⟩
def filedTo (fl:List Fl) (i:Nat) (bl:List Int):List Int:=(allB (fl.take i))++bl
theorem marks_congr {n:Nat} {g h:List Int} (e:∀i:Nat,i<n->g.contains (i:Int)=h.contains (i:Int)):marks n g=marks n h:=by
 unfold marks
 apply List.map_congr_left
 intro i hi;rw[e i (Yg.1 hi)]
theorem filed_skip (fl:List Fl) (i:Nat) (bl:List Int) {b:Int} (hb:b<0) (n:Nat):marks n (filedTo fl i (bl++ [b]))=marks n (filedTo fl i bl):=marks_congr fun j _=>by
 unfold filedTo;have:¬(j:Int)=b:=by omega
 simp[this]
theorem filed_put (fl:List Fl) (i:Nat) (bl:List Int) (b:Nat) (n:Nat):marks n ((b:Int) :: filedTo fl i bl)=marks n (filedTo fl i (bl++ [(b:Int)])):=marks_congr fun j _=>by
 unfold filedTo;rw[Yb];simp only[List.contains_eq_mem,mC,List.mem_append,nM,or_false,decide_eq_true_eq];constructor
 ·rintro(h | h | h)
  ·exact .inr (.inr h)
  ·exact .inl h
  exact .inr (.inl h)
 rintro(h | h | h)
 ·exact .inr (.inl h)
 ·exact .inr (.inr h)
 exact .inl h
theorem filed_next {fl:List Fl} {i:Nat} {f:Fl} (hf:fl[i]? =Xa f):filedTo fl i f.bl=filedTo fl (i+1) []:=by
 unfold filedTo allB;rw[List.take_add_one,hf];simp
theorem filed_all (fl:List Fl) (b:Int):(filedTo fl fl.length []).contains b=usedB fl b:=by
 unfold filedTo allB usedB;rw[List.take_length,List.append_nil,Yb];simp
theorem Tryz.sizeGiven:(Tryz.prog.info? 114).map (·.size)=Xa 80:=by kernel_rfl
theorem marks_one (n:Nat) (g:List Int):∀v∈marks n g,v.oneCell'=Xc:=fun v hv=>by
 unfold marks at hv;obtain⟨i,_,rfl⟩:=Yf.1 hv;rfl
theorem marks_len (n:Nat) (g:List Int):(marks n g).length=n:=by simp[marks]
theorem filedBlocks_any (v:Xq) (fl:List Fl) (cnt:Int) (w:Xn) (hv:FilesAt w v fl) (hst:stW fl cnt=0):
  Xp Tryz.prog 62 #[Xi #[v,Xe Xf cnt]] w fun e w'=>e= Xl (Xi (marks 80 (filedTo fl fl.length [])).toArray)/\Grew w w':=by
 have hz:=run_zGiven;obtain⟨a,c,rfl,hbig,hrow⟩:=hv.rows;have HR:Xo (FlRows w a fl):=hrow;clear hrow hv;have HB:Xo (∀f∈fl,∀b∈f.bl,b=-1\/(0<=b/\b<80)):=show∀f∈fl,_ from fun f hf b hb=>by
  obtain⟨⟨_,_,h80⟩,h2,_⟩:=(stW_zero fl cnt).1 hst
  rcases(h2 f hf).2.2 b hb with h | h
  ·exact .inl h
  exact .inr (by omega)
 clear hst;obtain⟨n,HN⟩:∃n,Xo (fl.length=n):=⟨_,rfl⟩;rw[HN.out]at hbig⊢;obtain⟨W0,hW0⟩:∃W0,((w.alloc (Xk #[O a n c,Xe Xf cnt] 38)).alloc (Xk zGiven 114)).alloc (Xk zGiven 114)=W0:=⟨_,rfl⟩;have HG0:Xo (Grew w W0):=show Grew _ _ by rw[<-hW0];exact((grew_alloc _ _).trans (grew_alloc _ _)).trans (grew_alloc _ _)
 have X0:Xo (Box W0 w.heap.size [O a n c,Xe Xf cnt]):=show Box _ _ _ by rw[<-hW0];exact((Box.top _ _ _ rfl).alloc _).alloc _
 have Y0:Xo (Box W0 (w.heap.size+1) (marks 80 [])):=show Box _ _ _ by rw[<-hW0,marks_nil];exact(Box.top _ (Xr 80 (Xh Xd)) _ (by simp)).alloc _
 have Z0:Xo (Box W0 (w.heap.size+1+1) (marks 80 (filedTo fl 0 []))):=show Box _ _ _ by
  have:marks 80 (filedTo fl 0 [])=marks 80 []:=marks_congr fun i _=>by simp[filedTo,allB]
  rw[<-hW0,this,marks_nil];exact Box.top _ (Xr 80 (Xh Xd)) _ (by simp)
 have HW0:Xo (_=W0):=hW0;clear hW0
 go_enter Tryz.func62,Tryz.ntmps62
 go_upto_region 2 with fail;rw[HW0.out];clear hz;have x0:=X0.out.c 0 rfl;go_wp2;clear x0
 go_loopg [5,11] n (fun gg _ s11 wr=>∃i:Nat,i<=n/\n - i<=gg/\s11= Xe Xf i/\Xo (Grew w wr)/\Xo (Box wr (w.heap.size+1) (marks 80 []))/\Xo (Box wr (w.heap.size+1+1) (marks 80 (filedTo fl i []))))
 case atStart=>exact⟨0,nZ _,by omega,rfl,HG0.out,Y0.out,Z0.out⟩
 obtain⟨i,hi,hgg,rfl,BW,YW,ZW⟩:=hrel;clear X0 Y0 Z0
 by_cases hlt:i<n
 ·have hltz:(i:Int)< (n:Int):=by omega
  obtain⟨f,HF⟩:∃f,Xo (fl[i]? =Xa f):=⟨_,gE (by rw[HN.out];exact hlt)⟩
  obtain⟨ad,rfl,xa,xc,hr2,hl⟩:=HR.out i f HF.out;obtain⟨d0,d1⟩:=hl wr BW.out;obtain⟨_,_,heq,hnr⟩:=hr2.nums;have hq:=hr2.short;have HNR:Xo (NumRows w xa f.bl):=show NumRows _ _ _ by
   simp only[vJ]at heq;rw[heq.1];exact hnr
  clear heq hnr hr2 hl;obtain⟨q,HQ⟩:∃q,Xo (f.bl.length=q):=⟨_,rfl⟩;rw[HQ.out]at d1 hq;go_upto_region 5 with fail;obtain⟨W1,hW1⟩:∃W1,wr.alloc (Xk #[Xe Xf f.size,O xa q xc] 158)=W1:=⟨_,rfl⟩;have HG1:=gT hW1 BW
  have F1:=xA hW1
  have Y1:=yA hW1 YW
  have Z1:=yA hW1 ZW
  rw[hW1];clear hW1 d0 d1;have f1:=F1.out.c 1 rfl;go_wp2;clear f1;have HBW:Xo (Grew w wr):=BW;clear BW YW ZW
  go_loopg [7,18] q (fun gg _ s18 wr=>∃j:Nat,j<=q/\q - j<=gg/\s18= Xe Xf j/\Xo (Grew w wr)/\Xo (Box wr (w.heap.size+1) (marks 80 []))/\Xo (Box wr (w.heap.size+1+1) (marks 80 (filedTo fl i (f.bl.take j)))))
  case atStart=>exact⟨0,nZ _,by omega,rfl,HG1.out,Y1.out,by rw[Yd];exact Z1.out⟩
  obtain⟨j,hj,hg2,rfl,BW,YW,ZW⟩:=hrel;clear F1 Y1 Z1
  by_cases hlt2:j<q
  ·have hltz2:(j:Int)< (q:Int):=by omega
   obtain⟨b,HBJ⟩:∃b,Xo (f.bl[j]? =Xa b):=⟨_,gE (by rw[HQ.out];exact hlt2)⟩
   obtain⟨ad2,rfl,hl2⟩:=HNR.out j b HBJ.out;have e0:=hl2 wr BW.out;have HRB:Xo (b=-1\/(0<=b/\b<80)):=HB.out f (mG HF.out) b (mG HBJ.out);have HTS:Xo (f.bl.take (j+1)=f.bl.take j++ [b]):=take_snoc HBJ.out;clear hl2
   by_cases hb:0<=b
   ·obtain⟨k,rfl⟩:∃k:Nat,b=(k:Int):=⟨b.toNat,by omega⟩
    have hk80:k<80:=by have:=HRB.out;omega
    have z0:=ZW.out.c k (marks_at _ hk80);have zf:=ZW.out.f;have Z2:Xo (Box (wr.setCell ⟨w.heap.size+1+1,k,Xb⟩ (Xh Xc)) (w.heap.size+1+1) (marks 80 (filedTo fl i (f.bl.take (j+1))))):=show Box _ _ _ by
     rw[HTS.out,<-filed_put,<-marks_set _ hk80];exact ZW.out.set k _
    have Y2:Xo (Box (wr.setCell ⟨w.heap.size+1+1,k,Xb⟩ (Xh Xc)) (w.heap.size+1) (marks 80 [])):=show Box _ _ _ from YW.out.other (by simp) _
    have G2:Xo (Grew w (wr.setCell ⟨w.heap.size+1+1,k,Xb⟩ (Xh Xc))):=show Grew _ _ from grew_set BW.out (by simp;omega) _
    go_wp2
    go_roundg (q -(j+1))
    case measure=>omega
    exact⟨j+1,by omega,by omega,by go_num,G2.out,Y2.out,Z2.out⟩
   have Z2:Xo (Box wr (w.heap.size+1+1) (marks 80 (filedTo fl i (f.bl.take (j+1))))):=show Box _ _ _ by
    rw[HTS.out,filed_skip _ _ _ (by omega)]
    exact ZW.out
   go_wp2
   go_roundg (q -(j+1))
   case measure=>omega
   exact⟨j+1,by omega,by omega,by go_num,BW.out,YW.out,Z2.out⟩
  have hltz2:¬(j:Int)< (q:Int):=by omega
  have:j=q:=by omega
  subst this;have Z2:Xo (Box wr (w.heap.size+1+1) (marks 80 (filedTo fl (i+1) []))):=show Box _ _ _ by
   have h1:=ZW.out;rw[Xu (by rw[HQ.out];exact nR _),filed_next HF.out]at h1
   exact h1
  go_wp2
  go_roundg (n -(i+1))
  case measure=>omega
  exact⟨i+1,by omega,by omega,by go_num,BW.out,YW.out,Z2.out⟩
 have hltz:¬(i:Int)< (n:Int):=by omega
 have:i=n:=by omega
 subst this;obtain⟨ms,HMS⟩:∃ms,Xo (marks 80 (filedTo fl i [])=ms):=⟨_,rfl⟩;have HML:Xo (ms.length=80):=show _=_ by rw[<-HMS.out];exact marks_len _ _
 have HMO:Xo (∀v∈ms,v.oneCell'=Xc):=show∀v∈ms,_ by rw[<-HMS.out];exact marks_one _ _
 rw[HMS.out]at ZW;go_upto_region 12 with fail
 go_wp2_with (first | (refine wp_loadAll rfl 114 (.tmp 3) rfl (w.heap.size+1+1) rfl ZW.out Tryz.underlying114 rfl (by rw[HML.out];exact Tryz.sizeGiven) ?_) | (refine wp_storeAll rfl 114 (.tmp 2) (.tmp 28) rfl (w.heap.size+1) rfl ms rfl YW.out (by rw[HML.out,marks_len]) (by rw[marks_len];exact Tryz.sizeGiven) HMO.out ?_))
 intro W5 hb5 hg5 _;have G5:Xo (Grew w W5):=show Grew _ _ from grew_grown BW.out hg5 (by omega)
 go_wp2;refine bodyPost_ret (ret_cell rfl _ rfl hb5 Tryz.underlying114 rfl (by rw[HML.out];exact Tryz.sizeGiven)) rfl ⟨by rw[<-HMS.out],G5.out⟩
theorem zero_page (b0 b1 b2 b3 b4 b5 b6 b7:Int):pgEqB ⟨b0,b1,b2,b3,b4,b5,b6,b7⟩ ⟨0,0,0,0,0,0,0,0⟩=([b0,b1,b2,b3,b4,b5,b6,b7] == zero8):=by
 rw[Yb,pgEqB_iff]
 simp[zero8]
def badBlk (m:Ma) (b:Nat):Bool:=!usedB m.fl (b:Int) && !(m.db.getD b [] == zero8)
theorem blockE_no {m:Ma} (h:∀b,b<m.db.length->badBlk m b=Xd):blockE m=0:=by
 unfold blockE;rw[if_neg];rw[Xx];rintro⟨b,hb,hx⟩;have:=h b (Yg.1 hb);unfold badBlk at this;rw[this]at hx;cases hx
theorem blockE_yes {m:Ma} {b:Nat} (hb:b<m.db.length) (h:badBlk m b=Xc):blockE m=7:=by
 unfold blockE;rw[if_pos];rw[Xx];exact⟨b,Yg.2 hb,h⟩
theorem queueE_no {m:Ma} (h:∀(j:Nat) q,m.dq[j]? =Xa q->usedB m.fl q.1=Xc):queueE m=0:=by
 unfold queueE;rw[if_neg];rw[Xx];rintro⟨q,hq,hx⟩;obtain⟨j,hj⟩:=List.getElem?_of_mem hq;rw[h j q hj]at hx;cases hx
theorem queueE_yes {m:Ma} {j:Nat} {q:Int × List Int} (hq:m.dq[j]? =Xa q) (h:usedB m.fl q.1=Xd):queueE m=7:=by
 unfold queueE;rw[if_pos];rw[Xx];exact⟨q,mG hq,by rw[h];rfl⟩
theorem wrongL_fine {n:Nat} {qs:List (Int × List Int)} (h:wrongL n qs=0):n<=80/\∀(j:Nat) q,qs[j]? =Xa q->0<=q.1/\q.1<n:=by
 unfold wrongL at h
 split at h
 ·cases h
 split at h
 ·cases h
 split at h
 ·cases h
 rename_i h1 h2 h3
 refine⟨by omega,fun j q hq=>?_⟩
 have:(!dkInB q.1 n)=Xd:=by
  cases e:(!dkInB q.1 n)with
  | false=>rfl
  | true=>exact absurd (Xx.2 ⟨q,mG hq,e⟩) h3
 simp[dkInB]at this
 exact this
theorem filed_at {m:Ma} {b:Nat} (hb:b<80):(marks 80 (filedTo m.fl m.fl.length []))[b]? =Xa (Xh (usedB m.fl (b:Int))):=by
 rw[marks_at _ hb,filed_all]
theorem wrongDisks_any (V:MaV) (m:Ma) (w:Xn) (hm:MachAt w V m) (h1:Right1 m):
  Xp Tryz.prog 29 #[Xi #[O V.f.a V.f.n V.f.c,Xe Xf m.hand,O V.s.a V.s.n V.s.c,O V.sb.a V.sb.n V.sb.c,O V.sq.a V.sq.n V.sq.c,O V.db.a V.db.n V.db.c,O V.dq.a V.dq.n V.dq.c,O V.fl.a V.fl.n V.fl.c,Xe Xf m.cnt,O V.ca.a V.ca.n V.ca.c,O V.sp.a V.sp.n V.sp.c]] w fun e w'=>e= Xl (Xe Xf (firstE (wDisksL m)))/\Grew w w':=by
 obtain⟨vf,vs,vsb,vsq,⟨dba,dbn,dbc⟩,⟨dqa,dqn,dqc⟩,vfl,vca,vsp⟩:=V;dsimp only;have hz:=run_zGiven;obtain⟨-,n2,n3,-,n5,n6,-⟩:=hm.ns;dsimp only at n2 n3 n5 n6;have HFB:Xo (∀W,Grew w W->Xp Tryz.prog 62 #[Xi #[O vfl.a vfl.n vfl.c,Xe Xf m.cnt]] W fun e w'=>e= Xl (Xi (marks 80 (filedTo m.fl m.fl.length [])).toArray)/\Grew W w'):=show∀W,_ from fun W hW=>filedBlocks_any _ m.fl m.cnt W (hm.grew hW).fl h1.st
 have HPG:Xo (PageRows w dba m.db):=hm.pgs;have HPU:Xo (PutRows w dqa m.dq):=hm.puts;obtain⟨h80,hqs⟩:=wrongL_fine h1.dq;have HQS:Xo (∀(j:Nat) q,m.dq[j]? =Xa q->0<=q.1/\q.1<m.db.length):=hqs;have HN5:Xo (m.db.length=dbn):=n5.symm;have HN6:Xo (m.dq.length=dqn):=n6.symm;have hb6:dqn<=9223372036854775807:=by have:=hm.dq.2.2;omega
 rw[HN5.out]at h80;obtain⟨Z,HZ⟩:∃Z,Xo (firstE (wDisksL m)=Z):=⟨_,rfl⟩;rw[HZ.out];have HZ2:Xo (firstE [fitE m,blockE m,queueE m]=Z):=HZ.out;have hfit:fitE m=if vs.n≠vsb.n\/m.cnt≠(dbn:Int)then 7 else 0:=by unfold fitE;rw[n2,n3,n5]
 clear hm h1 hqs n2 n3 n5 n6;obtain⟨W0,hW0⟩:∃W0,w.alloc (Xk #[O vf.a vf.n vf.c,Xe Xf m.hand,O vs.a vs.n vs.c,O vsb.a vsb.n vsb.c,O vsq.a vsq.n vsq.c,O dba dbn dbc,O dqa dqn dqc,O vfl.a vfl.n vfl.c,Xe Xf m.cnt,O vca.a vca.n vca.c,O vsp.a vsp.n vsp.c] 42)=W0:=⟨_,rfl⟩;have HG0:=gA hW0
 have X0:=xA hW0
 have HS0:Xo (w.heap.size<W0.heap.size):=show _<_ by rw[<-hW0];simp
 have HW0:Xo (_=W0):=hW0;clear hW0
 by_cases c1:vsb.n=vs.n
 ·by_cases c2:m.cnt=(dbn:Int)
  ·have HF:Xo (fitE m=0):=show _=_ by rw[hfit,if_neg (by omega)]
   have c1e:((vsb.n:Int) !=(vs.n:Int))=Xd:=by simp[c1]
   have c2e:((dbn:Int) != m.cnt)=Xd:=by simp[c2]
   have c1f:(vsb.n != vs.n)=Xd:=by simp[c1]
   have HB0:Xo (∀b,b<m.db.length->badBlk m b=Xc->Z=7):=show∀b,_ from fun b hb h=>by rw[<-HZ2.out,firstE_cons,if_pos HF.out,firstE_cons,blockE_yes hb h];rfl
   have HB1:Xo ((∀b,b<m.db.length->badBlk m b=Xd)->∀(j:Nat) q,m.dq[j]? =Xa q->usedB m.fl q.1=Xd->Z=7):=show _->_ from fun h j q hq hu=>by rw[<-HZ2.out,firstE_cons,if_pos HF.out,firstE_cons,if_pos (blockE_no h),firstE_cons,queueE_yes hq hu];rfl
   have HB2:Xo ((∀b,b<m.db.length->badBlk m b=Xd)->(∀(j:Nat) q,m.dq[j]? =Xa q->usedB m.fl q.1=Xc)->Z=0):=show _->_ from fun h h'=>by rw[<-HZ2.out,firstE_cons,if_pos HF.out,firstE_cons,if_pos (blockE_no h),firstE_cons,queueE_no h'];rfl
   have hFB:=HFB.out W0 HG0.out;clear hfit HFB HF HZ HZ2;have HC1:Xo (vsb.n=vs.n):=c1;have HC2:Xo (m.cnt=(dbn:Int)):=c2;clear c1 c2
   go_enter Tryz.func29,Tryz.ntmps29
   go_upto_region 1 with fail;rw[HW0.out];have x2:=X0.out.c 2 rfl;have x3:=X0.out.c 3 rfl;have x5:=X0.out.c 5 rfl;have x6:=X0.out.c 6 rfl;have x7:=X0.out.c 7 rfl;have x8:=X0.out.c 8 rfl;go_upto_region 3 with fail;go_wp2_with fail;refine hFB.mono ?_;clear hFB x2 x3 x5 x6 x7 x8;rintro e W1 ⟨rfl,hg1⟩;have HG1:=dD (HG0.out.trans hg1);have X1:=dD (X0.out.grew hg1);clear hg1;obtain⟨ms,HMS⟩:∃ms,Xo (marks 80 (filedTo m.fl m.fl.length [])=ms):=⟨_,rfl⟩;have HML:Xo (ms.length=80):=show _=_ by rw[<-HMS.out];exact marks_len _ _
   have HMO:Xo (∀v∈ms,v.oneCell'=Xc):=show∀v∈ms,_ by rw[<-HMS.out];exact marks_one _ _
   have HMA:Xo (∀b:Nat,b<80->ms[b]? =Xa (Xh (usedB m.fl (b:Int)))):=show∀b:Nat,_ from fun b hb=>by rw[<-HMS.out];exact filed_at hb
   rw[HMS.out];obtain⟨W2,hW2⟩:∃W2,W1.alloc (Xk zGiven 114)=W2:=⟨_,rfl⟩;have HG2:=gT hW2 HG1
   have X2:=yA hW2 X1
   have Z2:Xo (Box W2 W1.heap.size (Xr 80 (Xh Xd))):=show Box _ _ _ by rw[<-hW2];exact Box.top _ (Xr 80 (Xh Xd)) _ rfl
   have HW2:Xo (_=W2):=hW2;clear hW2;have HLT:Xo (w.heap.size<=W1.heap.size):=show _<=_ from bS HG1.out
   have HXL:Xo (w.heap.size<W1.heap.size):=show _<_ from X1.out.lt
   go_wp2_with (first | (rw[HW2.out];refine wp_storeAll rfl 114 (.tmp 3) (.tmp 28) rfl W1.heap.size rfl ms rfl Z2.out (by rw[HML.out];simp) (by simpa using Tryz.sizeGiven) HMO.out ?_))
   intro W3 hb3 hg3 _;have HG3:Xo (Grew w W3):=show Grew _ _ from grew_grown HG2.out hg3 HLT.out
   have X3:Xo (Box W3 w.heap.size [O vf.a vf.n vf.c,Xe Xf m.hand,O vs.a vs.n vs.c,O vsb.a vsb.n vsb.c,O vsq.a vsq.n vsq.c,O dba dbn dbc,O dqa dqn dqc,O vfl.a vfl.n vfl.c,Xe Xf m.cnt,O vca.a vca.n vca.c,O vsp.a vsp.n vsp.c]):=X2.out.grown hg3 (by have:=HXL.out;omega)
   have Z3:Xo (Box W3 W1.heap.size ms):=hb3;obtain⟨p3,HP3⟩:∃p3,Xo (W1.heap.size=p3):=⟨_,rfl⟩;rw[HP3.out]at Z3⊢;clear hb3 hg3 Z2 X2 HG2 HW2 HXL HLT hz;have x5:=X3.out.c 5 rfl;go_wp2;clear x5;obtain⟨n,HN⟩:∃n,Xo (dbn=n):=⟨_,rfl⟩;rw[HN.out]at h80⊢
   go_loopg [33] n (fun gg s33 wr=>∃kk:Nat,kk<=n/\n - kk<=gg/\s33= Xe Xf kk/\Xo (Grew w wr)/\Xo (Box wr w.heap.size [O vf.a vf.n vf.c,Xe Xf m.hand,O vs.a vs.n vs.c,O vsb.a vsb.n vsb.c,O vsq.a vsq.n vsq.c,O dba dbn dbc,O dqa dqn dqc,O vfl.a vfl.n vfl.c,Xe Xf m.cnt,O vca.a vca.n vca.c,O vsp.a vsp.n vsp.c])/\Xo (Box wr p3 ms)/\Xo (∀b,b<kk->badBlk m b=Xd))
   case atStart=>exact⟨0,nZ _,by omega,rfl,HG3.out,X3.out,Z3.out,fun b hb=>absurd hb (nL _)⟩
   obtain⟨kk,hkk,hgg,rfl,BW,XW,ZW,OW⟩:=hrel;clear X3 Z3 HG3
   by_cases hlt:kk<n
   ·have hltz:(kk:Int)< (n:Int):=by omega
    have hk80:kk<80:=by omega
    have HKL:Xo (kk<m.db.length):=show _<_ by rw[HN5.out,HN.out];exact hlt
    obtain⟨p,HP⟩:∃p,Xo (m.db[kk]? =Xa p):=⟨_,gE HKL.out⟩;obtain⟨ad,b0,b1,b2,b3,b4,b5,b6,b7,rfl,rfl,hl⟩:=HPG.out kk p HP.out;have HBD:Xo (badBlk m kk=(!usedB m.fl (kk:Int) && !([b0,b1,b2,b3,b4,b5,b6,b7] == zero8))):=show _=_ by unfold badBlk;rw[gD,HP.out];rfl
    obtain⟨d0,d1,d2,d3,d4,d5,d6,d7⟩:=hl wr BW.out;have hqp:=fun W=>page_eq_at 9998 b0 b1 b2 b3 b4 b5 b6 b7 0 0 0 0 0 0 0 0 W
    simp only[zero_page]at hqp;obtain⟨U,HU⟩:∃U,Xo (usedB m.fl (kk:Int)=U):=⟨_,rfl⟩;have hmu:=HMA.out kk hk80;rw[HU.out]at hmu;rw[HU.out]at HBD;obtain⟨PZ,HPZ⟩:∃PZ,Xo (([b0,b1,b2,b3,b4,b5,b6,b7] == zero8)=PZ):=⟨_,rfl⟩;rw[HPZ.out]at hqp HBD;clear hl;go_upto_region 7 with fail;obtain⟨W4,hW4⟩:∃W4,wr.alloc (Xk #[Xe Xg b0,Xe Xg b1,Xe Xg b2,Xe Xg b3,Xe Xg b4,Xe Xg b5,Xe Xg b6,Xe Xg b7] 91)=W4:=⟨_,rfl⟩;have HG4:=gT hW4 BW
    have X4:=yA hW4 XW
    have Z4:=yA hW4 ZW
    have P4:=xA hW4
    rw[hW4];clear hW4 d0 d1 d2 d3 d4 d5 d6 d7;have z0:=Z4.out.c kk hmu;obtain⟨p0,p1,p2,p3,p4,p5,p6,p7⟩:=P4.out.c8;clear hmu
    cases U with
    | true=>
     have HB:Xo (badBlk m kk=Xd):=show _=_ by rw[HBD.out];rfl
     have OW':Xo (∀b,b<kk+1->badBlk m b=Xd):=show∀b,_ from fun b hb=>by
      by_cases e:b=kk
      ·rw[e];exact HB.out
      exact OW.out b (by omega)
     clear p0 p1 p2 p3 p4 p5 p6 p7 hqp;go_wp2
     go_roundg (n -(kk+1))
     case measure=>omega
     exact⟨kk+1,by omega,by omega,by go_num,HG4.out,X4.out,Z4.out,OW'.out⟩
    | false=>
     cases PZ with
     | true=>
      have HB:Xo (badBlk m kk=Xd):=show _=_ by rw[HBD.out];rfl
      have OW':Xo (∀b,b<kk+1->badBlk m b=Xd):=show∀b,_ from fun b hb=>by
       by_cases e:b=kk
       ·rw[e];exact HB.out
       exact OW.out b (by omega)
      go_wp2
      go_roundg (n -(kk+1))
      case measure=>omega
      exact⟨kk+1,by omega,by omega,by go_num,HG4.out,X4.out,Z4.out,OW'.out⟩
     | false=>
      have HE:Xo (Z=7):=HB0.out kk HKL.out (by rw[HBD.out];rfl)
      go_wp2;go_ret;exact⟨by rw[HE.out];rfl,HG4.out⟩
   have hltz:¬(kk:Int)< (n:Int):=by omega
   have:kk=n:=by omega
   subst this;have OA:Xo (∀b,b<m.db.length->badBlk m b=Xd):=show∀b,_ from fun b hb=>OW.out b (by rw[<-HN.out,<-HN5.out];exact hb)
   have x6:=XW.out.c 6 rfl;go_wp2;clear x6;obtain⟨n2,HN2⟩:∃n2,Xo (dqn=n2):=⟨_,rfl⟩;rw[HN2.out]at hb6⊢;have HBW:Xo (Grew w wr):=BW;have HZW:Xo (Box wr p3 ms):=ZW;clear BW XW ZW OW
   go_loopg [52] n2 (fun gg s52 wr=>∃j:Nat,j<=n2/\n2 - j<=gg/\s52= Xe Xf j/\Xo (Grew w wr)/\Xo (Box wr p3 ms)/\Xo (∀(i:Nat) q,i<j->m.dq[i]? =Xa q->usedB m.fl q.1=Xc))
   case atStart=>exact⟨0,nZ _,by omega,rfl,HBW.out,HZW.out,fun i q hi=>absurd hi (nL _)⟩
   obtain⟨j,hj,hg2,rfl,BW,ZW,OW⟩:=hrel;clear HBW HZW
   by_cases hlt2:j<n2
   ·have hltz2:(j:Int)< (n2:Int):=by omega
    obtain⟨q,HQ⟩:∃q,Xo (m.dq[j]? =Xa q):=⟨_,gE (by rw[HN6.out,HN2.out];exact hlt2)⟩
    obtain⟨ad,mm,b0,b1,b2,b3,b4,b5,b6,b7,rfl,rfl,hl⟩:=HPU.out j q HQ.out;obtain⟨r0,r1⟩:=HQS.out j _ HQ.out;simp only at r0 r1;obtain⟨b,rfl⟩:∃b:Nat,mm=(b:Int):=⟨mm.toNat,by omega⟩
    have hk80:b<80:=by rw[HN5.out,HN.out]at r1;omega
    obtain⟨d0,d1,d2,d3,d4,d5,d6,d7,d8⟩:=hl wr BW.out;obtain⟨U,HU⟩:∃U,Xo (usedB m.fl (b:Int)=U):=⟨_,rfl⟩;have hmu:=HMA.out b hk80;rw[HU.out]at hmu;clear hl r0 r1;go_upto_region 13 with fail;obtain⟨W4,hW4⟩:∃W4,wr.alloc (Xk #[Xe Xf (b:Int),Xe Xg b0,Xe Xg b1,Xe Xg b2,Xe Xg b3,Xe Xg b4,Xe Xg b5,Xe Xg b6,Xe Xg b7] 117)=W4:=⟨_,rfl⟩;have HG4:=gT hW4 BW
    have Z4:=yA hW4 ZW
    have P4:=xA hW4
    rw[hW4];clear hW4 d0 d1 d2 d3 d4 d5 d6 d7 d8;have z0:=Z4.out.c b hmu;have p0:=P4.out.c 0 rfl;clear hmu
    cases U with
    | true=>
     have OW':Xo (∀(i:Nat) q,i<j+1->m.dq[i]? =Xa q->usedB m.fl q.1=Xc):=show∀(i:Nat) q,_ from fun i q hi hq=>by
      by_cases e:i=j
      ·subst e;rw[HQ.out]at hq;cases hq;exact HU.out
      exact OW.out i q (by omega) hq
     go_wp2
     go_roundg (n2 -(j+1))
     case measure=>omega
     exact⟨j+1,by omega,by omega,by go_num,HG4.out,Z4.out,OW'.out⟩
    | false=>
     have HE:Xo (Z=7):=HB1.out OA.out j _ HQ.out HU.out;go_wp2;go_ret;exact⟨by rw[HE.out];rfl,HG4.out⟩
   have hltz2:¬(j:Int)< (n2:Int):=by omega
   have:j=n2:=by omega
   subst this;have HE:Xo (Z=0):=HB2.out OA.out fun i q hq=>OW.out i q (by rw[<-HN2.out,<-HN6.out];exact(gS.1 hq).1) hq
   go_wp2;go_ret;exact⟨by rw[HE.out];rfl,BW.out⟩
  have HE:Xo (Z=7):=show _=_ by
   have hf7:fitE m=7:=by rw[hfit,if_pos (.inr c2)]
   rw[<-HZ2.out,firstE_cons,hf7];rfl
  have c1e:((vsb.n:Int) !=(vs.n:Int))=Xd:=by simp[c1]
  have c1f:(vsb.n != vs.n)=Xd:=by simp[c1]
  have c2e:((dbn:Int) != m.cnt)=Xc:=by simp;omega
  clear c1 c2 hfit
  go_enter Tryz.func29,Tryz.ntmps29
  go_upto_region 1 with fail;rw[HW0.out];have x2:=X0.out.c 2 rfl;have x3:=X0.out.c 3 rfl;have x5:=X0.out.c 5 rfl;have x8:=X0.out.c 8 rfl;go_wp2;go_ret;exact⟨by rw[HE.out];rfl,HG0.out⟩
 have HE:Xo (Z=7):=show _=_ by
  have hf7:fitE m=7:=by rw[hfit,if_pos (.inl (fun e=>c1 e.symm))]
  rw[<-HZ2.out,firstE_cons,hf7];rfl
 have c1e:((vsb.n:Int) !=(vs.n:Int))=Xc:=by simp;omega
 have c1f:(vsb.n != vs.n)=Xc:=by simp[c1]
 clear c1 hfit
 go_enter Tryz.func29,Tryz.ntmps29
 go_upto_region 1 with fail;rw[HW0.out];have x2:=X0.out.c 2 rfl;have x3:=X0.out.c 3 rfl;go_wp2;go_ret;exact⟨by rw[HE.out];rfl,HG0.out⟩
theorem frE_prog {m:Ma} (hca:caGo m Xb m.ca=0) (k:Nat):frE m k=if(frAt m k).r≠heldTo m m.sp.length [] sp00 (1,(k:Int))\/(0<=(frAt m k).f/\¬idxG m.ca ((frAt m k).f,(frAt m k).x)=Xa (k:Int))then 7 else 0:=by
 unfold frE;rw[held_all m sp00 (k:Int) (by decide:(1:Int)≠0),if_pos rfl]
 have:=has_cached hca k
 by_cases h:cachedN m.ca k=0
 ·have h2:¬idxG m.ca ((frAt m k).f,(frAt m k).x)=Xa (k:Int):=fun e=>(this.1 e) h
  simp only[h,h2,not_false_iff,and_true]
 have h2:idxG m.ca ((frAt m k).f,(frAt m k).x)=Xa (k:Int):=this.2 h;simp only[h,h2,not_true,and_false]
theorem sloE_prog (m:Ma) (k:Nat):sloE m k=if m.sl.getD k 0≠heldTo m m.sp.length [] sp00 (2,(k:Int))then 7 else 0:=by
 unfold sloE;have h:=held_all m sp00 (k:Int) (by decide:(2:Int)≠0)
 have h2:¬(2:Int)=1:=by decide
 rw[if_neg h2,Nat.add_zero]at h;rw[h]
theorem wrongCounts_any (V:MaV) (m:Ma) (w:Xn) (hm:MachAt w V m) (hca:caGo m Xb m.ca=0) (hsp4:m.sp.length<=4) (htb:∀s∈m.sp,tbW s.tb=0):
  Xp Tryz.prog 33 #[Xi #[O V.f.a V.f.n V.f.c,Xe Xf m.hand,O V.s.a V.s.n V.s.c,O V.sb.a V.sb.n V.sb.c,O V.sq.a V.sq.n V.sq.c,O V.db.a V.db.n V.db.c,O V.dq.a V.dq.n V.dq.c,O V.fl.a V.fl.n V.fl.c,Xe Xf m.cnt,O V.ca.a V.ca.n V.ca.c,O V.sp.a V.sp.n V.sp.c]] w fun e w'=>e= Xl (Xe Xf (wCounts m))/\Grew w w':=by
 have HWI:Xo (∀W,Grew w W->Xp Tryz.prog 70 #[Xi #[O V.f.a V.f.n V.f.c,Xe Xf m.hand,O V.s.a V.s.n V.s.c,O V.sb.a V.sb.n V.sb.c,O V.sq.a V.sq.n V.sq.c,O V.db.a V.db.n V.db.c,O V.dq.a V.dq.n V.dq.c,O V.fl.a V.fl.n V.fl.c,Xe Xf m.cnt,O V.ca.a V.ca.n V.ca.c,O V.sp.a V.sp.n V.sp.c]] W fun e w'=>∃B,e= Xl (Xi #[O V.f.a V.f.n V.f.c,Xe Xf m.hand,O V.s.a V.s.n V.s.c,O V.sb.a V.sb.n V.sb.c,O V.sq.a V.sq.n V.sq.c,O V.db.a V.db.n V.db.c,O V.dq.a V.dq.n V.dq.c,O V.fl.a V.fl.n V.fl.c,Xe Xf m.cnt,O V.ca.a V.ca.n V.ca.c,O V.sp.a V.sp.n V.sp.c,.map (Xa B)])/\MapF plK w' B (idxG m.ca)/\Grew W w'):=show∀W,_ from fun W hW=>withIndex_any V m W (hm.grew hW)
 have HHO:Xo (∀W,Grew w W->Xp Tryz.prog 71 #[Xi #[O V.f.a V.f.n V.f.c,Xe Xf m.hand,O V.s.a V.s.n V.s.c,O V.sb.a V.sb.n V.sb.c,O V.sq.a V.sq.n V.sq.c,O V.db.a V.db.n V.db.c,O V.dq.a V.dq.n V.dq.c,O V.fl.a V.fl.n V.fl.c,Xe Xf m.cnt,O V.ca.a V.ca.n V.ca.c,O V.sp.a V.sp.n V.sp.c]] W fun e w'=>∃B,e= Xl (.map (Xa B))/\MapH enK w' B (heldTo m m.sp.length [] sp00)/\Grew W w'):=show∀W,_ from fun W hW=>holders_any V m W (hm.grew hW) hsp4 htb
 have HHC:Xo (∀(B k:Nat) W,Grew w W->k<m.fs.length->MapF plK W B (idxG m.ca)->Xp Tryz.prog 72 #[Xi #[O V.f.a V.f.n V.f.c,Xe Xf m.hand,O V.s.a V.s.n V.s.c,O V.sb.a V.sb.n V.sb.c,O V.sq.a V.sq.n V.sq.c,O V.db.a V.db.n V.db.c,O V.dq.a V.dq.n V.dq.c,O V.fl.a V.fl.n V.fl.c,Xe Xf m.cnt,O V.ca.a V.ca.n V.ca.c,O V.sp.a V.sp.n V.sp.c,.map (Xa B)],Xe Xf (k:Int)] W fun e w'=>e= Xl (Xh (decide (idxG m.ca ((frAt m k).f,(frAt m k).x)=Xa (k:Int))))/\Grew W w'):=show∀(B k:Nat) W,_ from fun B k W hW hk hM=>hasCached_any V m B k (idxG m.ca) W (hm.grew hW) hk hM
 obtain⟨⟨fa,fn,fc⟩,⟨sa,sn,sc⟩,vsb,vsq,vdb,vdq,vfl,vca,vsp⟩:=V;dsimp only at HWI HHO HHC⊢;obtain⟨n1,n2,-⟩:=hm.ns;dsimp only at n1 n2;have HFR:Xo (FrRows w fa m.fs):=hm.frs;have HSL:Xo (SlRows w sa m.sl):=hm.sls;have HN1:Xo (m.fs.length=fn):=n1.symm;have HN2:Xo (m.sl.length=sn):=n2.symm;have hb1:fn<=9223372036854775807:=by have:=hm.fs.short;omega
 have hb2:sn<=9223372036854775807:=by have:=hm.sl.short;omega
 have HFE:Xo (∀k:Nat,frE m k=if(frAt m k).r≠(heldTo m m.sp.length [] sp00) (1,(k:Int))\/(0<=(frAt m k).f/\¬idxG m.ca ((frAt m k).f,(frAt m k).x)=Xa (k:Int))then 7 else 0):=show∀k:Nat,_ from fun k=>frE_prog hca k
 clear hm hca hsp4 htb n1 n2;obtain⟨Z,HZ⟩:∃Z,Xo (wCounts m=Z):=⟨_,rfl⟩;rw[HZ.out];have HZ1:Xo (∀k:Nat,k<m.fs.length->(∀j:Nat,j<k->frE m j=0)->frE m k=7->Z=7):=show∀k:Nat,_ from fun k hk h1 h2=>by
  have h3:=firstE_range hk h1 (by rw[h2];decide)
  rw[<-HZ.out];unfold wCounts;rw[h3,h2,if_neg (by decide)]
 have HZ2:Xo ((∀j:Nat,j<m.fs.length->frE m j=0)->∀k:Nat,k<m.sl.length->(∀j:Nat,j<k->sloE m j=0)->sloE m k=7->Z=7):=show _->_ from fun h0 k hk h1 h2=>by
  have h3:=firstE_range hk h1 (by rw[h2];decide)
  rw[<-HZ.out];unfold wCounts;rw[firstE_range_all h0,if_pos rfl,h3,h2]
 have HZ3:Xo ((∀j:Nat,j<m.fs.length->frE m j=0)->(∀j:Nat,j<m.sl.length->sloE m j=0)->Z=0):=show _->_ from fun h0 h1=>by
  rw[<-HZ.out];unfold wCounts;rw[firstE_range_all h0,if_pos rfl,firstE_range_all h1]
 clear HZ;obtain⟨W0,hW0⟩:∃W0,w.alloc (Xk #[O fa fn fc,Xe Xf m.hand,O sa sn sc,O vsb.a vsb.n vsb.c,O vsq.a vsq.n vsq.c,O vdb.a vdb.n vdb.c,O vdq.a vdq.n vdq.c,O vfl.a vfl.n vfl.c,Xe Xf m.cnt,O vca.a vca.n vca.c,O vsp.a vsp.n vsp.c] 42)=W0:=⟨_,rfl⟩;have HG0:=gA hW0
 have X0:=xA hW0
 have HW0:Xo (_=W0):=hW0;clear hW0
 go_enter Tryz.func33,Tryz.ntmps33
 go_upto_region 1 with fail;rw[HW0.out];have hx0:=X0.out.gw 0 rfl
 have hx1:=X0.out.gw 1 rfl
 have hx2:=X0.out.gw 2 rfl
 have hx3:=X0.out.gw 3 rfl
 have hx4:=X0.out.gw 4 rfl
 have hx5:=X0.out.gw 5 rfl
 have hx6:=X0.out.gw 6 rfl
 have hx7:=X0.out.gw 7 rfl
 have hx8:=X0.out.gw 8 rfl
 have hx9:=X0.out.gw 9 rfl
 have hx10:=X0.out.gw 10 rfl
 have hne:Nonempty (GrownW W0):=⟨⟨_,Grew.refl _⟩⟩;refine wp_lax_tail 5 [(1,⟨fun v=>∃B,v= Xi #[O fa fn fc,Xe Xf m.hand,O sa sn sc,O vsb.a vsb.n vsb.c,O vsq.a vsq.n vsq.c,O vdb.a vdb.n vdb.c,O vdq.a vdq.n vdq.c,O vfl.a vfl.n vfl.c,Xe Xf m.cnt,O vca.a vca.n vca.c,O vsp.a vsp.n vsp.c,.map (Xa B)],fun v w'=>∃B,v= Xi #[O fa fn fc,Xe Xf m.hand,O sa sn sc,O vsb.a vsb.n vsb.c,O vsq.a vsq.n vsq.c,O vdb.a vdb.n vdb.c,O vdq.a vdq.n vdq.c,O vfl.a vfl.n vfl.c,Xe Xf m.cnt,O vca.a vca.n vca.c,O vsp.a vsp.n vsp.c,.map (Xa B)]/\MapF plK w' B (idxG m.ca)⟩),(3,⟨fun v=>∃B,v= .map (Xa B),fun v w'=>∃B,v= .map (Xa B)/\MapH enK w' B (heldTo m m.sp.length [] sp00)⟩),(4,⟨fun v=>∃p,v= Xj (Xa ⟨p,0,Xb⟩),fun v w'=>∃p,v= Xj (Xa ⟨p,0,Xb⟩)/\Box w' p [O Xb 0 0,Xe Xf 0,O Xb 0 0,O Xb 0 0,O Xb 0 0,O Xb 0 0,O Xb 0 0,O Xb 0 0,Xe Xf 0,O Xb 0 0,O Xb 0 0,.map Xb]/\w.heap.size<=p⟩)] mixed (by kernel_rfl) rfl rfl (by decide) ?hS ?hp ?_
 case hS=>
  intro x hx;simp only[mC,nM,or_false]at hx
  rcases hx with rfl | rfl | rfl
  ·exact⟨_,0,rfl⟩
  ·exact⟨_,0,rfl⟩
  exact⟨_,0,rfl⟩
 case hp=>
  intro x hx;simp only[mC,nM,or_false]at hx
  rcases hx with rfl | rfl | rfl
  ·exact fun _ _ _ hg h=>by obtain⟨B,h1,h2⟩:=h;exact⟨B,h1,h2.grew hg⟩
  ·exact fun _ _ _ hg h=>by obtain⟨B,h1,h2⟩:=h;exact⟨B,h1,h2.grew hg⟩
  exact fun _ _ _ hg h=>by obtain⟨p,h1,h2,h3⟩:=h;exact⟨p,h1,h2.grew hg,h3⟩
 simp only[List.take,List.drop];iterate 1 (refine lax_quiet rfl rfl rfl (fun K hK=>?_);go_big_quiet_op;refine hK _ ?_;clear hK K)
 refine lax_spec rfl rfl (fun w' hg hF=>?_) (fun v1 hv=>?_)
 ·refine Does.call [Xi #[O fa fn fc,Xe Xf m.hand,O sa sn sc,O vsb.a vsb.n vsb.c,O vsq.a vsq.n vsq.c,O vdb.a vdb.n vdb.c,O vdq.a vdq.n vdq.c,O vfl.a vfl.n vfl.c,Xe Xf m.cnt,O vca.a vca.n vca.c,O vsp.a vsp.n vsp.c]] rfl Tryz.func70 rfl rfl rfl ?_;refine(HWI.out w' (HG0.out.trans hg)).mono ?_;rintro e w'' ⟨B,rfl,hM,hg2⟩;exact⟨_,rfl,hg2,⟨B,rfl⟩,B,rfl,hM⟩
 obtain⟨B1,rfl⟩:=hv;simp only[Xv,sB,sS,sZ];iterate 1 (refine lax_quiet rfl rfl rfl (fun K hK=>?_);go_big_quiet_op;refine hK _ ?_;clear hK K)
 refine lax_spec rfl rfl (fun w' hg hF=>?_) (fun v1 hv=>?_)
 ·refine Does.call [Xi #[O fa fn fc,Xe Xf m.hand,O sa sn sc,O vsb.a vsb.n vsb.c,O vsq.a vsq.n vsq.c,O vdb.a vdb.n vdb.c,O vdq.a vdq.n vdq.c,O vfl.a vfl.n vfl.c,Xe Xf m.cnt,O vca.a vca.n vca.c,O vsp.a vsp.n vsp.c]] rfl Tryz.func71 rfl rfl rfl ?_;refine(HHO.out w' (HG0.out.trans hg)).mono ?_;rintro e w'' ⟨B,rfl,hM,hg2⟩;exact⟨_,rfl,hg2,⟨B,rfl⟩,B,rfl,hM⟩
 obtain⟨B2,rfl⟩:=hv;simp only[Xv,sB,sS,sZ];refine lax_spec rfl rfl (fun w' hg hF=>?_) (fun v1 hv=>?_)
 ·have hnew:Box (w'.alloc (Xk #[O Xb 0 0,Xe Xf 0,O Xb 0 0,O Xb 0 0,O Xb 0 0,O Xb 0 0,O Xb 0 0,O Xb 0 0,Xe Xf 0,O Xb 0 0,O Xb 0 0,.map Xb] 131)) w'.heap.size [O Xb 0 0,Xe Xf 0,O Xb 0 0,O Xb 0 0,O Xb 0 0,O Xb 0 0,O Xb 0 0,O Xb 0 0,Xe Xf 0,O Xb 0 0,O Xb 0 0,.map Xb]:=Box.top _ _ _ rfl;have hle:w.heap.size<=w'.heap.size:=bS (HG0.out.trans hg);clear hx0 hx1 hx2 hx3 hx4 hx5 hx6 hx7 hx8 hx9 hx10 hne;refine Does.step (v:= Xj (Xa ⟨w'.heap.size,0,Xb⟩)) (w':=w'.alloc (Xk #[O Xb 0 0,Xe Xf 0,O Xb 0 0,O Xb 0 0,O Xb 0 0,O Xb 0 0,O Xb 0 0,O Xb 0 0,Xe Xf 0,O Xb 0 0,O Xb 0 0,.map Xb] 131)) (by simp only[execOp];go_simp) ⟨grew_alloc _ _,⟨_,rfl⟩,_,rfl,hnew,hle⟩
 obtain⟨p3,rfl⟩:=hv;simp only[Xv,sB,sS,sZ];refine lax_nil fun W3 hg3 hF=>?_
 obtain⟨B1',he1,hM1⟩:∃B,(Value.agg #[O fa fn fc,Xe Xf m.hand,O sa sn sc,O vsb.a vsb.n vsb.c,O vsq.a vsq.n vsq.c,O vdb.a vdb.n vdb.c,O vdq.a vdq.n vdq.c,O vfl.a vfl.n vfl.c,Xe Xf m.cnt,O vca.a vca.n vca.c,O vsp.a vsp.n vsp.c,.map (Xa B1)])= Xi #[O fa fn fc,Xe Xf m.hand,O sa sn sc,O vsb.a vsb.n vsb.c,O vsq.a vsq.n vsq.c,O vdb.a vdb.n vdb.c,O vdq.a vdq.n vdq.c,O vfl.a vfl.n vfl.c,Xe Xf m.cnt,O vca.a vca.n vca.c,O vsp.a vsp.n vsp.c,.map (Xa B)]/\MapF plK W3 B (idxG m.ca):=hF 1;obtain⟨B2',he2,hM2⟩:∃B,(Value.map (Xa B2))= .map (Xa B)/\MapH enK W3 B (heldTo m m.sp.length [] sp00):=hF 3;obtain⟨p3',he3,hB3,hle3⟩:∃p,(Value.pointer (Xa ⟨p3,0,Xb⟩))= Xj (Xa ⟨p,0,Xb⟩)/\Box W3 p [O Xb 0 0,Xe Xf 0,O Xb 0 0,O Xb 0 0,O Xb 0 0,O Xb 0 0,O Xb 0 0,O Xb 0 0,Xe Xf 0,O Xb 0 0,O Xb 0 0,.map Xb]/\w.heap.size<=p:=hF 4;have e1:B1'=B1:=by simp at he1;exact he1.symm
 have e2:B2'=B2:=by simp at he2;exact he2.symm
 have e3:p3'=p3:=by simp at he3;exact he3.symm
 subst e1 e2 e3;have M1:Xo (MapF plK W3 B1' (idxG m.ca)):=hM1;have M2:Xo (MapH enK W3 B2' (heldTo m m.sp.length [] sp00)):=hM2;have Y3:Xo (Box W3 p3' [O Xb 0 0,Xe Xf 0,O Xb 0 0,O Xb 0 0,O Xb 0 0,O Xb 0 0,O Xb 0 0,O Xb 0 0,Xe Xf 0,O Xb 0 0,O Xb 0 0,.map Xb]):=hB3;have HL3:Xo (w.heap.size<=p3'):=hle3;have HG3:=dD (HG0.out.trans hg3);have X3:=dD (X0.out.grew hg3);clear he1 he2 he3 hM1 hM2 hB3 hle3 hg3 hF hx0 hx1 hx2 hx3 hx4 hx5 hx6 hx7 hx8 hx9 hx10 hne;have HXP:Xo (w.heap.size≠p3'):=show _≠_ from fun e=>by
  obtain⟨t1,h1⟩:=X3.out;obtain⟨t2,h2⟩:=Y3.out;rw[<-e,h1]at h2
  simp at h2
 go_wp2_with (refine wp_storeAll rfl 131 (.tmp 3) (.tmp 10) rfl p3' rfl [O fa fn fc,Xe Xf m.hand,O sa sn sc,O vsb.a vsb.n vsb.c,O vsq.a vsq.n vsq.c,O vdb.a vdb.n vdb.c,O vdq.a vdq.n vdq.c,O vfl.a vfl.n vfl.c,Xe Xf m.cnt,O vca.a vca.n vca.c,O vsp.a vsp.n vsp.c,.map (Xa B1')] rfl Y3.out rfl (by kernel_rfl) (fun v hv=>by
    simp only[mC,nM,or_false]at hv
    rcases hv with rfl | rfl | rfl | rfl | rfl | rfl | rfl | rfl | rfl | rfl | rfl | rfl <;> rfl) ?_)
 intro W4 hb4 hg4 _;have Y4:Xo (Box W4 p3' [O fa fn fc,Xe Xf m.hand,O sa sn sc,O vsb.a vsb.n vsb.c,O vsq.a vsq.n vsq.c,O vdb.a vdb.n vdb.c,O vdq.a vdq.n vdq.c,O vfl.a vfl.n vfl.c,Xe Xf m.cnt,O vca.a vca.n vca.c,O vsp.a vsp.n vsp.c,.map (Xa B1')]):=hb4;have X4:Xo (Box W4 w.heap.size [O fa fn fc,Xe Xf m.hand,O sa sn sc,O vsb.a vsb.n vsb.c,O vsq.a vsq.n vsq.c,O vdb.a vdb.n vdb.c,O vdq.a vdq.n vdq.c,O vfl.a vfl.n vfl.c,Xe Xf m.cnt,O vca.a vca.n vca.c,O vsp.a vsp.n vsp.c]):=X3.out.grown hg4 HXP.out;have N1:Xo (MapF plK W4 B1' (idxG m.ca)):=M1.out.kept hg4 (fun e=>by cases e;exact Y3.out.ne_map M1.out rfl)
 have N2:Xo (MapH enK W4 B2' (heldTo m m.sp.length [] sp00)):=show MapH _ _ _ _ by
  obtain⟨g,k1,k2⟩:=M2.out;exact⟨g,k1.kept hg4 (fun e=>by cases e;exact Y3.out.ne_map k1 rfl),k2⟩
 have HG4:Xo (Grew w W4):=show Grew _ _ from grew_grown HG3.out hg4 HL3.out
 clear hb4 hg4 M1 M2 Y3 X3;have x0:=X4.out.c 0 rfl;go_wp2;clear x0
 go_loopg [17] fn (fun gg s17 wr=>∃kk:Nat,kk<=fn/\fn - kk<=gg/\s17= Xe Xf kk/\Xo (Grew W4 wr)/\Xo (∀j:Nat,j<kk->frE m j=0))
 case atStart=>exact⟨0,nZ _,by omega,rfl,Grew.refl _,fun j hj=>absurd hj (nL _)⟩
 obtain⟨kk,hkk,hgg,rfl,BW,OW⟩:=hrel
 by_cases hlt:kk<fn
 ·have hltz:(kk:Int)< (fn:Int):=by omega
  have HKL:Xo (kk<m.fs.length):=show _<_ by rw[HN1.out];exact hlt
  obtain⟨q,HQ⟩:∃q,Xo (m.fs[kk]? =Xa q):=⟨_,gE HKL.out⟩;have HFQ:Xo (frAt m (kk:Int)=q):=show _=_ by unfold frAt;rw[tN,gD,HQ.out];rfl
  obtain⟨ad,rfl,hl⟩:=HFR.out kk q HQ.out;obtain⟨d0,d1,d2,d3,d4,d5,d6,d7,d8,d9,d10,d11,d12⟩:=hl wr (HG4.out.trans BW.out);clear hl;go_upto_region 5 with fail;obtain⟨W5,hW5⟩:∃W5,wr.alloc (Xk #[Xe Xg q.p.b0,Xe Xg q.p.b1,Xe Xg q.p.b2,Xe Xg q.p.b3,Xe Xg q.p.b4,Xe Xg q.p.b5,Xe Xg q.p.b6,Xe Xg q.p.b7,Xe Xf q.r,Xh q.u,Xh q.d,Xe Xf q.f,Xe Xf q.x] 93)=W5:=⟨_,rfl⟩;have HG5:=gT hW5 BW
  have HGw5:=dD (HG4.out.trans HG5.out);have F5:=xA hW5
  have Y5:=dD (Y4.out.grew HG5.out);rw[hW5];clear hW5 d0 d1 d2 d3 d4 d5 d6 d7 d8 d9 d10 d11 d12;obtain⟨pf,HPF⟩:∃pf,Xo (wr.heap.size=pf):=⟨_,rfl⟩;rw[HPF.out]at F5⊢;obtain⟨h,HHK⟩:∃h,Xo ((heldTo m m.sp.length [] sp00) (1,(kk:Int))=h):=⟨_,rfl⟩;have hlk:∀y:GrownW W5,(Instr.lookup 133 (.map (Xa B2')) (Xi #[Xe Xf 1,Xe Xf (kk:Int),Xh Xd]) Xd).run Tryz.prog y.world= .ok (Xe Xf h) y.world:=fun y=>by
   have:=(N2.out.grew (HG5.out.trans y.grew)).look (K:=enK) Tryz.underlying133 (Tryz.zeroInt _) (1,(kk:Int));rw[HHK.out]at this;exact this
  have hf8:=F5.out.gw 8 rfl
  have hf11:=F5.out.gw 11 rfl
  have hy0:=Y5.out.gw 0 rfl
  have hy1:=Y5.out.gw 1 rfl
  have hy2:=Y5.out.gw 2 rfl
  have hy3:=Y5.out.gw 3 rfl
  have hy4:=Y5.out.gw 4 rfl
  have hy5:=Y5.out.gw 5 rfl
  have hy6:=Y5.out.gw 6 rfl
  have hy7:=Y5.out.gw 7 rfl
  have hy8:=Y5.out.gw 8 rfl
  have hy9:=Y5.out.gw 9 rfl
  have hy10:=Y5.out.gw 10 rfl
  have hy11:=Y5.out.gw 11 rfl
  have hne:Nonempty (GrownW W5):=⟨⟨_,Grew.refl _⟩⟩;have HFK:=HFE.out kk;rw[HFQ.out,HHK.out]at HFK
  by_cases hr:q.r=h
  ·have hre:(q.r != h)=Xd:=by simp[hr]
   by_cases hf0:0<=q.f
   ·have hf0d:decide (0<=q.f)=Xc:=by simpa using hf0
    obtain⟨U,HU⟩:∃U,Xo (decide (idxG m.ca ((frAt m (kk:Int)).f,(frAt m (kk:Int)).x)=Xa (kk:Int))=U):=⟨_,rfl⟩;have HUF:Xo (frE m kk=if U=Xc then 0 else 7):=show _=_ by
     have h1:=HU.out;rw[HFQ.out]at h1;rw[HFK,<-h1]
     by_cases hc:idxG m.ca (q.f,q.x)=Xa (kk:Int)
     ·rw[if_neg (by simp[hr,hc]),if_pos (by simpa using hc)]
     rw[if_pos (.inr ⟨hf0,hc⟩),if_neg (by simpa using hc)]
    have HCC:Xo (∀W,Grew W4 W->Xp Tryz.prog 72 #[Xi #[O (Xa ad) fn fc,Xe Xf m.hand,O sa sn sc,O vsb.a vsb.n vsb.c,O vsq.a vsq.n vsq.c,O vdb.a vdb.n vdb.c,O vdq.a vdq.n vdq.c,O vfl.a vfl.n vfl.c,Xe Xf m.cnt,O vca.a vca.n vca.c,O vsp.a vsp.n vsp.c,.map (Xa B1')],Xe Xf (kk:Int)] W fun e w'=>e= Xl (Xh U)/\Grew W w'):=show∀W,_ from fun W hW=>by
     have h1:=HHC.out B1' kk W (HG4.out.trans hW) HKL.out (N1.out.grew hW);rw[HU.out]at h1;exact h1
    clear hr hf0 HFK;refine wp_lax [(14,⟨fun v=>v= Xh U,fun v w'=>True⟩)] mixed (by kernel_rfl) ?hS ?hp ?_
    case hS=>
     intro x hx;simp only[mC,nM,or_false]at hx;subst hx;exact⟨_,rfl⟩
    case hp=>
     intro x hx;simp only[mC,nM,or_false]at hx;subst hx;exact fun _ _ _ _ h=>h
    iterate 14 (refine lax_quiet rfl rfl rfl (fun K hK=>?_);go_big_quiet_op;refine hK _ ?_;clear hK K)
    refine lax_spec rfl rfl (fun w' hg hF=>?_) (fun v1 hv=>?_)
    ·refine Does.call [Xi #[O (Xa ad) fn fc,Xe Xf m.hand,O sa sn sc,O vsb.a vsb.n vsb.c,O vsq.a vsq.n vsq.c,O vdb.a vdb.n vdb.c,O vdq.a vdq.n vdq.c,O vfl.a vfl.n vfl.c,Xe Xf m.cnt,O vca.a vca.n vca.c,O vsp.a vsp.n vsp.c,.map (Xa B1')],Xe Xf (kk:Int)] rfl Tryz.func72 rfl rfl rfl ?_;refine(HCC.out w' (HG5.out.trans hg)).mono ?_;rintro e w'' ⟨rfl,hg3⟩;exact⟨_,rfl,hg3,rfl,trivial⟩
    subst hv;simp only[Xv,sB,sS,sZ];iterate 3 (refine lax_quiet rfl rfl rfl (fun K hK=>?_);go_big_quiet_op;refine hK _ ?_;clear hK K)
    refine lax_nil fun W6 hg6 hF=>?_
    have HG6:=dD (HG5.out.trans hg6);clear hg6 hF hlk hf8 hf11 hy0 hy1 hy2 hy3 hy4 hy5 hy6 hy7 hy8 hy9 hy10 hy11 hne
    cases U with
    | true=>
     have OW':Xo (∀j:Nat,j<kk+1->frE m j=0):=show∀j:Nat,_ from fun j hj=>by
      by_cases e:j=kk
      ·rw[e,HUF.out,if_pos rfl]
      exact OW.out j (by omega)
     go_wp2
     go_roundg (fn -(kk+1))
     case measure=>omega
     exact⟨kk+1,by omega,by omega,by go_num,HG6.out,OW'.out⟩
    | false=>
     have HZE:Xo (Z=7):=HZ1.out kk HKL.out OW.out (by rw[HUF.out,if_neg (by decide)])
     have HGW:=dD (HG4.out.trans HG6.out);go_wp2;go_ret;exact⟨by rw[HZE.out];rfl,HGW.out⟩
   have hf0d:decide (0<=q.f)=Xd:=by simpa using hf0
   have HFZ:Xo (frE m kk=0):=show _=_ by rw[HFK,if_neg (by simp[hr,hf0])]
   have OW':Xo (∀j:Nat,j<kk+1->frE m j=0):=show∀j:Nat,_ from fun j hj=>by
    by_cases e:j=kk
    ·rw[e];exact HFZ.out
    exact OW.out j (by omega)
   clear hr hf0 HFK;refine wp_lax [] mixed (by kernel_rfl) (by simp) (by simp) ?_
   iterate 12 (refine lax_quiet rfl rfl rfl (fun K hK=>?_);go_big_quiet_op;refine hK _ ?_;clear hK K)
   refine lax_skip ?_ ?_
   ·kernel_rfl
   simp only[Xv,sB,sS,sZ];refine lax_skip ?_ ?_
   ·kernel_rfl
   simp only[Xv,sB,sS,sZ];refine lax_skip ?_ ?_
   ·kernel_rfl
   simp only[Xv,sB,sS,sZ];refine lax_skip ?_ ?_
   ·kernel_rfl
   simp only[Xv,sB,sS,sZ];iterate 2 (refine lax_quiet rfl rfl rfl (fun K hK=>?_);go_big_quiet_op;refine hK _ ?_;clear hK K)
   refine lax_nil fun W6 hg6 hF=>?_
   have HG6:=dD (HG5.out.trans hg6);clear hg6 hF hlk hf8 hf11 hy0 hy1 hy2 hy3 hy4 hy5 hy6 hy7 hy8 hy9 hy10 hy11 hne;go_wp2
   go_roundg (fn -(kk+1))
   case measure=>omega
   exact⟨kk+1,by omega,by omega,by go_num,HG6.out,OW'.out⟩
  have hre:(q.r != h)=Xc:=by simp[hr]
  have HZE:Xo (Z=7):=HZ1.out kk HKL.out OW.out (by rw[HFK,if_pos (.inl hr)])
  clear hr HFK;refine wp_lax [] mixed (by kernel_rfl) (by simp) (by simp) ?_
  iterate 8 (refine lax_quiet rfl rfl rfl (fun K hK=>?_);go_big_quiet_op;refine hK _ ?_;clear hK K)
  refine lax_skip ?_ ?_
  ·kernel_rfl
  simp only[Xv,sB,sS,sZ];refine lax_skip ?_ ?_
  ·kernel_rfl
  simp only[Xv,sB,sS,sZ];refine lax_skip ?_ ?_
  ·kernel_rfl
  simp only[Xv,sB,sS,sZ];refine lax_skip ?_ ?_
  ·kernel_rfl
  simp only[Xv,sB,sS,sZ];refine lax_skip ?_ ?_
  ·kernel_rfl
  simp only[Xv,sB,sS,sZ];refine lax_skip ?_ ?_
  ·kernel_rfl
  simp only[Xv,sB,sS,sZ];refine lax_skip ?_ ?_
  ·kernel_rfl
  simp only[Xv,sB,sS,sZ];refine lax_skip ?_ ?_
  ·kernel_rfl
  simp only[Xv,sB,sS,sZ];refine lax_skip ?_ ?_
  ·kernel_rfl
  simp only[Xv,sB,sS,sZ];iterate 1 (refine lax_quiet rfl rfl rfl (fun K hK=>?_);go_big_quiet_op;refine hK _ ?_;clear hK K)
  refine lax_nil fun W6 hg6 hF=>?_
  have HG6:=dD (HGw5.out.trans hg6);clear hg6 hF hlk hf8 hf11 hy0 hy1 hy2 hy3 hy4 hy5 hy6 hy7 hy8 hy9 hy10 hy11 hne;go_wp2;go_ret;exact⟨by rw[HZE.out];rfl,HG6.out⟩
 have hltz:¬(kk:Int)< (fn:Int):=by omega
 have:kk=fn:=by omega
 subst this;have OA:Xo (∀j:Nat,j<m.fs.length->frE m j=0):=show∀j:Nat,_ from fun j hj=>OW.out j (by rw[<-HN1.out];exact hj)
 have x2:=(X4.out.grew BW.out).c 2 rfl;go_wp2;clear x2;have HBW:Xo (Grew W4 wr):=BW;clear BW OW
 go_loopg [44] sn (fun gg s44 wr=>∃i:Nat,i<=sn/\sn - i<=gg/\s44= Xe Xf i/\Xo (Grew W4 wr)/\Xo (∀j:Nat,j<i->sloE m j=0))
 case atStart=>exact⟨0,nZ _,by omega,rfl,HBW.out,fun j hj=>absurd hj (nL _)⟩
 obtain⟨i,hi,hg2,rfl,BW,OW⟩:=hrel;clear HBW
 by_cases hlt2:i<sn
 ·have hltz2:(i:Int)< (sn:Int):=by omega
  have HKL:Xo (i<m.sl.length):=show _<_ by rw[HN2.out];exact hlt2
  obtain⟨z,HZI⟩:∃z,Xo (m.sl[i]? =Xa z):=⟨_,gE HKL.out⟩;obtain⟨ad,rfl,hl⟩:=HSL.out i z HZI.out;have d0:=hl wr (HG4.out.trans BW.out);clear hl;obtain⟨h,HHK⟩:∃h,Xo ((heldTo m m.sp.length [] sp00) (2,(i:Int))=h):=⟨_,rfl⟩;have hlk:(Instr.lookup 133 (.map (Xa B2')) (Xi #[Xe Xf 2,Xe Xf (i:Int),Xh Xd]) Xd).run Tryz.prog wr= .ok (Xe Xf h) wr:=by
   have:=(N2.out.grew BW.out).look (K:=enK) Tryz.underlying133 (Tryz.zeroInt _) (2,(i:Int));rw[HHK.out]at this;exact this
  have HSE:Xo (sloE m i=if z≠h then 7 else 0):=show _=_ by rw[sloE_prog,gD,HZI.out,HHK.out];rfl
  by_cases hr:z=h
  ·have hre:(z != h)=Xd:=by simp[hr]
   have OW':Xo (∀j:Nat,j<i+1->sloE m j=0):=show∀j:Nat,_ from fun j hj=>by
    by_cases e:j=i
    ·rw[e,HSE.out,if_neg (by simp[hr])]
    exact OW.out j (by omega)
   clear hr;go_wp2
   go_roundg (sn -(i+1))
   case measure=>omega
   exact⟨i+1,by omega,by omega,by go_num,BW.out,OW'.out⟩
  have hre:(z != h)=Xc:=by simp[hr]
  have HZE:Xo (Z=7):=HZ2.out OA.out i HKL.out OW.out (by rw[HSE.out,if_pos hr])
  have HGW:=dD (HG4.out.trans BW.out);clear hr;go_wp2;go_ret;exact⟨by rw[HZE.out];rfl,HGW.out⟩
 have hltz2:¬(i:Int)< (sn:Int):=by omega
 have:i=sn:=by omega
 subst this;have HZE:Xo (Z=0):=HZ3.out OA.out fun j hj=>OW.out j (by rw[<-HN2.out];exact hj)
 have HGW:=dD (HG4.out.trans BW.out);go_wp2;go_ret;exact⟨by rw[HZE.out];rfl,HGW.out⟩
def chk:List Nat:=[28,29,30,31,32,33]
def chkE (m:Ma):List Int:=[firstE (wPartsL m),firstE (wDisksL m),wSpaces m,wCache m,wPages m,wCounts m]
theorem wSpaces_four {m:Ma} (h:wSpaces m=0):m.sp.length<=4:=by
 unfold wSpaces at h
 split at h
 ·cases h
 omega
theorem chk_any (V:MaV) (m:Ma) (w:Xn) (hm:MachAt w V m) (k:Nat) (hb:∀j,j<k->(chkE m)[j]?.getD 0=0) (f:Nat) (hf:chk[k]? =Xa f) (e:Int) (he:(chkE m)[k]? =Xa e):
  Xp Tryz.prog f #[Xi #[O V.f.a V.f.n V.f.c,Xe Xf m.hand,O V.s.a V.s.n V.s.c,O V.sb.a V.sb.n V.sb.c,O V.sq.a V.sq.n V.sq.c,O V.db.a V.db.n V.db.c,O V.dq.a V.dq.n V.dq.c,O V.fl.a V.fl.n V.fl.c,Xe Xf m.cnt,O V.ca.a V.ca.n V.ca.c,O V.sp.a V.sp.n V.sp.c]] w fun r w'=>r= Xl (Xe Xf e)/\Grew w w':=by
 have h1:1<=k->Right1 m:=fun h=>right1.1 (hb 0 (by omega))
 have h3:3<=k->RightSp m/\m.sp.length<=4:=fun h=>⟨rightSp (hb 2 (by omega)),wSpaces_four (hb 2 (by omega))⟩
 have h4:4<=k->caGo m Xb m.ca=0:=fun h=>hb 3 (by omega)
 match k,hf,he with
 | 0,hf,he=>cases hf;cases he;exact wrongParts_any V m w hm
 | 1,hf,he=>cases hf;cases he;exact wrongDisks_any V m w hm (h1 (by omega))
 | 2,hf,he=>cases hf;cases he;exact wrongSpaces_any V m w hm
 | 3,hf,he=>cases hf;cases he;exact wrongCache_any V m w hm (h1 (by omega))
 | 4,hf,he=>cases hf;cases he;exact wrongPagesM_any V m w hm (h1 (by omega)) (h3 (by omega)).1
 | 5,hf,he=>cases hf;cases he;exact wrongCounts_any V m w hm (h4 (by omega)) (h3 (by omega)).2 (fun s hs=>((h3 (by omega)).1 s hs).2)
 | k+6,hf,he=>simp[chk]at hf
theorem chk_enters (k f:Nat) (hf:chk[k]? =Xa f):∀args w,(callFunc f args).run Tryz.prog w= .ok (.enter f args) w:=by
 match k,hf with
 | 0,hf=>cases hf;exact enters_of Tryz.func28 (by kernel_rfl) rfl
 | 1,hf=>cases hf;exact enters_of Tryz.func29 (by kernel_rfl) rfl
 | 2,hf=>cases hf;exact enters_of Tryz.func30 (by kernel_rfl) rfl
 | 3,hf=>cases hf;exact enters_of Tryz.func31 (by kernel_rfl) rfl
 | 4,hf=>cases hf;exact enters_of Tryz.func32 (by kernel_rfl) rfl
 | 5,hf=>cases hf;exact enters_of Tryz.func33 (by kernel_rfl) rfl
 | k+6,hf=>simp[chk]at hf
def fnV (f:Nat):Xq:= .func (.func f) #[] #[]
theorem wrongM_any (V:MaV) (m:Ma) (w:Xn) (hm:MachAt w V m):
  Xp Tryz.prog 20 #[Xi #[O V.f.a V.f.n V.f.c,Xe Xf m.hand,O V.s.a V.s.n V.s.c,O V.sb.a V.sb.n V.sb.c,O V.sq.a V.sq.n V.sq.c,O V.db.a V.db.n V.db.c,O V.dq.a V.dq.n V.dq.c,O V.fl.a V.fl.n V.fl.c,Xe Xf m.cnt,O V.ca.a V.ca.n V.ca.c,O V.sp.a V.sp.n V.sp.c]] w fun e w'=>e= Xl (Xe Xf (maW m))/\Grew w w':=by
 have HCK:Xo (∀W,Grew w W->∀(k:Nat),(∀j,j<k->(chkE m)[j]?.getD 0=0)->∀f,chk[k]? =Xa f->∀e,(chkE m)[k]? =Xa e->Xp Tryz.prog f #[Xi #[O V.f.a V.f.n V.f.c,Xe Xf m.hand,O V.s.a V.s.n V.s.c,O V.sb.a V.sb.n V.sb.c,O V.sq.a V.sq.n V.sq.c,O V.db.a V.db.n V.db.c,O V.dq.a V.dq.n V.dq.c,O V.fl.a V.fl.n V.fl.c,Xe Xf m.cnt,O V.ca.a V.ca.n V.ca.c,O V.sp.a V.sp.n V.sp.c]] W fun r w'=>r= Xl (Xe Xf e)/\Grew W w'):=show∀W,_ from fun W hW k hb f hf e he=>chk_any V m W (hm.grew hW) k hb f hf e he
 clear hm;obtain⟨Z,HZ⟩:∃Z,Xo (maW m=Z):=⟨_,rfl⟩;rw[HZ.out];have HZ2:Xo (firstE (chkE m)=Z):=show _=_ by rw[<-HZ.out,maW_six];rfl
 clear HZ;obtain⟨W0,hW0⟩:∃W0,(w.alloc (Xk #[O V.f.a V.f.n V.f.c,Xe Xf m.hand,O V.s.a V.s.n V.s.c,O V.sb.a V.sb.n V.sb.c,O V.sq.a V.sq.n V.sq.c,O V.db.a V.db.n V.db.c,O V.dq.a V.dq.n V.dq.c,O V.fl.a V.fl.n V.fl.c,Xe Xf m.cnt,O V.ca.a V.ca.n V.ca.c,O V.sp.a V.sp.n V.sp.c] 42)).alloc (Xk #[.func (.func 28) #[] #[],.func (.func 29) #[] #[],.func (.func 30) #[] #[],.func (.func 31) #[] #[],.func (.func 32) #[] #[],.func (.func 33) #[] #[]] 77)=W0:=⟨_,rfl⟩;have HG0:=gD2 hW0
 have X0:=x2a hW0
 have Y0:Xo (Box W0 (w.heap.size+1) (chk.map fnV)):=show Box _ _ _ by rw[<-hW0];exact Box.top _ (chk.map fnV) _ (by simp)
 have HW0:Xo (_=W0):=hW0;clear hW0
 go_enter Tryz.func20,Tryz.ntmps20
 go_upto_region 2 with fail;rw[HW0.out];go_wp2
 go_loopg [10] 6 (fun gg s10 wr=>∃kk:Nat,kk<=6/\6 - kk<=gg/\s10= Xe Xf kk/\Xo (Grew w wr)/\Xo (Box wr w.heap.size [O V.f.a V.f.n V.f.c,Xe Xf m.hand,O V.s.a V.s.n V.s.c,O V.sb.a V.sb.n V.sb.c,O V.sq.a V.sq.n V.sq.c,O V.db.a V.db.n V.db.c,O V.dq.a V.dq.n V.dq.c,O V.fl.a V.fl.n V.fl.c,Xe Xf m.cnt,O V.ca.a V.ca.n V.ca.c,O V.sp.a V.sp.n V.sp.c])/\Xo (Box wr (w.heap.size+1) (chk.map fnV))/\Xo (∀j,j<kk->(chkE m)[j]?.getD 0=0))
 case atStart=>exact⟨0,nZ _,by omega,rfl,HG0.out,X0.out,Y0.out,fun j hj=>absurd hj (nL _)⟩
 obtain⟨kk,hkk,hgg,rfl,BW,XW,YW,OW⟩:=hrel;clear X0 Y0 HG0
 by_cases hlt:kk<6
 ·have hltz:(kk:Int)<6:=by omega
  obtain⟨f,HF⟩:∃f,Xo (chk[kk]? =Xa f):=⟨_,gE (by simp[chk];exact hlt)⟩
  obtain⟨e,HE⟩:∃e,Xo ((chkE m)[kk]? =Xa e):=⟨_,gE (by simp[chkE];exact hlt)⟩
  have y0:wr.cell? ⟨w.heap.size+1,kk,Xb⟩=Xa (.func (.func f) #[] #[]):=YW.out.c kk (by rw[Xz,HF.out];rfl)
  have eg:=chk_enters kk f HF.out;have hcall:=HCK.out wr BW.out kk OW.out f HF.out e HE.out;obtain⟨x0,x1,x2,x3,x4,x5,x6,x7,x8,x9,x10⟩:=XW.out.c11;go_wp2_with fail;refine hcall.mono ?_;clear hcall x0 x1 x2 x3 x4 x5 x6 x7 x8 x9 x10 y0;rintro e' W2 ⟨rfl,hg2⟩;have HG2:=dD (BW.out.trans hg2);have X2:=dD (XW.out.grew hg2);have Y2:=dD (YW.out.grew hg2);clear hg2 eg
  by_cases h0:e=0
  ·have h0e:(e != 0)=Xd:=by simp[h0]
   have OW':Xo (∀j,j<kk+1->(chkE m)[j]?.getD 0=0):=show∀j,_ from fun j hj=>by
    by_cases ej:j=kk
    ·rw[ej,HE.out,h0];rfl
    exact OW.out j (by omega)
   clear h0;go_wp2
   go_roundg (6 -(kk+1))
   case measure=>omega
   exact⟨kk+1,by omega,by omega,by go_num,HG2.out,X2.out,Y2.out,OW'.out⟩
  have h0e:(e != 0)=Xc:=by simp[h0]
  have HZE:Xo (Z=e):=show _=_ by
   rw[<-HZ2.out];exact firstE_take (fun j x hj hx=>by have:=OW.out j hj;rw[hx]at this;exact this) HE.out h0
  clear h0;go_wp2;go_ret;exact⟨by rw[HZE.out];rfl,HG2.out⟩
 have hltz:¬(kk:Int)<6:=by omega
 have:kk=6:=by omega
 subst this;have HZE:Xo (Z=0):=show _=_ by
  rw[<-HZ2.out];refine firstE_none fun j x hx=>?_
  have hj:=(gS.1 hx).1;have:=OW.out j (by simpa [chkE]using hj)
  rw[hx]at this;exact this
 go_wp2;go_ret;exact⟨by rw[HZE.out];rfl,BW.out⟩
theorem fork1_any {w0 w:Xn} {p:Nat} {V:MaV} {m:Ma} (h:ChM w0 p w V m) (q r:Nat) (hq:q<m.sp.length) (hr:r<m.sp.length) (n:Int) (x y z:Nat) (hx:Box w x [Xj (Xa ⟨p,0,Xb⟩)]) (hy:Box w y [Xe Xf (q:Int)]) (hz:Box w z [Xe Xf (r:Int)]):
  Xp Tryz.prog 146 #[Xe Xf n,Xj (Xa ⟨x,0,Xb⟩),Xj (Xa ⟨y,0,Xb⟩),Xj (Xa ⟨z,0,Xb⟩)] w fun e w'=>(∃v,e= Xl v)/\Chd w0 p w V (shareM m q r n) w':=by
 have x0:=hx.c 0 rfl;have y0:=hy.c 0 rfl;have z0:=hz.c 0 rfl;have hsh:=chShare_any h q r hq hr n;clear h hq hr hx hy hz
 go_enter Tryz.func146,Tryz.ntmps146
 go_wp2_with fail;refine hsh.mono ?_;rintro e W1 ⟨⟨v1,rfl⟩,h1⟩;have M1:Xo (Chd w0 p w V (shareM m q r n) W1):=h1;clear h1 hsh;go_wp2
 (first | go_end0 | ((try simp only[Exit.inBlock,Exit.then]);refine bodyPost_ret (results_none rfl _ _ _) rfl ?_))
 first | exact M1.out | exact⟨⟨_,rfl⟩,M1.out⟩
theorem exit1_any {w0 w:Xn} {p:Nat} {V:MaV} {m:Ma} (h:ChM w0 p w V m) (q:Nat) (hq:q<m.sp.length) (n:Int) (x y:Nat) (hx:Box w x [Xj (Xa ⟨p,0,Xb⟩)]) (hy:Box w y [Xe Xf (q:Int)]):
  Xp Tryz.prog 148 #[Xe Xf n,Xj (Xa ⟨x,0,Xb⟩),Xj (Xa ⟨y,0,Xb⟩)] w fun e w'=>(∃v,e= Xl v)/\Chd w0 p w V (dropP m q n) w':=by
 have x0:=hx.c 0 rfl;have y0:=hy.c 0 rfl;have hsh:=chDrop_any h q hq n;clear h hq hx hy
 go_enter Tryz.func148,Tryz.ntmps148
 go_wp2_with fail;refine hsh.mono ?_;rintro e W1 ⟨⟨v1,rfl⟩,h1⟩;have M1:Xo (Chd w0 p w V (dropP m q n) W1):=h1;clear h1 hsh;go_wp2
 (first | go_end0 | ((try simp only[Exit.inBlock,Exit.then]);refine bodyPost_ret (results_none rfl _ _ _) rfl ?_))
 first | exact M1.out | exact⟨⟨_,rfl⟩,M1.out⟩
theorem ownsRow_own {b size n g:Nat} {w:Xn} {e:TypeId} {v:Xq} {xs:List Xq} (h:w.ownsRow b e size v n xs) (hv:v.ownBlock=Xa g):b<=g/\g<w.heap.size/\∃cs,w.heap[g]? =Xa (Xk cs e (0,0)):=by
 rcases h.2 with⟨rfl,_⟩ | ⟨k,cap,cur,rfl,h2,h3,h4⟩
 ·cases hv
 simp only[Value.ownBlock,Option.some.injEq]at hv;subst hv;exact⟨h2,(aS.1 h3).1,cur,h3⟩
theorem ownsRow_outD {D:Nat->Prop} {b size n:Nat} {w W:Xn} {e:TypeId} {v:Xq} {xs:List Xq} (h:w.ownsRow b e size v n xs) (k:OutD D w W) (hn:∀g,v.ownBlock=Xa g->¬D g):W.ownsRow b e size v n xs:=by
 refine⟨h.1,?_⟩
 rcases h.2 with h1 | ⟨g,cap,cur,rfl,h2,h3,h4⟩
 ·exact .inl h1
 exact .inr ⟨g,cap,cur,rfl,h2,by rw[k.block g (aS.1 h3).1 (hn g rfl)];exact h3,h4⟩
theorem OwnM.changed {base B p:Nat} {w W:Xn} {V:MaV} {m:Ma} (h:OwnM base w V m) (hB:B<=base) (hp:w.heap.size<=p) (k:OutD (Dq B p V.sp) w W):RestAt W V m/\∀(xs:List SpV) (Bs:Nat->Nat),base<=Bs 0->(∀i,Bs i<=Bs (i+1))->(∀(i:Nat) x s,xs[i]? =Xa x->m.sp[i]? =Xa s->OwnSp (Bs i) (Bs (i+1)) w x s)->∀(i:Nat) x s,xs[i]? =Xa x->m.sp[i]? =Xa s->SpaceAt W x s:=by
 obtain⟨ys,_,s1,_⟩:=h.sp;have key:∀{b size n:Nat} {e:TypeId} {v:Xq} {xs:List Xq},w.ownsRow b e size v n xs->base<=b->spcE.ty≠e->W.ownsRow b e size v n xs:=fun hr hb he=>ownsRow_outD hr k fun g hg hd=>by
  obtain⟨h1,h2,cs,h3⟩:=ownsRow_own hr hg
  rcases hd with hd | hd | hd
  ·omega
  ·omega
  obtain⟨ds,h4⟩:=s1.obj hd;rw[h4]at h3;cases h3;exact he rfl
 have keyR:∀{α:Type} {E:Elt α} {b:Nat} {v:Xq} {l:List α},OwnRow E b w v l->base<=b->spcE.ty≠E.ty->OwnRow E b W v l:=fun hr hb he=>⟨key hr.1 hb he,hr.2⟩
 obtain⟨lo,⟨zs,f1,f2,f3,f4⟩,l1,l2⟩:=h.fl;have hf':OwnFiles lo W (O V.fl.a V.fl.n V.fl.c) m.fl:=⟨zs,keyR f1 l1 (by decide),f2,fun i x f hx hf=>⟨(f3 i x f hx hf).1,keyR (f3 i x f hx hf).2 l1 (by decide)⟩,f4⟩
 have hb:=nR base;refine⟨⟨(keyR h.fs hb (by decide)).at,(keyR h.sl hb (by decide)).at,OwnPages.at ⟨key h.sb.1 hb (by decide),h.sb.2⟩,OwnPuts.at ⟨key h.sq.1 hb (by decide),h.sq.2⟩,OwnPages.at ⟨key h.db.1 hb (by decide),h.db.2⟩,OwnPuts.at ⟨key h.dq.1 hb (by decide),h.dq.2⟩,hf'.new.now0,(keyR h.ca hb (by decide)).at⟩,fun xs Bs b0 bm h5 i x s hx hs=>?_⟩
 have o:=h5 i x s hx hs;have hbi:base<=Bs i:=nT b0 (mono_le bm (nZ i));have o':OwnSp (Bs i) (Bs (i+1)) W x s:=⟨o.live,keyR o.ar hbi (by decide),⟨o.tb.len,o.tb.tlen,fun j v y hv hy=>keyR (o.tb.row j v y hv hy) hbi (by decide),o.tb.two⟩,o.arh,o.tbh⟩
 exact o'.at
theorem of_any (V:MaV) (m:Ma) (w:Xn) (hm:MachAt w V m):
  Xp Tryz.prog 24 #[Xi #[O V.f.a V.f.n V.f.c,Xe Xf m.hand,O V.s.a V.s.n V.s.c,O V.sb.a V.sb.n V.sb.c,O V.sq.a V.sq.n V.sq.c,O V.db.a V.db.n V.db.c,O V.dq.a V.dq.n V.dq.c,O V.fl.a V.fl.n V.fl.c,Xe Xf m.cnt,O V.ca.a V.ca.n V.ca.c,O V.sp.a V.sp.n V.sp.c]] w fun e w'=>∃(p:Nat) (V':MaV),e= Xl (Xj (Xa ⟨p,0,Xb⟩))/\ChM w p w' V' m:=by
 obtain⟨W1,hW1⟩:∃W1,w.alloc (Xk #[O V.f.a V.f.n V.f.c,Xe Xf m.hand,O V.s.a V.s.n V.s.c,O V.sb.a V.sb.n V.sb.c,O V.sq.a V.sq.n V.sq.c,O V.db.a V.db.n V.db.c,O V.dq.a V.dq.n V.dq.c,O V.fl.a V.fl.n V.fl.c,Xe Xf m.cnt,O V.ca.a V.ca.n V.ca.c,O V.sp.a V.sp.n V.sp.c] 42)=W1:=⟨_,rfl⟩;have G1:=gA hW1
 have X1:=xA hW1
 have HW1:Xo (_=W1):=hW1;clear hW1;have how:=ownM_any V m W1 (hm.grew G1.out);clear hm
 go_enter Tryz.func24,Tryz.ntmps24
 go_upto_region 1 with fail;rw[HW1.out];obtain⟨x0,x1,x2,x3,x4,x5,x6,x7,x8,x9,x10⟩:=X1.out.c11;go_wp2_with fail;refine how.mono ?_;clear how x0 x1 x2 x3 x4 x5 x6 x7 x8 x9 x10;rintro e W2 ⟨V',rfl,ow,g2⟩;have G2:=dD (G1.out.trans g2);have O2:Xo (OwnM W1.heap.size W2 V' m):=ow;have HS:Xo (w.heap.size<=W1.heap.size):=show _<=_ from bS G1.out
 clear ow g2;have HF:Xo (ChM w W2.heap.size (W2.alloc (Xk (chL V' m).toArray 88)) V' m):=show ChM _ _ _ _ _ by
  have ga:Grew W2 (W2.alloc (Xk (chL V' m).toArray 88)):=grew_alloc _ _;obtain⟨xs,B,s1,s2,s3,s4,s5⟩:=O2.out.sp;refine⟨G2.out.trans ga,bS G2.out,BoxT.top _ _ _ rfl,fun W hW=>(O2.out.changed HS.out (nR _) ((OutD.grew ga).trans hW)).1,⟨xs,(s1.grew ga).base HS.out,s2,fun i x s hx hs W hW=>(O2.out.changed HS.out (nR _) ((OutD.grew ga).trans hW)).2 xs B s3 s4 s5 i x s hx hs⟩⟩
 go_wp2;go_ret;exact⟨_,V',rfl,HF.out⟩
theorem owns_outD {D:Nat->Prop} {b size n:Nat} {w W:Xn} {e:TypeId} {v:Xq} {xs:List Xq} (h:w.ownsRow b e size v n xs) (k:OutD D w W) (hn:∀g,v.ownBlock=Xa g->¬D g):W.ownsRow b e size v n xs:=by
 refine⟨h.1,?_⟩
 rcases h.2 with h1 | ⟨g,cap,cur,rfl,h2,h3,h4⟩
 ·exact .inl h1
 exact .inr ⟨g,cap,cur,rfl,h2,by rw[k.block g (aS.1 h3).1 (hn g rfl)];exact h3,h4⟩
def oB (s:Sli) (b:Nat):Prop:=(O s.a s.n s.c).ownBlock=Xa b
def Dw (p:Nat) (V:MaV):Nat->Prop:=fun b=>b=p\/oB V.f b\/oB V.ca b\/oB V.sp b
def Dr (B p:Nat) (V:MaV):Nat->Prop:=fun b=>b<B\/Dw p V b
structure RestW (w:Xn) (V:MaV) (m:Ma):Prop where
 sl:RowAt slE w (O V.s.a V.s.n V.s.c) m.sl
 sb:PagesAt w (O V.sb.a V.sb.n V.sb.c) m.sb
 sq:PutsAt w (O V.sq.a V.sq.n V.sq.c) m.sq
 db:PagesAt w (O V.db.a V.db.n V.db.c) m.db
 dq:PutsAt w (O V.dq.a V.dq.n V.dq.c) m.dq
 fl:FilesAt w (O V.fl.a V.fl.n V.fl.c) m.fl
structure ChW (w0:Xn) (p:Nat) (w:Xn) (V:MaV) (m:Ma):Prop where
 gr:Grew w0 w
 lo:w0.heap.size<=p
 box:BoxT w p 88 (chL V m)
 fs:OwnRow frmE w0.heap.size w (O V.f.a V.f.n V.f.c) m.fs
 ca:OwnRow cchE w0.heap.size w (O V.ca.a V.ca.n V.ca.c) m.ca
 sp:∃xs:List SpV,OwnRow spcE w0.heap.size w (O V.sp.a V.sp.n V.sp.c) xs/\xs.length=m.sp.length/\∀(i:Nat) x s,xs[i]? =Xa x->m.sp[i]? =Xa s->∀W,OutD (Dr w0.heap.size p V) w W->SpaceAt W x s
 rest:∀W,OutD (Dr w0.heap.size p V) w W->RestW W V m
def Chg (w0:Xn) (p:Nat) (w:Xn) (V:MaV) (m':Ma) (w':Xn):Prop:=∃V':MaV,ChW w0 p w' V' m'/\OutD (Dw p V) w w'/\∀k,Dw p V' k->Dw p V k\/w.heap.size<=k
section
variable{w0 w w1 w2:Xn} {p:Nat} {V V':MaV} {m m':Ma}
theorem ChW.dlt (h:ChW w0 p w V m):∀k,Dw p V k->k<w.heap.size:=by
 rintro k (rfl | hk | hk | hk)
 ·exact h.box.box.lt
 ·exact(h.fs.lt k hk).2
 ·exact(h.ca.lt k hk).2
 obtain⟨xs,s1,_⟩:=h.sp;exact(s1.lt k hk).2
theorem ChW.dlo (h:ChW w0 p w V m):∀k,Dw p V k->w0.heap.size<=k:=by
 rintro k (rfl | hk | hk | hk)
 ·exact h.lo
 ·exact(h.fs.lt k hk).1
 ·exact(h.ca.lt k hk).1
 obtain⟨xs,s1,_⟩:=h.sp;exact(s1.lt k hk).1
theorem ChW.drt (h:ChW w0 p w V m):∀k,Dr w0.heap.size p V k->k<w.heap.size:=by
 rintro k (hk | hk)
 ·exact Xs hk (bS h.gr)
 exact h.dlt k hk
theorem ChW.grew (h:ChW w0 p w V m) (k:Grew w w1):ChW w0 p w1 V m:=by
 obtain⟨xs,s1,s2,s3⟩:=h.sp;exact⟨h.gr.trans k,h.lo,h.box.grew k,h.fs.grew k,h.ca.grew k,⟨xs,s1.grew k,s2,fun i x s hx hs W hW=>s3 i x s hx hs W ((OutD.grew k).trans hW)⟩,fun W hW=>h.rest W ((OutD.grew k).trans hW)⟩
theorem ChW.at (h:ChW w0 p w V m):MachAt w V m:=by
 have r:=h.rest w (OutD.refl _ _);obtain⟨xs,s1,s2,s3⟩:=h.sp;exact⟨h.fs.at,r.sl,r.sb,r.sq,r.db,r.dq,r.fl,h.ca.at,⟨xs,s1.at,s2,fun i x s hx hs=>s3 i x s hx hs w (OutD.refl _ _)⟩⟩
theorem ChW.nf (h:ChW w0 p w V m):∀g,oB V.f g->p≠g:=h.fs.ne h.box (by decide)
theorem ChW.nc (h:ChW w0 p w V m):∀g,oB V.ca g->p≠g:=h.ca.ne h.box (by decide)
theorem ChW.ns (h:ChW w0 p w V m):∀g,oB V.sp g->p≠g:=by
 obtain⟨xs,s1,_⟩:=h.sp;exact s1.ne h.box (by decide)
theorem ChW.fc (h:ChW w0 p w V m):∀g,oB V.f g->¬oB V.ca g:=h.fs.apart h.ca (by decide)
theorem ChW.fS (h:ChW w0 p w V m):∀g,oB V.f g->¬oB V.sp g:=by
 obtain⟨xs,s1,_⟩:=h.sp;exact h.fs.apart s1 (by decide)
theorem ChW.cS (h:ChW w0 p w V m):∀g,oB V.ca g->¬oB V.sp g:=by
 obtain⟨xs,s1,_⟩:=h.sp;exact h.ca.apart s1 (by decide)
theorem ChW.key (k:OutD (Dw p V) w w1) (hd:∀k,Dw p V' k->Dw p V k\/w.heap.size<=k) {W:Xn} (hW:OutD (Dr w0.heap.size p V') w1 W):OutD (Dr w0.heap.size p V) w W:=
 ⟨hW.os.trans k.os,hW.tape.trans k.tape,hW.output.trans k.output,nT k.size hW.size,fun b hb hn=>(hW.block b (Xs hb k.size) (fun e=>by
  rcases e with e | e
  ·exact hn (.inl e)
  rcases hd b e with e | e
  ·exact hn (.inr e)
  omega)).trans (k.block b hb (fun e=>hn (.inr e)))⟩
theorem ChW.grOut (h:ChW w0 p w V m) (k:OutD (Dw p V) w w1):Grew w0 w1:=
 ⟨k.os.trans (Below.os h.gr),k.tape.trans (Below.tape h.gr),k.output.trans (Below.output h.gr),nT (bS h.gr) k.size,fun b hb=>(k.block b (Xs hb (bS h.gr)) (fun e=>by have:=h.dlo b e;omega)).trans (Below.block h.gr b hb)⟩
theorem Chg.refl (h:ChW w0 p w V m) (g:Grew w w1):Chg w0 p w V m w1:=⟨V,h.grew g,OutD.grew g,fun _ hk=> .inl hk⟩
theorem Chg.of_grew (g:Grew w w1) (h:Chg w0 p w1 V m' w2):Chg w0 p w V m' w2:=by
 obtain⟨V2,c2,o2,d2⟩:=h;refine⟨V2,c2,(OutD.grew g).trans o2,fun k hk=>?_⟩
 rcases d2 k hk with e | e
 ·exact .inl e
 exact .inr (nT (bS g) e)
theorem Chg.step {V1:MaV} (o1:OutD (Dw p V) w w1) (d1:∀k,Dw p V1 k->Dw p V k\/w.heap.size<=k) (h2:Chg w0 p w1 V1 m' w2):Chg w0 p w V m' w2:=by
 obtain⟨V2,c2,o2,d2⟩:=h2;refine⟨V2,c2,⟨o2.os.trans o1.os,o2.tape.trans o1.tape,o2.output.trans o1.output,nT o1.size o2.size,fun b hb hn=>(o2.block b (Xs hb o1.size) (fun e=>?_)).trans (o1.block b hb hn)⟩,fun k hk=>?_⟩
 ·rcases d1 b e with e | e
  ·exact hn e
  omega
 rcases d2 k hk with e | e
 ·exact d1 k e
 exact .inr (nT o1.size e)
theorem Chg.far {V1:MaV} (g:Grew w w1) (d:∀k,Dw p V1 k->Dw p V k\/w1.heap.size<=k):∀k,Dw p V1 k->Dw p V k\/w.heap.size<=k:=fun k hk=>(d k hk).elim .inl fun e=> .inr (nT (bS g) e)
theorem ChW.field (h:ChW w0 p w V m) (g1:Grew w w1) (g2:w1.grownBy w2 (Xa p)) (hf:V'.f=V.f) (hc:V'.ca=V.ca) (hs:V'.sp=V.sp) (mf:m'.fs=m.fs) (mc:m'.ca=m.ca) (ms:m'.sp=m.sp) (bx:BoxT w2 p 88 (chL V' m')) (rs:∀W,OutD (Dr w0.heap.size p V) w W->OutD (Dr w0.heap.size p V) w1 W->RestW W V m->RestW W V' m'):Chg w0 p w V m' w2:=by
 have o:OutD (Dw p V) w w2:=(OutD.grew g1).trans (OutD.grown g2 (.inl rfl));have hdw:Dw p V'=Dw p V:=by unfold Dw;rw[hf,hc,hs]
 have hdr:Dr w0.heap.size p V'=Dr w0.heap.size p V:=by unfold Dr;rw[hdw]
 obtain⟨xs,s1,s2,s3⟩:=h.sp;refine⟨V',⟨h.grOut o,h.lo,bx,?_,?_,⟨xs,?_,by rw[ms];exact s2,fun i x s hx hs' W hW=>?_⟩,fun W hW=>?_⟩,o,fun k hk=> .inl (by rw[hdw]at hk;exact hk)⟩
 ·rw[hf,mf];exact(h.fs.grew g1).grown g2 (fun g hg e=>h.nf g hg (by cases e;rfl))
 ·rw[hc,mc];exact(h.ca.grew g1).grown g2 (fun g hg e=>h.nc g hg (by cases e;rfl))
 ·rw[hs];exact(s1.grew g1).grown g2 (fun g hg e=>h.ns g hg (by cases e;rfl))
 ·rw[hdr]at hW;rw[ms]at hs';exact s3 i x s hx hs' W ((o.wide fun k hk=> .inr hk).trans hW)
 rw[hdr]at hW;exact rs W ((o.wide fun k hk=> .inr hk).trans hW) (((OutD.grown g2 (.inr (.inl rfl)))).trans hW) (h.rest W ((o.wide fun k hk=> .inr hk).trans hW))
theorem ChW.setS (h:ChW w0 p w V m) {b:Sli} {sl:List Int} (g1:Grew w w1) (nr:NewRow slE w.heap.size w1 (O b.a b.n b.c) sl) (g2:w1.grownBy w2 (Xa p)) (bx:BoxT w2 p 88 (chL { V with s:=b } { m with sl:=sl })):Chg w0 p w V { m with sl:=sl } w2:=
 h.field (V':={ V with s:=b }) (m':={ m with sl:=sl }) g1 g2 rfl rfl rfl rfl rfl rfl bx (fun W _ o r=>⟨nr.staysD h.drt W o,r.sb,r.sq,r.db,r.dq,r.fl⟩)
theorem ChW.setF (h:ChW w0 p w V m) {b:Sli} {fs:List Fr} {hd:Int} (g1:Grew w w1) (nr:OwnRow frmE w.heap.size w1 (O b.a b.n b.c) fs) (g2:w1.grownBy w2 (Xa p)) (bx:BoxT w2 p 88 (chL { V with f:=b } { m with fs:=fs,hand:=hd })):Chg w0 p w V { m with fs:=fs,hand:=hd } w2:=by
 have o:OutD (Dw p V) w w2:=(OutD.grew g1).trans (OutD.grown g2 (.inl rfl));have hpl:=h.dlt p (.inl rfl);have hd:∀k,Dw p { V with f:=b } k->Dw p V k\/w.heap.size<=k:=by
  rintro k (e | e | e | e)
  ·exact .inl (.inl e)
  ·exact .inr (nr.lt k e).1
  ·exact .inl (.inr (.inr (.inl e)))
  exact .inl (.inr (.inr (.inr e)))
 obtain⟨xs,s1,s2,s3⟩:=h.sp;refine⟨{ V with f:=b },⟨h.grOut o,h.lo,bx,(nr.base (bS h.gr)).grown g2 (fun g hg e=>?_),(h.ca.grew g1).grown g2 (fun g hg e=>h.nc g hg (by cases e;rfl)),⟨xs,(s1.grew g1).grown g2 (fun g hg e=>h.ns g hg (by cases e;rfl)),s2,fun i x s hx hs W hW=>s3 i x s hx hs W (ChW.key o hd hW)⟩,fun W hW=>?_⟩,o,hd⟩
 ·cases e;have:=(nr.lt _ hg).1;omega
 have r:=h.rest W (ChW.key o hd hW);exact⟨r.sl,r.sb,r.sq,r.db,r.dq,r.fl⟩
theorem ChW.frame (h:ChW w0 p w V m) {fs:List Fr} {g:Nat} (hg:oB V.f g) (g2:w.grownBy w1 (Xa g)) (nr:OwnRow frmE w0.heap.size w1 (O V.f.a V.f.n V.f.c) fs):Chg w0 p w V { m with fs:=fs } w1:=by
 have o:OutD (Dw p V) w w1:=OutD.grown g2 (.inr (.inl hg));have hd:∀k,Dw p V k->Dw p V k\/w.heap.size<=k:=fun _ hk=> .inl hk
 obtain⟨xs,s1,s2,s3⟩:=h.sp;refine⟨V,⟨h.grOut o,h.lo,h.box.beside g2 (fun k e=>by cases e;exact h.nf g hg),nr,h.ca.grown g2 (fun k hk e=>by cases e;exact h.fc _ hg hk),⟨xs,s1.grown g2 (fun k hk e=>by cases e;exact h.fS _ hg hk),s2,fun i x s hx hs W hW=>s3 i x s hx hs W (ChW.key o hd hW)⟩,fun W hW=>?_⟩,o,hd⟩
 have r:=h.rest W (ChW.key o hd hW);exact⟨r.sl,r.sb,r.sq,r.db,r.dq,r.fl⟩
theorem ChW.setT (h:ChW w0 p w V m) {xs:List SpV} {q g:Nat} {x y:SpV} {s:Sp} {us:List Xq} {t:List (List En)} (s2:xs.length=m.sp.length) (s3:∀(i:Nat) x s,xs[i]? =Xa x->m.sp[i]? =Xa s->∀W,OutD (Dr w0.heap.size p V) w W->SpaceAt W x s) (hx:xs[q]? =Xa x) (hs:m.sp[q]? =Xa s) (hg:oB V.sp g)
  (g1:Grew w w1) (tb:TabS 0 w.heap.size w1 us t) (g2:w1.grownBy w2 (Xa g)) (ow:OwnRow spcE w0.heap.size w2 (O V.sp.a V.sp.n V.sp.c) (xs.set q y)) (hy:y.live=x.live/\y.ar=x.ar/\y.tab=us):Chg w0 p w V { m with sp:=m.sp.set q { s with tb:=t } } w2:=by
 have o2:OutD (Dr w0.heap.size p V) w1 w2:=OutD.grown g2 (.inr (.inr (.inr (.inr hg))));have o:OutD (Dw p V) w w2:=(OutD.grew g1).trans (OutD.grown g2 (.inr (.inr (.inr hg))));have hd:∀k,Dw p V k->Dw p V k\/w.heap.size<=k:=fun _ hk=> .inl hk
 refine⟨V,⟨h.grOut o,h.lo,(h.box.grew g1).beside g2 (fun k e=>by cases e;exact h.ns g hg),(h.fs.grew g1).grown g2 (fun k hk e=>by cases e;exact h.fS _ hk hg),(h.ca.grew g1).grown g2 (fun k hk e=>by cases e;exact h.cS _ hk hg),⟨xs.set q y,ow,by simp[s2],fun i x' s' hx' hs' W hW=>?_⟩,fun W hW=>?_⟩,o,hd⟩
 ·by_cases e:i=q
  ·subst e;rw[sF (gS.1 hx).1]at hx';have hs':(m.sp.set i { s with tb:=t })[i]? =Xa s':=hs';rw[sF (gS.1 hs).1]at hs';cases hx';cases hs';have k:=s3 i x s hx hs W (ChW.key o hd hW);obtain⟨y1,y2,y3⟩:=hy;refine⟨y1.trans k.live,by rw[y2];exact k.ar,by rw[y2];exact k.cap,?_⟩
   rw[y3];exact tb.outD h.drt (o2.trans hW)
  rw[sN (fun h=>e h.symm)]at hx'
  have hs':(m.sp.set q { s with tb:=t })[i]? =Xa s':=hs';rw[sN (fun h=>e h.symm)]at hs'
  exact s3 i x' s' hx' hs' W (ChW.key o hd hW)
 have r:=h.rest W (ChW.key o hd hW);exact⟨r.sl,r.sb,r.sq,r.db,r.dq,r.fl⟩
end
theorem OwnM.changeW {base B p:Nat} {w W:Xn} {V:MaV} {m:Ma} (h:OwnM base w V m) (hB:B<=base) (hp:w.heap.size<=p) (k:OutD (Dr B p V) w W):RestW W V m/\∀(xs:List SpV) (Bs:Nat->Nat),base<=Bs 0->(∀i,Bs i<=Bs (i+1))->(∀(i:Nat) x s,xs[i]? =Xa x->m.sp[i]? =Xa s->OwnSp (Bs i) (Bs (i+1)) w x s)->∀(i:Nat) x s,xs[i]? =Xa x->m.sp[i]? =Xa s->SpaceAt W x s:=by
 obtain⟨ys,_,s1,_⟩:=h.sp;have key:∀{b size n:Nat} {e:TypeId} {v:Xq} {xs:List Xq},w.ownsRow b e size v n xs->base<=b->spcE.ty≠e/\frmE.ty≠e/\cchE.ty≠e->W.ownsRow b e size v n xs:=fun hr hb he=>ownsRow_outD hr k fun g hg hd=>by
  obtain⟨h1,h2,cs,h3⟩:=ownsRow_own hr hg
  rcases hd with hd | hd | hd | hd | hd
  ·omega
  ·omega
  ·obtain⟨ds,h4⟩:=h.fs.obj hd;rw[h4]at h3;cases h3;exact he.2.1 rfl
  ·obtain⟨ds,h4⟩:=h.ca.obj hd;rw[h4]at h3;cases h3;exact he.2.2 rfl
  obtain⟨ds,h4⟩:=s1.obj hd;rw[h4]at h3;cases h3;exact he.1 rfl
 have keyR:∀{α:Type} {E:Elt α} {b:Nat} {v:Xq} {l:List α},OwnRow E b w v l->base<=b->spcE.ty≠E.ty/\frmE.ty≠E.ty/\cchE.ty≠E.ty->OwnRow E b W v l:=fun hr hb he=>⟨key hr.1 hb he,hr.2⟩
 obtain⟨lo,⟨zs,f1,f2,f3,f4⟩,l1,l2⟩:=h.fl;have hf':OwnFiles lo W (O V.fl.a V.fl.n V.fl.c) m.fl:=⟨zs,keyR f1 l1 (by decide),f2,fun i x f hx hf=>⟨(f3 i x f hx hf).1,keyR (f3 i x f hx hf).2 l1 (by decide)⟩,f4⟩
 have hb:=nR base;refine⟨⟨(keyR h.sl hb (by decide)).at,OwnPages.at ⟨key h.sb.1 hb (by decide),h.sb.2⟩,OwnPuts.at ⟨key h.sq.1 hb (by decide),h.sq.2⟩,OwnPages.at ⟨key h.db.1 hb (by decide),h.db.2⟩,OwnPuts.at ⟨key h.dq.1 hb (by decide),h.dq.2⟩,hf'.new.now0⟩,fun xs Bs b0 bm h5 i x s hx hs=>?_⟩
 have o:=h5 i x s hx hs;have hbi:base<=Bs i:=nT b0 (mono_le bm (nZ i));have o':OwnSp (Bs i) (Bs (i+1)) W x s:=⟨o.live,keyR o.ar hbi (by decide),⟨o.tb.len,o.tb.tlen,fun j v y hv hy=>keyR (o.tb.row j v y hv hy) hbi (by decide),o.tb.two⟩,o.arh,o.tbh⟩
 exact o'.at
section
variable{α:Type} {E:Elt α}
theorem run_append_apart {w:Xn} {base:Nat} {v:Xq} {l0:List α} (ty:TypeId) (h0:OwnRow E base w v l0) (vx:Xq) (l:List α) (hv:RowAt E w vx l) (hb:(l0.length+l.length)*E.bytes<=140737488355328) (hbase:base<=w.heap.size):
  ∃v' w',(Builtin.append_ #[E.st,E.st] ty #[v,vx]).run Tryz.prog w= .ok v' w'/\OwnRow E base w' v' (l0++l)/\w.grownBy w' v.ownBlock/\∀g,v'.ownBlock=Xa g->v.ownBlock=Xa g\/w.heap.size<=g:=by
 obtain⟨i0,hi,hz0,hz1,hz2⟩:=info_parts E.info;obtain⟨⟨ax,c,rfl,hnone,hcells⟩,hby⟩:=hv;have h2:(l0.length+l.length)*1<=(l0.length+l.length)*E.bytes:=Nat.mul_le_mul_left _ (nT E.pos E.few)
 cases ax with
 | none=>
  have hps:=hnone rfl;subst hps;exact⟨v,w,run_append_none ty h0 c,by simpa using h0,World.grownBy.rfl' _ _,fun g h=> .inl h⟩
 | some ad=>
  rcases h0.1.2 with⟨rfl,hn0⟩ | ⟨g,cap,cur,rfl,hgb,hgc,hnc,hcm,hcs,hct⟩
  ·have hl0:l0=[]:=eN hn0;subst hl0;obtain⟨v',w',hr,ho,hg,_⟩:=run_append_own (P:=Tryz.prog) w w.heap.size E.st ty E.ty i0 _ E.k E.bytes E.und hi hz0 hz1 hz2 (zsize E) E.pos _ 0 [] (World.ownsRow_nil _ _ _ _) ad l.length c (l.flatMap E.enc) (row_len E l) (hcells ad rfl) (flatMap_one E.one l) (maxLen_of (by simp at h2 hb⊢;omega)) (by simpa using hb) (nR _)
   have ho':OwnRow E w.heap.size w' v' ([]++l):=⟨by simpa using ho,by simpa using hb⟩
   exact⟨v',w',hr,ho'.base hbase,hg,fun g h=> .inr (ho'.lt g h).1⟩
  by_cases hroom:l0.length+l.length<=cap
  ·obtain⟨w',hr,ho,hg⟩:=run_append_fits (P:=Tryz.prog) w base E.st ty E.ty i0 E.k E.und hi hz1 g l0.length cap _ h0.1 ad l.length c (l.flatMap E.enc) (row_len E l) (hcells ad rfl) (flatMap_one E.one l) hroom;exact⟨_,w',hr,⟨by rw[lA,Xt];exact ho,by rw[lA];exact hb⟩,hg,fun g' h=> .inl h⟩
  obtain⟨v',w',hr,ho,hg⟩:=run_append_arg_grows (P:=Tryz.prog) w E.st ty E.ty i0 _ E.k E.bytes E.und hi hz0 hz1 hz2 (zsize E) E.pos ⟨g,0,Xb⟩ l0.length cap (l0.flatMap E.enc) (row_len E l0) (h0.1.cells rfl) ad l.length c (l.flatMap E.enc) (row_len E l) (hcells ad rfl) (by omega) (maxLen_of (by omega)) hb
  have ho':OwnRow E w.heap.size w' v' (l0++l):=⟨by rw[lA,Xt];exact ho,by rw[lA];exact hb⟩
  exact⟨v',w',hr,ho'.base hbase,⟨hg.os,hg.tape,hg.output,hg.size,fun k hk _=>hg.block k hk (by simp)⟩,fun g' h=> .inr (ho'.lt g' h).1⟩
theorem wpList_append_apart {w:Xn} {ops:Array Oper} {rest:List Oper} {o:Oper} {a:Act} {Q:Exit->Act->Xn->Prop} (hgd:o.guard=Xb) (s x:Operand) (ho:o.op= .call { callee:= .builtin .append,args:=#[s,x],argTypes:=#[E.st,E.st] })
  (base:Nat) (vs:Xq) (l0:List α) (hs:a.eval s=vs) (hown:OwnRow E base w vs l0) (vx:Xq) (l:List α) (hx:a.eval x=vx) (hv:RowAt E w vx l) (hb:(l0.length+l.length)*E.bytes<=140737488355328) (hbase:base<=w.heap.size)
  (h:∀v' w',OwnRow E base w' v' (l0++l)->w.grownBy w' vs.ownBlock->(∀g,v'.ownBlock=Xa g->vs.ownBlock=Xa g\/w.heap.size<=g)->wpList Tryz.prog ops Q rest (a.put o.dst v') w'):wpList Tryz.prog ops Q (o :: rest) a w:=by
 refine wpList_plain hgd fun K hK=>?_
 obtain⟨v',w',hrun,h1,h2,h3⟩:=run_append_apart o.type hown vx l hv hb hbase;unfold Oper.wp execOp;simp only[ho,resolve,invoke,builtin,Yc,Sem.run_pure,rA,List.map_toArray,mP,List.map_nil,hs,hx,hrun];exact hK _ _ (h v' w' h1 h2 h3)
end
theorem vacant1_any (x:SpV) (w:Xn):
  Xp Tryz.prog 181 #[Xi #[Xh x.live,O x.ar.a x.ar.n x.ar.c,O x.t0.a x.t0.n x.t0.c,O x.t1.a x.t1.n x.t1.c,O x.t2.a x.t2.n x.t2.c,O x.t3.a x.t3.n x.t3.c,O x.t4.a x.t4.n x.t4.c,O x.t5.a x.t5.n x.t5.c,O x.t6.a x.t6.n x.t6.c,O x.t7.a x.t7.n x.t7.c]] w fun e w'=>e= Xl (Xh (!x.live))/\Grew w w':=by
 obtain⟨W0,hW0⟩:∃W0,w.alloc (Xk #[Xh x.live,O x.ar.a x.ar.n x.ar.c,O x.t0.a x.t0.n x.t0.c,O x.t1.a x.t1.n x.t1.c,O x.t2.a x.t2.n x.t2.c,O x.t3.a x.t3.n x.t3.c,O x.t4.a x.t4.n x.t4.c,O x.t5.a x.t5.n x.t5.c,O x.t6.a x.t6.n x.t6.c,O x.t7.a x.t7.n x.t7.c] 76)=W0:=⟨_,rfl⟩;have HG0:=gA hW0
 have X0:=xA hW0
 have HW0:Xo (_=W0):=hW0;clear hW0
 go_enter Tryz.func181,Tryz.ntmps181
 go_upto_region 1 with fail;rw[HW0.out];have x0:=X0.out.c 0 rfl;go_wp2;go_ret;exact⟨rfl,HG0.out⟩
def VacZ (l:List SpV) (z:Int):Prop:=(∃(k:Nat) (x:SpV),z=k/\l[k]? =Xa x/\x.live=Xd/\∀(j:Nat) (q:SpV),j<k->l[j]? =Xa q->q.live=Xc)\/(z=-1/\∀(j:Nat) (q:SpV),l[j]? =Xa q->q.live=Xc)
theorem indexSpace_any (v:Xq) (l:List SpV) (w:Xn) (hv:RowAt spcE w v l):
  Xp Tryz.prog 180 #[v,.func (.func 181) #[] #[]] w fun e w'=>(∃z:Int,e= Xl (Xe Xf z)/\VacZ l z)/\Grew w w':=by
 have hbig:=hv.short;obtain⟨a,c,rfl,hrow⟩:=hv.sps;have HR:Xo (SpRows w a l):=hrow;have eg:=enters_of Tryz.func181 (by kernel_rfl) rfl
 clear hrow hv;obtain⟨n,HN⟩:∃n,Xo (l.length=n):=⟨_,rfl⟩;rw[HN.out]at hbig⊢;obtain⟨ANS,HANS⟩:∃ANS:Int->Prop,Xo (∀z,VacZ l z=ANS z):=⟨VacZ l,fun _=>rfl⟩
 simp only[HANS.out]
 go_enter Tryz.func180,Tryz.ntmps180
 go_wp2
 go_loopg [5,8] n (fun gg _ s8 wr=>∃kk:Nat,kk<=n/\n - kk<=gg/\s8= Xe Xf kk/\Xo (Grew w wr)/\Xo (∀(j:Nat) (q:SpV),j<kk->l[j]? =Xa q->q.live=Xc))
 case atStart=>exact⟨0,nZ _,by omega,rfl,Grew.refl w,fun j q hj=>absurd hj (nL _)⟩
 obtain⟨kk,hkk,hg,rfl,BW,A⟩:=hrel
 by_cases hlt:kk<n
 ·have hltz:(kk:Int)< (n:Int):=by omega
  obtain⟨x,HQ⟩:∃q,Xo (l[kk]? =Xa q):=⟨_,gE (by rw[HN.out];exact hlt)⟩
  obtain⟨ad,rfl,hl⟩:=HR.out kk x HQ.out;obtain⟨d0,d1,d2,d3,d4,d5,d6,d7,d8,d9⟩:=Cells.sp10 (hl wr BW.out);have hcall:=vacant1_any x wr;clear hl
  cases hq:x.live with
  | false=>
   have HF:Xo (ANS (kk:Int)):=show ANS _ by
    rw[<-HANS.out];exact .inl ⟨kk,x,rfl,HQ.out,hq,A.out⟩
   rw[hq]at hcall d0;clear hq;go_wp2_with fail;refine hcall.mono ?_;rintro e W2 ⟨rfl,g2⟩;have G2:=dD (BW.out.trans g2);clear g2 hcall d0 d1 d2 d3 d4 d5 d6 d7 d8 d9;go_wp2;go_ret;exact⟨⟨_,rfl,HF.out⟩,G2.out⟩
  | true=>
   have A2:Xo (∀(j:Nat) (q:SpV),j<kk+1->l[j]? =Xa q->q.live=Xc):=show∀(j:Nat) (q:SpV),_ from fun j q hj hjq=>by
    by_cases e:j=kk
    ·subst e;rw[HQ.out]at hjq;cases hjq;exact hq
    exact A.out j q (by omega) hjq
   rw[hq]at hcall d0;clear hq;go_wp2_with fail;refine hcall.mono ?_;rintro e W2 ⟨rfl,g2⟩;have G2:=dD (BW.out.trans g2);clear g2 hcall d0 d1 d2 d3 d4 d5 d6 d7 d8 d9;go_wp2
   go_roundg (n -(kk+1))
   case measure=>omega
   exact⟨kk+1,by omega,by omega,by go_num,G2.out,A2.out⟩
 have hltz:¬(kk:Int)< (n:Int):=by omega
 have HF:Xo (ANS (-1)):=show ANS _ by
  rw[<-HANS.out];refine .inr ⟨rfl,fun j q hjq=>A.out j q ?_ hjq⟩
  have:=(gS.1 hjq).1;have:=HN.out;omega
 go_wp2;go_ret;exact⟨⟨_,rfl,HF.out⟩,BW.out⟩
def Vac (l:List Sp) (k:Nat):Prop:=k<=l.length/\(∀s,l[k]? =Xa s->s.live=Xd)/\∀(j:Nat) (s:Sp),j<k->l[j]? =Xa s->s.live=Xc
theorem vacant_any (v:Xq) (ss:List Sp) (w:Xn) (hv:SpacesAt w v ss):
  Xp Tryz.prog 143 #[v] w fun e w'=>(∃k:Nat,e= Xl (Xe Xf (k:Int))/\Vac ss k)/\Grew w w':=by
 obtain⟨xs,k1,k2,k3⟩:=hv;have hix:=indexSpace_any v xs w k1;have HV:Xo (∀z,VacZ xs z->(∃k:Nat,z=(k:Int)/\Vac ss k)\/(z=-1/\Vac ss xs.length)):=show∀z,_ from fun z hz=>by
  have key:∀(j:Nat) s,ss[j]? =Xa s->∃x,xs[j]? =Xa x/\x.live=s.live:=fun j s hs=>by
   have hj:j<xs.length:=by rw[k2];exact(gS.1 hs).1
   exact⟨_,gE hj,(k3 j _ s (gE hj) hs).live⟩
  rcases hz with⟨k,x,rfl,h1,h2,h3⟩ | ⟨rfl,h1⟩
  ·refine .inl ⟨k,rfl,?_,fun s hs=>?_,fun j s hj hs=>?_⟩
   ·rw[<-k2];exact Nat.le_of_lt (gS.1 h1).1
   ·obtain⟨y,e1,e2⟩:=key k s hs;rw[h1]at e1;cases e1;rw[<-e2,h2]
   obtain⟨y,e1,e2⟩:=key j s hs;rw[<-e2];exact h3 j y hj e1
  refine .inr ⟨rfl,by rw[k2];exact nR _,fun s hs=>?_,fun j s hj hs=>?_⟩
  ·rw[k2,gN (nR _)]at hs;cases hs
  obtain⟨y,e1,e2⟩:=key j s hs;rw[<-e2];exact h1 j y e1
 obtain⟨a,c,rfl,_⟩:=k1.rows;clear k1 k2 k3;obtain⟨n,HN⟩:∃n,Xo (xs.length=n):=⟨_,rfl⟩;rw[HN.out]at hix HV⊢
 go_enter Tryz.func143,Tryz.ntmps143
 go_wp2_with fail;refine hix.mono ?_;clear hix;rintro e W1 ⟨⟨z,rfl,hz⟩,g1⟩;have G1:Xo (Grew w W1):=g1;clear g1
 rcases HV.out z hz with⟨k,rfl,hk⟩ | ⟨rfl,hk⟩
 ·have HK:Xo (Vac ss k):=hk;have hneg:¬(k:Int)<0:=by omega
  clear hk hz;go_wp2;go_ret;exact⟨⟨k,rfl,HK.out⟩,G1.out⟩
 have HK:Xo (Vac ss n):=hk;clear hk hz;go_wp2;go_ret;exact⟨⟨n,rfl,HK.out⟩,G1.out⟩
def setK {α:Type} (l:List α) (k:Nat) (y:α):List α:=if k=l.length then l++ [y]else l.set k y
theorem setK_at {α:Type} {l:List α} {k:Nat} (hk:k<=l.length) (y:α) (i:Nat):(setK l k y)[i]? =if i=k then Xa y else l[i]?:=by
 unfold setK
 by_cases h:k=l.length
 ·rw[if_pos h];subst h
  by_cases e:i=l.length
  ·subst e;simp
  rw[if_neg e]
  rcases Nat.lt_or_gt_of_ne e with h1 | h1
  ·rw[Xy h1]
  rw[gN (by simp;omega),gN (by omega)]
 rw[if_neg h,Ym]
 by_cases e:k=i
 ·subst e;rw[if_pos rfl,if_pos rfl,if_pos (by omega)]
 rw[if_neg e,if_neg (fun h=>e h.symm)]
theorem setK_len {α:Type} {l:List α} {k:Nat} (hk:k<=l.length) (y:α):(setK l k y).length=max l.length (k+1):=by
 unfold setK
 by_cases h:k=l.length
 ·rw[if_pos h];simp;omega
 rw[if_neg h];simp;omega
theorem settled_any (base:Nat) (v:Xq) (xs:List SpV) (k:Nat) (y:SpV) (w:Xn) (hv:OwnRow spcE base w v xs) (hb:base<=w.heap.size) (hk:k<=xs.length) (h4:xs.length<=4):
  Xp Tryz.prog 144 #[v,Xe Xf (k:Int),Xi #[Xh y.live,O y.ar.a y.ar.n y.ar.c,O y.t0.a y.t0.n y.t0.c,O y.t1.a y.t1.n y.t1.c,O y.t2.a y.t2.n y.t2.c,O y.t3.a y.t3.n y.t3.c,O y.t4.a y.t4.n y.t4.c,O y.t5.a y.t5.n y.t5.c,O y.t6.a y.t6.n y.t6.c,O y.t7.a y.t7.n y.t7.c]] w fun e w'=>∃v',e= Xl v'/\OwnRow spcE base w' v' (setK xs k y)/\w.grownBy w' v.ownBlock/\∀g,v'.ownBlock=Xa g->v.ownBlock=Xa g\/w.heap.size<=g:=by
 have HV:Xo (OwnRow spcE base w v xs):=hv;have HB:Xo (base<=w.heap.size):=hb;obtain⟨a,c,rfl⟩:=hv.form;obtain⟨n,HN⟩:∃n,Xo (xs.length=n):=⟨_,rfl⟩;rw[HN.out]at HV hk h4⊢;clear hv hb;obtain⟨W0,hW0⟩:∃W0,w.alloc (Xk #[Xh y.live,O y.ar.a y.ar.n y.ar.c,O y.t0.a y.t0.n y.t0.c,O y.t1.a y.t1.n y.t1.c,O y.t2.a y.t2.n y.t2.c,O y.t3.a y.t3.n y.t3.c,O y.t4.a y.t4.n y.t4.c,O y.t5.a y.t5.n y.t5.c,O y.t6.a y.t6.n y.t6.c,O y.t7.a y.t7.n y.t7.c] 76)=W0:=⟨_,rfl⟩;have G0:=gA hW0
 have X0:=xA hW0
 have HW0:Xo (_=W0):=hW0;clear hW0
 go_enter Tryz.func144,Tryz.ntmps144
 go_upto_region 1 with fail;rw[HW0.out];obtain⟨b,HBB⟩:∃b,Xo (w.heap.size=b):=⟨_,rfl⟩;rw[HBB.out]at X0⊢;obtain⟨x0,x1,x2,x3,x4,x5,x6,x7,x8,x9⟩:=X0.out.c10
 by_cases he:k=n
 ·have hez:((k:Int) ==(n:Int))=Xc:=by rw[he];simp
  have HSS:Xo (setK xs k y=xs++ [y]):=show _=_ by unfold setK;rw[if_pos (by rw[HN.out];exact he)]
  clear he;obtain⟨W1,hW1⟩:∃W1,W0.alloc (Xk #[Xh y.live,O y.ar.a y.ar.n y.ar.c,O y.t0.a y.t0.n y.t0.c,O y.t1.a y.t1.n y.t1.c,O y.t2.a y.t2.n y.t2.c,O y.t3.a y.t3.n y.t3.c,O y.t4.a y.t4.n y.t4.c,O y.t5.a y.t5.n y.t5.c,O y.t6.a y.t6.n y.t6.c,O y.t7.a y.t7.n y.t7.c] 76)=W1:=⟨_,rfl⟩;have G1:=gT hW1 G0
  have R1:Xo (RowAt spcE W1 (O (Xa ⟨W0.heap.size,0,Xb⟩) 1 1) [y]):=show RowAt _ _ _ _ by rw[<-hW1];exact row_lit spcE W0 [y] _ rfl (show 1*224<=140737488355328 by decide)
  have HW1:Xo (_=W1):=hW1;clear hW1
  go_wp2_with (at_builtin;rw[HW1.out];refine wpList_append_apart (E:=spcE) rfl (.tmp 11) (.tmp 13) rfl base _ xs rfl (HV.out.grew G1.out) _ [y] rfl R1.out ?hb (nT HB.out (bS G1.out)) ?_)
  case hb=>
   show(xs.length+1)*224<=_
   rw[HN.out];omega
  intro v' W2 ow2 gr2 ap2;have HF:Xo (OwnRow spcE base W2 v' (setK xs k y)/\w.grownBy W2 (O a n c).ownBlock/\∀g,v'.ownBlock=Xa g->(O a n c).ownBlock=Xa g\/w.heap.size<=g):=show _/\_ from⟨by rw[HSS.out];exact ow2,⟨gr2.os.trans (Below.os G1.out),gr2.tape.trans (Below.tape G1.out),gr2.output.trans (Below.output G1.out),nT (bS G1.out) gr2.size,fun i hi hne=>(gr2.block i (Xs hi (bS G1.out)) hne).trans (Below.block G1.out i hi)⟩,fun g hg=>(ap2 g hg).imp id (fun h=>nT (bS G1.out) h)⟩
  clear ow2 gr2 ap2;go_wp2;go_ret;exact⟨_,rfl,HF.out⟩
 have hez:((k:Int) ==(n:Int))=Xd:=by
  have:(k:Int)≠(n:Int):=by omega
  simpa using this
 have HSS:Xo (setK xs k y=xs.set k y):=show _=_ by unfold setK;rw[if_neg (by rw[HN.out];exact he)]
 have hkn:k<n:=by omega
 have hkz:(k:Int)< (n:Int):=by omega
 clear he;obtain⟨g,c',heq⟩:=HV.out.formS (by rw[HN.out];omega)
 rw[HN.out]at heq;cases heq
 go_wp2_with (refine wpList_store_elt (E:=spcE) rfl (.tmp 18) (.tmp 17) rfl base _ xs (HV.out.grew G0.out) g k rfl y (by rw[HN.out];exact hkn) _ rfl (by simp[spcE]) _ rfl rfl ?_)
 intro W2 ow2 gr2 sz2;have HF:Xo (OwnRow spcE base W2 (O (Xa ⟨g,0,Xb⟩) n c) (setK xs k y)/\w.grownBy W2 (O (Xa ⟨g,0,Xb⟩) n c).ownBlock/\∀g',(O (Xa ⟨g,0,Xb⟩) n c).ownBlock=Xa g'->(O (Xa ⟨g,0,Xb⟩) n c).ownBlock=Xa g'\/w.heap.size<=g'):=show _/\_ from⟨by rw[HSS.out];exact ow2,⟨gr2.os.trans (Below.os G0.out),gr2.tape.trans (Below.tape G0.out),gr2.output.trans (Below.output G0.out),nT (bS G0.out) gr2.size,fun i hi hne=>(gr2.block i (Xs hi (bS G0.out)) hne).trans (Below.block G0.out i hi)⟩,fun g' hg=> .inl hg⟩
 clear ow2 gr2 sz2 x0 x1 x2 x3 x4 x5 x6 x7 x8 x9;go_wp2;go_ret;exact⟨_,rfl,HF.out⟩
theorem ChM.space {w0 w w1 w2 w3:Xn} {p k:Nat} {V:MaV} {m:Ma} (h:ChM w0 p w V m) {xs:List SpV} {ya sv:Sli} {l:List Ar} (hk:k<=m.sp.length) (s2:xs.length=m.sp.length) (s3:∀(i:Nat) x s,xs[i]? =Xa x->m.sp[i]? =Xa s->∀W,OutD (Dq w0.heap.size p V.sp) w W->SpaceAt W x s)
  (g1:Grew w w1) (ar:OwnRow arE w.heap.size w1 (O ya.a ya.n ya.c) l) (ow:OwnRow spcE w0.heap.size w2 (O sv.a sv.n sv.c) (setK xs k ⟨Xc,ya,sli0,sli0,sli0,sli0,sli0,sli0,sli0,sli0⟩)) (g2:w1.grownBy w2 (O V.sp.a V.sp.n V.sp.c).ownBlock)
  (ap:∀g,(O sv.a sv.n sv.c).ownBlock=Xa g->(O V.sp.a V.sp.n V.sp.c).ownBlock=Xa g\/w1.heap.size<=g) (g3:w2.grownBy w3 (Xa p)) (bx:BoxT w3 p 88 (chL { V with sp:=sv } m)):
  ChM w0 p w3 { V with sp:=sv } { m with sp:=setK m.sp k ⟨Xc,l,none8⟩ }:=by
 have o12:OutD (Dp p V.sp) w1 w2:=⟨g2.os,g2.tape,g2.output,g2.size,fun i hi hb=>g2.block i hi (fun e=>hb (.inr e.symm))⟩
 have o23:OutD (Dp p V.sp) w2 w3:=OutD.grown g3 (.inl rfl);have o13:=o12.trans o23;have key:∀W,OutD (Dq w0.heap.size p sv) w3 W->OutD (Dq w0.heap.size p V.sp) w1 W:=fun W hW=>have o13:=o13.big w0.heap.size;⟨hW.os.trans o13.os,hW.tape.trans o13.tape,hW.output.trans o13.output,nT o13.size hW.size,fun i hi hb=>(hW.block i (Xs hi o13.size) (fun e=>by
  rcases e with e | e | e
  ·exact hb (.inl e)
  ·exact hb (.inr (.inl e))
  rcases ap i e with e | e
  ·exact hb (.inr (.inr e))
  omega)).trans (o13.block i hi hb)⟩
 have key0:∀W,OutD (Dq w0.heap.size p sv) w3 W->OutD (Dq w0.heap.size p V.sp) w W:=fun W hW=>(OutD.grew g1).trans (key W hW)
 have gr3:Grew w0 w3:=by
  have a1:=h.gr.trans g1;have hd:=h.dlo;exact⟨o13.os.trans (Below.os a1),o13.tape.trans (Below.tape a1),o13.output.trans (Below.output a1),nT (bS a1) o13.size,fun i hi=>(o13.block i (Xs hi (bS a1)) (fun e=>by have:=hd i e;omega)).trans (Below.block a1 i hi)⟩
 have hpt:(88:TypeId)≠spcE.ty:=by decide
 refine⟨gr3,h.lo,bx,fun W hW=>?_,⟨_,ow.grown g3 (fun g hg e=>?_),?_,fun i x s hx hs W hW=>?_⟩⟩
 ·have r:=h.rest W (key0 W hW);exact⟨r.fs,r.sl,r.sb,r.sq,r.db,r.dq,r.fl,r.ca⟩
 ·have hb1:BoxT w2 p 88 (chL V m):=(h.box.grew g1).beside g2 (fun g' e=>h.ne g' e)
  cases e;exact ow.ne hb1 hpt _ hg rfl
 ·show(setK xs k _).length=(setK m.sp k _).length
  rw[setK_len (by omega),setK_len hk,s2]
 have hs:(setK m.sp k ⟨Xc,l,none8⟩)[i]? =Xa s:=hs;rw[setK_at (by omega)]at hx
 rw[setK_at hk]at hs
 by_cases e:i=k
 ·rw[if_pos e]at hx hs;cases hx;cases hs;exact⟨rfl,ar.new.staysD h.dqt W (key W hW),ar.cap,TabS.nil _ _ _⟩
 rw[if_neg e]at hx hs;exact s3 i x s hx hs W (key0 W hW)
def LiveP (m:Ma) (p:Int) (q:Nat) (s:Sp):Prop:=p=(q:Int)/\m.sp[q]? =Xa s/\s.live=Xc
theorem wrongProcess_any (V:MaV) (m:Ma) (p:Int) (w:Xn) (hm:MachAt w V m) (h0:maW m=0):
  Xp Tryz.prog 142 #[Xi #[O V.f.a V.f.n V.f.c,Xe Xf m.hand,O V.s.a V.s.n V.s.c,O V.sb.a V.sb.n V.sb.c,O V.sq.a V.sq.n V.sq.c,O V.db.a V.db.n V.db.c,O V.dq.a V.dq.n V.dq.c,O V.fl.a V.fl.n V.fl.c,Xe Xf m.cnt,O V.ca.a V.ca.n V.ca.c,O V.sp.a V.sp.n V.sp.c],Xe Xf p] w fun e w'=>((e= Xl (Xe Xf 0)/\∃q s,LiveP m p q s)\/(e= Xl (Xe Xf 5)/\∀q s,¬LiveP m p q s))/\Grew w w':=by
 obtain⟨W1,hW1⟩:∃W1,w.alloc (Xk #[O V.f.a V.f.n V.f.c,Xe Xf m.hand,O V.s.a V.s.n V.s.c,O V.sb.a V.sb.n V.sb.c,O V.sq.a V.sq.n V.sq.c,O V.db.a V.db.n V.db.c,O V.dq.a V.dq.n V.dq.c,O V.fl.a V.fl.n V.fl.c,Xe Xf m.cnt,O V.ca.a V.ca.n V.ca.c,O V.sp.a V.sp.n V.sp.c] 42)=W1:=⟨_,rfl⟩;have G1:=gA hW1
 have X1:=xA hW1
 have HM:Xo (MachAt w V m):=hm;have HW1:Xo (_=W1):=hW1;clear hW1;have hwr:=wrongM_any V m W1 (hm.grew G1.out);rw[h0]at hwr;obtain⟨-,-,-,-,-,-,-,-,n9⟩:=hm.ns;have HN9:Xo (V.sp.n=m.sp.length):=n9;clear hm h0 n9
 go_enter Tryz.func142,Tryz.ntmps142
 go_upto_region 1 with fail;rw[HW1.out];obtain⟨b,HB⟩:∃b,Xo (w.heap.size=b):=⟨_,rfl⟩;rw[HB.out]at X1⊢;obtain⟨x0,x1,x2,x3,x4,x5,x6,x7,x8,x9,x10⟩:=X1.out.c11;go_wp2_with fail;refine hwr.mono ?_;clear hwr x0 x1 x2 x3 x4 x5 x6 x7 x8 x9 x10;rintro e W2 ⟨rfl,g2⟩;have G2:=dD (G1.out.trans g2);have X2:=dD (X1.out.grew g2);clear g2 X1 G1;have x10:=X2.out.c 10 rfl;obtain⟨sn,HSN⟩:∃sn,Xo (V.sp.n=sn):=⟨_,rfl⟩;rw[HSN.out]at x10
 by_cases hneg:p<0
 ·have HF:Xo (∀q s,¬LiveP m p q s):=show∀q s,_ from fun q s h=>by have:=h.1;omega
  go_wp2;go_ret;exact⟨.inr ⟨rfl,HF.out⟩,G2.out⟩
 by_cases hge:(sn:Int)<=p
 ·have HF:Xo (∀q s,¬LiveP m p q s):=show∀q s,_ from fun q s h=>by
   have:=h.1;have:=(gS.1 h.2.1).1;have:=HSN.out;have:=HN9.out;omega
  go_wp2;go_ret;exact⟨.inr ⟨rfl,HF.out⟩,G2.out⟩
 obtain⟨q,rfl⟩:∃q:Nat,p=(q:Int):=⟨p.toNat,by omega⟩
 have hqz:(q:Int)< (sn:Int):=by omega
 obtain⟨xs,s1,s2,s3⟩:=(HM.out.grew G2.out).sp;obtain⟨x,hx⟩:∃x,xs[q]? =Xa x:=⟨_,gE (by rw[s2,<-HN9.out,HSN.out];omega)⟩
 obtain⟨s,hs⟩:∃s,m.sp[q]? =Xa s:=⟨_,gE (by rw[<-HN9.out,HSN.out];omega)⟩
 have hlv:=(s3 q x s hx hs).live;obtain⟨a,c,heq,hrow⟩:=s1.sps;have ha:V.sp.a=a:=by
  simp only[vJ]at heq;exact heq.1
 obtain⟨ad,had,hl⟩:=hrow q x hx;have HS:Xo (m.sp[q]? =Xa s):=hs;obtain⟨d0,-⟩:=Cells.sp10 (hl W2 (Grew.refl _));rw[ha,had]at x10;clear hl hrow heq ha had s1 s2 s3 hx hs
 cases hv:s.live with
 | true=>
  rw[hlv,hv]at d0;have HF:Xo (∃q' s,LiveP m (q:Int) q' s):=show∃q' s,_ from⟨q,s,rfl,HS.out,hv⟩
  clear hv hlv;go_wp2;go_ret;exact⟨.inl ⟨rfl,HF.out⟩,G2.out⟩
 | false=>
  rw[hlv,hv]at d0;have HF:Xo (∀q' s,¬LiveP m (q:Int) q' s):=show∀q' s,_ from fun q' s' h=>by
   have e:q'=q:=by have:=h.1;omega
   rw[e]at h;have h2:=h.2.1;rw[HS.out]at h2;cases h2;have h3:=h.2.2;rw[hv]at h3;cases h3
  clear hv hlv;go_wp2;go_ret;exact⟨.inr ⟨rfl,HF.out⟩,G2.out⟩
theorem frMul64_one (n:Nat) (hn:n<=40) (w:Xn):
  Xp Tryz.prog 107 #[.int .u64 1,.int .u64 (n:Int)] w fun e w'=>e= Xl (Xm #[.int .u64 0,.int .u64 (n:Int)])/\w'=w:=by
 have m1:bits .and .u64 1 4294967295=1:=Mul64.maskN 1 (by omega)
 have m2:bits .and .u64 (n:Int) 4294967295=(n:Int):=by rw[Mul64.maskN n (by omega)];omega
 have m0:bits .and .u64 0 4294967295=0:=Mul64.maskN 0 (by omega)
 have d1:(n:Int) / 4294967296=0:=by omega
 have HM1:Xo (bits .and .u64 1 4294967295=1):=m1;have HM2:Xo (bits .and .u64 (n:Int) 4294967295=(n:Int)):=m2;have HM0:Xo (bits .and .u64 0 4294967295=0):=m0;have HD1:Xo ((n:Int) / 4294967296=0):=d1;clear m1 m2 m0 d1
 go_enter Tryz.func107,Tryz.ntmps107
 go_wp2;have w0:IntKind.u64.wrap 0=0:=Mul64.wrapN 0 (by omega)
 have wn:IntKind.u64.wrap (n:Int)=(n:Int):=Mul64.wrapN n (by omega)
 simp only[HM1.out,HM2.out,Int.one_mul,wn,HD1.out,w0,HM0.out,Int.mul_zero,Int.add_zero,Int.zero_ediv]
 go_ret2
 exact⟨rfl,rfl⟩
theorem frMul_one (n:Nat) (hn:n<=40) (w:Xn):
  Xp Tryz.prog 57 #[.int .u64 1,.int .u64 (n:Int)] w fun e w'=>e= Xl (Xm #[.int .u64 0,.int .u64 (n:Int)])/\w'=w:=by
 have c64:=frMul64_one n hn w
 go_enter Tryz.func57,Tryz.ntmps57
 go_wp2_with (go_at_call 107;refine c64.mono ?_;rintro e w' ⟨rfl,hw⟩;rw[hw])
 go_ret2
 exact⟨rfl,rfl⟩
theorem frSplice_row (m:List Fr):∀(l:List Fr) (off:Nat),off+m.length<=l.length->splice (l.flatMap frv) (off*13) (m.flatMap frv)=(l.take off++(m++l.drop (off+m.length))).flatMap frv:=fun l off h=>by
 have h1:∀(l:List Fr) (j:Nat),j<=l.length->(l.flatMap frv).take (j*13)=(l.take j).flatMap frv/\(l.flatMap frv).drop (j*13)=(l.drop j).flatMap frv:=fun l j hj=>by
  have he:l.flatMap frv=(l.take j).flatMap frv++(l.drop j).flatMap frv:=by rw[<-Xt,List.take_append_drop]
  have hl:((l.take j).flatMap frv).length=j*13:=by rw[frRow_len,List.length_take,Nat.min_eq_left hj]
  constructor
  ·rw[he,<-hl,List.take_left]
  rw[he,<-hl,List.drop_left]
 unfold splice;rw[frRow_len m,<-Nat.add_mul,(h1 l off (by omega)).1,(h1 l (off+m.length) h).2,Xt,Xt]
theorem frRun_copy_elts {w:Xn} (ty:TypeId) (base:Nat) (v:Xq) (l:List Fr) (hown:frOwnRow base w v l) (g:Nat) (hg:v.ownBlock=Xa g) (off dLen dCap:Nat) (ad:Addr) (sLen sCap:Nat)
  (m:List Fr) (hm:m.length=Yn sLen dLen) (hsrc:Cells w ad (m.flatMap frv)) (hfit:off+m.length<=l.length):
  ∃w',(Builtin.copy_ #[27,27] ty #[O (Xa ⟨g,off*13,Xb⟩) dLen dCap,O (Xa ad) sLen sCap]).run Tryz.prog w= .ok (goInt m.length) w'/\frOwnRow base w' v (l.take off++(m++l.drop (off+m.length)))/\w.grownBy w' (Xa g)/\w'.heap.size=w.heap.size:=by
 obtain⟨i0,hi,_,hz1,_⟩:=info_parts Tryz.infoFrame;have hcl:(m.flatMap frv).length=m.length*13:=frRow_len m;have hfit':off*13+(m.flatMap frv).length<=l.length*13:=by
  rw[hcl,<-Nat.add_mul];exact Yh _ hfit
 obtain⟨w',hr,h2,h3,h4⟩:=run_storeCells_row (P:=Tryz.prog) hown.1 hg (off*13) (m.flatMap frv) hfit' (flatMap_one frv_one m);have hl:=run_loadCells_list (P:=Tryz.prog) w ad (m.flatMap frv) hsrc;rw[hcl]at hl;rw[frSplice_row m l off hfit]at h2;have hlen:(l.take off++(m++l.drop (off+m.length))).length=l.length:=by simp;omega
 refine⟨w',?_,⟨by rw[hlen];exact h2,by rw[hlen];exact hown.2⟩,h3,h4⟩
 simp[Builtin.copy_,run_underlying Tryz.underlying27,Builtin.lenOf,Builtin.firstCells,sizeOf,typeInfo,hi,hz1,<-hm,hl,hr]
theorem frWpList_copy_elts {w:Xn} {ops:Array Oper} {rest:List Oper} {o:Oper} {a:Act} {Q:Exit->Act->Xn->Prop} (hgd:o.guard=Xb) (d s:Operand) (ho:o.op= .call { callee:= .builtin .copy,args:=#[d,s],argTypes:=#[27,27] })
  (base:Nat) (v:Xq) (l:List Fr) (hown:frOwnRow base w v l) (g:Nat) (hg:v.ownBlock=Xa g) (off dLen dCap:Nat) (dp:Addr) (hd:a.eval d= O (Xa dp) dLen dCap) (hdp:dp=⟨g,off*13,Xb⟩) (ad:Addr) (sLen sCap:Nat) (hs:a.eval s= O (Xa ad) sLen sCap)
  (m:List Fr) (hm:m.length=Yn sLen dLen) (hsrc:Cells w ad (m.flatMap frv)) (hfit:off+m.length<=l.length)
  (h:∀w',frOwnRow base w' v (l.take off++(m++l.drop (off+m.length)))->w.grownBy w' (Xa g)->w'.heap.size=w.heap.size->wpList Tryz.prog ops Q rest (a.put o.dst (goInt m.length)) w'):wpList Tryz.prog ops Q (o :: rest) a w:=by
 subst hdp;refine wpList_plain hgd fun K hK=>?_
 obtain⟨w',hrun,h2,h3,h4⟩:=frRun_copy_elts o.type base v l hown g hg off dLen dCap ad sLen sCap m hm hsrc hfit;unfold Oper.wp
 simp[execOp,ho,resolve,invoke,builtin,hd,hs,hrun,Result.andThen]
 exact hK _ _ (h w' h2 h3 h4)
theorem frRep_step (q:Fr) (n m z:Nat) (_h:m<=n) (hz:z=Yn m (n - m)):(Xr m q++Xr (n - m) fr0).take m++(Xr z q++(Xr m q++Xr (n - m) fr0).drop (m+z))=Xr (m+z) q++Xr (n -(m+z)) fr0:=by
 have hzz:z<=n - m:=by rw[hz];exact Nat.min_le_right _ _
 rw[List.take_append_of_le_length (by simp),Xu (by simp),List.drop_append,List.drop_of_length_le (by simp),List.nil_append,lR,Yj,<-List.append_assoc,Ya]
 congr 2
 omega
theorem frRepeat_any (q:Fr) (x:Nat) (c n:Nat) (hn:n<=40) (hn1:1<=n) (w:Xn) (hv:frRowAt w (O (Xa ⟨x,0,Xb⟩) 1 c) [q]):
  Xp Tryz.prog 25 #[O (Xa ⟨x,0,Xb⟩) 1 c,Xe Xf (n:Int)] w fun e w'=>∃b,e= Xl b/\frNewRow w.heap.size w' b (Xr n q)/\Grew w w':=by
 have HC:Xo (Cells w ⟨x,0,Xb⟩ ([q].flatMap frv)):=by
  obtain⟨⟨a,c',h1,_,h3⟩,_⟩:=hv;cases h1;exact h3 _ rfl
 clear hv;have hm:=frMul_one n hn w;have hnz:¬(n:Int)<0:=by omega
 have hn2:¬(9223372036854775807:Int)< (n:Int):=by omega
 go_enter Tryz.func25,Tryz.ntmps25
 go_wp2_with (first
  | (go_at_call 57;refine hm.mono ?_;rintro e w' ⟨rfl,hw⟩;rw[hw])
  | (refine frWpList_make_row rfl (.tmp 29) rfl n rfl (by show n*40<=_;omega) ?_;intro C ow;have OW:Xo (frOwnRow w.heap.size (w.alloc (Xk C 93)) (O (Xa ⟨w.heap.size,0,Xb⟩) n n) (Xr n fr0)):=ow;clear ow)
  | (refine frWpList_copy_elts rfl (.tmp 31) (.tmp 32) rfl w.heap.size (O (Xa ⟨w.heap.size,0,Xb⟩) n n) (Xr n fr0) OW.out w.heap.size rfl 0 n n _ rfl ?a1 _ 1 c rfl [q] ?a2 ?a3 ?a4 ?_))
 case a1=>simp
 case a2=>show 1=Yn 1 n;exact(Nat.min_eq_left hn1).symm
 case a3=>exact HC.out.grew (grew_alloc _ _)
 case a4=>simp;omega
 intro W1 ow1 gr1 _;have OW1:Xo (frOwnRow w.heap.size W1 (O (Xa ⟨w.heap.size,0,Xb⟩) n n) (Xr 1 q++Xr (n - 1) fr0)):=show frOwnRow _ _ _ (Xr 1 q++Xr (n - 1) fr0) by simpa [Yj]using ow1
 have G1:Xo (Grew w W1):=grew_grown (grew_alloc _ _) gr1 (nR _);clear ow1 gr1;go_wp2
 go_loopg [8] n (fun gg s8 wr=>∃m:Nat,1<=m/\m<=n/\n - m<=gg/\s8= Xe Xf m/\Xo (frOwnRow w.heap.size wr (O (Xa ⟨w.heap.size,0,Xb⟩) n n) (Xr m q++Xr (n - m) fr0))/\Xo (Grew w wr))
 case atStart=>exact⟨1,nR _,hn1,by omega,rfl,OW1.out,G1.out⟩
 obtain⟨m,hm1,hmn,hg,rfl,OF,GW⟩:=hrel
 by_cases hlt:m<n
 ·have hltz:(m:Int)< (n:Int):=by omega
  have hmnz:(m:Int)<=(n:Int):=by omega
  have OFd:Xo (frOwnRow w.heap.size wr.drew (O (Xa ⟨w.heap.size,0,Xb⟩) n n) (Xr m q++Xr (n - m) fr0)):=show frOwnRow _ _ _ _ from OF.out.grew (gW _)
  obtain⟨z,HZ⟩:∃z,Xo (z=Yn m (n - m)):=⟨_,rfl⟩;have hz0:z=min m (n - m):=HZ.out;have hz1:1<=z:=by omega
  have hz2:z<=m:=by omega
  have hz3:z<=n - m:=by omega
  clear hz0;have hsrc:Cells wr.drew ⟨w.heap.size,0,Xb⟩ ((Xr z q).flatMap frv):=fun j u hj=>by
   have h1:=OFd.out.1.cells rfl;refine h1 j u ?_;rw[Xt,Xy]
   ·rw[show m=z+(m - z) by omega,<-Ya,Xt,Xy (gS.1 hj).1]
    exact hj
   have h3:=(gS.1 hj).1;rw[frRow_len]at h3⊢;simp only[lR]at h3⊢;exact Xs h3 (Yh _ hz2)
  obtain⟨W2,hrun,ow2,gr2,_⟩:=frRun_copy_elts 3 w.heap.size _ _ OFd.out w.heap.size rfl m (n - m) (n - m) ⟨w.heap.size,0,Xb⟩ m n (Xr z q) (by rw[lR];exact HZ.out) hsrc (by simp;omega)
  have hcopy:(Builtin.copy_ #[27,27] 3 #[O (Xa ⟨w.heap.size,m*13,Xb⟩) (n - m) (n - m),O (Xa ⟨w.heap.size,0,Xb⟩) m n]).run Tryz.prog wr.drew= .ok (Xe Xf (z:Int)) W2:=by
   have h1:=hrun;rw[lR]at h1;exact h1
  have OW2:Xo (frOwnRow w.heap.size W2 (O (Xa ⟨w.heap.size,0,Xb⟩) n n) (Xr (m+z) q++Xr (n -(m+z)) fr0)):=show frOwnRow _ _ _ _ by
   rw[<-frRep_step q n m z (by omega) HZ.out]
   rw[lR]at ow2;exact ow2
  have GW2:Xo (Grew w W2):=grew_grown (GW.out.trans (gW _)) gr2 (nR _)
  clear hsrc hrun ow2 gr2;go_wp2
  go_region
  go_wp2
  go_roundg (n -(m+z))
  case measure=>omega
  exact⟨m+z,by omega,by omega,nR _,by go_num,OW2.out,GW2.out⟩
 have hltz:¬(m:Int)< (n:Int):=by omega
 have:m=n:=by omega
 subst this;have HO:Xo (frOwnRow w.heap.size wr (O (Xa ⟨w.heap.size,0,Xb⟩) m m) (Xr m q)):=show frOwnRow _ _ _ (Xr m q) by have:=OF.out;simpa using this
 go_wp2;go_ret;exact⟨_,rfl,HO.out.new,GW.out⟩
def newME (n:Int):Int:=if 0<=n/\n<=40 then 0 else 4
def newMF (n:Int):List Fr:=if 0<=n/\n<=40 then Xr n.toNat frF else []
theorem repeat_zero (q:Fr) (x:Nat) (c:Nat) (w:Xn):
  Xp Tryz.prog 25 #[O (Xa ⟨x,0,Xb⟩) 1 c,Xe Xf 0] w fun e w'=>∃b,e= Xl b/\frNewRow w.heap.size w' b (Xr 0 q)/\Grew w w':=by
 have hm:=frMul_one 0 (by omega) w
 go_enter Tryz.func25,Tryz.ntmps25
 go_wp2_with (first
  | (go_at_call 57;refine hm.mono ?_;rintro e w' ⟨rfl,hw⟩;rw[hw])
  | (refine frWpList_make_row rfl (.tmp 29) rfl 0 rfl (by show 0*40<=_;omega) ?_;intro C ow;have OW:Xo (frOwnRow w.heap.size (w.alloc (Xk C 93)) (O (Xa ⟨w.heap.size,0,Xb⟩) 0 0) (Xr 0 fr0)):=ow;clear ow)
  | (refine frWpList_copy_elts rfl (.tmp 31) (.tmp 32) rfl w.heap.size (O (Xa ⟨w.heap.size,0,Xb⟩) 0 0) (Xr 0 fr0) OW.out w.heap.size rfl 0 0 0 _ rfl ?a1 _ 1 c rfl [] ?a2 ?a3 ?a4 ?_))
 case a1=>simp
 case a2=>rfl
 case a3=>intro j u hj;simp at hj
 case a4=>simp
 intro W1 ow1 gr1 _;have OW1:Xo (frOwnRow w.heap.size W1 (O (Xa ⟨w.heap.size,0,Xb⟩) 0 0) (Xr 0 q)):=show frOwnRow _ _ _ ([]:List Fr) by simpa using ow1
 have G1:Xo (Grew w W1):=grew_grown (grew_alloc _ _) gr1 (nR _);clear ow1 gr1;go_wp2
 go_loopg [8] 0 (fun _ s8 wr=>s8= Xe Xf 0/\wr=W1)
 case atStart=>exact⟨rfl,rfl⟩
 obtain⟨rfl,rfl⟩:=hrel;go_wp2;go_ret;exact⟨_,rfl,OW1.out.new,G1.out⟩
theorem newMem_nat (n:Nat) (hn:n<=40) (w:Xn):
  Xp Tryz.prog 15 #[Xe Xf (n:Int)] w fun e w'=>∃b,e= Xl (Xm #[Xi #[b,Xe Xf 0],Xe Xf 0])/\frNewRow w.heap.size w' b (Xr n frF)/\Grew w w':=by
 have hnz:¬(n:Int)<0:=by omega
 have hn4:¬(40:Int)< (n:Int):=by omega
 have hrep:∀W x,Box W x (frv frF)->Xp Tryz.prog 25 #[O (Xa ⟨x,0,Xb⟩) 1 1,Xe Xf (n:Int)] W fun e w'=>∃b,e= Xl b/\frNewRow W.heap.size w' b (Xr n frF)/\Grew W w':=fun W x hx=>by
  by_cases h1:1<=n
  ·refine frRepeat_any frF x 1 n hn h1 W ⟨⟨_,1,rfl,fun h=>(by cases h),fun y hy=>?_⟩,by show 1*40<=_;omega⟩
   cases hy;intro j u hj;rw[Addr.add_lit,zA];exact hx.c j (by have h:=hj;simp only[List.flatMap_cons,List.flatMap_nil,List.append_nil]at h;exact h)
  have:n=0:=by omega
  subst this;exact repeat_zero frF x 1 W
 go_enter Tryz.func15,Tryz.ntmps15
 go_wp2_with fail;refine(freeFrame_any _).mono ?_;rintro e W1 ⟨rfl,g1⟩;have X2:Xo (Box W1 w.heap.size [O Xb 0 0,Xe Xf 0]):=(Box.top w [O Xb 0 0,Xe Xf 0] _ rfl).grew g1;have G1:Xo (Grew w W1):=(grew_alloc _ _).trans g1;clear g1;simp only[frv,frF,pg0];go_wp2_with fail;refine(hrep _ _ (Box.top W1 _ _ rfl)).mono ?_;rintro e W2 ⟨b,rfl,hb,g2⟩;obtain⟨a2,c2,rfl,_⟩:=hb.1.rows;rw[lR]at hb⊢;have NB:Xo (frNewRow W1.heap.size W2 (O a2 n c2) (Xr n frF)):=hb.base (by simp)
 have X22:=(X2.out.alloc (Xk #[Xe Xg 0,Xe Xg 0,Xe Xg 0,Xe Xg 0,Xe Xg 0,Xe Xg 0,Xe Xg 0,Xe Xg 0,Xe Xf 0,Xh Xd,Xh Xd,Xe Xf (-1),Xe Xf 0] 93)).grew g2;have G2:=dD ((G1.out.trans (grew_alloc _ _)).trans g2);have r0:=X22.c 0 rfl;have r1:=X22.c 1 rfl;have rf:=X22.f;have HX:Xo (w.heap.size<W1.heap.size):=X2.out.lt;clear hb g2 X22;go_wp2;refine bodyPost_ret (v:= Xm #[Xi #[O a2 n c2,Xe Xf 0],Xe Xf 0]) (by simp[results,Tryz.results15,go_sem, *]) rfl ⟨_,rfl,?_,?_⟩
 ·exact((NB.out.setCell (a:=⟨w.heap.size,0,Xb⟩) HX.out _).setCell (a:=⟨w.heap.size,1,Xb⟩) HX.out _).base (bS G1.out)
 exact grew_set (grew_set G2.out (by simp) _) (by simp) _
theorem newMem_bad (n:Int) (hn:¬(0<=n/\n<=40)) (w:Xn):
  Xp Tryz.prog 15 #[Xe Xf n] w fun e w'=>∃b,e= Xl (Xm #[Xi #[b,Xe Xf 0],Xe Xf 4])/\frNewRow w.heap.size w' b ([]:List Fr)/\Grew w w':=by
 by_cases h0:n<0
 ·go_enter Tryz.func15,Tryz.ntmps15
  go_wp2;refine bodyPost_ret (v:= Xm #[Xi #[O Xb 0 0,Xe Xf 0],Xe Xf 4]) (by simp[results,Tryz.results15,go_sem, *]) rfl ⟨_,rfl,frNewRow.nil _ _,?_⟩
  exact grew_alloc _ _
 have h1:40<n:=by omega
 go_enter Tryz.func15,Tryz.ntmps15
 go_wp2;refine bodyPost_ret (v:= Xm #[Xi #[O Xb 0 0,Xe Xf 0],Xe Xf 4]) (by simp[results,Tryz.results15,go_sem, *]) rfl ⟨_,rfl,frNewRow.nil _ _,?_⟩
 exact grew_alloc _ _
theorem newS_nat (n:Nat) (hn:n<=60) (w:Xn):
  Xp Tryz.prog 16 #[Xe Xf (n:Int)] w fun e w'=>∃a' c',e= Xl (Xm #[O a' n c',Xe Xf 0])/\NewRow slE w.heap.size w' (O a' n c') (Xr n 0)/\Grew w w':=by
 have hnz:¬(n:Int)<0:=by omega
 have hn4:¬(60:Int)< (n:Int):=by omega
 go_enter Tryz.func16,Tryz.ntmps16
 go_wp2_with (refine wpList_make_row slE rfl (.tmp 10) rfl n rfl (by show n*8<=_;omega) ?_)
 intro C ow;have OW:Xo (OwnRow slE w.heap.size (w.alloc (Xk C 3)) (O (Xa ⟨w.heap.size,0,Xb⟩) n n) (Xr n 0)):=ow;clear ow
 show wpList _ _ _ _ _ (w.alloc (Xk C 3))
 obtain⟨W1,hW1⟩:∃W1,w.alloc (Xk C 3)=W1:=⟨_,rfl⟩;have G1:=gA hW1
 rw[hW1]at OW⊢;clear hW1;go_wp2;refine bodyPost_ret (v:= Xm #[O (Xa ⟨w.heap.size,0,Xb⟩) n n,Xe Xf 0]) (by simp[results,Tryz.results16,go_sem, *]) rfl ⟨_,_,rfl,OW.out.new,G1.out⟩
theorem newS_bad (n:Int) (hn:¬(0<=n/\n<=60)) (w:Xn):
  Xp Tryz.prog 16 #[Xe Xf n] w fun e w'=>e= Xl (Xm #[O Xb 0 0,Xe Xf 4])/\Grew w w':=by
 by_cases h0:n<0
 ·clear hn
  go_enter Tryz.func16,Tryz.ntmps16
  go_wp2;refine bodyPost_ret (v:= Xm #[O Xb 0 0,Xe Xf 4]) (by simp[results,Tryz.results16,go_sem, *]) rfl ⟨rfl,Grew.refl _⟩
 have h1:60<n:=by omega
 clear hn
 go_enter Tryz.func16,Tryz.ntmps16
 go_wp2;refine bodyPost_ret (v:= Xm #[O Xb 0 0,Xe Xf 4]) (by simp[results,Tryz.results16,go_sem, *]) rfl ⟨rfl,Grew.refl _⟩
theorem newSt_any (n:Int) (w:Xn):
  Xp Tryz.prog 18 #[Xe Xf n] w fun e w'=>e= Xl (Xm #[Xi #[O Xb 0 0,Xe Xf (if 0<=n/\n<=80 then n else 0)],Xe Xf (if 0<=n/\n<=80 then 0 else 4)])/\Grew w w':=by
 by_cases h:0<=n/\n<=80
 ·rw[if_pos h,if_pos h];have hb:=fun W=>below_yes (m:=n) (n:=81) h.1 (by omega) W
  clear h
  go_enter Tryz.func18,Tryz.ntmps18
  go_wp2_with (go_at_call 27;refine(hb _).mono ?_;rintro e w' ⟨rfl,rfl⟩)
  refine bodyPost_ret (v:= Xm #[Xi #[O Xb 0 0,Xe Xf n],Xe Xf 0]) (by simp[results,Tryz.results18,go_sem, *]) rfl ⟨rfl,?_⟩
  first | exact grew_alloc _ _ | exact Below.setCell (Below.setCell (grew_alloc _ _) (p:=⟨w.heap.size,0,Xb⟩) (by simp) _) (p:=⟨w.heap.size,1,Xb⟩) (by simp) _
 rw[if_neg h,if_neg h];have hb:=fun W=>below_no (m:=n) (n:=81) (by omega) W
 clear h
 go_enter Tryz.func18,Tryz.ntmps18
 go_wp2_with (go_at_call 27;refine(hb _).mono ?_;rintro e w' ⟨rfl,rfl⟩)
 refine bodyPost_ret (v:= Xm #[Xi #[O Xb 0 0,Xe Xf 0],Xe Xf 4]) (by simp[results,Tryz.results18,go_sem, *]) rfl ⟨rfl,?_⟩
 first | exact grew_alloc _ _ | exact Below.setCell (Below.setCell (grew_alloc _ _) (p:=⟨w.heap.size,0,Xb⟩) (by simp) _) (p:=⟨w.heap.size,1,Xb⟩) (by simp) _
def newSE (n:Int):Int:=if 0<=n/\n<=60 then 0 else 4
def newSL (n:Int):List Int:=if 0<=n/\n<=60 then Xr n.toNat 0 else []
theorem newMem_all (n:Int) (w:Xn):Xp Tryz.prog 15 #[Xe Xf n] w fun e w'=>∃s:Sli,e= Xl (Xm #[Xi #[O s.a s.n s.c,Xe Xf 0],Xe Xf (newME n)])/\(RowAt frmE w' (O s.a s.n s.c) (newMF n)/\fresh w.heap.size (O s.a s.n s.c))/\Grew w w':=by
 by_cases h:0<=n/\n<=40
 ·obtain⟨k,rfl⟩:∃k:Nat,n=(k:Int):=⟨n.toNat,by omega⟩
  refine(newMem_nat k (by omega) w).mono ?_
  rintro e w' ⟨b,rfl,h1,h2⟩;obtain⟨a,c,rfl,_⟩:=h1.1.rows;refine⟨⟨a,(Xr k frF).length,c⟩,?_,⟨?_,h1.2⟩,h2⟩
  ·unfold newME;rw[if_pos h]
  unfold newMF;rw[if_pos h];exact h1.1
 refine(newMem_bad n h w).mono ?_;rintro e w' ⟨b,rfl,h1,h2⟩;obtain⟨a,c,rfl,_⟩:=h1.1.rows;refine⟨⟨a,([]:List Fr).length,c⟩,?_,⟨?_,h1.2⟩,h2⟩
 ·unfold newME;rw[if_neg h]
 unfold newMF;rw[if_neg h];exact h1.1
theorem newS_all (n:Int) (w:Xn):Xp Tryz.prog 16 #[Xe Xf n] w fun e w'=>∃s:Sli,e= Xl (Xm #[O s.a s.n s.c,Xe Xf (newSE n)])/\(RowAt slE w' (O s.a s.n s.c) (newSL n)/\fresh w.heap.size (O s.a s.n s.c))/\Grew w w':=by
 by_cases h:0<=n/\n<=60
 ·obtain⟨k,rfl⟩:∃k:Nat,n=(k:Int):=⟨n.toNat,by omega⟩
  refine(newS_nat k (by omega) w).mono ?_
  rintro e w' ⟨a,c,rfl,h1,h2⟩;refine⟨⟨a,k,c⟩,?_,⟨?_,h1.2⟩,h2⟩
  ·unfold newSE;rw[if_pos h]
  unfold newSL;rw[if_pos h];exact h1.1
 refine(newS_bad n h w).mono ?_;rintro e w' ⟨rfl,h2⟩;refine⟨⟨Xb,0,0⟩,?_,⟨?_,fresh_nil _⟩,h2⟩
 ·unfold newSE;rw[if_neg h]
 unfold newSL;rw[if_neg h];exact RowAt.nil slE w'
theorem newDk_all (n:Int) (w:Xn):Xp Tryz.prog 17 #[Xe Xf n] w fun e w'=>∃b q:Sli,e= Xl (Xm #[Xi #[O b.a b.n b.c,O q.a q.n q.c],Xe Xf (newErr n)])/\(PagesAt w' (O b.a b.n b.c) (newD n)/\PutsAt w' (O q.a q.n q.c) []/\fresh w.heap.size (O b.a b.n b.c)/\fresh w.heap.size (O q.a q.n q.c))/\Grew w w':=by
 refine(new_any n w).mono ?_;rintro e w' ⟨d,rfl,⟨b,q,rfl,h1,h2,f1,f2⟩,h3⟩;obtain⟨a,c,rfl,_⟩:=h1.rows;obtain⟨a',c',rfl,_⟩:=h2.rows;exact⟨⟨a,(newD n).length,c⟩,⟨a',([]:List (Int × List Int)).length,c'⟩,rfl,⟨h1,h2,f1,f2⟩,h3⟩
theorem SliceAt.beside {α:Type} {enc:α->List Xq} {w w':Xn} {row:Option Nat} {v:Xq} {l:List α} (h:SliceAt enc w v l) (hg:w.grownBy w' row) (hn:∀x n c,v= O (Xa x) n c->Xa x.block≠row):SliceAt enc w' v l:=by
 obtain⟨a,c,h1,h2,h3⟩:=h;refine⟨a,c,h1,h2,fun x hx j u hj=>?_⟩
 subst hx;have hc:=h3 x rfl j u hj;rw[World.cell?_of_block (w:=w) (hg.block _ (World.block_lt_of_cell? _ _ hc) (by rw[add_block];exact hn x _ _ h1))]
 exact hc
def fewB (f s b:Int):Prop:=(0<=f/\f<=40)/\(0<=s/\s<=60)/\(0<=b/\b<=80)
def newMa (f s b:Int):Ma:=⟨Xr f.toNat frF,0,Xr s.toNat 0,Xr s.toNat zero8,[],Xr b.toNat zero8,[],[],b,[],[⟨Xc,[],none8⟩]⟩
def newEs (f s b:Int):List Int:=[newME f,newSE s,newErr s,newErr b,if 0<=b/\b<=80 then 0 else 4]
theorem newEs_few {f s b:Int} (h:fewB f s b):firstE (newEs f s b)=0:=by
 obtain⟨h1,h2,h3⟩:=h;unfold newEs newME newSE newErr;rw[if_pos h1,if_pos h2,if_pos (by omega),if_pos h3]
 rfl
theorem ret_cell_tmp2 {fn:Func} {p u t:Tmp} {ty:TypeId} (h:fn.results=#[.cell p ty,.tmp u,.tmp t]) (tmps:Array Xq) {w:Xn} {b:Nat} (hp:tmps.getD p undef= Xj (Xa ⟨b,0,Xb⟩)) {vs:List Xq} (hb:Box w b vs) {d:TypeDesc} (hu:Tryz.prog.underlying ty=Xa d) (hd:d.isRow=Xc) (hi:(Tryz.prog.info? ty).map (·.size)=Xa vs.length):
  (results fn tmps).run Tryz.prog w= .ok (Xm #[Xi vs.toArray,tmps.getD u undef,tmps.getD t undef]) w:=by
 have hp':tmps[p]?.getD undef= Xj (Xa ⟨b,0,Xb⟩):=by simpa using hp
 have hld:=run_loadVar_mid (P:=Tryz.prog) w b 0 ty vs d hb.range hu hd hi
 simp[results,h,hp',asAddr,hld]
end
end Go.Proofs.YtempiodbdhiboaaGreat
