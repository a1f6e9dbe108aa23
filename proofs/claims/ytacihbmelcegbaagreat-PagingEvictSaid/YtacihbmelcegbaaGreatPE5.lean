import Derived.Test.YtacihbmelcegbaaGreatPE4
import Derived.ChangeKeysEq
import Derived.Shelf.Bits.Mul64
import Derived.Deep.Cut
import Derived.BigQuiet
import Derived.WalkSmall
namespace Go.Proofs.YtacihbmelcegbaaGreat
open Go.Value renaming slice→O,int→Xe,bool→Xh,agg→Xi,pointer→Xj,tuple→Xm
open Go.IntKind renaming i64→Xf,u8→Xg
open Go.Obj renaming cells→Xk
open Go.Ending renaming returned→Xl
open Go renaming World→Xo,Calls→Xq,Value→Xr
open Go.RowKit renaming Hid→Xp
open Option renaming some→Xa,none→Xb
open Bool renaming true→Xc,false→Xd
open List renaming replicate→Xs
open _root_.List renaming take_of_length_le→Xt,flatMap_append→Xv,countP_le_length→Xx,any_eq_true→Xy,replicate_append_replicate→Xz,take_zero→Yb,getElem?_append_left→Yc,getElem?_map→Yd,length→Ye,mem_map→Yg,length_filter_le→Yh,contains_iff_mem→Yi,mem_range→Yj,getElem?_of_mem→Yk,drop_replicate→Yn,ext_getElem?→Yq
open Go.Act renaming put→Xu
open _root_.Nat renaming lt_of_lt_of_le→Xw,mul_le_mul_right→Yl,min→Yr
open _root_.Bool renaming eq_iff_iff→Ya
open Go.Sem renaming run_bind→Yf
open _root_.Array renaming toList_modify→Ym,forIn_toList→Yo,toList_push→Yp
set_option maxRecDepth 100000
set_option maxHeartbeats 4000000
variable{B b cl j:Nat} {Q:Exit->Act->Xo->Prop} {V:MaV} {W w':Xo} {m:Ma} {o:Oper} {ops:Array Oper} {s z:Int} {t:TypeId} {us vs xs:List Xr}
open Go.Proofs.Tryz
section
open Go.RowKit
structure JG where
 ty:TypeId
 enc:Int × Int->Xr
 und:∃fs,Tryz.prog.underlying ty=Xa (.struct fs)
 check:∀(em:Bool) (a:Int × Int) (w:Xo),(Instr.checkKey em 10000 ty (enc a)).run prog w= .ok () w
 same:∀(a b:Int × Int) (w:Xo),(Op.equal ty (enc a) (enc b)).run prog w= .ok (decide (a=b)) w
 bits:∀a:Int × Int,Instr.sameBits 10000 (enc a) (enc a)=Xc
def JH:List ((Int × Int) × Int)->Int × Int->Option Int
 | [],_=>Xb
 | p :: l,k=>if k=p.1 then Xa p.2 else JH l k
def zcv:List ((Int × Int) × Int)->Int × Int->Nat->Option (Nat × Xr)
 | [],_,_=>Xb
 | p :: l,k,i=>if k=p.1 then Xa (i,I6 p.2)else zcv l k (i+1)
def zgo:List ((Int × Int) × Int)->Int × Int->Int->List ((Int × Int) × Int)
 | [],k,v=>[(k,v)]
 | p :: l,k,v=>if k=p.1 then(k,v) :: l else p :: zgo l k v
theorem zaw:∀(l:List ((Int × Int) × Int)) (k x:Int × Int) (v:Int),JH (zgo l k v) x=if x=k then Xa v else JH l x
 | [],k,x,v=>by simp[zgo,JH]
 | p :: l,k,x,v=>by
  unfold zgo
  by_cases h:k=p.1
  ·rw[kE h];unfold JH
   by_cases hx:x=k
   ·simp[hx]
   have hx':¬x=p.1:=fun e=>hx (e.trans h.symm)
   simp[hx,hx']
  rw[kF h];unfold JH;rw[zaw l]
  by_cases hp:x=p.1
  ·rw[kE hp,kE hp,kF (fun e=>h (e.symm.trans hp))]
  rw[kF hp,kF hp]
theorem JE:∀{l:List ((Int × Int) × Int)} {k:Int × Int} {i:Nat},zcv l k i=Xb->JH l k=Xb/\∀v,zgo l k v=l++ [(k,v)]
 | [],k,i,_=>⟨rfl,fun v=>rfl⟩
 | p :: l,k,i,h=>by
  unfold zcv at h
  by_cases e:k=p.1
  ·rw[kE e]at h;cases h
  rw[kF e]at h;obtain⟨h1,h2⟩:=JE h;refine⟨by unfold JH;rw[kF e,h1],fun v=>?_⟩
  unfold zgo;rw[kF e,h2];rfl
theorem JD:∀{l:List ((Int × Int) × Int)} {k:Int × Int} {i j:Nat} {u:Xr},zcv l k i=Xa (j,u)->∃n z,u=I6 z/\j=i+n/\l[n]? =Xa (k,z)/\JH l k=Xa z/\∀v,zgo l k v=l.set n (k,v)
 | [],k,i,j,u,h=>by cases h
 | p :: l,k,i,j,u,h=>by
  unfold zcv at h
  by_cases e:k=p.1
  ·rw[kE e]at h;cases h;refine⟨0,p.2,rfl,rfl,by rw[e];rfl,by unfold JH;rw[kE e],fun v=>?_⟩
   unfold zgo;rw[kE e];rfl
  rw[kF e]at h;obtain⟨n,z,h1,h2,h3,h4,h5⟩:=JD h;refine⟨n+1,z,h1,by omega,by simpa using h3,by unfold JH;rw[kF e,h4],fun v=>?_⟩
  unfold zgo;rw[kF e,h5];rfl
def Qc (K:JG) (w:Xo) (b:Nat) (g:Int × Int->Option Int):Prop:=
 ∃es clock l,w.heap[b]? =Xa (.map es clock)/\(es.toList.map (fun e=>(e.key,e.val))=l.map (fun p:(Int × Int) × Int=>(K.enc p.1,I6 p.2))/\(es.toList.map (·.born)).Pairwise (·< ·)/\∀e∈es.toList,e.born<clock)/\∀k,JH l k=g k
theorem Qc.lt {K:JG} {w:Xo} {g:Int × Int->Option Int} (h:Qc K w b g):b<w.heap.size:=by
 obtain⟨es,c,l,h1,_⟩:=h;exact(aS.1 h1).1
theorem Qc.made (K:JG) (w:Xo):Qc K (w.alloc (.map #[] 0)) w.heap.size (fun _=>Xb):=⟨#[],0,[],by
 show(w.heap.push _)[w.heap.size]? =_
 simp,⟨rfl,List.Pairwise.nil,fun e he=>by cases he⟩,fun k=>rfl⟩
theorem Qc.grew {K:JG} {w:Xo} {g:Int × Int->Option Int} (h:Qc K w b g) (hg:zc w w'):Qc K w' b g:=by
 have hlt:=h.lt;obtain⟨es,c,l,h1,h2⟩:=h;exact⟨es,c,l,(Below.block hg b hlt).trans h1,h2⟩
theorem Qc.kept {K:JG} {w:Xo} {g:Int × Int->Option Int} {row:Option Nat} (h:Qc K w b g) (hg:w.grownBy w' row) (hne:Xa b≠row):Qc K w' b g:=by
 have hlt:=h.lt;obtain⟨es,c,l,h1,h2⟩:=h;exact⟨es,c,l,(hg.block b hlt hne).trans h1,h2⟩
theorem Qc.congr {K:JG} {w:Xo} {g g':Int × Int->Option Int} (h:Qc K w b g) (e:∀k,g k=g' k):Qc K w b g':=by
 obtain⟨es,c,l,h1,h2,h3⟩:=h;exact⟨es,c,l,h1,h2,fun k=>(h3 k).trans (e k)⟩
theorem JP (K:JG) (k:Int × Int) (w:Xo):∀(l:List ((Int × Int) × Int)) (es:List MapEntry) (i:Nat),es.map (fun e=>(e.key,e.val))=l.map (fun p=>(K.enc p.1,I6 p.2))->(Instr.findAsking K.ty (K.enc k) es i).run prog w= .ok (zcv l k i) w
 | [],[],i,_=>rfl
 | [],e :: es,i,h=>by simp at h
 | p :: l,[],i,h=>by simp at h
 | p :: l,e :: es,i,h=>by
  simp only[mP,List.cons.injEq,pJ]at h;obtain⟨⟨h1,h2⟩,h3⟩:=h;unfold Instr.findAsking zcv;simp only[Yf,h1,K.same,rA]
  by_cases e':k=p.1
  ·simp[e',h2]
  simp[e',JP K k w l es (i+1) h3]
theorem JY (K:JG) (k:Int × Int) (w:Xo) (l:List ((Int × Int) × Int)) (es:List MapEntry) (h:es.map (fun e=>(e.key,e.val))=l.map (fun p=>(K.enc p.1,I6 p.2))):(Instr.findKey K.ty (K.enc k) es).run prog w= .ok (zcv l k 0) w:=by
 obtain⟨fs,hu⟩:=K.und;unfold Instr.findKey;simp only[Yf,run_underlying hu,rA]
 cases es with
 | nil=>
  cases l with
  | nil=>rfl
  | cons p l=>simp at h
 | cons e es=>
  have:Instr.findNow (.struct fs) (K.enc k) (e :: es) 0=Xb:=by simp[Instr.findNow,Instr.sameNow]
  rw[this];exact JP K k w l (e :: es) 0 h
theorem Qc.look {K:JG} {w:Xo} {g:Int × Int->Option Int} (h:Qc K w b g) {e:TypeId} (ht:Tryz.prog.underlying t=Xa (.map K.ty e)) (hz:(zeroValue e).run prog w= .ok (I6 0) w) (k:Int × Int) (c:Bool):
  (Instr.lookup t (.map (Xa b)) (K.enc k) c).run prog w= .ok (if c then Xm #[I6 ((g k).getD 0),Xh (g k).isSome]else I6 ((g k).getD 0)) w:=by
 obtain⟨es,cl,l,h1,⟨h2,_⟩,h3⟩:=h;have hf:=JY K k w l es.toList h2;unfold Instr.lookup
 cases hp:zcv l k 0 with
 | none=>
  rw[hp]at hf;have:=(JE hp).1;rw[h3 k]at this
  cases c <;> simp[run_underlying ht,MapKept.run_getObj_map h1,K.check,hf,hz,this]
 | some q=>
  obtain⟨j,u⟩:=q;rw[hp]at hf;obtain⟨n,z,rfl,_,_,h4,_⟩:=JD hp;rw[h3 k]at h4
  cases c <;> simp[run_underlying ht,MapKept.run_getObj_map h1,K.check,hf,h4]
theorem zb9 (f:MapEntry->MapEntry) (hf:∀e,(f e).born=e.born):∀(es:List MapEntry) (n:Nat),(es.modify n f).map (·.born)=es.map (·.born)
 | [],n=>by simp
 | e :: es,0=>by simp[hf]
 | e :: es,n+1=>by simp[zb9 f hf es n]
structure Zg (K:JG) (es:Array MapEntry) (cl:Nat) (l:List ((Int × Int) × Int)):Prop where
 pairs:es.toList.map (fun e=>(e.key,e.val))=l.map (fun p=>(K.enc p.1,I6 p.2))
 rise:(es.toList.map (·.born)).Pairwise (·< ·)
 low:∀e∈es.toList,e.born<cl
theorem Zg.push {K:JG} {es:Array MapEntry} {l:List ((Int × Int) × Int)} (h:Zg K es cl l) (k:Int × Int) (v:Int):Zg K (es.push ⟨K.enc k,I6 v,cl⟩) (cl+1) (l++ [(k,v)]):=by
 refine⟨by simp[h.pairs],?_,fun e he=>?_⟩
 ·simp only[Yp,List.map_append,mP,List.map_nil];rw[List.pairwise_append];refine⟨h.rise,by simp,fun a ha b hb=>?_⟩
  obtain⟨e,he,rfl⟩:=Yg.1 ha
  simp at hb
  rw[hb];exact h.low e he
 simp only[Yp,List.mem_append,List.mem_singleton]at he
 rcases he with he|rfl
 ·have:=h.low e he;omega
 simp
theorem Zg.modify {K:JG} {es:Array MapEntry} {l:List ((Int × Int) × Int)} (h:Zg K es cl l) {n:Nat} {k:Int × Int} (hn:l[n]? =Xa (k,z)) (f:MapEntry->MapEntry) (v:Int) (hf:∀e,(f e).born=e.born) (hg:∀e,e.key=K.enc k->e.val=I6 z->(f e).key=K.enc k/\(f e).val=I6 v):Zg K (es.modify n f) cl (l.set n (k,v)):=by
 have hb:(es.modify n f).toList.map (·.born)=es.toList.map (·.born):=by rw[Ym];exact zb9 f hf es.toList n
 refine⟨?_,by rw[hb];exact h.rise,fun e he=>?_⟩
 ·have hp:=h.pairs;rw[Ym]
  apply Yq
  intro j;have hj:=congrArg (fun(x:List (Xr × Xr))=>x[j]?) hp
  simp only[Yd,List.getElem?_modify,List.getElem?_set]at hj⊢
  by_cases e:n=j
  ·subst e;rw[hn]at hj;have hnl:=(gS.1 hn).1
   cases hq:es.toList[n]? with
   | none=>rw[hq]at hj;simp at hj
   | some e0=>
    rw[hq]at hj
    simp at hj
    obtain⟨g1,g2⟩:=hg e0 hj.1 hj.2
    simp[hnl,g1,g2]
  simp only[e,if_false]at hj⊢
  cases hq:es.toList[j]? <;> rw[hq]at hj <;> simpa using hj
 have:e.born∈es.toList.map (·.born):=by rw[<-hb];exact Yg.2 ⟨e,he,rfl⟩
 obtain⟨e',he',h'⟩:=Yg.1 this;rw[<-h'];exact h.low e' he'
theorem Zg.at {K:JG} {es:Array MapEntry} {l:List ((Int × Int) × Int)} (h:Zg K es cl l) {n:Nat} {k:Int × Int} (hn:l[n]? =Xa (k,z)):∃e0,es[n]? =Xa e0/\e0.key=K.enc k/\e0.val=I6 z:=by
 have:=congrArg (fun(x:List (Xr × Xr))=>x[n]?) h.pairs
 simp only[Yd,hn,Option.map_some]at this
 cases hq:es[n]? with
 | none=>simp[hq]at this
 | some e0=>simp[hq]at this;exact⟨e0,rfl,this.1,this.2⟩
theorem zhH:∀{l:List Nat},l.Pairwise (·< ·)->∀{i j:Nat} {x:Nat},l[i]? =Xa x->l[j]? =Xa x->i=j
 | [],_,i,j,x,h,_=>by simp at h
 | a :: l,hp,i,j,x,h,h'=>by
  rw[List.pairwise_cons]at hp
  cases i with
  | zero=>
   cases j with
   | zero=>rfl
   | succ j=>
    simp at h h'
    subst h;have:=hp.1 a (mG h');omega
  | succ i=>
   cases j with
   | zero=>
    simp at h h'
    subst h';have:=hp.1 a (mG h);omega
   | succ j=>
    simp at h h'
    rw[zhH hp.2 h h']
theorem zcb {K:JG} {w:Xo} {es es':Array MapEntry} {cl':Nat} {l:List ((Int × Int) × Int)} {g:Int × Int->Option Int} {k:Int × Int} {v:Int} (h1:w.heap[b]? =Xa (.map es cl)) (h3:∀k,JH l k=g k) (hs:Zg K es' cl' (zgo l k v)):
  Qc K (ChangeMaps.setBlock w b (.map es' cl')) b (fun x=>if x=k then Xa v else g x)/\w.grownBy (ChangeMaps.setBlock w b (.map es' cl')) (Xa b)/\(ChangeMaps.setBlock w b (.map es' cl')).heap.size=w.heap.size:=by
 refine⟨⟨es',cl',zgo l k v,ChangeMaps.heap_setBlock_same h1 _,⟨hs.pairs,hs.rise,hs.low⟩,fun x=>?_⟩,⟨rfl,rfl,rfl,by simp[ChangeMaps.setBlock],fun i _ hi=>ChangeMaps.heap_setBlock_other h1 _ (fun e=>hi (by rw[e]))⟩,by simp[ChangeMaps.setBlock]⟩
 rw[zaw,h3]
theorem Qc.put {K:JG} {w:Xo} {g:Int × Int->Option Int} (h:Qc K w b g) {e:TypeId} (ht:Tryz.prog.underlying t=Xa (.map K.ty e)) (k:Int × Int) (v:Int):
  ∃w',(Instr.mapUpdate t (.map (Xa b)) (K.enc k) (I6 v)).run prog w= .ok () w'/\Qc K w' b (fun x=>if x=k then Xa v else g x)/\w.grownBy w' (Xa b)/\w'.heap.size=w.heap.size:=by
 obtain⟨es,cl,l,h1,⟨h2,h4,h5⟩,h3⟩:=h;have hst:Zg K es cl l:=⟨h2,h4,h5⟩;have hf:=JY K k w l es.toList h2
 cases hp:zcv l k 0 with
 | none=>
  rw[hp]at hf;have hput:=(JE hp).2 v;refine⟨ChangeMaps.setBlock w b (.map (es.push ⟨K.enc k,I6 v,cl⟩) (cl+1)),?_,zcb h1 h3 (by rw[hput];exact hst.push k v)⟩
  simp[Instr.mapUpdate,run_underlying ht,MapKept.run_getObj_map h1,K.check,hf,MapKept.run_setObj_map _ h1,ChangeMaps.setBlock]
 | some q=>
  obtain⟨j,u⟩:=q;rw[hp]at hf;obtain⟨n,z,rfl,rfl,h6,_,h7⟩:=JD hp;rw[zA]at hf;obtain⟨e0,he0,hk0,_⟩:=hst.at h6;refine⟨ChangeMaps.setBlock w b (.map (es.modify n fun e=>{ e with key:=K.enc k,val:=I6 v }) cl),?_,zcb h1 h3 (by rw[h7];exact hst.modify h6 _ v (fun _=>rfl) (fun _ _ _=>⟨rfl,rfl⟩))⟩
  simp[Instr.mapUpdate,run_underlying ht,MapKept.run_getObj_map h1,K.check,hf,he0,hk0,Instr.keyThatStays,K.bits,MapKept.run_setObj_map _ h1,ChangeMaps.setBlock]
def znF (K:JG) (w:Xo) (b:Nat) (g:Int × Int->Option Int) (k:Int × Int) (st:Int):Prop:=
 ∃es cl l,w.heap[b]? =Xa (.map es cl)/\Zg K es cl l/\(∀k,JH l k=g k)/\∃(n:Nat) (z:Int) (e:MapEntry),l[n]? =Xa (k,z)/\(∀v,zgo l k v=l.set n (k,v))/\es[n]? =Xa e/\(e.born:Int)=st
theorem znF.f {K:JG} {w:Xo} {g:Int × Int->Option Int} {k:Int × Int} {st:Int} (h:znF K w b g k st):Qc K w b g:=by
 obtain⟨es,cl,l,h1,h2,h3,_⟩:=h;exact⟨es,cl,l,h1,⟨h2.pairs,h2.rise,h2.low⟩,h3⟩
theorem zeW:∀{l:List ((Int × Int) × Int)} {k:Int × Int} (z v:Int),JH l k=Xb->zgo (l++ [(k,z)]) k v=(l++ [(k,z)]).set l.length (k,v)
 | [],k,z,v,_=>by simp[zgo]
 | p :: l,k,z,v,h=>by
  unfold JH at h
  by_cases e:k=p.1
  ·rw[kE e]at h;cases h
  rw[kF e]at h;simp only[List.cons_append,zgo,e,if_false,List.length_cons,sS];rw[zeW z v h]
theorem Qc.entry {K:JG} {w:Xo} {g:Int × Int->Option Int} (h:Qc K w b g) {e:TypeId} (ht:Tryz.prog.underlying t=Xa (.map K.ty e)) (hz:(zeroValue e).run prog w= .ok (I6 0) w) (k:Int × Int):
  ∃w' st,(Instr.mapEntry t (.map (Xa b)) (K.enc k)).run prog w= .ok (Xm #[I6 ((g k).getD 0),I6 st]) w'/\znF K w' b (fun x=>if x=k then Xa ((g k).getD 0)else g x) k st/\w.grownBy w' (Xa b)/\w'.heap.size=w.heap.size:=by
 obtain⟨es,cl,l,h1,⟨h2,h4,h5⟩,h3⟩:=h;have hst:Zg K es cl l:=⟨h2,h4,h5⟩;have hf:=JY K k w l es.toList h2
 cases hp:zcv l k 0 with
 | none=>
  rw[hp]at hf;obtain⟨hno,hput⟩:=JE hp;have hg:g k=Xb:=by rw[<-h3];exact hno
  have hs':=hst.push k 0;have hm:=zcb h1 h3 (k:=k) (v:=0) (by rw[hput];exact hs')
  refine⟨ChangeMaps.setBlock w b (.map (es.push ⟨K.enc k,I6 0,cl⟩) (cl+1)),cl,?_,⟨_,_,_,ChangeMaps.heap_setBlock_same h1 _,hs',fun x=>?_,l.length,0,⟨K.enc k,I6 0,cl⟩,by simp,fun v=>zeW 0 v hno,?_,rfl⟩,hm.2⟩
  ·rw[hg]
   simp[Instr.mapEntry,run_underlying ht,MapKept.run_getObj_map h1,K.check,hf,hz,MapKept.run_setObj_map _ h1,ChangeMaps.setBlock,goInt]
  ·rw[hg,<-hput,zaw,h3];rfl
  have:es.size=l.length:=by have:=congrArg Ye h2;simpa using this
  simp[<-this]
 | some q=>
  obtain⟨j,u⟩:=q;rw[hp]at hf;obtain⟨n,z,rfl,rfl,h6,h8,h7⟩:=JD hp;rw[zA]at hf;obtain⟨e0,he0,hk0,hv0⟩:=hst.at h6;have hg:g k=Xa z:=by rw[<-h3];exact h8
  have hs':Zg K (es.modify n fun e=>{ e with key:=K.enc k }) cl (l.set n (k,z)):=hst.modify h6 (fun e=>{ e with key:=K.enc k }) z (fun _=>rfl) (fun _ _ hv=>⟨rfl,hv⟩)
  have hm:=zcb h1 h3 (k:=k) (v:=z) (by rw[h7];exact hs')
  have hnl:=(gS.1 h6).1;refine⟨ChangeMaps.setBlock w b (.map (es.modify n fun e=>{ e with key:=K.enc k }) cl),e0.born,?_,⟨_,_,_,ChangeMaps.heap_setBlock_same h1 _,hs',fun x=>?_,n,z,{ e0 with key:=K.enc k },sF hnl,fun v=>?_,?_,rfl⟩,hm.2⟩
  ·rw[hg]
   simp[Instr.mapEntry,run_underlying ht,MapKept.run_getObj_map h1,K.check,hf,he0,hk0,Instr.keyThatStays,K.bits,MapKept.run_setObj_map _ h1,ChangeMaps.setBlock,goInt]
  ·rw[hg,<-h7,zaw,h3];rfl
  ·rw[zdN h6,h7]
  rw[Array.getElem?_modify,kE rfl,he0];rfl
theorem znF.store {K:JG} {w:Xo} {g:Int × Int->Option Int} {k:Int × Int} {st:Int} (h:znF K w b g k st) (t:TypeId) (v:Int):
  ∃w',(Instr.entryStore t (.map (Xa b)) (I6 st) (I6 v)).run prog w= .ok () w'/\Qc K w' b (fun x=>if x=k then Xa v else g x)/\w.grownBy w' (Xa b)/\w'.heap.size=w.heap.size:=by
 obtain⟨es,cl,l,h1,hst,h3,n,z,e0,h6,h7,he0,rfl⟩:=h;have hnl:n<es.size:=(aS.1 he0).1;have hfind:es.findIdx? (fun e=>(e.born:Int) ==(e0.born:Int))=Xa n:=by
  rw[Array.findIdx?_eq_some_iff_getElem];refine⟨hnl,?_,fun j hj=>?_⟩
  ·have:es[n]=e0:=(aS.1 he0).2
   simp[this]
  intro hc;have hjl:j<es.size:=by omega
  have hc':es[j].born=e0.born:=by
   have:(es[j].born:Int)=(e0.born:Int):=by simpa using hc
   omega
  have q1:(es.toList.map (·.born))[n]? =Xa e0.born:=by simp[he0]
  have q2:(es.toList.map (·.born))[j]? =Xa e0.born:=by simp[hjl,hc']
  have:=zhH hst.rise q1 q2;omega
 refine⟨ChangeMaps.setBlock w b (.map (es.modify n fun e=>{ e with val:=I6 v }) cl),?_,zcb h1 h3 (by rw[h7];exact hst.modify h6 _ v (fun _=>rfl) (fun _ hk _=>⟨hk,rfl⟩))⟩
 simp[Instr.entryStore,MapKept.run_getObj_map h1,asInt,asIntOf,hfind,MapKept.run_setObj_map _ h1,ChangeMaps.setBlock]
theorem zjl {K:JG} {w:Xo} {rest:List Oper} {a:Act} (hgd:o.guard=Xb) (t e:TypeId) (m x v:Operand) (hop:o.op= .mapUpdate t m x v) (ht:Tryz.prog.underlying t=Xa (.map K.ty e)) (b:Nat) (g:Int × Int->Option Int) (h:Qc K w b g) (k:Int × Int) (z:Int)
  (hm:a.eval m= .map (Xa b)) (hx:a.eval x=K.enc k) (hv:a.eval v=I6 z)
  (hK:∀w',Qc K w' b (fun x=>if x=k then Xa z else g x)->w.grownBy w' (Xa b)->w'.heap.size=w.heap.size->wpList prog ops Q rest (a.put o.dst undef) w'):wpList prog ops Q (o :: rest) a w:=by
 refine wpList_plain hgd fun K' hK'=>?_
 obtain⟨w',hrun,r1,r2,r3⟩:=h.put ht k z;unfold Oper.wp
 simp[execOp,hop,hm,hx,hv,hrun,Result.andThen]
 exact hK' _ _ (hK w' r1 r2 r3)
theorem zjH (em:Bool) (a:Int × Int) (w:Xo):(Instr.checkKey em 10000 200 (Xi #[I6 a.1,I6 a.2])).run prog w= .ok () w:=by
 have hf : (Tryz.prog.fieldsOf 200).toList.map (fun f => (f.name, f.type, f.offset)) = [("file", 3, 0), ("index", 3, 1)] := by kernel_rfl
 have hu:∃fs,Tryz.prog.underlying 200=Xa (.struct fs)/\Tryz.prog.fieldsOf 200=fs:=⟨_,underlying200,by kernel_rfl⟩
 obtain⟨fs,hu,hfe⟩:=hu;rw[hfe]at hf;obtain⟨f0,f1,hfs⟩:∃f0 f1,fs.toList=[f0,f1]:=by
  have hl:fs.toList.length=2:=by have:=congrArg Ye hf;simpa using this
  match hq:fs.toList,hl with
  | [f0,f1],_=>exact⟨f0,f1,rfl⟩
 rw[hfs]at hf
 simp at hf
 obtain⟨⟨n0,t0,o0⟩,⟨n1,t1,o1⟩⟩:=hf;have pI:∀(zs:Array Xr) (o:Nat) v,zs[o]? =Xa (I6 v)->(part 3 zs o).run prog w= .ok (I6 v) w:=fun zs o v hz=>run_part_plain w (by simp[Program.plainKey,underlying3]) hz
 have pB:∀(zs:Array Xr) (o:Nat) v,zs[o]? =Xa (Xh v)->(part 4 zs o).run prog w= .ok (Xh v) w:=fun zs o v hz=>run_part_plain w (by simp[Program.plainKey,underlying4]) hz
 have cI:∀(v:Int) (n:Nat),(Instr.checkKey em (n+1) 3 (I6 v)).run prog w= .ok () w:=fun v n=>by
  unfold Instr.checkKey
  simp[run_underlying underlying3]
 have cB:∀(v:Bool) (n:Nat),(Instr.checkKey em (n+1) 4 (Xh v)).run prog w= .ok () w:=fun v n=>by
  unfold Instr.checkKey
  simp[run_underlying underlying4]
 rw[show(10000:Nat)=9999+1 from rfl,Instr.checkKey]
 simp only[Yf,run_underlying hu,rA];rw[<-Yo,hfs];have k1:=cI a.1 9998;have k2:=cI a.2 9998;have k3:=cB Xd 9998;have q0:=pI (#[I6 a.1,I6 a.2]) 0 a.1 rfl;have q1:=pI (#[I6 a.1,I6 a.2]) 1 a.2 rfl
 simp[List.forIn_cons,n0,t0,o0,n1,t1,o1,q0,q1,k1,k2]
theorem zlq (a b:Int × Int) (w:Xo):(Op.equal 200 (Xi #[I6 a.1,I6 a.2]) (Xi #[I6 b.1,I6 b.2])).run prog w= .ok (decide (a=b)) w:=by
 have hf : (Tryz.prog.fieldsOf 200).toList.map (fun f => (f.name, f.type, f.offset)) = [("file", 3, 0), ("index", 3, 1)] := by kernel_rfl
 unfold Op.equal Op.maxDepth;rw[run_equalIn_struct w 9999 200 _ _ (by kernel_rfl) (by kernel_rfl)]
 obtain⟨f0,f1,hfs⟩:∃f0 f1,(Tryz.prog.fieldsOf 200).toList=[f0,f1]:=by
  have hl:(Tryz.prog.fieldsOf 200).toList.length=2:=by have:=congrArg Ye hf;simpa using this
  match hq:(Tryz.prog.fieldsOf 200).toList,hl with
  | [f0,f1],_=>exact⟨f0,f1,rfl⟩
 rw[hfs]at hf⊢
 simp at hf
 obtain⟨⟨n0,t0,o0⟩,⟨n1,t1,o1⟩⟩:=hf;have pI:∀(zs:Array Xr) (o:Nat) v,zs[o]? =Xa (I6 v)->(part 3 zs o).run prog w= .ok (I6 v) w:=fun zs o v hz=>run_part_plain w (by simp[Program.plainKey,underlying3]) hz
 have pB:∀(zs:Array Xr) (o:Nat) v,zs[o]? =Xa (Xh v)->(part 4 zs o).run prog w= .ok (Xh v) w:=fun zs o v hz=>run_part_plain w (by simp[Program.plainKey,underlying4]) hz
 simp only[Op.eqFields,n0,t0,o0,n1,t1,o1];obtain⟨a1,a2⟩:=a;obtain⟨b1,b2⟩:=b
 simp[pI,run_equalIn_int w _ _ _ _ _ _ underlying3]
 by_cases e1:a1=b1 <;> by_cases e2:a2=b2 <;> simp[e1,e2]
def plK:JG where
 ty:=200
 enc:=fun a=> Xi #[I6 a.1,I6 a.2]
 und:=⟨_,underlying200⟩
 check:=zjH
 same:=zlq
 bits:=fun a=>by simp[Instr.sameBits]
theorem zkD (em:Bool) (a:Int × Int) (w:Xo):(Instr.checkKey em 10000 55 (Xi #[I6 a.1,I6 a.2,Xh Xd])).run prog w= .ok () w:=by
 have hf : (Tryz.prog.fieldsOf 55).toList.map (fun f => (f.name, f.type, f.offset)) = [("Kind", 3, 0), ("N", 3, 1), ("Write", 4, 2)] := by kernel_rfl
 have hu:∃fs,Tryz.prog.underlying 55=Xa (.struct fs)/\Tryz.prog.fieldsOf 55=fs:=⟨_,underlying55,by kernel_rfl⟩
 obtain⟨fs,hu,hfe⟩:=hu;rw[hfe]at hf;obtain⟨f0,f1,f2,hfs⟩:∃f0 f1 f2,fs.toList=[f0,f1,f2]:=by
  have hl:fs.toList.length=3:=by have:=congrArg Ye hf;simpa using this
  match hq:fs.toList,hl with
  | [f0,f1,f2],_=>exact⟨f0,f1,f2,rfl⟩
 rw[hfs]at hf
 simp at hf
 obtain⟨⟨n0,t0,o0⟩,⟨n1,t1,o1⟩,⟨n2,t2,o2⟩⟩:=hf;have pI:∀(zs:Array Xr) (o:Nat) v,zs[o]? =Xa (I6 v)->(part 3 zs o).run prog w= .ok (I6 v) w:=fun zs o v hz=>run_part_plain w (by simp[Program.plainKey,underlying3]) hz
 have pB:∀(zs:Array Xr) (o:Nat) v,zs[o]? =Xa (Xh v)->(part 4 zs o).run prog w= .ok (Xh v) w:=fun zs o v hz=>run_part_plain w (by simp[Program.plainKey,underlying4]) hz
 have cI:∀(v:Int) (n:Nat),(Instr.checkKey em (n+1) 3 (I6 v)).run prog w= .ok () w:=fun v n=>by
  unfold Instr.checkKey
  simp[run_underlying underlying3]
 have cB:∀(v:Bool) (n:Nat),(Instr.checkKey em (n+1) 4 (Xh v)).run prog w= .ok () w:=fun v n=>by
  unfold Instr.checkKey
  simp[run_underlying underlying4]
 rw[show(10000:Nat)=9999+1 from rfl,Instr.checkKey]
 simp only[Yf,run_underlying hu,rA];rw[<-Yo,hfs];have k1:=cI a.1 9998;have k2:=cI a.2 9998;have k3:=cB Xd 9998;have q0:=pI (#[I6 a.1,I6 a.2,Xh Xd]) 0 a.1 rfl;have q1:=pI (#[I6 a.1,I6 a.2,Xh Xd]) 1 a.2 rfl;have q2:=pB (#[I6 a.1,I6 a.2,Xh Xd]) 2 Xd rfl
 simp[List.forIn_cons,n0,t0,o0,n1,t1,o1,n2,t2,o2,q0,q1,q2,k1,k2,k3]
theorem zmk (a b:Int × Int) (w:Xo):(Op.equal 55 (Xi #[I6 a.1,I6 a.2,Xh Xd]) (Xi #[I6 b.1,I6 b.2,Xh Xd])).run prog w= .ok (decide (a=b)) w:=by
 have hf : (Tryz.prog.fieldsOf 55).toList.map (fun f => (f.name, f.type, f.offset)) = [("Kind", 3, 0), ("N", 3, 1), ("Write", 4, 2)] := by kernel_rfl
 unfold Op.equal Op.maxDepth;rw[run_equalIn_struct w 9999 55 _ _ (by kernel_rfl) (by kernel_rfl)]
 obtain⟨f0,f1,f2,hfs⟩:∃f0 f1 f2,(Tryz.prog.fieldsOf 55).toList=[f0,f1,f2]:=by
  have hl:(Tryz.prog.fieldsOf 55).toList.length=3:=by have:=congrArg Ye hf;simpa using this
  match hq:(Tryz.prog.fieldsOf 55).toList,hl with
  | [f0,f1,f2],_=>exact⟨f0,f1,f2,rfl⟩
 rw[hfs]at hf⊢
 simp at hf
 obtain⟨⟨n0,t0,o0⟩,⟨n1,t1,o1⟩,⟨n2,t2,o2⟩⟩:=hf;have pI:∀(zs:Array Xr) (o:Nat) v,zs[o]? =Xa (I6 v)->(part 3 zs o).run prog w= .ok (I6 v) w:=fun zs o v hz=>run_part_plain w (by simp[Program.plainKey,underlying3]) hz
 have pB:∀(zs:Array Xr) (o:Nat) v,zs[o]? =Xa (Xh v)->(part 4 zs o).run prog w= .ok (Xh v) w:=fun zs o v hz=>run_part_plain w (by simp[Program.plainKey,underlying4]) hz
 simp only[Op.eqFields,n0,t0,o0,n1,t1,o1,n2,t2,o2];obtain⟨a1,a2⟩:=a;obtain⟨b1,b2⟩:=b
 simp[pI,pB,run_equalIn_bool' w _ _ _ _ underlying4,run_equalIn_int w _ _ _ _ _ _ underlying3]
 by_cases e1:a1=b1 <;> by_cases e2:a2=b2 <;> simp[e1,e2]
def enK:JG where
 ty:=55
 enc:=fun a=> Xi #[I6 a.1,I6 a.2,Xh Xd]
 und:=⟨_,underlying55⟩
 check:=zkD
 same:=zmk
 bits:=fun a=>by simp[Instr.sameBits]
theorem Box.ne_map {K:JG} {w:Xo} {cs:List Xr} {g:Int × Int->Option Int} (h:Box w b cs) (k:Qc K w B g):b≠B:=fun e=>by
 subst e;obtain⟨t,h⟩:=h;obtain⟨es,cl,l,k1,_⟩:=k;rw[h]at k1;cases k1
theorem zb.ne_map {α:Type} {E:Elt α} {K:JG} {w:Xo} {base:Nat} {v:Xr} {l:List α} {g:Int × Int->Option Int} (h:zb E base w v l) (k:Qc K w B g):∀x,v.ownBlock=Xa x->Xa B≠Xa x:=fun x hx e=>by
 cases e;obtain⟨cs,h1⟩:=h.obj hx;obtain⟨es,cl,l,k1,_⟩:=k;rw[h1]at k1;cases k1
theorem zoK (w:Xo):(zeroValue 3).run prog w= .ok (I6 0) w:=by kernel_rfl
theorem zdH (V:MaV) (m:Ma) (w:Xo) (hm:zN w V m):
  Xq prog 84 #[Xi (mL V m).toArray] w fun e w'=>∃B,e= Xl (Xi #[V.f.x,I6 m.hand,V.s.x,V.sb.x,V.sq.x,V.db.x,V.dq.x,V.fl.x,I6 m.cnt,V.ca.x,V.sp.x,.map (Xa B)])/\Qc plK w' B (Jf m.ca)/\zc w w':=by
 obtain⟨vf,vs,vsb,vsq,vdb,vdq,vfl,⟨caa,can,cac⟩,vsp⟩:=V;dsimp only[mL];obtain⟨-,-,-,-,-,-,-,n8,-⟩:=hm.ns;dsimp only at n8;have HR:Xp (zbm w caa m.ca):=hm.cas;have HN:Xp (m.ca.length=can):=n8.symm;have hbig:can<=9223372036854775807:=by have:=hm.ca.short;omega
 clear hm n8;have hmm:=@run_makeMap prog;obtain⟨W0,hW0⟩:=kB (((w.alloc (Xk #[vf.x,I6 m.hand,vs.x,vsb.x,vsq.x,vdb.x,vdq.x,vfl.x,I6 m.cnt,O caa can cac,vsp.x] 41)).alloc (Xk #[eS,I6 0,eS,eS,eS,eS,eS,eS,I6 0,eS,eS,.map Xb] 154)).alloc (.map #[] 0));have HG0:Xp (zc w W0):=dD<|by rw[<-hW0];exact((za _ _).trans (za _ _)).trans (za _ _)
 have X0:Xp (Box W0 w.heap.size [vf.x,I6 m.hand,vs.x,vsb.x,vsq.x,vdb.x,vdq.x,vfl.x,I6 m.cnt,O caa can cac,vsp.x]):=dD<|by rw[<-hW0];exact((Box.top _ _ _ rfl).alloc _).alloc _
 have Y0:Xp (Box W0 (w.heap.size+1) [eS,I6 0,eS,eS,eS,eS,eS,eS,I6 0,eS,eS,.map Xb]):=dD<|by rw[<-hW0];exact(Box.top _ _ _ (by simp)).alloc _
 have M0:Xp (Qc plK W0 (w.heap.size+1+1) (Jf (m.ca.take 0))):=dD<|by
  rw[<-hW0];have:=Qc.made plK ((w.alloc (Xk #[vf.x,I6 m.hand,vs.x,vsb.x,vsq.x,vdb.x,vdq.x,vfl.x,I6 m.cnt,O caa can cac,vsp.x] 41)).alloc (Xk #[eS,I6 0,eS,eS,eS,eS,eS,eS,I6 0,eS,eS,.map Xb] 154));have hs:((w.alloc (Xk #[vf.x,I6 m.hand,vs.x,vsb.x,vsq.x,vdb.x,vdq.x,vfl.x,I6 m.cnt,O caa can cac,vsp.x] 41)).alloc (Xk #[eS,I6 0,eS,eS,eS,eS,eS,eS,I6 0,eS,eS,.map Xb] 154)).heap.size=w.heap.size+1+1:=by simp
  rw[hs]at this;exact this.congr fun k=>by rw[Yb];rfl
 have HW0:Xp (_=W0):=hW0;clear hW0
 go_enter func84,ntmps84
 go_upto_region 2 with fail;rw[HW0.out];clear hmm;have x9:=X0.c 9 rfl;go_wp2;clear x9
 go_loopg [10] can (fun gg s10 wr=>∃kk:Nat,kk<=can/\can - kk<=gg/\s10=I6 kk/\Xp (zc w wr)/\Xp (Box wr w.heap.size [vf.x,I6 m.hand,vs.x,vsb.x,vsq.x,vdb.x,vdq.x,vfl.x,I6 m.cnt,O caa can cac,vsp.x])/\Xp (Box wr (w.heap.size+1) [eS,I6 0,eS,eS,eS,eS,eS,eS,I6 0,eS,eS,.map Xb])/\Xp (Qc plK wr (w.heap.size+1+1) (Jf (m.ca.take kk))))
 case atStart=>exact⟨0,nZ _,by omega,rfl,HG0,X0,Y0,M0⟩
 obtain⟨kk,hkk,hgg,rfl,BW,XW,YW,MW⟩:=hrel
 by_cases hlt:kk<can
 ·have hltz:=kC hlt
  obtain⟨c,HC⟩:∃c,Xp (m.ca[kk]? =Xa c):=⟨_,gE (by rw[HN.out];exact hlt)⟩
  obtain⟨ad,rfl,hl⟩:=HR.out kk c HC.out;obtain⟨d0,d1,d2⟩:=hl wr BW.out;clear hl;go_upto_region 5 with fail;obtain⟨W1,hW1⟩:=kB (wr.alloc (Xk #[I6 c.file,I6 c.idx,I6 c.fr] 120));have HG1:=gT hW1 BW
  have X1:=yA hW1 XW
  have Y1:=yA hW1 YW
  have M1:Xp (Qc plK W1 (w.heap.size+1+1) (Jf (m.ca.take kk))):=dD<|by rw[<-hW1];exact MW.grew (za _ _)
  have C1:=xA hW1
  rw[hW1];clear hW1 d0 d1 d2;obtain⟨c0,c1,c2⟩:=C1.c3
  go_wp2_with (refine zjl (K:=plK) rfl 152 3 (.tmp 14) (.tmp 19) (.tmp 21) rfl underlying152 (w.heap.size+1+1) _ M1 (c.file,c.idx) c.fr rfl rfl rfl ?_)
  clear c0 c1 c2;intro W2 m2 hg2 _;have M2:Xp (Qc plK W2 (w.heap.size+1+1) (Jf (m.ca.take (kk+1)))):=dD<|m2.congr fun k=>by rw[jB HC.out,zfn]
  have HG2:Xp (zc w W2):=dD<|ze HG1 hg2 (by omega)
  have X2:Xp (Box W2 w.heap.size [vf.x,I6 m.hand,vs.x,vsb.x,vsq.x,vdb.x,vdq.x,vfl.x,I6 m.cnt,O (Xa ad) can cac,vsp.x]):=X1.grown hg2 (by omega)
  have Y2:Xp (Box W2 (w.heap.size+1) [eS,I6 0,eS,eS,eS,eS,eS,eS,I6 0,eS,eS,.map Xb]):=Y1.grown hg2 (by omega)
  clear m2 hg2;go_wp2
  go_roundg (can -(kk+1))
  case measure=>omega
  exact⟨kk+1,by omega,by omega,by go_num,HG2,X2,Y2,M2⟩
 have hltz:=kD hlt
 have:kk=can:=by omega
 subst this;have MA1:Xp (Qc plK wr (w.heap.size+1+1) (Jf m.ca)):=dD<|by
  have:=MW.out;rw[Xt (by rw[HN.out];exact nR _)]at this
  exact this
 obtain⟨x0,x1,x2,x3,x4,x5,x6,x7,x8,x9,x10⟩:=XW.c11
 go_wp2_with (refine zK rfl 154 (.tmp 2) (.tmp 25) rfl (w.heap.size+1) rfl [vf.x,I6 m.hand,vs.x,vsb.x,vsq.x,vdb.x,vdq.x,vfl.x,I6 m.cnt,O caa kk cac,vsp.x,.map (Xa (w.heap.size+1+1))] rfl YW rfl (by kernel_rfl) (fun v hv=>by
  simp only[mC,nM,or_false]at hv
  rcases hv with rfl|rfl|rfl|rfl|rfl|rfl|rfl|rfl|rfl|rfl|rfl|rfl <;> rfl) ?_)
 clear x0 x1 x2 x3 x4 x5 x6 x7 x8 x9 x10;intro W5 hb5 hg5 _;have G5:Xp (zc w W5):=dD<|ze BW hg5 (by omega)
 have M5:Xp (Qc plK W5 (w.heap.size+1+1) (Jf m.ca)):=MA1.kept hg5 (by simp)
 go_wp2;refine bodyPost_ret (zZ rfl _ rfl hb5 underlying154 rfl (by kernel_rfl)) rfl ⟨_,rfl,M5,G5⟩
theorem zei (V:MaV) (m:Ma) (B k:Nat) (g:Int × Int->Option Int) (w:Xo) (hm:zN w V m) (hk:k<m.fs.length) (hmap:Qc plK w B g):
  Xq prog 162 #[Xi #[V.f.x,I6 m.hand,V.s.x,V.sb.x,V.sq.x,V.db.x,V.dq.x,V.fl.x,I6 m.cnt,V.ca.x,V.sp.x,.map (Xa B)],I6 (k:Int)] w fun e w'=>e= Xl (Xh (decide (g ((z8 m k).f,(z8 m k).x)=Xa (k:Int))))/\zc w w':=by
 obtain⟨⟨fa,fn,fc⟩,vs,vsb,vsq,vdb,vdq,vfl,vca,vsp⟩:=V;dsimp only[mL];obtain⟨n1,-⟩:=hm.ns;dsimp only at n1;have hkn:k<fn:=by omega
 obtain⟨q,HQ⟩:∃q,Xp (m.fs[k]? =Xa q):=⟨_,gE hk⟩;have hfr:z8 m (k:Int)=q:=by unfold z8;rw[tN,gD,HQ.out];rfl
 rw[hfr];obtain⟨ad,rfl,hl⟩:=(show zaM w fa m.fs from hm.frs) k q HQ.out
 clear hfr hm n1 hk;obtain⟨W1,hW1⟩:=kB (w.alloc (Xk #[O (Xa ad) fn fc,I6 m.hand,vs.x,vsb.x,vsq.x,vdb.x,vdq.x,vfl.x,I6 m.cnt,vca.x,vsp.x,.map (Xa B)] 154));have HG1:=gA hW1
 have X1:=xA hW1
 have HS1:=sA hW1
 obtain⟨d0,d1,d2,d3,d4,d5,d6,d7,d8,d9,d10,d11,d12⟩:=hl W1 HG1.out;obtain⟨W2,hW2⟩:=kB (W1.alloc (Xk #[U8 q.p.b0,U8 q.p.b1,U8 q.p.b2,U8 q.p.b3,U8 q.p.b4,U8 q.p.b5,U8 q.p.b6,U8 q.p.b7,I6 q.r,Xh q.u,Xh q.d,I6 q.f,I6 q.x] 53));have HG2:=gT hW2 HG1
 have X2:=yA hW2 X1
 have F2:=xP hW2 HS1
 have hlook:(Instr.lookup 152 (.map (Xa B)) (Xi #[I6 q.f,I6 q.x]) Xc).run prog W2= .ok (Xm #[I6 ((g (q.f,q.x)).getD 0),Xh (g (q.f,q.x)).isSome]) W2:=(hmap.grew HG2).look (K:=plK) underlying152 (zoK W2) (q.f,q.x) Xc;have HW1:Xp (_=W1):=hW1;have HW2:Xp (_=W2):=hW2;clear hW1 hW2 hl hmap;obtain⟨R,HRR⟩:=kA (decide (g (q.f,q.x)=Xa (k:Int)));rw[HRR.out];obtain⟨gv,HGV⟩:=kA (g (q.f,q.x));rw[HGV.out]at hlook HRR
 go_enter func162,ntmps162
 go_upto_region 1 with fail;rw[HW1.out];have x0:=X1.c 0 rfl;go_upto_region 2 with fail;rw[HW2.out];rw[HS1.out];clear d0 d1 d2 d3 d4 d5 d6 d7 d8 d9 d10 d11 d12 x0;have x11:=X2.c 11 rfl;have f11:=F2.c 11 rfl;have f12:=F2.c 12 rfl
 cases gv with
 | none=>
  simp only[Option.getD_none,Option.isSome_none]at hlook;go_wp2;go_ret;exact⟨by rw[<-HRR.out];rfl,HG2⟩
 | some z=>
  simp only[Option.getD_some,Option.isSome_some]at hlook;have HE:Xp ((z ==(k:Int))=R):=dD<|by rw[<-HRR.out,Ya];simp
  go_wp2;go_ret;exact⟨by rw[<-HE.out];rfl,HG2⟩
def QQ (K:JG) (w:Xo) (b:Nat) (H:Int × Int->Int):Prop:=∃g,Qc K w b g/\∀k,(g k).getD 0=H k
theorem QQ.grew {K:JG} {w:Xo} {H:Int × Int->Int} (h:QQ K w b H) (k:zc w w'):QQ K w' b H:=by
 obtain⟨g,h1,h2⟩:=h;exact⟨g,h1.grew k,h2⟩
theorem QQ.congr {K:JG} {w:Xo} {H H':Int × Int->Int} (h:QQ K w b H) (e:∀k,H k=H' k):QQ K w b H':=by
 obtain⟨g,h1,h2⟩:=h;exact⟨g,h1,fun k=>(h2 k).trans (e k)⟩
theorem QQ.ne_box {K:JG} {w:Xo} {cs:List Xr} {H:Int × Int->Int} (k:QQ K w B H) (h:Box w b cs):b≠B:=by
 obtain⟨g,h1,_⟩:=k;exact h.ne_map h1
theorem QQ.ne_own {α:Type} {E:Elt α} {K:JG} {w:Xo} {base:Nat} {v:Xr} {l:List α} {H:Int × Int->Int} (k:QQ K w B H) (h:zb E base w v l):∀x,v.ownBlock=Xa x->Xa B≠Xa x:=by
 obtain⟨g,h1,_⟩:=k;exact h.ne_map h1
def zbz (K:JG) (w:Xo) (b:Nat) (H:Int × Int->Int) (k:Int × Int) (st:Int):Prop:=∃g,znF K w b g k st/\∀x,(g x).getD 0=H x
theorem QQ.entry {K:JG} {w:Xo} {H:Int × Int->Int} (h:QQ K w b H) {e:TypeId} (ht:Tryz.prog.underlying t=Xa (.map K.ty e)) (hz:(zeroValue e).run prog w= .ok (I6 0) w) (k:Int × Int):
  ∃w' st,(Instr.mapEntry t (.map (Xa b)) (K.enc k)).run prog w= .ok (Xm #[I6 (H k),I6 st]) w'/\zbz K w' b H k st/\w.grownBy w' (Xa b)/\w'.heap.size=w.heap.size:=by
 obtain⟨g,h1,h2⟩:=h;obtain⟨w',st,r1,r2,r3,r4⟩:=h1.entry ht hz k;rw[h2 k]at r1;refine⟨w',st,r1,⟨_,r2,fun x=>?_⟩,r3,r4⟩
 by_cases e:x=k
 ·subst e;rw[kE rfl];exact h2 x
 rw[kF e];exact h2 x
theorem zbz.h {K:JG} {w:Xo} {H:Int × Int->Int} {k:Int × Int} {st:Int} (h:zbz K w b H k st):QQ K w b H:=by
 obtain⟨g,h1,h2⟩:=h;exact⟨g,h1.f,h2⟩
theorem QQ.look {K:JG} {w:Xo} {H:Int × Int->Int} (h:QQ K w b H) {e:TypeId} (ht:Tryz.prog.underlying t=Xa (.map K.ty e)) (hz:(zeroValue e).run prog w= .ok (I6 0) w) (k:Int × Int):
  (Instr.lookup t (.map (Xa b)) (K.enc k) Xd).run prog w= .ok (I6 (H k)) w:=by
 obtain⟨g,h1,h2⟩:=h;have:=h1.look ht hz k Xd;rw[h2 k]at this;exact this
def zoi (H:Int × Int->Int) (k:Int × Int):Int × Int->Int:=fun x=>H x+(if x=k then 1 else 0)
theorem zai {K:JG} {w:Xo} {rest:List Oper} {a:Act} (hgd:o.guard=Xb) (t:TypeId) (m s x:Operand) (hop:o.op= .entryStore t m s x) (b:Nat) (H:Int × Int->Int) (k:Int × Int) (st:Int) (h:zbz K w b H k st)
  (hm:a.eval m= .map (Xa b)) (hs:a.eval s=I6 st) (hv:a.eval x=I6 (H k+1))
  (hK:∀w',QQ K w' b (zoi H k)->w.grownBy w' (Xa b)->w'.heap.size=w.heap.size->wpList prog ops Q rest (a.put o.dst undef) w'):wpList prog ops Q (o :: rest) a w:=by
 refine wpList_plain hgd fun K' hK'=>?_
 obtain⟨g,h1,h2⟩:=h;obtain⟨w',hrun,r1,r2,r3⟩:=h1.store t (H k+1);unfold Oper.wp
 simp[execOp,hop,hm,hs,hv,hrun,Result.andThen]
 refine hK' _ _ (hK w' ⟨_,r1,fun y=>?_⟩ r2 r3)
 unfold zoi
 by_cases e:y=k
 ·subst e;rw[kE rfl,kE rfl];rfl
 rw[kF e,kF e,h2 y];omega
theorem zl0 (l:List Ca) (key:Int × Int):0<=Jg l key/\Jg l key<=l.length:=by
 unfold Jg qk
 split
 ·have:=Xx (p:=fun c:Ca=>decide (c.fr=key.2)) (l:=l)
  omega
 omega
theorem zdc (s:Sp):(qw s).length<=64:=by
 unfold qw;have:=Yh (fun n=>enS (zD s n)) (List.range 64)
 simpa using this
theorem zne (m:Ma) (i:Nat) (l:List Nat) (s:Sp) (key:Int × Int):0<=qx m i l s key/\qx m i l s key<=m.ca.length+64*m.sp.length+l.length:=by
 unfold qx;have h1:(if key.1=1 then qk m.ca key.2 else 0)<=m.ca.length:=by
  split
  ·exact Xx
  omega
 have h2:∀(L:List Sp),(L.map fun s=>(qw s).countP fun n=>isE (zD s n) key.1 key.2).sum<=64*L.length:=by
  intro L
  induction L with
  | nil=>simp
  | cons a L ih=>
   have h3:=Xx (p:=fun n=>isE (zD a n) key.1 key.2) (l:=qw a)
   have h4:=zdc a;simp only[mP,List.sum_cons,List.length_cons];omega
 have h5:=h2 (m.sp.take i);have h6:(m.sp.take i).length<=m.sp.length:=by simp;omega
 have h7:=Xx (p:=fun n=>isE (zD s n) key.1 key.2) (l:=l)
 omega
def zdM:Sp:=⟨Xc,[],[]⟩
theorem zgz (V:MaV) (m:Ma) (w:Xo) (hm:zN w V m) (hsp4:m.sp.length<=4) (htb:∀s∈m.sp,tbW s.tb=0):
  Xq prog 161 #[Xi (mL V m).toArray] w fun e w'=>∃B,e= Xl (.map (Xa B))/\QQ enK w' B (qx m m.sp.length [] zdM)/\zc w w':=by
 obtain⟨vf,vs,vsb,vsq,vdb,vdq,vfl,⟨caa,can,cac⟩,⟨spa,spn,spc⟩⟩:=V;dsimp only[mL];obtain⟨-,-,-,-,-,-,-,n8,n9⟩:=hm.ns;dsimp only at n8 n9;have HR:Xp (zbm w caa m.ca):=hm.cas;have HN:Xp (m.ca.length=can):=n8.symm;have hbig:can<=140737488355328:=by have:=hm.ca.2;have h24:qJ.bytes=24:=rfl;rw[h24]at this;omega
 obtain⟨xs,hxl,hrow,hsp⟩:=hm.spaces;have HXL:Xp (xs.length=m.sp.length):=hxl;have HRS:Xp (∀(j:Nat) x,xs[j]? =Xa x->∃ad,spa=Xa ad/\∀W,zc w W->zjb W (ad.add (j*10)) x):=hrow;have HSP:Xp (∀(i:Nat) x s,xs[i]? =Xa x->m.sp[i]? =Xa s->qN w x s):=hsp;have HNS:Xp (m.sp.length=spn):=n9.symm;have HTBS:Xp (∀s∈m.sp,tbW s.tb=0):=htb;have HC0:Xp (∀j key,0<=Jg (m.ca.take j) key/\Jg (m.ca.take j) key<=140737488355328):=show∀j key,_ from fun j key=>by
  have h1:=zl0 (m.ca.take j) key;have h2:(m.ca.take j).length<=m.ca.length:=by simp;omega
  omega
 have HH0:Xp (∀i l s key,l.length<=64->0<=qx m i l s key/\qx m i l s key<=140737488360000):=dD<|fun i l s key hl=>by
  have h1:=zne m i l s key;omega
 have hsn4:spn<=4:=by omega
 clear hm n8 n9 hxl hrow hsp hsp4 htb;have hmm:=@run_makeMap prog;obtain⟨W0,hW0⟩:=kB ((w.alloc (Xk #[vf.x,I6 m.hand,vs.x,vsb.x,vsq.x,vdb.x,vdq.x,vfl.x,I6 m.cnt,O caa can cac,O spa spn spc] 41)).alloc (.map #[] 0));have HG0:Xp (zc w W0):=dD<|by rw[<-hW0];exact(za _ _).trans (za _ _)
 have X0:Xp (Box W0 w.heap.size [vf.x,I6 m.hand,vs.x,vsb.x,vsq.x,vdb.x,vdq.x,vfl.x,I6 m.cnt,O caa can cac,O spa spn spc]):=dD<|by rw[<-hW0];exact(Box.top _ _ _ rfl).alloc _
 have M0:Xp (QQ enK W0 (w.heap.size+1) (Jg (m.ca.take 0))):=dD<|by
  rw[<-hW0];have:=Qc.made enK (w.alloc (Xk #[vf.x,I6 m.hand,vs.x,vsb.x,vsq.x,vdb.x,vdq.x,vfl.x,I6 m.cnt,O caa can cac,O spa spn spc] 41));have hs:(w.alloc (Xk #[vf.x,I6 m.hand,vs.x,vsb.x,vsq.x,vdb.x,vdq.x,vfl.x,I6 m.cnt,O caa can cac,O spa spn spc] 41)).heap.size=w.heap.size+1:=by simp
  rw[hs]at this;exact⟨_,this,fun k=>by rw[Yb,zj8];rfl⟩
 have HW0:Xp (_=W0):=hW0;clear hW0
 go_enter func161,ntmps161
 go_upto_region 2 with fail;rw[HW0.out];clear hmm;have x9:=X0.c 9 rfl;go_wp2;clear x9
 go_loopg [15] can (fun gg s15 wr=>∃kk:Nat,kk<=can/\can - kk<=gg/\s15=I6 kk/\Xp (zc w wr)/\Xp (Box wr w.heap.size [vf.x,I6 m.hand,vs.x,vsb.x,vsq.x,vdb.x,vdq.x,vfl.x,I6 m.cnt,O caa can cac,O spa spn spc])/\Xp (QQ enK wr (w.heap.size+1) (Jg (m.ca.take kk))))
 case atStart=>exact⟨0,nZ _,by omega,rfl,HG0,X0,M0⟩
 obtain⟨kk,hkk,hgg,rfl,BW,XW,MW⟩:=hrel
 by_cases hlt:kk<can
 ·have hltz:=kC hlt
  obtain⟨c,HC⟩:∃c,Xp (m.ca[kk]? =Xa c):=⟨_,gE (by rw[HN.out];exact hlt)⟩
  obtain⟨ad,rfl,hl⟩:=HR.out kk c HC.out;obtain⟨d0,d1,d2⟩:=hl wr BW.out;clear hl;go_upto_region 5 with fail;obtain⟨W1,hW1⟩:=kB (wr.alloc (Xk #[I6 c.file,I6 c.idx,I6 c.fr] 120));have HG1:=gT hW1 BW
  have X1:=yA hW1 XW
  have M1:Xp (QQ enK W1 (w.heap.size+1) (Jg (m.ca.take kk))):=dD<|by rw[<-hW1];exact MW.grew (za _ _)
  have C1:=xA hW1
  rw[hW1];clear hW1 d0 d1 d2;obtain⟨pb,HPB⟩:=kA wr.heap.size;rw[HPB.out]at C1⊢;obtain⟨H,HH⟩:=kA (Jg (m.ca.take kk));rw[HH.out]at M1;obtain⟨hb0,hb1⟩:0<=H (1,c.fr)/\H (1,c.fr)<=140737488355328:=by rw[<-HH.out];exact HC0 kk (1,c.fr)
  obtain⟨I,hI⟩:∃I:Xo->Prop,I=fun u=>QQ enK u (w.heap.size+1) H/\Box u pb [I6 c.file,I6 c.idx,I6 c.fr]/\Box u w.heap.size [vf.x,I6 m.hand,vs.x,vsb.x,vsq.x,vdb.x,vdq.x,vfl.x,I6 m.cnt,O (Xa ad) can cac,O spa spn spc]/\zc w u:=⟨_,rfl⟩
  have HI:Xp (∀u,I u↔QQ enK u (w.heap.size+1) H/\Box u pb [I6 c.file,I6 c.idx,I6 c.fr]/\Box u w.heap.size [vf.x,I6 m.hand,vs.x,vsb.x,vsq.x,vdb.x,vdq.x,vfl.x,I6 m.cnt,O (Xa ad) can cac,O spa spn spc]/\zc w u):=dD<|fun u=>by rw[hI]
  clear hI;have hx2:∀y:zj I,y.world.cell? ⟨pb,2,Xb⟩=Xa (I6 c.fr):=fun y=>((HI _).1 y.holds).2.1.c 2 rfl
  have hlk:∀y:zj I,(Instr.lookup 226 (.map (Xa (w.heap.size+1))) (Xi #[I6 1,I6 c.fr,Xh Xd]) Xd).run prog y.world= .ok (I6 (H (1,c.fr))) y.world:=fun y=>((HI _).1 y.holds).1.look (K:=enK) underlying226 (zoK _) (1,c.fr)
  have hI0:I W1.drew:=(HI _).2 ⟨M1.grew (gW _),C1.grew (gW _),X1.grew (gW _),HG1.trans (gW _)⟩
  have hne:Nonempty (zj I):=⟨⟨_,hI0⟩⟩;refine qP (I:=I) 8 [(6,⟨fun v=>∃st,v= Xm #[I6 (H (1,c.fr)),I6 st],fun v w'=>∃st,v= Xm #[I6 (H (1,c.fr)),I6 st]/\zbz enK w' (w.heap.size+1) H (1,c.fr) st,fun _ _=>True,fun _=>True⟩)] hI0 zW (by kernel_rfl) rfl rfl (by decide) ?hS ?hp ?hpre ?hpr0 ?_
  case hS=>
   intro y hy;simp only[mC,nM,or_false]at hy;subst hy;exact⟨_,0,rfl⟩
  case hp=>
   intro k s j t' hk hj hjk _ v p q hst hpo;obtain⟨rfl,rfl⟩:=zaW hk;obtain⟨rfl,rfl⟩:=zaW hj;exact absurd rfl hjk
  case hpre=>
   intro j t' k s hj hk hjk p q hst hpr;obtain⟨rfl,rfl⟩:=zaW hj;trivial
  case hpr0=>
   intro k t' hk;obtain⟨rfl,rfl⟩:=zaW hk;trivial
  simp only[List.take,List.drop];iterate 6 (refine zk rfl rfl rfl (fun K hK=>?_);go_big_quiet_op;refine hK _ ?_;clear hK)
  refine zP rfl rfl (fun w' hI' hpr hF=>?_) (fun v1 hv=>?_)
  ·obtain⟨i1,i2,i3,i4⟩:=(HI _).1 hI';obtain⟨w2,st,hrun,r1,r2,r3⟩:=i1.entry (K:=enK) underlying226 (zoK w') (1,c.fr);have hrun':(Instr.mapEntry 226 (.map (Xa (w.heap.size+1))) (Xi #[I6 1,I6 c.fr,Xh Xd])).run prog w'= .ok (Xm #[I6 (H (1,c.fr)),I6 st]) w2:=hrun;clear hx2 hlk hne;refine zQ.step (v:= Xm #[I6 (H (1,c.fr)),I6 st]) (w':=w2) (by simp only[execOp];go_simp) ⟨(HI _).2 ⟨r1.h,i2.grown r2 (i1.ne_box i2),i3.grown r2 (i1.ne_box i3),ze i4 r2 (by omega)⟩,trivial,⟨_,rfl⟩,_,rfl,r1⟩
  obtain⟨st,rfl⟩:=hv;simp only[Xu,sB,sS,sZ];iterate 1 (refine zk rfl rfl rfl (fun K hK=>?_);go_big_quiet_op;refine hK _ ?_;clear hK)
  refine jS fun W3 hI3 hF=>?_
  obtain⟨i1,i2,i3,i4⟩:=(HI _).1 hI3;obtain⟨st',hst,hE⟩:∃st',(Value.tuple #[I6 (H (1,c.fr)),I6 st])= Xm #[I6 (H (1,c.fr)),I6 st']/\zbz enK W3 (w.heap.size+1) H (1,c.fr) st':=hF 6;have hE':zbz enK W3 (w.heap.size+1) H (1,c.fr) st:=by
   simp at hst
   rw[hst];exact hE
  have X3:Xp (Box W3 w.heap.size [vf.x,I6 m.hand,vs.x,vsb.x,vsq.x,vdb.x,vdq.x,vfl.x,I6 m.cnt,O (Xa ad) can cac,O spa spn spc]):=i3;have HG3:Xp (zc w W3):=i4;have HE3:Xp (zbz enK W3 (w.heap.size+1) H (1,c.fr) st):=hE';clear hx2 hlk hne hF hI3 i1 i2 i3 i4 hE hst hE' hI0;refine zai (K:=enK) rfl 226 (.tmp 19) (.tmp 26) (.tmp 24) rfl (w.heap.size+1) H (1,c.fr) st HE3 rfl rfl (by go_num) ?_
  intro W4 m4 hg4 _;have X4:Xp (Box W4 w.heap.size [vf.x,I6 m.hand,vs.x,vsb.x,vsq.x,vdb.x,vdq.x,vfl.x,I6 m.cnt,O (Xa ad) can cac,O spa spn spc]):=X3.grown hg4 (by omega)
  have HG4:Xp (zc w W4):=dD<|ze HG3 hg4 (by omega)
  have M4:Xp (QQ enK W4 (w.heap.size+1) (Jg (m.ca.take (kk+1)))):=dD<|m4.congr fun k=>by rw[jB HC.out,zis,<-HH.out];rfl
  clear m4 hg4 hb0 hb1;go_wp2
  go_roundg (can -(kk+1))
  case measure=>omega
  exact⟨kk+1,by omega,by omega,by go_num,HG4,X4,M4⟩
 have hltz:=kD hlt
 have:kk=can:=by omega
 subst this;have MA1:Xp (QQ enK wr (w.heap.size+1) (qx m 0 [] zdM)):=dD<|MW.congr fun k=>by
  rw[Xt (by rw[HN.out];exact nR _)]
  exact zj9 m zdM k
 have x10:=XW.c 10 rfl;go_wp2;clear x10;have HBW:Xp (zc w wr):=BW
 go_loopg [31] spn (fun gg s31 wr=>∃i:Nat,i<=spn/\spn - i<=gg/\s31=I6 i/\Xp (zc w wr)/\Xp (QQ enK wr (w.heap.size+1) (qx m i [] zdM)))
 case atStart=>exact⟨0,nZ _,by omega,rfl,HBW,MA1⟩
 obtain⟨i,hi,hg2,rfl,BW,MW⟩:=hrel
 by_cases hlt2:i<spn
 ·have hltz2:=kC hlt2
  obtain⟨s,HS⟩:∃s,Xp (m.sp[i]? =Xa s):=⟨_,gE (by rw[HNS.out];exact hlt2)⟩
  obtain⟨x,HX⟩:∃x,Xp (xs[i]? =Xa x):=⟨_,gE (by rw[HXL.out,HNS.out];exact hlt2)⟩
  have HAT:Xp (qN w x s):=HSP.out i x s HX HS.out;obtain⟨ad,rfl,hl⟩:=HRS.out i x HX.out;obtain⟨d0,d1,d2,d3,d4,d5,d6,d7,d8,d9⟩:=hl wr BW.out;clear hl;go_upto_region 10 with fail;obtain⟨W1,hW1⟩:=kB (wr.alloc (Xk #[Xh x.live,x.ar.x,x.t0.x,x.t1.x,x.t2.x,x.t3.x,x.t4.x,x.t5.x,x.t6.x,x.t7.x] 63));have HG1:=gT hW1 BW
  have M1:Xp (QQ enK W1 (w.heap.size+1) (qx m i [] s)):=dD<|by rw[<-hW1];exact(MW.grew (za _ _)).congr fun k=>by unfold qx;simp
  have S1:=xA hW1
  rw[hW1];clear hW1 d0 d1 d2 d3 d4 d5 d6 d7 d8 d9;obtain⟨pb,HPB⟩:=kA wr.heap.size;rw[HPB.out]at S1⊢;have hcall:Xq prog 107 #[Xi #[x.t0.x,x.t1.x,x.t2.x,x.t3.x,x.t4.x,x.t5.x,x.t6.x,x.t7.x]] W1 fun e w'=>∃v,e= Xl v/\zb blE W1.heap.size w' v (qS s.tb Jr 64)/\zc W1 w':=J1 x.tab s.tb W1 (HAT.grew HG1).tb
  have s2:=S1.c 2 rfl;have s3:=S1.c 3 rfl;have s4:=S1.c 4 rfl;have s5:=S1.c 5 rfl;have s6:=S1.c 6 rfl;have s7:=S1.c 7 rfl;have s8:=S1.c 8 rfl;have s9:=S1.c 9 rfl;go_wp2_with fail;refine hcall.mono ?_;clear hcall s2 s3 s4 s5 s6 s7 s8 s9;rintro e' W2 ⟨pv,rfl,ow2,hg2'⟩;have HG2:=dD (HG1.trans hg2');have M2:=dD (M1.grew hg2');have S2:=dD (S1.grew hg2');have HW1L:Xp (w.heap.size<=W1.heap.size):=show _<=_ from bS HG1.out
  clear hg2';obtain⟨pa,pc,rfl⟩:=ow2.form;have hq0:=ow2.at.short;rw[QD]at ow2 hq0⊢;rw[List.length_map]at ow2 hq0⊢;obtain⟨q,HQ⟩:=kA ((qw s).length);rw[HQ.out]at ow2 hq0⊢;have OW2:Xp (zb blE W1.heap.size W2 (O pa q pc) ((qw s).map fun(n:Nat)=>(n:Int))):=ow2
  have hq64:q<=64:=by rw[<-HQ.out];exact zdc s
  clear ow2;go_wp2
  go_loopg [39] q (fun gg s39 wr=>∃j:Nat,j<=q/\q - j<=gg/\s39=I6 j/\Xp (zc w wr)/\Xp (zb blE W1.heap.size wr (O pa q pc) ((qw s).map fun(n:Nat)=>(n:Int)))/\Xp (Box wr pb [Xh x.live,x.ar.x,x.t0.x,x.t1.x,x.t2.x,x.t3.x,x.t4.x,x.t5.x,x.t6.x,x.t7.x])/\Xp (QQ enK wr (w.heap.size+1) (qx m i ((qw s).take j) s)))
  case atStart=>exact⟨0,nZ _,by omega,rfl,HG2,OW2,S2,by rw[Yb];exact M2⟩
  obtain⟨j,hj,hg3,rfl,BW,OW,SW,MW⟩:=hrel
  by_cases hlt3:j<q
  ·have hltz3:=kC hlt3
   obtain⟨n,HNI⟩:∃n,Xp ((qw s)[j]? =Xa n):=⟨_,gE (by rw[HQ.out];exact hlt3)⟩
   have hn64:n<64:=ze1 HNI.out;have HTS:Xp ((qw s).take (j+1)=(qw s).take j++ [n]):=jB HNI.out;obtain⟨_,_,heq,hnr⟩:=OW.at.nums;simp only[vJ]at heq;obtain⟨ad2,had2,hl2⟩:=hnr j (n:Int) (by rw[Yd,HNI.out];rfl)
   have e0:=hl2 wr (zc.refl _);rw[<-heq.1]at had2;subst had2;clear hl2 heq hnr;have hcg:Xq prog 86 #[Xi #[x.t0.x,x.t1.x,x.t2.x,x.t3.x,x.t4.x,x.t5.x,x.t6.x,x.t7.x],I6 (n:Int)] wr fun e w'=>e= Xl (enV (zD s n))/\zc wr w':=by
    have:=Ji x.tab s.tb (n:Int) wr (HAT.grew BW).tb;rw[zhw hn64]at this;exact this
   obtain⟨en,HEN⟩:=kA (zD s n);rw[HEN.out]at hcg;have s2:=SW.c 2 rfl;have s3:=SW.c 3 rfl;have s4:=SW.c 4 rfl;have s5:=SW.c 5 rfl;have s6:=SW.c 6 rfl;have s7:=SW.c 7 rfl;have s8:=SW.c 8 rfl;have s9:=SW.c 9 rfl;go_wp2_with fail;refine hcg.mono ?_;clear hcg e0 s2 s3 s4 s5 s6 s7 s8 s9;rintro e' W4 ⟨rfl,hg4⟩;have HG4:=dD (BW.trans hg4);have OW4:=dD (OW.grew hg4)
   have S4:=dD (SW.grew hg4);have M4:=dD (MW.grew hg4);clear hg4;unfold enV;go_upto_region 14 with fail;obtain⟨W5,hW5⟩:=kB (W4.alloc (Xk #[I6 en.kind,I6 en.n,Xh en.wr] 55));have HG5:=gT hW5 HG4
   have OW5:Xp (zb blE W1.heap.size W5 (O (Xa ad2) q pc) ((qw s).map fun(n:Nat)=>(n:Int))):=dD<|by rw[<-hW5];exact OW4.grew (za _ _)
   have S5:=yA hW5 S4
   have M5:Xp (QQ enK W5 (w.heap.size+1) (qx m i ((qw s).take j) s)):=dD<|by rw[<-hW5];exact M4.grew (za _ _)
   have E5:=xA hW5
   rw[hW5];clear hW5;obtain⟨pe,HPE⟩:=kA W4.heap.size;rw[HPE.out]at E5⊢;obtain⟨H,HH⟩:=kA (qx m i ((qw s).take j) s);rw[HH.out]at M5;obtain⟨hb0,hb1⟩:0<=H (en.kind,en.n)/\H (en.kind,en.n)<=140737488360000:=by rw[<-HH.out];exact HH0 i _ s (en.kind,en.n) (by simp;omega)
   obtain⟨I,hI⟩:∃I:Xo->Prop,I=fun u=>QQ enK u (w.heap.size+1) H/\Box u pe [I6 en.kind,I6 en.n,Xh en.wr]/\Box u pb [Xh x.live,x.ar.x,x.t0.x,x.t1.x,x.t2.x,x.t3.x,x.t4.x,x.t5.x,x.t6.x,x.t7.x]/\zb blE W1.heap.size u (O (Xa ad2) q pc) ((qw s).map fun(n:Nat)=>(n:Int))/\zc w u:=⟨_,rfl⟩
   have HI:Xp (∀u,I u↔QQ enK u (w.heap.size+1) H/\Box u pe [I6 en.kind,I6 en.n,Xh en.wr]/\Box u pb [Xh x.live,x.ar.x,x.t0.x,x.t1.x,x.t2.x,x.t3.x,x.t4.x,x.t5.x,x.t6.x,x.t7.x]/\zb blE W1.heap.size u (O (Xa ad2) q pc) ((qw s).map fun(n:Nat)=>(n:Int))/\zc w u):=dD<|fun u=>by rw[hI]
   clear hI;have hx0:∀y:zj I,y.world.cell? ⟨pe,0,Xb⟩=Xa (I6 en.kind):=fun y=>((HI _).1 y.holds).2.1.c 0 rfl
   have hx1:∀y:zj I,y.world.cell? ⟨pe,1,Xb⟩=Xa (I6 en.n):=fun y=>((HI _).1 y.holds).2.1.c 1 rfl
   have hlk:∀y:zj I,(Instr.lookup 226 (.map (Xa (w.heap.size+1))) (Xi #[I6 en.kind,I6 en.n,Xh Xd]) Xd).run prog y.world= .ok (I6 (H (en.kind,en.n))) y.world:=fun y=>((HI _).1 y.holds).1.look (K:=enK) underlying226 (zoK _) (en.kind,en.n)
   have hI0:I W5.drew:=(HI _).2 ⟨M5.grew (gW _),E5.grew (gW _),S5.grew (gW _),OW5.grew (gW _),HG5.trans (gW _)⟩
   have hne:Nonempty (zj I):=⟨⟨_,hI0⟩⟩;refine qP (I:=I) 10 [(8,⟨fun v=>∃st,v= Xm #[I6 (H (en.kind,en.n)),I6 st],fun v w'=>∃st,v= Xm #[I6 (H (en.kind,en.n)),I6 st]/\zbz enK w' (w.heap.size+1) H (en.kind,en.n) st,fun _ _=>True,fun _=>True⟩)] hI0 zW (by kernel_rfl) rfl rfl (by decide) ?hS ?hp ?hpre ?hpr0 ?_
   case hS=>
    intro y hy;simp only[mC,nM,or_false]at hy;subst hy;exact⟨_,0,rfl⟩
   case hp=>
    intro k s j t' hk hj hjk _ v p q hst hpo;obtain⟨rfl,rfl⟩:=zaW hk;obtain⟨rfl,rfl⟩:=zaW hj;exact absurd rfl hjk
   case hpre=>
    intro j t' k s hj hk hjk p q hst hpr;obtain⟨rfl,rfl⟩:=zaW hj;trivial
   case hpr0=>
    intro k t' hk;obtain⟨rfl,rfl⟩:=zaW hk;trivial
   simp only[List.take,List.drop];iterate 8 (refine zk rfl rfl rfl (fun K hK=>?_);go_big_quiet_op;refine hK _ ?_;clear hK)
   refine zP rfl rfl (fun w' hI' hpr hF=>?_) (fun v1 hv=>?_)
   ·obtain⟨i1,i2,i3,i4,i5⟩:=(HI _).1 hI';obtain⟨w2,st,hrun,r1,r2,r3⟩:=i1.entry (K:=enK) underlying226 (zoK w') (en.kind,en.n);have hrun':(Instr.mapEntry 226 (.map (Xa (w.heap.size+1))) (Xi #[I6 en.kind,I6 en.n,Xh Xd])).run prog w'= .ok (Xm #[I6 (H (en.kind,en.n)),I6 st]) w2:=hrun;clear hx0 hx1 hlk hne;refine zQ.step (v:= Xm #[I6 (H (en.kind,en.n)),I6 st]) (w':=w2) (by simp only[execOp];go_simp) ⟨(HI _).2 ⟨r1.h,i2.grown r2 (i1.ne_box i2),i3.grown r2 (i1.ne_box i3),i4.grown r2 (i1.ne_own i4),ze i5 r2 (by omega)⟩,trivial,⟨_,rfl⟩,_,rfl,r1⟩
   obtain⟨st,rfl⟩:=hv;simp only[Xu,sB,sS,sZ];iterate 1 (refine zk rfl rfl rfl (fun K hK=>?_);go_big_quiet_op;refine hK _ ?_;clear hK)
   refine jS fun W6 hI6 hF=>?_
   obtain⟨i1,i2,i3,i4,i5⟩:=(HI _).1 hI6;obtain⟨st',hst,hE⟩:∃st',(Value.tuple #[I6 (H (en.kind,en.n)),I6 st])= Xm #[I6 (H (en.kind,en.n)),I6 st']/\zbz enK W6 (w.heap.size+1) H (en.kind,en.n) st':=hF 8;have hE':zbz enK W6 (w.heap.size+1) H (en.kind,en.n) st:=by
    simp at hst
    rw[hst];exact hE
   have S6:Xp (Box W6 pb [Xh x.live,x.ar.x,x.t0.x,x.t1.x,x.t2.x,x.t3.x,x.t4.x,x.t5.x,x.t6.x,x.t7.x]):=i3;have OW6:Xp (zb blE W1.heap.size W6 (O (Xa ad2) q pc) ((qw s).map fun(n:Nat)=>(n:Int))):=i4
   have HG6:Xp (zc w W6):=i5;have M6:Xp (QQ enK W6 (w.heap.size+1) H):=i1;have HE6:Xp (zbz enK W6 (w.heap.size+1) H (en.kind,en.n) st):=hE';clear hx0 hx1 hlk hne hF hI6 i1 i2 i3 i4 i5 hE hst hE' hI0;refine zai (K:=enK) rfl 226 (.tmp 47) (.tmp 56) (.tmp 54) rfl (w.heap.size+1) H (en.kind,en.n) st HE6 rfl rfl (by go_num) ?_
   intro W7 m7 hg7 _;have S7:Xp (Box W7 pb [Xh x.live,x.ar.x,x.t0.x,x.t1.x,x.t2.x,x.t3.x,x.t4.x,x.t5.x,x.t6.x,x.t7.x]):=S6.grown hg7 (M6.ne_box S6);have OW7:Xp (zb blE W1.heap.size W7 (O (Xa ad2) q pc) ((qw s).map fun(n:Nat)=>(n:Int))):=OW6.grown hg7 (M6.ne_own OW6)
   have HG7:Xp (zc w W7):=dD<|ze HG6 hg7 (by omega)
   have M7:Xp (QQ enK W7 (w.heap.size+1) (qx m i ((qw s).take (j+1)) s)):=dD<|m7.congr fun k=>by rw[HTS.out,zj6,HEN.out,HH.out];rfl
   clear m7 hg7 hb0 hb1;go_wp2
   go_roundg (q -(j+1))
   case measure=>omega
   exact⟨j+1,by omega,by omega,by go_num,HG7,OW7,S7,M7⟩
  have hltz3:=kD hlt3
  have:j=q:=by omega
  subst this;have M8:Xp (QQ enK wr (w.heap.size+1) (qx m (i+1) [] zdM)):=dD<|MW.congr fun k=>by
   rw[Xt (by rw[HQ.out];exact nR _)]
   exact zj7 m i s zdM HS k
  go_wp2
  go_roundg (spn -(i+1))
  case measure=>omega
  exact⟨i+1,by omega,by omega,by go_num,BW,M8⟩
 have hltz2:=kD hlt2
 have:i=spn:=by omega
 subst this;have M9:Xp (QQ enK wr (w.heap.size+1) (qx m m.sp.length [] zdM)):=dD<|by rw[HNS.out];exact MW.out
 go_wp2;go_ret;exact⟨_,rfl,M9,BW⟩
def qM (fl:List Fl) (i:Nat) (bl:List Int):List Int:=(Zo (fl.take i))++bl
theorem J5 {n:Nat} {g h:List Int} (e:∀i:Nat,i<n->g.contains (i:Int)=h.contains (i:Int)):qD n g=qD n h:=by
 unfold qD
 apply List.map_congr_left
 intro i hi;rw[e i (Yj.1 hi)]
theorem ziE (fl:List Fl) (i:Nat) (bl:List Int) {b:Int} (hb:b<0) (n:Nat):qD n (qM fl i (bl++ [b]))=qD n (qM fl i bl):=J5 fun j _=>by
 unfold qM;have:¬(j:Int)=b:=by omega
 simp[this]
theorem zkv (fl:List Fl) (i:Nat) (bl:List Int) (b:Nat) (n:Nat):qD n ((b:Int) :: qM fl i bl)=qD n (qM fl i (bl++ [(b:Int)])):=J5 fun j _=>by
 unfold qM;rw[Ya];simp only[List.contains_eq_mem,mC,List.mem_append,nM,or_false,decide_eq_true_eq];constructor
 ·rintro(h|h|h)
  ·exact .inr (.inr h)
  ·exact .inl h
  exact .inr (.inl h)
 rintro(h|h|h)
 ·exact .inr (.inl h)
 ·exact .inr (.inr h)
 exact .inl h
theorem ziF {fl:List Fl} {i:Nat} {f:Fl} (hf:fl[i]? =Xa f):qM fl i f.bl=qM fl (i+1) []:=by
 unfold qM Zo;rw[List.take_add_one,hf];simp
theorem zkw (fl:List Fl) (b:Int):(qM fl fl.length []).contains b=zV fl b:=by
 unfold qM Zo zV;rw[List.take_length,List.append_nil,Ya];simp
theorem zoL:(Tryz.prog.info? 220).map (·.size)=Xa 80:=by kernel_rfl
theorem zfe (n:Nat) (g:List Int):∀v∈qD n g,v.oneCell'=Xc:=fun v hv=>by
 unfold qD at hv;obtain⟨i,_,rfl⟩:=Yg.1 hv;rfl
theorem zau (n:Nat) (g:List Int):(qD n g).length=n:=by simp[qD]
theorem zcx (v:Xr) (fl:List Fl) (cnt:Int) (w:Xo) (hv:qh w v fl) (hst:stW fl cnt=0):
  Xq prog 156 #[Xi #[v,I6 cnt]] w fun e w'=>e= Xl (Xi (qD 80 (qM fl fl.length [])).toArray)/\zc w w':=by
 have hz:=zaR;obtain⟨a,c,rfl,hbig,hrow⟩:=hv.rows;have HR:Xp (Qv w a fl):=hrow;clear hrow hv;have HB:Xp (∀f∈fl,∀b∈f.bl,b=-1\/(0<=b/\b<80)):=show∀f∈fl,_ from fun f hf b hb=>by
  obtain⟨⟨_,_,h80⟩,h2,_⟩:=(qi fl cnt).1 hst
  rcases(h2 f hf).2.2 b hb with h|h
  ·exact .inl h
  exact .inr (by omega)
 clear hst;obtain⟨n,HN⟩:=kA fl.length;rw[HN.out]at hbig⊢;obtain⟨W0,hW0⟩:=kB (((w.alloc (Xk #[O a n c,I6 cnt] 37)).alloc (Xk zez 220)).alloc (Xk zez 220));have HG0:Xp (zc w W0):=dD<|by rw[<-hW0];exact((za _ _).trans (za _ _)).trans (za _ _)
 have X0:Xp (Box W0 w.heap.size [O a n c,I6 cnt]):=dD<|by rw[<-hW0];exact((Box.top _ _ _ rfl).alloc _).alloc _
 have Y0:Xp (Box W0 (w.heap.size+1) (qD 80 [])):=dD<|by rw[<-hW0,zca];exact(Box.top _ (Xs 80 (Xh Xd)) _ (by simp)).alloc _
 have Z0:Xp (Box W0 (w.heap.size+1+1) (qD 80 (qM fl 0 []))):=dD<|by
  have:qD 80 (qM fl 0 [])=qD 80 []:=J5 fun i _=>by simp[qM,Zo]
  rw[<-hW0,this,zca];exact Box.top _ (Xs 80 (Xh Xd)) _ (by simp)
 have HW0:Xp (_=W0):=hW0;clear hW0
 go_enter func156,ntmps156
 go_upto_region 2 with fail;rw[HW0.out];clear hz;have x0:=X0.c 0 rfl;go_wp2;clear x0
 go_loopg [5,11] n (fun gg _ s11 wr=>∃i:Nat,i<=n/\n - i<=gg/\s11=I6 i/\Xp (zc w wr)/\Xp (Box wr (w.heap.size+1) (qD 80 []))/\Xp (Box wr (w.heap.size+1+1) (qD 80 (qM fl i []))))
 case atStart=>exact⟨0,nZ _,by omega,rfl,HG0,Y0,Z0⟩
 obtain⟨i,hi,hgg,rfl,BW,YW,ZW⟩:=hrel
 by_cases hlt:i<n
 ·have hltz:=kC hlt
  obtain⟨f,HF⟩:∃f,Xp (fl[i]? =Xa f):=⟨_,gE (by rw[HN.out];exact hlt)⟩
  obtain⟨ad,rfl,xa,xc,hr2,hl⟩:=HR.out i f HF.out;obtain⟨d0,d1⟩:=hl wr BW.out;obtain⟨_,_,heq,hnr⟩:=hr2.nums;have hq:=hr2.short;have HNR:Xp (zab w xa f.bl):=dD<|by
   simp only[vJ]at heq;rw[heq.1];exact hnr
  clear heq hnr hr2 hl;obtain⟨q,HQ⟩:=kA f.bl.length;rw[HQ.out]at d1 hq;go_upto_region 5 with fail;obtain⟨W1,hW1⟩:=kB (wr.alloc (Xk #[I6 f.size,O xa q xc] 84));have HG1:=gT hW1 BW
  have F1:=xA hW1
  have Y1:=yA hW1 YW
  have Z1:=yA hW1 ZW
  rw[hW1];clear hW1 d0 d1;have f1:=F1.c 1 rfl;go_wp2;clear f1;have HBW:Xp (zc w wr):=BW
  go_loopg [7,18] q (fun gg _ s18 wr=>∃j:Nat,j<=q/\q - j<=gg/\s18=I6 j/\Xp (zc w wr)/\Xp (Box wr (w.heap.size+1) (qD 80 []))/\Xp (Box wr (w.heap.size+1+1) (qD 80 (qM fl i (f.bl.take j)))))
  case atStart=>exact⟨0,nZ _,by omega,rfl,HG1,Y1,by rw[Yb];exact Z1⟩
  obtain⟨j,hj,hg2,rfl,BW,YW,ZW⟩:=hrel
  by_cases hlt2:j<q
  ·have hltz2:=kC hlt2
   obtain⟨b,HBJ⟩:∃b,Xp (f.bl[j]? =Xa b):=⟨_,gE (by rw[HQ.out];exact hlt2)⟩
   obtain⟨ad2,rfl,hl2⟩:=HNR.out j b HBJ.out;have e0:=hl2 wr BW.out;have HRB:Xp (b=-1\/(0<=b/\b<80)):=HB.out f (mG HF) b (mG HBJ);have HTS:Xp (f.bl.take (j+1)=f.bl.take j++ [b]):=jB HBJ.out;clear hl2
   by_cases hb:0<=b
   ·obtain⟨k,rfl⟩:∃k:Nat,b=(k:Int):=⟨b.toNat,by omega⟩
    have hk80:k<80:=by have:=HRB.out;omega
    have z0:=ZW.c k (QF _ hk80);have zf:=ZW.f;have Z2:Xp (Box (wr.setCell ⟨w.heap.size+1+1,k,Xb⟩ (Xh Xc)) (w.heap.size+1+1) (qD 80 (qM fl i (f.bl.take (j+1))))):=dD<|by
     rw[HTS.out,<-zkv,<-zfd _ hk80];exact ZW.set k _
    have Y2:Xp (Box (wr.setCell ⟨w.heap.size+1+1,k,Xb⟩ (Xh Xc)) (w.heap.size+1) (qD 80 [])):=dD<|YW.other (by simp) _
    have G2:Xp (zc w (wr.setCell ⟨w.heap.size+1+1,k,Xb⟩ (Xh Xc))):=dD<|zz BW (by simp;omega) _
    go_wp2
    go_roundg (q -(j+1))
    case measure=>omega
    exact⟨j+1,by omega,by omega,by go_num,G2,Y2,Z2⟩
   have Z2:Xp (Box wr (w.heap.size+1+1) (qD 80 (qM fl i (f.bl.take (j+1))))):=dD<|by
    rw[HTS.out,ziE _ _ _ (by omega)]
    exact ZW.out
   go_wp2
   go_roundg (q -(j+1))
   case measure=>omega
   exact⟨j+1,by omega,by omega,by go_num,BW,YW,Z2⟩
  have hltz2:=kD hlt2
  have:j=q:=by omega
  subst this;have Z2:Xp (Box wr (w.heap.size+1+1) (qD 80 (qM fl (i+1) []))):=dD<|by
   have h1:=ZW.out;rw[Xt (by rw[HQ.out];exact nR _),ziF HF.out]at h1
   exact h1
  go_wp2
  go_roundg (n -(i+1))
  case measure=>omega
  exact⟨i+1,by omega,by omega,by go_num,BW,YW,Z2⟩
 have hltz:=kD hlt
 have:i=n:=by omega
 subst this;obtain⟨ms,HMS⟩:=kA (qD 80 (qM fl i []));have HML:Xp (ms.length=80):=dD<|by rw[<-HMS.out];exact zau _ _
 have HMO:Xp (∀v∈ms,v.oneCell'=Xc):=dD<|by rw[<-HMS.out];exact zfe _ _
 rw[HMS.out]at ZW;go_upto_region 12 with fail
 go_wp2_with (first | (refine zR rfl 220 (.tmp 3) rfl (w.heap.size+1+1) rfl ZW underlying220 rfl (by rw[HML.out];exact zoL) ?_) | (refine zK rfl 220 (.tmp 2) (.tmp 28) rfl (w.heap.size+1) rfl ms rfl YW (by rw[HML.out,zau]) (by rw[zau];exact zoL) HMO.out ?_))
 intro W5 hb5 hg5 _;have G5:Xp (zc w W5):=dD<|ze BW hg5 (by omega)
 go_wp2;refine bodyPost_ret (zZ rfl _ rfl hb5 underlying220 rfl (by rw[HML.out];exact zoL)) rfl ⟨by rw[<-HMS.out],G5⟩
theorem zjd (b0 b1 b2 b3 b4 b5 b6 b7:Int):zdQ ⟨b0,b1,b2,b3,b4,b5,b6,b7⟩ ⟨0,0,0,0,0,0,0,0⟩=([b0,b1,b2,b3,b4,b5,b6,b7] == zx):=by
 rw[Ya,zap]
 simp[zx]
def Z9 (m:Ma) (b:Nat):Bool:=!zV m.fl (b:Int) && !(m.db.getD b [] == zx)
theorem zfQ (h:∀b,b<m.db.length->Z9 m b=Xd):Jp m=0:=by
 unfold Jp;rw[kF];rw[Xy];rintro⟨b,hb,hx⟩;have:=h b (Yj.1 hb);unfold Z9 at this;rw[this]at hx;cases hx
theorem zi1 (hb:b<m.db.length) (h:Z9 m b=Xc):Jp m=7:=by
 unfold Jp;rw[kE];rw[Xy];exact⟨b,Yj.2 hb,h⟩
theorem zjE (h:∀(j:Nat) q,m.dq[j]? =Xa q->zV m.fl q.1=Xc):Q8 m=0:=by
 unfold Q8;rw[kF];rw[Xy];rintro⟨q,hq,hx⟩;obtain⟨j,hj⟩:=Yk hq;rw[h j q hj]at hx;cases hx
theorem zh5 {q:Int × List Int} (hq:m.dq[j]? =Xa q) (h:zV m.fl q.1=Xd):Q8 m=7:=by
 unfold Q8;rw[kE];rw[Xy];exact⟨q,mG hq,by rw[h];rfl⟩
theorem zf4 {n:Nat} {qs:List (Int × List Int)} (h:zJ n qs=0):n<=80/\∀(j:Nat) q,qs[j]? =Xa q->0<=q.1/\q.1<n:=by
 unfold zJ at h
 split at h
 ·cases h
 split at h
 ·cases h
 split at h
 ·cases h
 rename_i h1 h2 h3
 refine⟨by omega,fun j q hq=>?_⟩
 have:(!jo q.1 n)=Xd:=by
  cases e:(!jo q.1 n)with
  | false=>rfl
  | true=>exact absurd (Xy.2 ⟨q,mG hq,e⟩) h3
 simp[jo]at this
 exact this
theorem zmh (hb:b<80):(qD 80 (qM m.fl m.fl.length []))[b]? =Xa (Xh (zV m.fl (b:Int))):=by
 rw[QF _ hb,zkw]
theorem zcT (V:MaV) (m:Ma) (w:Xo) (hm:zN w V m) (h1:zfW m):
  Xq prog 112 #[Xi (mL V m).toArray] w fun e w'=>e= Xl (I6 (zu (Qz m)))/\zc w w':=by
 obtain⟨vf,vs,vsb,vsq,⟨dba,dbn,dbc⟩,⟨dqa,dqn,dqc⟩,vfl,vca,vsp⟩:=V;dsimp only[mL];have hz:=zaR;obtain⟨-,n2,n3,-,n5,n6,-⟩:=hm.ns;dsimp only at n2 n3 n5 n6;have HFB:Xp (∀W,zc w W->Xq prog 156 #[Xi #[vfl.x,I6 m.cnt]] W fun e w'=>e= Xl (Xi (qD 80 (qM m.fl m.fl.length [])).toArray)/\zc W w'):=dD<|fun W hW=>zcx _ m.fl m.cnt W (hm.grew hW).fl h1.st
 have HPG:Xp (zbH w dba m.db):=hm.pgs;have HPU:Xp (ZO w dqa m.dq):=hm.puts;obtain⟨h80,hqs⟩:=zf4 h1.dq;have HQS:Xp (∀(j:Nat) q,m.dq[j]? =Xa q->0<=q.1/\q.1<m.db.length):=hqs;have HN5:Xp (m.db.length=dbn):=n5.symm;have HN6:Xp (m.dq.length=dqn):=n6.symm;have hb6:dqn<=9223372036854775807:=by have:=hm.dq.2.2;omega
 rw[HN5.out]at h80;obtain⟨Z,HZ⟩:=kA (zu (Qz m));rw[HZ.out];have HZ2:Xp (zu [zi8 m,Jp m,Q8 m]=Z):=HZ.out;have hfit:zi8 m=if vs.n≠vsb.n\/m.cnt≠(dbn:Int)then 7 else 0:=by unfold zi8;rw[n2,n3,n5]
 clear hm h1 hqs n2 n3 n5 n6;obtain⟨W0,hW0⟩:=kB (w.alloc (Xk #[vf.x,I6 m.hand,vs.x,vsb.x,vsq.x,O dba dbn dbc,O dqa dqn dqc,vfl.x,I6 m.cnt,vca.x,vsp.x] 41));have HG0:=gA hW0
 have X0:=xA hW0
 have HS0:Xp (w.heap.size<W0.heap.size):=dD<|by rw[<-hW0];simp
 have HW0:Xp (_=W0):=hW0;clear hW0
 by_cases c1:vsb.n=vs.n
 ·by_cases c2:m.cnt=(dbn:Int)
  ·have HF:Xp (zi8 m=0):=dD<|by rw[hfit,kF (by omega)]
   have c1e:((vsb.n:Int) !=(vs.n:Int))=Xd:=by simp[c1]
   have c2e:((dbn:Int) != m.cnt)=Xd:=by simp[c2]
   have c1f:(vsb.n != vs.n)=Xd:=by simp[c1]
   have HB0:Xp (∀b,b<m.db.length->Z9 m b=Xc->Z=7):=dD<|fun b hb h=>by rw[<-HZ2.out,zY,kE HF.out,zY,zi1 hb h];rfl
   have HB1:Xp ((∀b,b<m.db.length->Z9 m b=Xd)->∀(j:Nat) q,m.dq[j]? =Xa q->zV m.fl q.1=Xd->Z=7):=dD<|fun h j q hq hu=>by rw[<-HZ2.out,zY,kE HF.out,zY,kE (zfQ h),zY,zh5 hq hu];rfl
   have HB2:Xp ((∀b,b<m.db.length->Z9 m b=Xd)->(∀(j:Nat) q,m.dq[j]? =Xa q->zV m.fl q.1=Xc)->Z=0):=dD<|fun h h'=>by rw[<-HZ2.out,zY,kE HF.out,zY,kE (zfQ h),zY,zjE h'];rfl
   have hFB:=HFB.out W0 HG0.out;clear hfit;have HC1:Xp (vsb.n=vs.n):=c1;have HC2:Xp (m.cnt=(dbn:Int)):=c2;clear c1 c2
   go_enter func112,ntmps112
   go_upto_region 1 with fail;rw[HW0.out];have x2:=X0.c 2 rfl;have x3:=X0.c 3 rfl;have x5:=X0.c 5 rfl;have x6:=X0.c 6 rfl;have x7:=X0.c 7 rfl;have x8:=X0.c 8 rfl;go_upto_region 3 with fail;go_wp2_with fail;refine hFB.mono ?_;clear hFB x2 x3 x5 x6 x7 x8;rintro e W1 ⟨rfl,hg1⟩;have HG1:=dD (HG0.trans hg1);have X1:=dD (X0.grew hg1);clear hg1;obtain⟨ms,HMS⟩:=kA (qD 80 (qM m.fl m.fl.length []));have HML:Xp (ms.length=80):=show _=_ by rw[<-HMS.out];exact zau _ _
   have HMO:Xp (∀v∈ms,v.oneCell'=Xc):=dD<|by rw[<-HMS.out];exact zfe _ _
   have HMA:Xp (∀b:Nat,b<80->ms[b]? =Xa (Xh (zV m.fl (b:Int)))):=dD<|fun b hb=>by rw[<-HMS.out];exact zmh hb
   rw[HMS.out];obtain⟨W2,hW2⟩:=kB (W1.alloc (Xk zez 220));have HG2:=gT hW2 HG1
   have X2:=yA hW2 X1
   have Z2:Xp (Box W2 W1.heap.size (Xs 80 (Xh Xd))):=dD<|by rw[<-hW2];exact Box.top _ (Xs 80 (Xh Xd)) _ rfl
   have HW2:Xp (_=W2):=hW2;clear hW2;have HLT:Xp (w.heap.size<=W1.heap.size):=show _<=_ from bS HG1.out
   have HXL:Xp (w.heap.size<W1.heap.size):=dD<|X1.lt
   go_wp2_with (first | (rw[HW2.out];refine zK rfl 220 (.tmp 3) (.tmp 28) rfl W1.heap.size rfl ms rfl Z2 (by rw[HML.out];simp) (by simpa using zoL) HMO.out ?_))
   intro W3 hb3 hg3 _;have HG3:Xp (zc w W3):=dD<|ze HG2 hg3 HLT.out
   have X3:Xp (Box W3 w.heap.size [vf.x,I6 m.hand,vs.x,vsb.x,vsq.x,O dba dbn dbc,O dqa dqn dqc,vfl.x,I6 m.cnt,vca.x,vsp.x]):=X2.grown hg3 (by have:=HXL.out;omega)
   have Z3:Xp (Box W3 W1.heap.size ms):=hb3;obtain⟨p3,HP3⟩:=kA W1.heap.size;rw[HP3.out]at Z3⊢;clear hb3 hg3 hz;have x5:=X3.c 5 rfl;go_wp2;clear x5;obtain⟨n,HN⟩:=kA dbn;rw[HN.out]at h80⊢
   go_loopg [33] n (fun gg s33 wr=>∃kk:Nat,kk<=n/\n - kk<=gg/\s33=I6 kk/\Xp (zc w wr)/\Xp (Box wr w.heap.size [vf.x,I6 m.hand,vs.x,vsb.x,vsq.x,O dba dbn dbc,O dqa dqn dqc,vfl.x,I6 m.cnt,vca.x,vsp.x])/\Xp (Box wr p3 ms)/\Xp (∀b,b<kk->Z9 m b=Xd))
   case atStart=>exact⟨0,nZ _,by omega,rfl,HG3,X3,Z3,fun b hb=>absurd hb (nL _)⟩
   obtain⟨kk,hkk,hgg,rfl,BW,XW,ZW,OW⟩:=hrel
   by_cases hlt:kk<n
   ·have hltz:=kC hlt
    have hk80:kk<80:=by omega
    have HKL:Xp (kk<m.db.length):=dD<|by rw[HN5.out,HN.out];exact hlt
    obtain⟨p,HP⟩:∃p,Xp (m.db[kk]? =Xa p):=⟨_,gE HKL⟩;obtain⟨ad,b0,b1,b2,b3,b4,b5,b6,b7,rfl,rfl,hl⟩:=HPG.out kk p HP.out;have HBD:Xp (Z9 m kk=(!zV m.fl (kk:Int) && !([b0,b1,b2,b3,b4,b5,b6,b7] == zx))):=dD<|by unfold Z9;rw[gD,HP.out];rfl
    obtain⟨d0,d1,d2,d3,d4,d5,d6,d7⟩:=hl wr BW.out;have hqp:=fun W=>zaT 9998 b0 b1 b2 b3 b4 b5 b6 b7 0 0 0 0 0 0 0 0 W
    simp only[zjd]at hqp;obtain⟨U,HU⟩:=kA (zV m.fl (kk:Int));have hmu:=HMA.out kk hk80;rw[HU.out]at hmu;rw[HU.out]at HBD;obtain⟨PZ,HPZ⟩:=kA ([b0,b1,b2,b3,b4,b5,b6,b7] == zx);rw[HPZ.out]at hqp HBD;clear hl;go_upto_region 7 with fail;obtain⟨W4,hW4⟩:=kB (wr.alloc (Xk #[U8 b0,U8 b1,U8 b2,U8 b3,U8 b4,U8 b5,U8 b6,U8 b7] 44));have HG4:=gT hW4 BW
    have X4:=yA hW4 XW
    have Z4:=yA hW4 ZW
    have P4:=xA hW4
    rw[hW4];clear hW4 d0 d1 d2 d3 d4 d5 d6 d7;have z0:=Z4.c kk hmu;obtain⟨p0,p1,p2,p3,p4,p5,p6,p7⟩:=P4.c8;clear hmu
    cases U with
    | true=>
     have HB:Xp (Z9 m kk=Xd):=dD<|by rw[HBD.out];rfl
     have OW':Xp (∀b,b<kk+1->Z9 m b=Xd):=dD<|fun b hb=>by
      by_cases e:b=kk
      ·rw[e];exact HB.out
      exact OW b (by omega)
     clear p0 p1 p2 p3 p4 p5 p6 p7 hqp;go_wp2
     go_roundg (n -(kk+1))
     case measure=>omega
     exact⟨kk+1,by omega,by omega,by go_num,HG4,X4,Z4,OW'⟩
    | false=>
     cases PZ with
     | true=>
      have HB:Xp (Z9 m kk=Xd):=dD<|by rw[HBD.out];rfl
      have OW':Xp (∀b,b<kk+1->Z9 m b=Xd):=dD<|fun b hb=>by
       by_cases e:b=kk
       ·rw[e];exact HB.out
       exact OW b (by omega)
      go_wp2
      go_roundg (n -(kk+1))
      case measure=>omega
      exact⟨kk+1,by omega,by omega,by go_num,HG4,X4,Z4,OW'⟩
     | false=>
      have HE:Xp (Z=7):=HB0.out kk HKL (by rw[HBD.out];rfl)
      go_wp2;go_ret;exact⟨by rw[HE.out];rfl,HG4⟩
   have hltz:=kD hlt
   have:kk=n:=by omega
   subst this;have OA:Xp (∀b,b<m.db.length->Z9 m b=Xd):=dD<|fun b hb=>OW.out b (by rw[<-HN.out,<-HN5.out];exact hb)
   have x6:=XW.c 6 rfl;go_wp2;clear x6;obtain⟨n2,HN2⟩:=kA dqn;rw[HN2.out]at hb6⊢;have HBW:Xp (zc w wr):=BW;have HZW:Xp (Box wr p3 ms):=ZW
   go_loopg [52] n2 (fun gg s52 wr=>∃j:Nat,j<=n2/\n2 - j<=gg/\s52=I6 j/\Xp (zc w wr)/\Xp (Box wr p3 ms)/\Xp (∀(i:Nat) q,i<j->m.dq[i]? =Xa q->zV m.fl q.1=Xc))
   case atStart=>exact⟨0,nZ _,by omega,rfl,HBW,HZW,fun i q hi=>absurd hi (nL _)⟩
   obtain⟨j,hj,hg2,rfl,BW,ZW,OW⟩:=hrel
   by_cases hlt2:j<n2
   ·have hltz2:=kC hlt2
    obtain⟨q,HQ⟩:∃q,Xp (m.dq[j]? =Xa q):=⟨_,gE (by rw[HN6.out,HN2.out];exact hlt2)⟩
    obtain⟨ad,mm,b0,b1,b2,b3,b4,b5,b6,b7,rfl,rfl,hl⟩:=HPU.out j q HQ.out;obtain⟨r0,r1⟩:=HQS.out j _ HQ.out;simp only at r0 r1;obtain⟨b,rfl⟩:∃b:Nat,mm=(b:Int):=⟨mm.toNat,by omega⟩
    have hk80:b<80:=by rw[HN5.out,HN.out]at r1;omega
    obtain⟨d0,d1,d2,d3,d4,d5,d6,d7,d8⟩:=hl wr BW.out;obtain⟨U,HU⟩:=kA (zV m.fl (b:Int));have hmu:=HMA.out b hk80;rw[HU.out]at hmu;clear hl r0 r1;go_upto_region 13 with fail;obtain⟨W4,hW4⟩:=kB (wr.alloc (Xk #[I6 (b:Int),U8 b0,U8 b1,U8 b2,U8 b3,U8 b4,U8 b5,U8 b6,U8 b7] 100));have HG4:=gT hW4 BW
    have Z4:=yA hW4 ZW
    have P4:=xA hW4
    rw[hW4];clear hW4 d0 d1 d2 d3 d4 d5 d6 d7 d8;have z0:=Z4.c b hmu;have p0:=P4.c 0 rfl;clear hmu
    cases U with
    | true=>
     have OW':Xp (∀(i:Nat) q,i<j+1->m.dq[i]? =Xa q->zV m.fl q.1=Xc):=dD<|fun i q hi hq=>by
      by_cases e:i=j
      ·subst e;rw[HQ.out]at hq;cases hq;exact HU.out
      exact OW i q (by omega) hq
     go_wp2
     go_roundg (n2 -(j+1))
     case measure=>omega
     exact⟨j+1,by omega,by omega,by go_num,HG4,Z4,OW'⟩
    | false=>
     have HE:Xp (Z=7):=HB1.out OA j _ HQ HU.out;go_wp2;go_ret;exact⟨by rw[HE.out];rfl,HG4⟩
   have hltz2:=kD hlt2
   have:j=n2:=by omega
   subst this;have HE:Xp (Z=0):=HB2.out OA fun i q hq=>OW.out i q (by rw[<-HN2.out,<-HN6.out];exact(gS.1 hq).1) hq
   go_wp2;go_ret;exact⟨by rw[HE.out];rfl,BW⟩
  have HE:Xp (Z=7):=dD<|by
   have hf7:zi8 m=7:=by rw[hfit,kE (.inr c2)]
   rw[<-HZ2.out,zY,hf7];rfl
  have c1e:((vsb.n:Int) !=(vs.n:Int))=Xd:=by simp[c1]
  have c1f:(vsb.n != vs.n)=Xd:=by simp[c1]
  have c2e:((dbn:Int) != m.cnt)=Xc:=by simp;omega
  clear c1 c2 hfit
  go_enter func112,ntmps112
  go_upto_region 1 with fail;rw[HW0.out];have x2:=X0.c 2 rfl;have x3:=X0.c 3 rfl;have x5:=X0.c 5 rfl;have x8:=X0.c 8 rfl;go_wp2;go_ret;exact⟨by rw[HE.out];rfl,HG0⟩
 have HE:Xp (Z=7):=dD<|by
  have hf7:zi8 m=7:=by rw[hfit,kE (.inl (fun e=>c1 e.symm))]
  rw[<-HZ2.out,zY,hf7];rfl
 have c1e:((vsb.n:Int) !=(vs.n:Int))=Xc:=by simp;omega
 have c1f:(vsb.n != vs.n)=Xc:=by simp[c1]
 clear c1 hfit
 go_enter func112,ntmps112
 go_upto_region 1 with fail;rw[HW0.out];have x2:=X0.c 2 rfl;have x3:=X0.c 3 rfl;go_wp2;go_ret;exact⟨by rw[HE.out];rfl,HG0⟩
theorem zl9 (hca:zbF m Xb m.ca=0) (k:Nat):frE m k=if(z8 m k).r≠qx m m.sp.length [] zdM (1,(k:Int))\/(0<=(z8 m k).f/\¬Jf m.ca ((z8 m k).f,(z8 m k).x)=Xa (k:Int))then 7 else 0:=by
 unfold frE;rw[zhu m zdM (k:Int) (by decide:(1:Int)≠0),kE rfl]
 have:=ziu hca k
 by_cases h:qk m.ca k=0
 ·have h2:¬Jf m.ca ((z8 m k).f,(z8 m k).x)=Xa (k:Int):=fun e=>(this.1 e) h
  simp only[h,h2,not_false_iff,and_true]
 have h2:Jf m.ca ((z8 m k).f,(z8 m k).x)=Xa (k:Int):=this.2 h;simp only[h,h2,not_true,and_false]
theorem zju (m:Ma) (k:Nat):zgh m k=if m.sl.getD k 0≠qx m m.sp.length [] zdM (2,(k:Int))then 7 else 0:=by
 unfold zgh;have h:=zhu m zdM (k:Int) (by decide:(2:Int)≠0)
 have h2:¬(2:Int)=1:=by decide
 rw[kF h2,Nat.add_zero]at h;rw[h]
theorem zbN (V:MaV) (m:Ma) (w:Xo) (hm:zN w V m) (hca:zbF m Xb m.ca=0) (hsp4:m.sp.length<=4) (htb:∀s∈m.sp,tbW s.tb=0):
  Xq prog 116 #[Xi (mL V m).toArray] w fun e w'=>e= Xl (I6 (QA m))/\zc w w':=by
 have HWI:Xp (∀W,zc w W->Xq prog 84 #[Xi (mL V m).toArray] W fun e w'=>∃B,e= Xl (Xi #[V.f.x,I6 m.hand,V.s.x,V.sb.x,V.sq.x,V.db.x,V.dq.x,V.fl.x,I6 m.cnt,V.ca.x,V.sp.x,.map (Xa B)])/\Qc plK w' B (Jf m.ca)/\zc W w'):=dD<|fun W hW=>zdH V m W (hm.grew hW)
 have HHO:Xp (∀W,zc w W->Xq prog 161 #[Xi (mL V m).toArray] W fun e w'=>∃B,e= Xl (.map (Xa B))/\QQ enK w' B (qx m m.sp.length [] zdM)/\zc W w'):=dD<|fun W hW=>zgz V m W (hm.grew hW) hsp4 htb
 have HHC:Xp (∀(B k:Nat) W,zc w W->k<m.fs.length->Qc plK W B (Jf m.ca)->Xq prog 162 #[Xi #[V.f.x,I6 m.hand,V.s.x,V.sb.x,V.sq.x,V.db.x,V.dq.x,V.fl.x,I6 m.cnt,V.ca.x,V.sp.x,.map (Xa B)],I6 (k:Int)] W fun e w'=>e= Xl (Xh (decide (Jf m.ca ((z8 m k).f,(z8 m k).x)=Xa (k:Int))))/\zc W w'):=dD<|fun B k W hW hk hM=>zei V m B k (Jf m.ca) W (hm.grew hW) hk hM
 obtain⟨⟨fa,fn,fc⟩,⟨sa,sn,sc⟩,vsb,vsq,vdb,vdq,vfl,vca,vsp⟩:=V;dsimp only[mL]at HWI HHO HHC⊢;obtain⟨n1,n2,-⟩:=hm.ns;dsimp only at n1 n2;have HFR:Xp (zaM w fa m.fs):=hm.frs;have HSL:Xp (zaK w sa m.sl):=hm.sls;have HN1:Xp (m.fs.length=fn):=n1.symm;have HN2:Xp (m.sl.length=sn):=n2.symm;have hb1:fn<=9223372036854775807:=by have:=hm.fs.short;omega
 have hb2:sn<=9223372036854775807:=by have:=hm.sl.short;omega
 have HFE:Xp (∀k:Nat,frE m k=if(z8 m k).r≠(qx m m.sp.length [] zdM) (1,(k:Int))\/(0<=(z8 m k).f/\¬Jf m.ca ((z8 m k).f,(z8 m k).x)=Xa (k:Int))then 7 else 0):=dD<|fun k=>zl9 hca k
 clear hm hca hsp4 htb n1 n2;obtain⟨Z,HZ⟩:=kA (QA m);rw[HZ.out];have HZ1:Xp (∀k:Nat,k<m.fs.length->(∀j:Nat,j<k->frE m j=0)->frE m k=7->Z=7):=dD<|fun k hk h1 h2=>by
  have h3:=zbe hk h1 (by rw[h2];decide)
  rw[<-HZ.out];unfold QA;rw[h3,h2,kF (by decide)]
 have HZ2:Xp ((∀j:Nat,j<m.fs.length->frE m j=0)->∀k:Nat,k<m.sl.length->(∀j:Nat,j<k->zgh m j=0)->zgh m k=7->Z=7):=dD<|fun h0 k hk h1 h2=>by
  have h3:=zbe hk h1 (by rw[h2];decide)
  rw[<-HZ.out];unfold QA;rw[Zv h0,kE rfl,h3,h2]
 have HZ3:Xp ((∀j:Nat,j<m.fs.length->frE m j=0)->(∀j:Nat,j<m.sl.length->zgh m j=0)->Z=0):=dD<|fun h0 h1=>by
  rw[<-HZ.out];unfold QA;rw[Zv h0,kE rfl,Zv h1]
 obtain⟨W0,hW0⟩:=kB (w.alloc (Xk #[O fa fn fc,I6 m.hand,O sa sn sc,vsb.x,vsq.x,vdb.x,vdq.x,vfl.x,I6 m.cnt,vca.x,vsp.x] 41));have HG0:=gA hW0
 have X0:=xA hW0
 have HW0:Xp (_=W0):=hW0;clear hW0
 go_enter func116,ntmps116
 go_upto_region 1 with fail;rw[HW0.out];have hx0:=X0.gw 0 rfl
 have hx1:=X0.gw 1 rfl
 have hx2:=X0.gw 2 rfl
 have hx3:=X0.gw 3 rfl
 have hx4:=X0.gw 4 rfl
 have hx5:=X0.gw 5 rfl
 have hx6:=X0.gw 6 rfl
 have hx7:=X0.gw 7 rfl
 have hx8:=X0.gw 8 rfl
 have hx9:=X0.gw 9 rfl
 have hx10:=X0.gw 10 rfl
 have hne:Nonempty (zn W0):=⟨⟨_,zc.refl _⟩⟩;refine qR 5 [(1,⟨fun v=>∃B,v= Xi #[O fa fn fc,I6 m.hand,O sa sn sc,vsb.x,vsq.x,vdb.x,vdq.x,vfl.x,I6 m.cnt,vca.x,vsp.x,.map (Xa B)],fun v w'=>∃B,v= Xi #[O fa fn fc,I6 m.hand,O sa sn sc,vsb.x,vsq.x,vdb.x,vdq.x,vfl.x,I6 m.cnt,vca.x,vsp.x,.map (Xa B)]/\Qc plK w' B (Jf m.ca)⟩),(3,⟨fun v=>∃B,v= .map (Xa B),fun v w'=>∃B,v= .map (Xa B)/\QQ enK w' B (qx m m.sp.length [] zdM)⟩),(4,⟨fun v=>∃p,v= Xj (Xa ⟨p,0,Xb⟩),fun v w'=>∃p,v= Xj (Xa ⟨p,0,Xb⟩)/\Box w' p [eS,I6 0,eS,eS,eS,eS,eS,eS,I6 0,eS,eS,.map Xb]/\w.heap.size<=p⟩)] zW (by kernel_rfl) rfl rfl (by decide) ?hS ?hp ?_
 case hS=>
  intro x hx;simp only[mC,nM,or_false]at hx
  rcases hx with rfl|rfl|rfl
  ·exact⟨_,0,rfl⟩
  ·exact⟨_,0,rfl⟩
  exact⟨_,0,rfl⟩
 case hp=>
  intro x hx;simp only[mC,nM,or_false]at hx
  rcases hx with rfl|rfl|rfl
  ·exact fun _ _ _ hg h=>by obtain⟨B,h1,h2⟩:=h;exact⟨B,h1,h2.grew hg⟩
  ·exact fun _ _ _ hg h=>by obtain⟨B,h1,h2⟩:=h;exact⟨B,h1,h2.grew hg⟩
  exact fun _ _ _ hg h=>by obtain⟨p,h1,h2,h3⟩:=h;exact⟨p,h1,h2.grew hg,h3⟩
 simp only[List.take,List.drop];iterate 1 (refine zd rfl rfl rfl (fun K hK=>?_);go_big_quiet_op;refine hK _ ?_;clear hK)
 refine zE rfl rfl (fun w' hg hF=>?_) (fun v1 hv=>?_)
 ·refine zQ.call [Xi #[O fa fn fc,I6 m.hand,O sa sn sc,vsb.x,vsq.x,vdb.x,vdq.x,vfl.x,I6 m.cnt,vca.x,vsp.x]] rfl func84 rfl rfl rfl ?_;refine(HWI w' (HG0.trans hg)).mono ?_;rintro e w'' ⟨B,rfl,hM,hg2⟩;exact⟨_,rfl,hg2,⟨B,rfl⟩,B,rfl,hM⟩
 obtain⟨B1,rfl⟩:=hv;simp only[Xu,sB,sS,sZ];iterate 1 (refine zd rfl rfl rfl (fun K hK=>?_);go_big_quiet_op;refine hK _ ?_;clear hK)
 refine zE rfl rfl (fun w' hg hF=>?_) (fun v1 hv=>?_)
 ·refine zQ.call [Xi #[O fa fn fc,I6 m.hand,O sa sn sc,vsb.x,vsq.x,vdb.x,vdq.x,vfl.x,I6 m.cnt,vca.x,vsp.x]] rfl func161 rfl rfl rfl ?_;refine(HHO w' (HG0.trans hg)).mono ?_;rintro e w'' ⟨B,rfl,hM,hg2⟩;exact⟨_,rfl,hg2,⟨B,rfl⟩,B,rfl,hM⟩
 obtain⟨B2,rfl⟩:=hv;simp only[Xu,sB,sS,sZ];refine zE rfl rfl (fun w' hg hF=>?_) (fun v1 hv=>?_)
 ·have hnew:Box (w'.alloc (Xk #[eS,I6 0,eS,eS,eS,eS,eS,eS,I6 0,eS,eS,.map Xb] 154)) w'.heap.size [eS,I6 0,eS,eS,eS,eS,eS,eS,I6 0,eS,eS,.map Xb]:=Box.top _ _ _ rfl;have hle:w.heap.size<=w'.heap.size:=bS (HG0.trans hg);clear hx0 hx1 hx2 hx3 hx4 hx5 hx6 hx7 hx8 hx9 hx10 hne;refine zQ.step (v:= Xj (Xa ⟨w'.heap.size,0,Xb⟩)) (w':=w'.alloc (Xk #[eS,I6 0,eS,eS,eS,eS,eS,eS,I6 0,eS,eS,.map Xb] 154)) (by simp only[execOp];go_simp) ⟨za _ _,⟨_,rfl⟩,_,rfl,hnew,hle⟩
 obtain⟨p3,rfl⟩:=hv;simp only[Xu,sB,sS,sZ];refine z6 fun W3 hg3 hF=>?_
 obtain⟨B1',he1,hM1⟩:∃B,(Value.agg #[O fa fn fc,I6 m.hand,O sa sn sc,vsb.x,vsq.x,vdb.x,vdq.x,vfl.x,I6 m.cnt,vca.x,vsp.x,.map (Xa B1)])= Xi #[O fa fn fc,I6 m.hand,O sa sn sc,vsb.x,vsq.x,vdb.x,vdq.x,vfl.x,I6 m.cnt,vca.x,vsp.x,.map (Xa B)]/\Qc plK W3 B (Jf m.ca):=hF 1;obtain⟨B2',he2,hM2⟩:∃B,(Value.map (Xa B2))= .map (Xa B)/\QQ enK W3 B (qx m m.sp.length [] zdM):=hF 3;obtain⟨p3',he3,hB3,hle3⟩:∃p,(Value.pointer (Xa ⟨p3,0,Xb⟩))= Xj (Xa ⟨p,0,Xb⟩)/\Box W3 p [eS,I6 0,eS,eS,eS,eS,eS,eS,I6 0,eS,eS,.map Xb]/\w.heap.size<=p:=hF 4;have e1:B1'=B1:=by simp at he1;exact he1.symm
 have e2:B2'=B2:=by simp at he2;exact he2.symm
 have e3:p3'=p3:=by simp at he3;exact he3.symm
 subst e1 e2 e3;have M1:Xp (Qc plK W3 B1' (Jf m.ca)):=hM1;have M2:Xp (QQ enK W3 B2' (qx m m.sp.length [] zdM)):=hM2;have Y3:Xp (Box W3 p3' [eS,I6 0,eS,eS,eS,eS,eS,eS,I6 0,eS,eS,.map Xb]):=hB3;have HL3:Xp (w.heap.size<=p3'):=hle3;have HG3:=dD (HG0.trans hg3);have X3:=dD (X0.grew hg3);clear he1 he2 he3 hM1 hM2 hB3 hle3 hg3 hF hx0 hx1 hx2 hx3 hx4 hx5 hx6 hx7 hx8 hx9 hx10 hne;have HXP:Xp (w.heap.size≠p3'):=show _≠_ from fun e=>by
  obtain⟨t1,h1⟩:=X3.out;obtain⟨t2,h2⟩:=Y3.out;rw[<-e,h1]at h2
  simp at h2
 go_wp2_with (refine zK rfl 154 (.tmp 3) (.tmp 10) rfl p3' rfl [O fa fn fc,I6 m.hand,O sa sn sc,vsb.x,vsq.x,vdb.x,vdq.x,vfl.x,I6 m.cnt,vca.x,vsp.x,.map (Xa B1')] rfl Y3 rfl (by kernel_rfl) (fun v hv=>by
    simp only[mC,nM,or_false]at hv
    rcases hv with rfl|rfl|rfl|rfl|rfl|rfl|rfl|rfl|rfl|rfl|rfl|rfl <;> rfl) ?_)
 intro W4 hb4 hg4 _;have Y4:Xp (Box W4 p3' [O fa fn fc,I6 m.hand,O sa sn sc,vsb.x,vsq.x,vdb.x,vdq.x,vfl.x,I6 m.cnt,vca.x,vsp.x,.map (Xa B1')]):=hb4;have X4:Xp (Box W4 w.heap.size [O fa fn fc,I6 m.hand,O sa sn sc,vsb.x,vsq.x,vdb.x,vdq.x,vfl.x,I6 m.cnt,vca.x,vsp.x]):=X3.grown hg4 HXP.out;have N1:Xp (Qc plK W4 B1' (Jf m.ca)):=M1.kept hg4 (fun e=>by cases e;exact Y3.ne_map M1 rfl)
 have N2:Xp (QQ enK W4 B2' (qx m m.sp.length [] zdM)):=dD<|by
  obtain⟨g,k1,k2⟩:=M2.out;exact⟨g,k1.kept hg4 (fun e=>by cases e;exact Y3.ne_map k1 rfl),k2⟩
 have HG4:Xp (zc w W4):=dD<|ze HG3 hg4 HL3.out
 clear hb4 hg4;have x0:=X4.c 0 rfl;go_wp2;clear x0
 go_loopg [17] fn (fun gg s17 wr=>∃kk:Nat,kk<=fn/\fn - kk<=gg/\s17=I6 kk/\Xp (zc W4 wr)/\Xp (∀j:Nat,j<kk->frE m j=0))
 case atStart=>exact⟨0,nZ _,by omega,rfl,zc.refl _,fun j hj=>absurd hj (nL _)⟩
 obtain⟨kk,hkk,hgg,rfl,BW,OW⟩:=hrel
 by_cases hlt:kk<fn
 ·have hltz:=kC hlt
  have HKL:Xp (kk<m.fs.length):=dD<|by rw[HN1.out];exact hlt
  obtain⟨q,HQ⟩:∃q,Xp (m.fs[kk]? =Xa q):=⟨_,gE HKL⟩;have HFQ:Xp (z8 m (kk:Int)=q):=dD<|by unfold z8;rw[tN,gD,HQ.out];rfl
  obtain⟨ad,rfl,hl⟩:=HFR.out kk q HQ.out;obtain⟨d0,d1,d2,d3,d4,d5,d6,d7,d8,d9,d10,d11,d12⟩:=hl wr (HG4.trans BW);clear hl;go_upto_region 5 with fail;obtain⟨W5,hW5⟩:=kB (wr.alloc (Xk #[U8 q.p.b0,U8 q.p.b1,U8 q.p.b2,U8 q.p.b3,U8 q.p.b4,U8 q.p.b5,U8 q.p.b6,U8 q.p.b7,I6 q.r,Xh q.u,Xh q.d,I6 q.f,I6 q.x] 53));have HG5:=gT hW5 BW
  have HGw5:=dD (HG4.trans HG5);have F5:=xA hW5
  have Y5:=dD (Y4.grew HG5);rw[hW5];clear hW5 d0 d1 d2 d3 d4 d5 d6 d7 d8 d9 d10 d11 d12;obtain⟨pf,HPF⟩:=kA wr.heap.size;rw[HPF.out]at F5⊢;obtain⟨h,HHK⟩:=kA ((qx m m.sp.length [] zdM) (1,(kk:Int)));have hlk:∀y:zn W5,(Instr.lookup 226 (.map (Xa B2')) (Xi #[I6 1,I6 (kk:Int),Xh Xd]) Xd).run prog y.world= .ok (I6 h) y.world:=fun y=>by
   have:=(N2.grew (HG5.trans y.grew)).look (K:=enK) underlying226 (zoK _) (1,(kk:Int));rw[HHK.out]at this;exact this
  have hf8:=F5.gw 8 rfl
  have hf11:=F5.gw 11 rfl
  have hy0:=Y5.gw 0 rfl
  have hy1:=Y5.gw 1 rfl
  have hy2:=Y5.gw 2 rfl
  have hy3:=Y5.gw 3 rfl
  have hy4:=Y5.gw 4 rfl
  have hy5:=Y5.gw 5 rfl
  have hy6:=Y5.gw 6 rfl
  have hy7:=Y5.gw 7 rfl
  have hy8:=Y5.gw 8 rfl
  have hy9:=Y5.gw 9 rfl
  have hy10:=Y5.gw 10 rfl
  have hy11:=Y5.gw 11 rfl
  have hne:Nonempty (zn W5):=⟨⟨_,zc.refl _⟩⟩;have HFK:=HFE.out kk;rw[HFQ.out,HHK.out]at HFK
  by_cases hr:q.r=h
  ·have hre:(q.r != h)=Xd:=by simp[hr]
   by_cases hf0:0<=q.f
   ·have hf0d:decide (0<=q.f)=Xc:=by simpa using hf0
    obtain⟨U,HU⟩:=kA (decide (Jf m.ca ((z8 m (kk:Int)).f,(z8 m (kk:Int)).x)=Xa (kk:Int)));have HUF:Xp (frE m kk=if U=Xc then 0 else 7):=dD<|by
     have h1:=HU.out;rw[HFQ.out]at h1;rw[HFK,<-h1]
     by_cases hc:Jf m.ca (q.f,q.x)=Xa (kk:Int)
     ·rw[kF (by simp[hr,hc]),kE (by simpa using hc)]
     rw[kE (.inr ⟨hf0,hc⟩),kF (by simpa using hc)]
    have HCC:Xp (∀W,zc W4 W->Xq prog 162 #[Xi #[O (Xa ad) fn fc,I6 m.hand,O sa sn sc,vsb.x,vsq.x,vdb.x,vdq.x,vfl.x,I6 m.cnt,vca.x,vsp.x,.map (Xa B1')],I6 (kk:Int)] W fun e w'=>e= Xl (Xh U)/\zc W w'):=dD<|fun W hW=>by
     have h1:=HHC.out B1' kk W (HG4.trans hW) HKL (N1.grew hW);rw[HU.out]at h1;exact h1
    clear hr hf0;refine ji [(14,⟨fun v=>v= Xh U,fun v w'=>True⟩)] zW (by kernel_rfl) ?hS ?hp ?_
    case hS=>
     intro x hx;simp only[mC,nM,or_false]at hx;subst hx;exact⟨_,rfl⟩
    case hp=>
     intro x hx;simp only[mC,nM,or_false]at hx;subst hx;exact fun _ _ _ _ h=>h
    iterate 14 (refine zd rfl rfl rfl (fun K hK=>?_);go_big_quiet_op;refine hK _ ?_;clear hK)
    refine zE rfl rfl (fun w' hg hF=>?_) (fun v1 hv=>?_)
    ·refine zQ.call [Xi #[O (Xa ad) fn fc,I6 m.hand,O sa sn sc,vsb.x,vsq.x,vdb.x,vdq.x,vfl.x,I6 m.cnt,vca.x,vsp.x,.map (Xa B1')],I6 (kk:Int)] rfl func162 rfl rfl rfl ?_;refine(HCC w' (HG5.trans hg)).mono ?_;rintro e w'' ⟨rfl,hg3⟩;exact⟨_,rfl,hg3,rfl,trivial⟩
    subst hv;simp only[Xu,sB,sS,sZ];iterate 3 (refine zd rfl rfl rfl (fun K hK=>?_);go_big_quiet_op;refine hK _ ?_;clear hK)
    refine z6 fun W6 hg6 hF=>?_
    have HG6:=dD (HG5.trans hg6);clear hg6 hF hlk hf8 hf11 hy0 hy1 hy2 hy3 hy4 hy5 hy6 hy7 hy8 hy9 hy10 hy11 hne
    cases U with
    | true=>
     have OW':Xp (∀j:Nat,j<kk+1->frE m j=0):=dD<|fun j hj=>by
      by_cases e:j=kk
      ·rw[e,HUF.out,kE rfl]
      exact OW j (by omega)
     go_wp2
     go_roundg (fn -(kk+1))
     case measure=>omega
     exact⟨kk+1,by omega,by omega,by go_num,HG6,OW'⟩
    | false=>
     have HZE:Xp (Z=7):=HZ1.out kk HKL OW (by rw[HUF.out,kF (by decide)])
     have HGW:=dD (HG4.trans HG6);go_wp2;go_ret;exact⟨by rw[HZE.out];rfl,HGW⟩
   have hf0d:decide (0<=q.f)=Xd:=by simpa using hf0
   have HFZ:Xp (frE m kk=0):=dD<|by rw[HFK,kF (by simp[hr,hf0])]
   have OW':Xp (∀j:Nat,j<kk+1->frE m j=0):=dD<|fun j hj=>by
    by_cases e:j=kk
    ·rw[e];exact HFZ.out
    exact OW j (by omega)
   clear hr hf0;refine ji [] zW (by kernel_rfl) (by simp) (by simp) ?_
   iterate 12 (refine zd rfl rfl rfl (fun K hK=>?_);go_big_quiet_op;refine hK _ ?_;clear hK)
   refine qa ?_ ?_
   ·kernel_rfl
   simp only[Xu,sB,sS,sZ];refine qa ?_ ?_
   ·kernel_rfl
   simp only[Xu,sB,sS,sZ];refine qa ?_ ?_
   ·kernel_rfl
   simp only[Xu,sB,sS,sZ];refine qa ?_ ?_
   ·kernel_rfl
   simp only[Xu,sB,sS,sZ];iterate 2 (refine zd rfl rfl rfl (fun K hK=>?_);go_big_quiet_op;refine hK _ ?_;clear hK)
   refine z6 fun W6 hg6 hF=>?_
   have HG6:=dD (HG5.trans hg6);clear hg6 hF hlk hf8 hf11 hy0 hy1 hy2 hy3 hy4 hy5 hy6 hy7 hy8 hy9 hy10 hy11 hne;go_wp2
   go_roundg (fn -(kk+1))
   case measure=>omega
   exact⟨kk+1,by omega,by omega,by go_num,HG6,OW'⟩
  have hre:(q.r != h)=Xc:=by simp[hr]
  have HZE:Xp (Z=7):=HZ1.out kk HKL OW (by rw[HFK,kE (.inl hr)])
  clear hr;refine ji [] zW (by kernel_rfl) (by simp) (by simp) ?_
  iterate 8 (refine zd rfl rfl rfl (fun K hK=>?_);go_big_quiet_op;refine hK _ ?_;clear hK)
  refine qa ?_ ?_
  ·kernel_rfl
  simp only[Xu,sB,sS,sZ];refine qa ?_ ?_
  ·kernel_rfl
  simp only[Xu,sB,sS,sZ];refine qa ?_ ?_
  ·kernel_rfl
  simp only[Xu,sB,sS,sZ];refine qa ?_ ?_
  ·kernel_rfl
  simp only[Xu,sB,sS,sZ];refine qa ?_ ?_
  ·kernel_rfl
  simp only[Xu,sB,sS,sZ];refine qa ?_ ?_
  ·kernel_rfl
  simp only[Xu,sB,sS,sZ];refine qa ?_ ?_
  ·kernel_rfl
  simp only[Xu,sB,sS,sZ];refine qa ?_ ?_
  ·kernel_rfl
  simp only[Xu,sB,sS,sZ];refine qa ?_ ?_
  ·kernel_rfl
  simp only[Xu,sB,sS,sZ];iterate 1 (refine zd rfl rfl rfl (fun K hK=>?_);go_big_quiet_op;refine hK _ ?_;clear hK)
  refine z6 fun W6 hg6 hF=>?_
  have HG6:=dD (HGw5.trans hg6);clear hg6 hF hlk hf8 hf11 hy0 hy1 hy2 hy3 hy4 hy5 hy6 hy7 hy8 hy9 hy10 hy11 hne;go_wp2;go_ret;exact⟨by rw[HZE.out];rfl,HG6⟩
 have hltz:=kD hlt
 have:kk=fn:=by omega
 subst this;have OA:Xp (∀j:Nat,j<m.fs.length->frE m j=0):=dD<|fun j hj=>OW.out j (by rw[<-HN1.out];exact hj)
 have x2:=(X4.grew BW).c 2 rfl;go_wp2;clear x2;have HBW:Xp (zc W4 wr):=BW
 go_loopg [44] sn (fun gg s44 wr=>∃i:Nat,i<=sn/\sn - i<=gg/\s44=I6 i/\Xp (zc W4 wr)/\Xp (∀j:Nat,j<i->zgh m j=0))
 case atStart=>exact⟨0,nZ _,by omega,rfl,HBW,fun j hj=>absurd hj (nL _)⟩
 obtain⟨i,hi,hg2,rfl,BW,OW⟩:=hrel
 by_cases hlt2:i<sn
 ·have hltz2:=kC hlt2
  have HKL:Xp (i<m.sl.length):=dD<|by rw[HN2.out];exact hlt2
  obtain⟨z,HZI⟩:∃z,Xp (m.sl[i]? =Xa z):=⟨_,gE HKL⟩;obtain⟨ad,rfl,hl⟩:=HSL.out i z HZI.out;have d0:=hl wr (HG4.trans BW);clear hl;obtain⟨h,HHK⟩:=kA ((qx m m.sp.length [] zdM) (2,(i:Int)));have hlk:(Instr.lookup 226 (.map (Xa B2')) (Xi #[I6 2,I6 (i:Int),Xh Xd]) Xd).run prog wr= .ok (I6 h) wr:=by
   have:=(N2.grew BW).look (K:=enK) underlying226 (zoK _) (2,(i:Int));rw[HHK.out]at this;exact this
  have HSE:Xp (zgh m i=if z≠h then 7 else 0):=dD<|by rw[zju,gD,HZI.out,HHK.out];rfl
  by_cases hr:z=h
  ·have hre:(z != h)=Xd:=by simp[hr]
   have OW':Xp (∀j:Nat,j<i+1->zgh m j=0):=dD<|fun j hj=>by
    by_cases e:j=i
    ·rw[e,HSE,kF (by simp[hr])]
    exact OW j (by omega)
   clear hr;go_wp2
   go_roundg (sn -(i+1))
   case measure=>omega
   exact⟨i+1,by omega,by omega,by go_num,BW,OW'⟩
  have hre:(z != h)=Xc:=by simp[hr]
  have HZE:Xp (Z=7):=HZ2.out OA i HKL OW (by rw[HSE.out,kE hr])
  have HGW:=dD (HG4.trans BW);clear hr;go_wp2;go_ret;exact⟨by rw[HZE.out];rfl,HGW⟩
 have hltz2:=kD hlt2
 have:i=sn:=by omega
 subst this;have HZE:Xp (Z=0):=HZ3.out OA fun j hj=>OW.out j (by rw[<-HN2.out];exact hj)
 have HGW:=dD (HG4.trans BW);go_wp2;go_ret;exact⟨by rw[HZE.out];rfl,HGW⟩
def chk:List Nat:=[111,112,113,114,115,116]
def znr (m:Ma):List Int:=[zu (Zq m),zu (Qz m),Zp m,zc7 m,zba m,QA m]
theorem zeI (h:Zp m=0):m.sp.length<=4:=by
 unfold Zp at h
 split at h
 ·cases h
 omega
theorem ziT (k f:Nat) (hf:chk[k]? =Xa f):∀args w,(callFunc f args).run prog w= .ok (.enter f args) w:=by
 match k,hf with
 | 0,hf=>cases hf;exact enters_of func111 (by kernel_rfl) rfl
 | 1,hf=>cases hf;exact enters_of func112 (by kernel_rfl) rfl
 | 2,hf=>cases hf;exact enters_of func113 (by kernel_rfl) rfl
 | 3,hf=>cases hf;exact enters_of func114 (by kernel_rfl) rfl
 | 4,hf=>cases hf;exact enters_of func115 (by kernel_rfl) rfl
 | 5,hf=>cases hf;exact enters_of func116 (by kernel_rfl) rfl
 | k+6,hf=>simp[chk]at hf
def fnV (f:Nat):Xr:= .func (.func f) #[] #[]
theorem zgr {size n g:Nat} {w:Xo} {e:TypeId} {v:Xr} (h:w.ownsRow b e size v n xs) (hv:v.ownBlock=Xa g):b<=g/\g<w.heap.size/\∃cs,w.heap[g]? =Xa (Xk cs e (0,0)):=by
 rcases h.2 with⟨rfl,_⟩|⟨k,cap,cur,rfl,h2,h3,h4⟩
 ·cases hv
 simp only[Value.ownBlock,Option.some.injEq]at hv;subst hv;exact⟨h2,(aS.1 h3).1,cur,h3⟩
theorem ze5 {D:Nat->Prop} {size n:Nat} {w:Xo} {e:TypeId} {v:Xr} (h:w.ownsRow b e size v n xs) (k:qW D w W) (hn:∀g,v.ownBlock=Xa g->¬D g):W.ownsRow b e size v n xs:=by
 refine⟨h.1,?_⟩
 rcases h.2 with h1|⟨g,cap,cur,rfl,h2,h3,h4⟩
 ·exact .inl h1
 exact .inr ⟨g,cap,cur,rfl,h2,by rw[k.block g (aS.1 h3).1 (hn g rfl)];exact h3,h4⟩
theorem ze3 {D:Nat->Prop} {size n:Nat} {w:Xo} {e:TypeId} {v:Xr} (h:w.ownsRow b e size v n xs) (k:qW D w W) (hn:∀g,v.ownBlock=Xa g->¬D g):W.ownsRow b e size v n xs:=by
 refine⟨h.1,?_⟩
 rcases h.2 with h1|⟨g,cap,cur,rfl,h2,h3,h4⟩
 ·exact .inl h1
 exact .inr ⟨g,cap,cur,rfl,h2,by rw[k.block g (aS.1 h3).1 (hn g rfl)];exact h3,h4⟩
def oB (s:Sli) (b:Nat):Prop:=(s.x).ownBlock=Xa b
def Dw (p:Nat) (V:MaV):Nat->Prop:=fun b=>b=p\/oB V.f b\/oB V.ca b\/oB V.sp b
def Dr (B p:Nat) (V:MaV):Nat->Prop:=fun b=>b<B\/Dw p V b
structure zi6 (w:Xo) (V:MaV) (m:Ma):Prop where
 sl:zm slE w (V.s.x) m.sl
 sb:qK w (V.sb.x) m.sb
 sq:qH w (V.sq.x) m.sq
 db:qK w (V.db.x) m.db
 dq:qH w (V.dq.x) m.dq
 fl:qh w (V.fl.x) m.fl
structure ChW (w0:Xo) (p:Nat) (w:Xo) (V:MaV) (m:Ma):Prop where
 gr:zc w0 w
 lo:w0.heap.size<=p
 box:zt w p 114 (chL V m)
 fs:zb Qj w0.heap.size w (V.f.x) m.fs
 ca:zb qJ w0.heap.size w (V.ca.x) m.ca
 sp:∃xs:List SpV,zb Zh w0.heap.size w (V.sp.x) xs/\xs.length=m.sp.length/\∀(i:Nat) x s,xs[i]? =Xa x->m.sp[i]? =Xa s->∀W,qW (Dr w0.heap.size p V) w W->qN W x s
 rest:∀W,qW (Dr w0.heap.size p V) w W->zi6 W V m
def Chg (w0:Xo) (p:Nat) (w:Xo) (V:MaV) (m':Ma) (w':Xo):Prop:=∃V':MaV,ChW w0 p w' V' m'/\qW (Dw p V) w w'/\∀k,Dw p V' k->Dw p V k\/w.heap.size<=k
section
variable{w0 w w1 w2:Xo} {p:Nat} {V V':MaV} {m m':Ma}
theorem ChW.dlt (h:ChW w0 p w V m):∀k,Dw p V k->k<w.heap.size:=by
 rintro k (rfl|hk|hk|hk)
 ·exact h.box.box.lt
 ·exact(h.fs.lt k hk).2
 ·exact(h.ca.lt k hk).2
 obtain⟨xs,s1,_⟩:=h.sp;exact(s1.lt k hk).2
theorem ChW.dlo (h:ChW w0 p w V m):∀k,Dw p V k->w0.heap.size<=k:=by
 rintro k (rfl|hk|hk|hk)
 ·exact h.lo
 ·exact(h.fs.lt k hk).1
 ·exact(h.ca.lt k hk).1
 obtain⟨xs,s1,_⟩:=h.sp;exact(s1.lt k hk).1
theorem ChW.drt (h:ChW w0 p w V m):∀k,Dr w0.heap.size p V k->k<w.heap.size:=by
 rintro k (hk|hk)
 ·exact Xw hk (bS h.gr)
 exact h.dlt k hk
theorem ChW.grew (h:ChW w0 p w V m) (k:zc w w1):ChW w0 p w1 V m:=by
 obtain⟨xs,s1,s2,s3⟩:=h.sp;exact⟨h.gr.trans k,h.lo,h.box.grew k,h.fs.grew k,h.ca.grew k,⟨xs,s1.grew k,s2,fun i x s hx hs W hW=>s3 i x s hx hs W ((qW.grew k).trans hW)⟩,fun W hW=>h.rest W ((qW.grew k).trans hW)⟩
theorem ChW.at (h:ChW w0 p w V m):zN w V m:=by
 have r:=h.rest w (qW.refl _ _);obtain⟨xs,s1,s2,s3⟩:=h.sp;exact⟨h.fs.at,r.sl,r.sb,r.sq,r.db,r.dq,r.fl,h.ca.at,⟨xs,s1.at,s2,fun i x s hx hs=>s3 i x s hx hs w (qW.refl _ _)⟩⟩
theorem ChW.nf (h:ChW w0 p w V m):∀g,oB V.f g->p≠g:=h.fs.ne h.box (by decide)
theorem ChW.nc (h:ChW w0 p w V m):∀g,oB V.ca g->p≠g:=h.ca.ne h.box (by decide)
theorem ChW.ns (h:ChW w0 p w V m):∀g,oB V.sp g->p≠g:=by
 obtain⟨xs,s1,_⟩:=h.sp;exact s1.ne h.box (by decide)
theorem ChW.fc (h:ChW w0 p w V m):∀g,oB V.f g->¬oB V.ca g:=h.fs.apart h.ca (by decide)
theorem ChW.fS (h:ChW w0 p w V m):∀g,oB V.f g->¬oB V.sp g:=by
 obtain⟨xs,s1,_⟩:=h.sp;exact h.fs.apart s1 (by decide)
theorem ChW.cS (h:ChW w0 p w V m):∀g,oB V.ca g->¬oB V.sp g:=by
 obtain⟨xs,s1,_⟩:=h.sp;exact h.ca.apart s1 (by decide)
theorem ChW.key (k:qW (Dw p V) w w1) (hd:∀k,Dw p V' k->Dw p V k\/w.heap.size<=k) (hW:qW (Dr w0.heap.size p V') w1 W):qW (Dr w0.heap.size p V) w W:=
 ⟨hW.os.trans k.os,hW.tape.trans k.tape,hW.output.trans k.output,nT k.size hW.size,fun b hb hn=>(hW.block b (Xw hb k.size) (fun e=>by
  rcases e with e|e
  ·exact hn (.inl e)
  rcases hd b e with e|e
  ·exact hn (.inr e)
  omega)).trans (k.block b hb (fun e=>hn (.inr e)))⟩
theorem ChW.grOut (h:ChW w0 p w V m) (k:qW (Dw p V) w w1):zc w0 w1:=
 ⟨k.os.trans (Below.os h.gr),k.tape.trans (Below.tape h.gr),k.output.trans (Below.output h.gr),nT (bS h.gr) k.size,fun b hb=>(k.block b (Xw hb (bS h.gr)) (fun e=>by have:=h.dlo b e;omega)).trans (Below.block h.gr b hb)⟩
theorem Chg.refl (h:ChW w0 p w V m) (g:zc w w1):Chg w0 p w V m w1:=⟨V,h.grew g,qW.grew g,fun _ hk=> .inl hk⟩
theorem Chg.of_grew (g:zc w w1) (h:Chg w0 p w1 V m' w2):Chg w0 p w V m' w2:=by
 obtain⟨V2,c2,o2,d2⟩:=h;refine⟨V2,c2,(qW.grew g).trans o2,fun k hk=>?_⟩
 rcases d2 k hk with e|e
 ·exact .inl e
 exact .inr (nT (bS g) e)
theorem Chg.step {V1:MaV} (o1:qW (Dw p V) w w1) (d1:∀k,Dw p V1 k->Dw p V k\/w.heap.size<=k) (h2:Chg w0 p w1 V1 m' w2):Chg w0 p w V m' w2:=by
 obtain⟨V2,c2,o2,d2⟩:=h2;refine⟨V2,c2,⟨o2.os.trans o1.os,o2.tape.trans o1.tape,o2.output.trans o1.output,nT o1.size o2.size,fun b hb hn=>(o2.block b (Xw hb o1.size) (fun e=>?_)).trans (o1.block b hb hn)⟩,fun k hk=>?_⟩
 ·rcases d1 b e with e|e
  ·exact hn e
  omega
 rcases d2 k hk with e|e
 ·exact d1 k e
 exact .inr (nT o1.size e)
theorem Chg.far {V1:MaV} (g:zc w w1) (d:∀k,Dw p V1 k->Dw p V k\/w1.heap.size<=k):∀k,Dw p V1 k->Dw p V k\/w.heap.size<=k:=fun k hk=>(d k hk).elim .inl fun e=> .inr (nT (bS g) e)
theorem zt.chg {cs:List Xr} (h:zt w b t cs) (k:qW (Dw p V) w w1) (hn:¬Dw p V b):zt w1 b t cs:=h.outD k hn
theorem ChW.field (h:ChW w0 p w V m) (g1:zc w w1) (g2:w1.grownBy w2 (Xa p)) (hf:V'.f=V.f) (hc:V'.ca=V.ca) (hs:V'.sp=V.sp) (mf:m'.fs=m.fs) (mc:m'.ca=m.ca) (ms:m'.sp=m.sp) (bx:zt w2 p 114 (chL V' m')) (rs:∀W,qW (Dr w0.heap.size p V) w W->qW (Dr w0.heap.size p V) w1 W->zi6 W V m->zi6 W V' m'):Chg w0 p w V m' w2:=by
 have o:qW (Dw p V) w w2:=(qW.grew g1).trans (qW.grown g2 (.inl rfl));have hdw:Dw p V'=Dw p V:=by unfold Dw;rw[hf,hc,hs]
 have hdr:Dr w0.heap.size p V'=Dr w0.heap.size p V:=by unfold Dr;rw[hdw]
 obtain⟨xs,s1,s2,s3⟩:=h.sp;refine⟨V',⟨h.grOut o,h.lo,bx,?_,?_,⟨xs,?_,by rw[ms];exact s2,fun i x s hx hs' W hW=>?_⟩,fun W hW=>?_⟩,o,fun k hk=> .inl (by rw[hdw]at hk;exact hk)⟩
 ·rw[hf,mf];exact(h.fs.grew g1).grown g2 (fun g hg e=>h.nf g hg (by cases e;rfl))
 ·rw[hc,mc];exact(h.ca.grew g1).grown g2 (fun g hg e=>h.nc g hg (by cases e;rfl))
 ·rw[hs];exact(s1.grew g1).grown g2 (fun g hg e=>h.ns g hg (by cases e;rfl))
 ·rw[hdr]at hW;rw[ms]at hs';exact s3 i x s hx hs' W ((o.wide fun k hk=> .inr hk).trans hW)
 rw[hdr]at hW;exact rs W ((o.wide fun k hk=> .inr hk).trans hW) (((qW.grown g2 (.inr (.inl rfl)))).trans hW) (h.rest W ((o.wide fun k hk=> .inr hk).trans hW))
theorem ChW.setS (h:ChW w0 p w V m) {b:Sli} {sl:List Int} (g1:zc w w1) (nr:jy slE w.heap.size w1 (b.x) sl) (g2:w1.grownBy w2 (Xa p)) (bx:zt w2 p 114 (chL { V with s:=b } { m with sl:=sl })):Chg w0 p w V { m with sl:=sl } w2:=
 h.field (V':={ V with s:=b }) (m':={ m with sl:=sl }) g1 g2 rfl rfl rfl rfl rfl rfl bx (fun W _ o r=>⟨nr.staysD h.drt W o,r.sb,r.sq,r.db,r.dq,r.fl⟩)
theorem ChW.setF (h:ChW w0 p w V m) {b:Sli} {fs:List Fr} {hd:Int} (g1:zc w w1) (nr:zb Qj w.heap.size w1 (b.x) fs) (g2:w1.grownBy w2 (Xa p)) (bx:zt w2 p 114 (chL { V with f:=b } { m with fs:=fs,hand:=hd })):Chg w0 p w V { m with fs:=fs,hand:=hd } w2:=by
 have o:qW (Dw p V) w w2:=(qW.grew g1).trans (qW.grown g2 (.inl rfl));have hpl:=h.dlt p (.inl rfl);have hd:∀k,Dw p { V with f:=b } k->Dw p V k\/w.heap.size<=k:=by
  rintro k (e|e|e|e)
  ·exact .inl (.inl e)
  ·exact .inr (nr.lt k e).1
  ·exact .inl (.inr (.inr (.inl e)))
  exact .inl (.inr (.inr (.inr e)))
 obtain⟨xs,s1,s2,s3⟩:=h.sp;refine⟨{ V with f:=b },⟨h.grOut o,h.lo,bx,(nr.base (bS h.gr)).grown g2 (fun g hg e=>?_),(h.ca.grew g1).grown g2 (fun g hg e=>h.nc g hg (by cases e;rfl)),⟨xs,(s1.grew g1).grown g2 (fun g hg e=>h.ns g hg (by cases e;rfl)),s2,fun i x s hx hs W hW=>s3 i x s hx hs W (ChW.key o hd hW)⟩,fun W hW=>?_⟩,o,hd⟩
 ·cases e;have:=(nr.lt _ hg).1;omega
 have r:=h.rest W (ChW.key o hd hW);exact⟨r.sl,r.sb,r.sq,r.db,r.dq,r.fl⟩
theorem ChW.cache (h:ChW w0 p w V m) {b:Sli} {l:List Ca} (o1:qW (oB V.ca) w w1) (hb:∀g,oB b g->oB V.ca g\/w.heap.size<=g) (nr:zb qJ w0.heap.size w1 (b.x) l) (g2:w1.grownBy w2 (Xa p)) (bx:zt w2 p 114 (chL { V with ca:=b } { m with ca:=l })):Chg w0 p w V { m with ca:=l } w2:=by
 have o:qW (Dw p V) w w2:=(o1.wide fun k hk=> .inr (.inr (.inl hk))).trans (qW.grown g2 (.inl rfl))
 have hd:∀k,Dw p { V with ca:=b } k->Dw p V k\/w.heap.size<=k:=by
  rintro k (e|e|e|e)
  ·exact .inl (.inl e)
  ·exact .inl (.inr (.inl e))
  ·rcases hb k e with e|e
   ·exact .inl (.inr (.inr (.inl e)))
   exact .inr e
  exact .inl (.inr (.inr (.inr e)))
 have hpl:=h.dlt p (.inl rfl);have own:∀{α:Type} {E:Elt α} {s:Sli} {l:List α},zb E w0.heap.size w (s.x) l->(∀g,oB s g->¬oB V.ca g)->(∀g,oB s g->p≠g)->zb E w0.heap.size w2 (s.x) l:=fun hr n1 n2=>by
  refine zb.grown ⟨ze3 hr.1 o1 n1,hr.2⟩ g2 (fun g hg e=>n2 g hg (by cases e;rfl))
 obtain⟨xs,s1,s2,s3⟩:=h.sp;refine⟨{ V with ca:=b },⟨h.grOut o,h.lo,bx,own h.fs h.fc h.nf,nr.grown g2 (fun g hg e=>?_),⟨xs,own s1 (fun g a b=>h.cS g b a) h.ns,s2,fun i x s hx hs W hW=>s3 i x s hx hs W (ChW.key o hd hW)⟩,fun W hW=>?_⟩,o,hd⟩
 ·cases e
  rcases hb _ hg with e|e
  ·exact h.nc _ e rfl
  omega
 have r:=h.rest W (ChW.key o hd hW);exact⟨r.sl,r.sb,r.sq,r.db,r.dq,r.fl⟩
theorem ChW.setT (h:ChW w0 p w V m) {xs:List SpV} {q g:Nat} {x y:SpV} {s:Sp} {t:List (List En)} (s2:xs.length=m.sp.length) (s3:∀(i:Nat) x s,xs[i]? =Xa x->m.sp[i]? =Xa s->∀W,qW (Dr w0.heap.size p V) w W->qN W x s) (hx:xs[q]? =Xa x) (hs:m.sp[q]? =Xa s) (hg:oB V.sp g)
  (g1:zc w w1) (tb:ZS 0 w.heap.size w1 us t) (g2:w1.grownBy w2 (Xa g)) (ow:zb Zh w0.heap.size w2 (V.sp.x) (xs.set q y)) (hy:y.live=x.live/\y.ar=x.ar/\y.tab=us):Chg w0 p w V { m with sp:=m.sp.set q { s with tb:=t } } w2:=by
 have o2:qW (Dr w0.heap.size p V) w1 w2:=qW.grown g2 (.inr (.inr (.inr (.inr hg))));have o:qW (Dw p V) w w2:=(qW.grew g1).trans (qW.grown g2 (.inr (.inr (.inr hg))));have hd:∀k,Dw p V k->Dw p V k\/w.heap.size<=k:=fun _ hk=> .inl hk
 refine⟨V,⟨h.grOut o,h.lo,(h.box.grew g1).beside g2 (fun k e=>by cases e;exact h.ns g hg),(h.fs.grew g1).grown g2 (fun k hk e=>by cases e;exact h.fS _ hk hg),(h.ca.grew g1).grown g2 (fun k hk e=>by cases e;exact h.cS _ hk hg),⟨xs.set q y,ow,by simp[s2],fun i x' s' hx' hs' W hW=>?_⟩,fun W hW=>?_⟩,o,hd⟩
 ·by_cases e:i=q
  ·subst e;rw[sF (gS.1 hx).1]at hx';have hs':(m.sp.set i { s with tb:=t })[i]? =Xa s':=hs';rw[sF (gS.1 hs).1]at hs';cases hx';cases hs';have k:=s3 i x s hx hs W (ChW.key o hd hW);obtain⟨y1,y2,y3⟩:=hy;refine⟨y1.trans k.live,by rw[y2];exact k.ar,by rw[y2];exact k.cap,?_⟩
   rw[y3];exact tb.outD h.drt (o2.trans hW)
  rw[sN (fun h=>e h.symm)]at hx'
  have hs':(m.sp.set q { s with tb:=t })[i]? =Xa s':=hs';rw[sN (fun h=>e h.symm)]at hs'
  exact s3 i x' s' hx' hs' W (ChW.key o hd hW)
 have r:=h.rest W (ChW.key o hd hW);exact⟨r.sl,r.sb,r.sq,r.db,r.dq,r.fl⟩
end
theorem zmA.changeW {base p:Nat} {w:Xo} (h:zmA base w V m) (hB:B<=base) (hp:w.heap.size<=p) (k:qW (Dr B p V) w W):zi6 W V m/\∀(xs:List SpV) (Bs:Nat->Nat),base<=Bs 0->(∀i,Bs i<=Bs (i+1))->(∀(i:Nat) x s,xs[i]? =Xa x->m.sp[i]? =Xa s->QO (Bs i) (Bs (i+1)) w x s)->∀(i:Nat) x s,xs[i]? =Xa x->m.sp[i]? =Xa s->qN W x s:=by
 obtain⟨ys,_,s1,_⟩:=h.sp;have key:∀{b size n:Nat} {e:TypeId} {v:Xr} {xs:List Xr},w.ownsRow b e size v n xs->base<=b->Zh.ty≠e/\Qj.ty≠e/\qJ.ty≠e->W.ownsRow b e size v n xs:=fun hr hb he=>ze5 hr k fun g hg hd=>by
  obtain⟨h1,h2,cs,h3⟩:=zgr hr hg
  rcases hd with hd|hd|hd|hd|hd
  ·omega
  ·omega
  ·obtain⟨ds,h4⟩:=h.fs.obj hd;rw[h4]at h3;cases h3;exact he.2.1 rfl
  ·obtain⟨ds,h4⟩:=h.ca.obj hd;rw[h4]at h3;cases h3;exact he.2.2 rfl
  obtain⟨ds,h4⟩:=s1.obj hd;rw[h4]at h3;cases h3;exact he.1 rfl
 have keyR:∀{α:Type} {E:Elt α} {b:Nat} {v:Xr} {l:List α},zb E b w v l->base<=b->Zh.ty≠E.ty/\Qj.ty≠E.ty/\qJ.ty≠E.ty->zb E b W v l:=fun hr hb he=>⟨key hr.1 hb he,hr.2⟩
 obtain⟨lo,⟨zs,f1,f2,f3,f4⟩,l1,l2⟩:=h.fl;have hf':qU lo W (V.fl.x) m.fl:=⟨zs,keyR f1 l1 (by decide),f2,fun i x f hx hf=>⟨(f3 i x f hx hf).1,keyR (f3 i x f hx hf).2 l1 (by decide)⟩,f4⟩
 have hb:=nR base;refine⟨⟨(keyR h.sl hb (by decide)).at,zi.at ⟨key h.sb.1 hb (by decide),h.sb.2⟩,zp.at ⟨key h.sq.1 hb (by decide),h.sq.2⟩,zi.at ⟨key h.db.1 hb (by decide),h.db.2⟩,zp.at ⟨key h.dq.1 hb (by decide),h.dq.2⟩,hf'.new.now0⟩,fun xs Bs b0 bm h5 i x s hx hs=>?_⟩
 have o:=h5 i x s hx hs;have hbi:base<=Bs i:=nT b0 (zdW bm (nZ i));have o':QO (Bs i) (Bs (i+1)) W x s:=⟨o.live,keyR o.ar hbi (by decide),⟨o.tb.len,o.tb.tlen,fun j v y hv hy=>keyR (o.tb.row j v y hv hy) hbi (by decide),o.tb.two⟩,o.arh,o.tbh⟩
 exact o'.at
theorem zhF (V:MaV) (m:Ma) (w:Xo) (hm:zN w V m):
  Xq prog 46 #[Xi (mL V m).toArray] w fun e w'=>∃(p:Nat) (V':MaV),e= Xl (Xj (Xa ⟨p,0,Xb⟩))/\ChW w p w' V' m:=by
 obtain⟨W1,hW1⟩:=kB (w.alloc (Xk (mL V m).toArray 41));have G1:=gA hW1
 have X1:=xA hW1
 have HW1:Xp (_=W1):=hW1;clear hW1;have how:=zlv V m W1 (hm.grew G1);clear hm
 go_enter func46,ntmps46
 go_upto_region 1 with fail;rw[HW1.out];obtain⟨x0,x1,x2,x3,x4,x5,x6,x7,x8,x9,x10⟩:=X1.c11;go_wp2_with fail;refine how.mono ?_;clear how x0 x1 x2 x3 x4 x5 x6 x7 x8 x9 x10;rintro e W2 ⟨V',rfl,ow,g2⟩;have G2:=dD (G1.trans g2);have O2:Xp (zmA W1.heap.size W2 V' m):=ow;have HS:Xp (w.heap.size<=W1.heap.size):=show _<=_ from bS G1.out
 clear ow g2;have HF:Xp (ChW w W2.heap.size (W2.alloc (Xk (chL V' m).toArray 114)) V' m):=dD<|by
  have ga:zc W2 (W2.alloc (Xk (chL V' m).toArray 114)):=za _ _;obtain⟨xs,B,s1,s2,s3,s4,s5⟩:=O2.sp;refine⟨G2.trans ga,bS G2,zt.top _ _ _ rfl,(O2.fs.grew ga).base HS,(O2.ca.grew ga).base HS,⟨xs,(s1.grew ga).base HS,s2,fun i x s hx hs W hW=>(O2.changeW HS (nR _) ((qW.grew ga).trans hW)).2 xs B s3 s4 s5 i x s hx hs⟩,fun W hW=>(O2.changeW HS (nR _) ((qW.grew ga).trans hW)).1⟩
 go_wp2;go_ret;exact⟨_,V',rfl,HF⟩
theorem zgF (n:Nat) (hn:n<=40) (w:Xo):
  Xq prog 228 #[.int .u64 1,.int .u64 (n:Int)] w fun e w'=>e= Xl (Xm #[.int .u64 0,.int .u64 (n:Int)])/\w'=w:=by
 have m1:bits .and .u64 1 4294967295=1:=Mul64.maskN 1 (by omega)
 have m2:bits .and .u64 (n:Int) 4294967295=(n:Int):=by rw[Mul64.maskN n (by omega)];omega
 have m0:bits .and .u64 0 4294967295=0:=Mul64.maskN 0 (by omega)
 have d1:(n:Int) / 4294967296=0:=by omega
 have HM1:Xp (bits .and .u64 1 4294967295=1):=m1;have HM2:Xp (bits .and .u64 (n:Int) 4294967295=(n:Int)):=m2;have HM0:Xp (bits .and .u64 0 4294967295=0):=m0;have HD1:Xp ((n:Int) / 4294967296=0):=d1;clear m1 m2 m0 d1
 go_enter func228,ntmps228
 go_wp2;have w0:IntKind.u64.wrap 0=0:=Mul64.wrapN 0 (by omega)
 have wn:IntKind.u64.wrap (n:Int)=(n:Int):=Mul64.wrapN n (by omega)
 simp only[HM1.out,HM2.out,Int.one_mul,wn,HD1.out,w0,HM0.out,Int.mul_zero,Int.add_zero,Int.zero_ediv]
 go_ret2
 exact⟨rfl,rfl⟩
theorem zft (n:Nat) (hn:n<=40) (w:Xo):
  Xq prog 201 #[.int .u64 1,.int .u64 (n:Int)] w fun e w'=>e= Xl (Xm #[.int .u64 0,.int .u64 (n:Int)])/\w'=w:=by
 have c64:=zgF n hn w
 go_enter func201,ntmps201
 go_wp2_with (go_at_call 228;refine c64.mono ?_;rintro e w' ⟨rfl,hw⟩;rw[hw])
 go_ret2
 exact⟨rfl,rfl⟩
theorem zfr (m:List Fr):∀(l:List Fr) (off:Nat),off+m.length<=l.length->splice (l.flatMap frv) (off*13) (m.flatMap frv)=(l.take off++(m++l.drop (off+m.length))).flatMap frv:=fun l off h=>by
 have h1:∀(l:List Fr) (j:Nat),j<=l.length->(l.flatMap frv).take (j*13)=(l.take j).flatMap frv/\(l.flatMap frv).drop (j*13)=(l.drop j).flatMap frv:=fun l j hj=>by
  have he:l.flatMap frv=(l.take j).flatMap frv++(l.drop j).flatMap frv:=by rw[<-Xv,List.take_append_drop]
  have hl:((l.take j).flatMap frv).length=j*13:=by rw[ZL,List.length_take,Nat.min_eq_left hj]
  constructor
  ·rw[he,<-hl,List.take_left]
  rw[he,<-hl,List.drop_left]
 unfold splice;rw[ZL m,<-Nat.add_mul,(h1 l off (by omega)).1,(h1 l (off+m.length) h).2,Xv,Xv]
theorem Jk {w:Xo} (ty:TypeId) (base:Nat) (v:Xr) (l:List Fr) (hown:zh base w v l) (g:Nat) (hg:v.ownBlock=Xa g) (off dLen dCap:Nat) (ad:Addr) (sLen sCap:Nat)
  (m:List Fr) (hm:m.length=Yr sLen dLen) (hsrc:jz w ad (m.flatMap frv)) (hfit:off+m.length<=l.length):
  ∃w',(Builtin.copy_ #[26,26] ty #[O (Xa ⟨g,off*13,Xb⟩) dLen dCap,O (Xa ad) sLen sCap]).run prog w= .ok (goInt m.length) w'/\zh base w' v (l.take off++(m++l.drop (off+m.length)))/\w.grownBy w' (Xa g)/\w'.heap.size=w.heap.size:=by
 obtain⟨i0,hi,_,hz1,_⟩:=info_parts zon;have hcl:(m.flatMap frv).length=m.length*13:=ZL m;have hfit':off*13+(m.flatMap frv).length<=l.length*13:=by
  rw[hcl,<-Nat.add_mul];exact Yl _ hfit
 obtain⟨w',hr,h2,h3,h4⟩:=qX (P:=prog) hown.1 hg (off*13) (m.flatMap frv) hfit' (qT zek m);have hl:=run_loadCells_list (P:=prog) w ad (m.flatMap frv) hsrc;rw[hcl]at hl;rw[zfr m l off hfit]at h2;have hlen:(l.take off++(m++l.drop (off+m.length))).length=l.length:=by simp;omega
 refine⟨w',?_,⟨by rw[hlen];exact h2,by rw[hlen];exact hown.2⟩,h3,h4⟩
 simp[Builtin.copy_,run_underlying underlying26,Builtin.lenOf,Builtin.firstCells,sizeOf,typeInfo,hi,hz1,<-hm,hl,hr]
theorem Z6 {w:Xo} {rest:List Oper} {a:Act} (hgd:o.guard=Xb) (d s:Operand) (ho:o.op= .call { callee:= .builtin .copy,args:=#[d,s],argTypes:=#[26,26] })
  (base:Nat) (v:Xr) (l:List Fr) (hown:zh base w v l) (g:Nat) (hg:v.ownBlock=Xa g) (off dLen dCap:Nat) (dp:Addr) (hd:a.eval d= O (Xa dp) dLen dCap) (hdp:dp=⟨g,off*13,Xb⟩) (ad:Addr) (sLen sCap:Nat) (hs:a.eval s= O (Xa ad) sLen sCap)
  (m:List Fr) (hm:m.length=Yr sLen dLen) (hsrc:jz w ad (m.flatMap frv)) (hfit:off+m.length<=l.length)
  (h:∀w',zh base w' v (l.take off++(m++l.drop (off+m.length)))->w.grownBy w' (Xa g)->w'.heap.size=w.heap.size->wpList prog ops Q rest (a.put o.dst (goInt m.length)) w'):wpList prog ops Q (o :: rest) a w:=by
 subst hdp;refine wpList_plain hgd fun K hK=>?_
 obtain⟨w',hrun,h2,h3,h4⟩:=Jk o.type base v l hown g hg off dLen dCap ad sLen sCap m hm hsrc hfit;unfold Oper.wp
 simp[execOp,ho,resolve,invoke,builtin,hd,hs,hrun,Result.andThen]
 exact hK _ _ (h w' h2 h3 h4)
theorem ziy (q:Fr) (n m z:Nat) (_h:m<=n) (hz:z=Yr m (n - m)):(Xs m q++Xs (n - m) fr0).take m++(Xs z q++(Xs m q++Xs (n - m) fr0).drop (m+z))=Xs (m+z) q++Xs (n -(m+z)) fr0:=by
 have hzz:z<=n - m:=by rw[hz];exact Nat.min_le_right _ _
 rw[List.take_append_of_le_length (by simp),Xt (by simp),List.drop_append,List.drop_of_length_le (by simp),List.nil_append,lR,Yn,<-List.append_assoc,Xz]
 congr 2
 omega
theorem zfs (q:Fr) (x:Nat) (c n:Nat) (hn:n<=40) (hn1:1<=n) (w:Xo) (hv:qf w (O (Xa ⟨x,0,Xb⟩) 1 c) [q]):
  Xq prog 168 #[O (Xa ⟨x,0,Xb⟩) 1 c,I6 (n:Int)] w fun e w'=>∃b,e= Xl b/\qY w.heap.size w' b (Xs n q)/\zc w w':=by
 have HC:Xp (jz w ⟨x,0,Xb⟩ ([q].flatMap frv)):=by
  obtain⟨⟨a,c',h1,_,h3⟩,_⟩:=hv;cases h1;exact h3 _ rfl
 clear hv;have hm:=zft n hn w;have hnz:¬(n:Int)<0:=by omega
 have hn2:¬(9223372036854775807:Int)< (n:Int):=by omega
 go_enter func168,ntmps168
 go_wp2_with (first
  | (go_at_call 201;refine hm.mono ?_;rintro e w' ⟨rfl,hw⟩;rw[hw])
  | (refine Qp rfl (.tmp 29) rfl n rfl (by show n*40<=_;omega) ?_;intro C ow;have OW:Xp (zh w.heap.size (w.alloc (Xk C 53)) (O (Xa ⟨w.heap.size,0,Xb⟩) n n) (Xs n fr0)):=ow;clear ow)
  | (refine Z6 rfl (.tmp 31) (.tmp 32) rfl w.heap.size (O (Xa ⟨w.heap.size,0,Xb⟩) n n) (Xs n fr0) OW w.heap.size rfl 0 n n _ rfl ?a1 _ 1 c rfl [q] ?a2 ?a3 ?a4 ?_))
 case a1=>simp
 case a2=>show 1=Yr 1 n;exact(Nat.min_eq_left hn1).symm
 case a3=>exact HC.grew (za _ _)
 case a4=>simp;omega
 intro W1 ow1 gr1 _;have OW1:Xp (zh w.heap.size W1 (O (Xa ⟨w.heap.size,0,Xb⟩) n n) (Xs 1 q++Xs (n - 1) fr0)):=show zh _ _ _ (Xs 1 q++Xs (n - 1) fr0) by simpa [Yn]using ow1
 have G1:Xp (zc w W1):=ze (za _ _) gr1 (nR _);clear ow1 gr1;go_wp2
 go_loopg [8] n (fun gg s8 wr=>∃m:Nat,1<=m/\m<=n/\n - m<=gg/\s8=I6 m/\Xp (zh w.heap.size wr (O (Xa ⟨w.heap.size,0,Xb⟩) n n) (Xs m q++Xs (n - m) fr0))/\Xp (zc w wr))
 case atStart=>exact⟨1,nR _,hn1,by omega,rfl,OW1,G1⟩
 obtain⟨m,hm1,hmn,hg,rfl,OF,GW⟩:=hrel
 by_cases hlt:m<n
 ·have hltz:=kC hlt
  have hmnz:(m:Int)<=(n:Int):=by omega
  have OFd:Xp (zh w.heap.size wr.drew (O (Xa ⟨w.heap.size,0,Xb⟩) n n) (Xs m q++Xs (n - m) fr0)):=dD<|OF.grew (gW _)
  obtain⟨z,HZ⟩:∃z,Xp (z=Yr m (n - m)):=⟨_,rfl⟩;have hz0:z=min m (n - m):=HZ.out;have hz1:1<=z:=by omega
  have hz2:z<=m:=by omega
  have hz3:z<=n - m:=by omega
  clear hz0;have hsrc:jz wr.drew ⟨w.heap.size,0,Xb⟩ ((Xs z q).flatMap frv):=fun j u hj=>by
   have h1:=OFd.1.cells rfl;refine h1 j u ?_;rw[Xv,Yc]
   ·rw[show m=z+(m - z) by omega,<-Xz,Xv,Yc (gS.1 hj).1]
    exact hj
   have h3:=(gS.1 hj).1;rw[ZL]at h3⊢;simp only[lR]at h3⊢;exact Xw h3 (Yl _ hz2)
  obtain⟨W2,hrun,ow2,gr2,_⟩:=Jk 3 w.heap.size _ _ OFd w.heap.size rfl m (n - m) (n - m) ⟨w.heap.size,0,Xb⟩ m n (Xs z q) (by rw[lR];exact HZ) hsrc (by simp;omega)
  have hcopy:(Builtin.copy_ #[26,26] 3 #[O (Xa ⟨w.heap.size,m*13,Xb⟩) (n - m) (n - m),O (Xa ⟨w.heap.size,0,Xb⟩) m n]).run prog wr.drew= .ok (I6 (z:Int)) W2:=by
   have h1:=hrun;rw[lR]at h1;exact h1
  have OW2:Xp (zh w.heap.size W2 (O (Xa ⟨w.heap.size,0,Xb⟩) n n) (Xs (m+z) q++Xs (n -(m+z)) fr0)):=dD<|by
   rw[<-ziy q n m z (by omega) HZ.out]
   rw[lR]at ow2;exact ow2
  have GW2:Xp (zc w W2):=ze (GW.trans (gW _)) gr2 (nR _)
  clear hsrc hrun ow2 gr2;go_wp2
  go_region
  go_wp2
  go_roundg (n -(m+z))
  case measure=>omega
  exact⟨m+z,by omega,by omega,nR _,by go_num,OW2,GW2⟩
 have hltz:=kD hlt
 have:m=n:=by omega
 subst this;have HO:Xp (zh w.heap.size wr (O (Xa ⟨w.heap.size,0,Xb⟩) m m) (Xs m q)):=dD<|by have:=OF.out;simpa using this
 go_wp2;go_ret;exact⟨_,rfl,HO.new,GW⟩
def zif (n:Int):Int:=if 0<=n/\n<=40 then 0 else 4
def zjT (n:Int):List Fr:=if 0<=n/\n<=40 then Xs n.toNat frF else []
theorem zgk (q:Fr) (x:Nat) (c:Nat) (w:Xo):
  Xq prog 168 #[O (Xa ⟨x,0,Xb⟩) 1 c,I6 0] w fun e w'=>∃b,e= Xl b/\qY w.heap.size w' b (Xs 0 q)/\zc w w':=by
 have hm:=zft 0 (by omega) w
 go_enter func168,ntmps168
 go_wp2_with (first
  | (go_at_call 201;refine hm.mono ?_;rintro e w' ⟨rfl,hw⟩;rw[hw])
  | (refine Qp rfl (.tmp 29) rfl 0 rfl (by show 0*40<=_;omega) ?_;intro C ow;have OW:Xp (zh w.heap.size (w.alloc (Xk C 53)) (O (Xa ⟨w.heap.size,0,Xb⟩) 0 0) (Xs 0 fr0)):=ow;clear ow)
  | (refine Z6 rfl (.tmp 31) (.tmp 32) rfl w.heap.size (O (Xa ⟨w.heap.size,0,Xb⟩) 0 0) (Xs 0 fr0) OW w.heap.size rfl 0 0 0 _ rfl ?a1 _ 1 c rfl [] ?a2 ?a3 ?a4 ?_))
 case a1=>simp
 case a2=>rfl
 case a3=>intro j u hj;simp at hj
 case a4=>simp
 intro W1 ow1 gr1 _;have OW1:Xp (zh w.heap.size W1 (O (Xa ⟨w.heap.size,0,Xb⟩) 0 0) (Xs 0 q)):=dD<|by simpa using ow1
 have G1:Xp (zc w W1):=ze (za _ _) gr1 (nR _);clear ow1 gr1;go_wp2
 go_loopg [8] 0 (fun _ s8 wr=>s8=I6 0/\wr=W1)
 case atStart=>exact⟨rfl,rfl⟩
 obtain⟨rfl,rfl⟩:=hrel;go_wp2;go_ret;exact⟨_,rfl,OW1.new,G1⟩
theorem zic (n:Nat) (hn:n<=40) (w:Xo):
  Xq prog 122 #[I6 (n:Int)] w fun e w'=>∃b,e= Xl (Xm #[Xi #[b,I6 0],I6 0])/\qY w.heap.size w' b (Xs n frF)/\zc w w':=by
 have hnz:¬(n:Int)<0:=by omega
 have hn4:¬(40:Int)< (n:Int):=by omega
 have hrep:∀W x,Box W x (frv frF)->Xq prog 168 #[O (Xa ⟨x,0,Xb⟩) 1 1,I6 (n:Int)] W fun e w'=>∃b,e= Xl b/\qY W.heap.size w' b (Xs n frF)/\zc W w':=fun W x hx=>by
  by_cases h1:1<=n
  ·refine zfs frF x 1 n hn h1 W ⟨⟨_,1,rfl,fun h=>(by cases h),fun y hy=>?_⟩,by show 1*40<=_;omega⟩
   cases hy;intro j u hj;rw[Addr.add_lit,zA];exact hx.c j (by have h:=hj;simp only[List.flatMap_cons,List.flatMap_nil,List.append_nil]at h;exact h)
  have:n=0:=by omega
  subst this;exact zgk frF x 1 W
 go_enter func122,ntmps122
 go_wp2_with fail;refine(QJ _).mono ?_;rintro e W1 ⟨rfl,g1⟩;have X2:Xp (Box W1 w.heap.size [eS,I6 0]):=(Box.top w [eS,I6 0] _ rfl).grew g1;have G1:Xp (zc w W1):=(za _ _).trans g1;clear g1;simp only[frv,frF,pg0];go_wp2_with fail;refine(hrep _ _ (Box.top W1 _ _ rfl)).mono ?_;rintro e W2 ⟨b,rfl,hb,g2⟩;obtain⟨a2,c2,rfl,_⟩:=hb.1.rows;rw[lR]at hb⊢;have NB:Xp (qY W1.heap.size W2 (O a2 n c2) (Xs n frF)):=hb.base (by simp)
 have X22:=(X2.alloc (Xk #[U8 0,U8 0,U8 0,U8 0,U8 0,U8 0,U8 0,U8 0,I6 0,Xh Xd,Xh Xd,I6 (-1),I6 0] 53)).grew g2;have G2:=dD ((G1.trans (za _ _)).trans g2);have r0:=X22.c 0 rfl;have r1:=X22.c 1 rfl;have rf:=X22.f;have HX:Xp (w.heap.size<W1.heap.size):=X2.lt;clear hb g2;go_wp2;refine bodyPost_ret (v:= Xm #[Xi #[O a2 n c2,I6 0],I6 0]) (by simp[results,Tryz.results122,go_sem, *]) rfl ⟨_,rfl,?_,?_⟩
 ·exact((NB.setCell (a:=⟨w.heap.size,0,Xb⟩) HX _).setCell (a:=⟨w.heap.size,1,Xb⟩) HX _).base (bS G1)
 exact zz (zz G2 (by simp) _) (by simp) _
theorem zid (n:Int) (hn:¬(0<=n/\n<=40)) (w:Xo):
  Xq prog 122 #[I6 n] w fun e w'=>∃b,e= Xl (Xm #[Xi #[b,I6 0],I6 4])/\qY w.heap.size w' b ([]:List Fr)/\zc w w':=by
 by_cases h0:n<0
 ·go_enter func122,ntmps122
  go_wp2;refine bodyPost_ret (v:= Xm #[Xi #[eS,I6 0],I6 4]) (by simp[results,Tryz.results122,go_sem, *]) rfl ⟨_,rfl,qY.nil _ _,?_⟩
  exact za _ _
 have h1:40<n:=by omega
 go_enter func122,ntmps122
 go_wp2;refine bodyPost_ret (v:= Xm #[Xi #[eS,I6 0],I6 4]) (by simp[results,Tryz.results122,go_sem, *]) rfl ⟨_,rfl,qY.nil _ _,?_⟩
 exact za _ _
theorem zlC (n:Nat) (hn:n<=60) (w:Xo):
  Xq prog 123 #[I6 (n:Int)] w fun e w'=>∃a' c',e= Xl (Xm #[O a' n c',I6 0])/\jy slE w.heap.size w' (O a' n c') (Xs n 0)/\zc w w':=by
 have hnz:¬(n:Int)<0:=by omega
 have hn4:¬(60:Int)< (n:Int):=by omega
 go_enter func123,ntmps123
 go_wp2_with (refine Q4 slE rfl (.tmp 10) rfl n rfl (by show n*8<=_;omega) ?_)
 intro C ow;have OW:Xp (zb slE w.heap.size (w.alloc (Xk C 3)) (O (Xa ⟨w.heap.size,0,Xb⟩) n n) (Xs n 0)):=ow;clear ow
 show wpList _ _ _ _ _ (w.alloc (Xk C 3))
 obtain⟨W1,hW1⟩:=kB (w.alloc (Xk C 3));have G1:=gA hW1
 rw[hW1]at OW⊢;clear hW1;go_wp2;refine bodyPost_ret (v:= Xm #[O (Xa ⟨w.heap.size,0,Xb⟩) n n,I6 0]) (by simp[results,Tryz.results123,go_sem, *]) rfl ⟨_,_,rfl,OW.new,G1⟩
theorem zlD (n:Int) (hn:¬(0<=n/\n<=60)) (w:Xo):
  Xq prog 123 #[I6 n] w fun e w'=>e= Xl (Xm #[eS,I6 4])/\zc w w':=by
 by_cases h0:n<0
 ·clear hn
  go_enter func123,ntmps123
  go_wp2;refine bodyPost_ret (v:= Xm #[eS,I6 4]) (by simp[results,Tryz.results123,go_sem, *]) rfl ⟨rfl,zc.refl _⟩
 have h1:60<n:=by omega
 clear hn
 go_enter func123,ntmps123
 go_wp2;refine bodyPost_ret (v:= Xm #[eS,I6 4]) (by simp[results,Tryz.results123,go_sem, *]) rfl ⟨rfl,zc.refl _⟩
theorem zfl (v:Xr) (fs:List Int) (b:Int) (w:Xo) (hv:zm blE w v fs):
  Xq prog 240 #[v,I6 b] w fun e w'=>(∃z:Int,e= Xl (I6 z)/\decide (0<=z)=fs.contains b)/\zc w w':=by
 have hbig:=hv.short;obtain⟨a,c,rfl,hrow⟩:=hv.nums;have HR:Xp (zab w a fs):=hrow;clear hrow hv;obtain⟨n,HN⟩:=kA fs.length;rw[HN.out]at hbig⊢;obtain⟨ANS,HANS⟩:=kA (fs.contains b);rw[HANS.out]
 go_enter func240,ntmps240
 go_wp2
 go_loopg [5,8] n (fun gg _ s8 wr=>∃kk:Nat,kk<=n/\n - kk<=gg/\s8=I6 kk/\Xp (zc w wr)/\Xp (∀(j:Nat) q,j<kk->fs[j]? =Xa q->¬b=q))
 case atStart=>exact⟨0,nZ _,by omega,rfl,zc.refl w,fun j q hj=>absurd hj (nL _)⟩
 obtain⟨kk,hkk,hg,rfl,BW,A⟩:=hrel
 by_cases hlt:kk<n
 ·have hltz:=kC hlt
  obtain⟨q,HQ⟩:∃q,Xp (fs[kk]? =Xa q):=⟨_,gE (by rw[HN.out];exact hlt)⟩
  obtain⟨ad,rfl,hl⟩:=HR.out kk q HQ.out;have d0:=hl wr BW.out;clear hl
  by_cases hq:b=q
  ·have hqb:(b == q)=Xc:=by simpa using hq
   have HF:Xp (decide (0<=(kk:Int))=ANS):=dD<|by
    rw[<-HANS.out,hq,Yi.2 (mG HQ.out)];simp
   clear hq;go_wp2;go_ret;exact⟨⟨_,rfl,HF⟩,BW⟩
  have hqb:(b == q)=Xd:=by simpa using hq
  have HA:Xp (∀(j:Nat) q,j<kk+1->fs[j]? =Xa q->¬b=q):=dD<|fun j q' hj hq'=>by
   by_cases e:j=kk
   ·subst e;rw[HQ.out]at hq';cases hq';exact hq
   exact A j q' (by omega) hq'
  clear hq;go_wp2
  go_roundg (n -(kk+1))
  case measure=>omega
  exact⟨kk+1,by omega,by omega,by go_num,BW,HA⟩
 have hltz:=kD hlt
 have:kk=n:=by omega
 subst this;have HF:Xp (decide (0<=(-1:Int))=ANS):=dD<|by
  have:fs.contains b=Xd:=by
   cases hb:fs.contains b with
   | false=>rfl
   | true=>
    obtain⟨j,hj⟩:=Yk (Yi.1 hb);exact absurd rfl (A j b (by rw[<-HN.out];exact(gS.1 hj).1) hj)
  rw[<-HANS.out,this];rfl
 go_wp2;go_ret;exact⟨⟨_,rfl,HF⟩,BW⟩
theorem zcD (v:Xr) (fs:List Int) (b:Int) (w:Xo) (hv:zm blE w v fs):
  Xq prog 237 #[v,I6 b] w fun e w'=>e= Xl (Xh (fs.contains b))/\zc w w':=by
 have h1:=zfl v fs b w hv;obtain⟨a,c,rfl,_⟩:=hv.nums;clear hv
 generalize fs.contains b=ANS at h1⊢
 generalize fs.length=n at h1⊢
 go_enter func237,ntmps237
 go_wp2_with fail;refine h1.mono ?_;rintro e W1 ⟨⟨z,rfl,hz⟩,g1⟩;have G1:Xp (zc w W1):=g1;clear g1 h1;have HZ:Xp (decide (0<=z)=ANS):=hz;clear hz;go_wp2;go_ret;exact⟨by rw[<-HZ.out];rfl,G1⟩
theorem znf (f:Fl) (xa:Option Addr) (xc:Nat) (b:Int) (p:Nat) (w:Xo) (hb:Box w p [I6 b]) (hr:zm blE w (O xa f.bl.length xc) f.bl):
  Xq prog 236 #[Xi #[I6 f.size,O xa f.bl.length xc],Xj (Xa ⟨p,0,Xb⟩)] w fun e w'=>e= Xl (Xh (f.bl.contains b))/\zc w w':=by
 have h1:∀W,zc w W->Xq prog 237 #[O xa f.bl.length xc,I6 b] W fun e w'=>e= Xl (Xh (f.bl.contains b))/\zc W w':=fun W hW=>zcD _ f.bl b W (hr.grew hW)
 have hlt:=hb.lt;have hpne:p≠w.heap.size:=by omega
 have hpne':w.heap.size≠p:=by omega
 obtain⟨W0,hW0⟩:=kB (w.alloc (Xk #[I6 f.size,O xa f.bl.length xc] 84));have HG0:=gA hW0
 have c0:W0.cell? ⟨p,0,Xb⟩=Xa (I6 b):=(hb.grew HG0).c 0 rfl;have c1:(w.alloc (Xk #[I6 f.size,O xa f.bl.length xc] 84)).cell? ⟨p,0,Xb⟩=Xa (I6 b):=by rw[hW0];exact c0
 have HW0:Xp (_=W0):=hW0;clear hW0 hr hb
 generalize f.bl.contains b=ANS at h1⊢
 generalize f.bl.length=n at*
 generalize f.size=sz at*
 have c2:=World.cell?_of_block (w:=w) (w':=w.alloc (Xk #[I6 sz,O xa n xc] 84)) (a:=⟨p,0,Xb⟩) (Below.heap_alloc _ _ _ hlt);rw[c1]at c2;have c3:=c2.symm;clear c0 c1 c2
 go_enter func236,ntmps236
 go_wp2_with fail;rw[HW0.out];refine(h1 _ HG0).mono ?_;rintro e W1 ⟨rfl,g1⟩;have G1:=dD (HG0.trans g1);clear g1 h1;go_wp2;go_ret;exact⟨rfl,G1⟩
theorem zea (v:Xr) (fs:List Fl) (b:Int) (p:Nat) (w:Xo) (hb:Box w p [I6 b]) (hv:qh w v fs):
  Xq prog 241 #[v,.func (.func 236) #[] #[Xj (Xa ⟨p,0,Xb⟩)]] w fun e w'=>(∃z:Int,e= Xl (I6 z)/\decide (0<=z)=zV fs b)/\zc w w':=by
 obtain⟨a,c,rfl,hbig,hrow⟩:=hv.rows;have HR:Xp (Qv w a fs):=hrow;have HB:Xp (Box w p [I6 b]):=hb;have eg:=enters_of func236 (by kernel_rfl) rfl
 clear hrow hv hb;obtain⟨n,HN⟩:=kA fs.length;rw[HN.out]at hbig⊢;obtain⟨ANS,HANS⟩:=kA (zV fs b);rw[HANS.out]
 go_enter func241,ntmps241
 go_wp2
 go_loopg [5,8] n (fun gg _ s8 wr=>∃kk:Nat,kk<=n/\n - kk<=gg/\s8=I6 kk/\Xp (zc w wr)/\Xp (∀(j:Nat) (q:Fl),j<kk->fs[j]? =Xa q->q.bl.contains b=Xd))
 case atStart=>exact⟨0,nZ _,by omega,rfl,zc.refl w,fun j q hj=>absurd hj (nL _)⟩
 obtain⟨kk,hkk,hg,rfl,BW,A⟩:=hrel
 by_cases hlt:kk<n
 ·have hltz:=kC hlt
  obtain⟨q,HQ⟩:∃q,Xp (fs[kk]? =Xa q):=⟨_,gE (by rw[HN.out];exact hlt)⟩
  obtain⟨ad,rfl,xa,xc,hra,hl⟩:=HR.out kk q HQ.out;obtain⟨d0,d1⟩:=hl wr BW.out;have hcall:=znf q xa xc b p wr (HB.grew BW) (hra.grew BW);clear hl hra
  cases hq:q.bl.contains b with
  | true=>
   rw[hq]at hcall;have HF:Xp (decide (0<=(kk:Int))=ANS):=dD<|by
    rw[<-HANS.out];unfold zV;rw[znw HQ.out hq];simp
   clear hq;go_wp2_with fail;refine hcall.mono ?_;rintro e W2 ⟨rfl,g2⟩;have G2:=dD (BW.trans g2);clear g2 hcall;go_wp2;go_ret;exact⟨⟨_,rfl,HF⟩,G2⟩
  | false=>
   rw[hq]at hcall;have HA:Xp (∀(j:Nat) (q:Fl),j<kk+1->fs[j]? =Xa q->q.bl.contains b=Xd):=dD<|fun j q' hj hq'=>by
    by_cases e:j=kk
    ·subst e;rw[HQ.out]at hq';cases hq';exact hq
    exact A j q' (by omega) hq'
   clear hq;go_wp2_with fail;refine hcall.mono ?_;rintro e W2 ⟨rfl,g2⟩;have G2:=dD (BW.trans g2);clear g2 hcall;go_wp2
   go_roundg (n -(kk+1))
   case measure=>omega
   exact⟨kk+1,by omega,by omega,by go_num,G2,HA⟩
 have hltz:=kD hlt
 have:kk=n:=by omega
 subst this;have HF:Xp (decide (0<=(-1:Int))=ANS):=dD<|by
  rw[<-HANS.out];unfold zV;rw[znv (fun j q hj=>A.out j q (by rw[<-HN.out];exact(gS.1 hj).1) hj)]
  rfl
 go_wp2;go_ret;exact⟨⟨_,rfl,HF⟩,BW⟩
theorem zbw (v:Xr) (fs:List Fl) (b:Int) (p:Nat) (w:Xo) (hb:Box w p [I6 b]) (hv:qh w v fs):
  Xq prog 238 #[v,.func (.func 236) #[] #[Xj (Xa ⟨p,0,Xb⟩)]] w fun e w'=>e= Xl (Xh (zV fs b))/\zc w w':=by
 have h1:=zea v fs b p w hb hv;obtain⟨a,c,rfl,_⟩:=hv.rows;clear hv hb
 generalize zV fs b=ANS at h1⊢
 generalize fs.length=n at h1⊢
 go_enter func238,ntmps238
 go_wp2_with fail;refine h1.mono ?_;rintro e W1 ⟨⟨z,rfl,hz⟩,g1⟩;have G1:Xp (zc w W1):=g1;clear g1 h1;have HZ:Xp (decide (0<=z)=ANS):=hz;clear hz;go_wp2;go_ret;exact⟨by rw[<-HZ.out];rfl,G1⟩
def je (fs:List Fl) (k:Nat):List Int:=((List.range k).filter fun(b:Nat)=>!zV fs (b:Int)).map fun(b:Nat)=>(b:Int)
theorem zgw (fs:List Fl) (k:Nat):je fs (k+1)=if zV fs (k:Int)=Xc then je fs k else je fs k++ [(k:Int)]:=by
 unfold je;rw[List.range_succ,List.filter_append]
 cases h:zV fs (k:Int)with
 | true=>simp[h]
 | false=>simp[h]
theorem zin (fs:List Fl) (n:Nat):je fs n=(Zc fs (n:Int)).map fun(b:Nat)=>(b:Int):=by
 unfold je Zc;rw[tN]
theorem zim (fs:List Fl) (k:Nat):(je fs k).length<=k:=by
 unfold je;rw[List.length_map];exact nT (Yh _ _) (by simp)
theorem zhq (v:Xr) (fs:List Fl) (m:Nat) (hm:m<=80) (w:Xo) (hv:qh w v fs):
  Xq prog 226 #[Xi #[v,I6 (m:Int)]] w fun e w'=>∃b,e= Xl b/\zb blE (w.heap.size+1) w' b (je fs m)/\zc w w':=by
 have HV:Xp (qh w v fs):=hv;obtain⟨a,c,rfl,hbig,_⟩:=hv.rows;clear hv;obtain⟨n,HN⟩:=kA fs.length;rw[HN.out]at hbig HV⊢;have hmf:∀(fn:Fn) (first cap:Array Xr) (w:Xo),(Instr.makeFunc fn first cap).run prog w= .ok (.func fn first cap) w:=fun _ _ _ _=>rfl
 obtain⟨W0,hW0⟩:=kB (w.alloc (Xk #[O a n c,I6 (m:Int)] 37));have HG0:=gA hW0
 have X0:=xA hW0
 have HS0:=sA hW0
 have HW0:Xp (_=W0):=hW0;clear hW0
 go_enter func226,ntmps226
 go_wp2;rw[HW0.out]
 go_loopg [3,4,5,8] m (fun gg s3 _ _ s8 wr=>∃(kk:Nat) (xa:Option Addr) (xc:Nat),kk<=m/\m - kk<=gg/\s8=I6 kk/\s3= .slice xa (je fs kk).length xc/\Xp (zc W0 wr)/\Xp (zb blE (w.heap.size+1) wr (.slice xa (je fs kk).length xc) (je fs kk)))
 case atStart=>exact⟨0,Xb,0,nZ _,by omega,rfl,rfl,zc.refl _,zb.nil _ _ _⟩
 obtain⟨kk,xa,xc,hkk,hgg,rfl,rfl,BW,OW⟩:=hrel
 by_cases hlt:kk<m
 ·have hltz:=kC hlt
  obtain⟨W2,hW2⟩:=kB (wr.alloc (Xk #[I6 (kk:Int)] 3));have GA:=gA hW2
  have B2:=xA hW2
  have hcall:=zbw _ fs (kk:Int) wr.heap.size W2 B2 (HV.grew ((HG0.trans BW).trans GA));have O2:=dD (OW.grew GA);have HW2:Xp (_=W2):=hW2;have hst:=zgw fs kk;have HL:Xp ((je fs kk).length<=kk):=zim fs kk;clear hW2;go_upto_region 5 with fail;rw[HW2.out];have x0:=(X0.grew (BW.trans GA)).c 0 rfl;have x1:=(X0.grew (BW.trans GA)).c 1 rfl;have HB:Xp (wr.heap.size<W2.heap.size):=B2.lt;obtain⟨pb,hpb⟩:=kB wr.heap.size;rw[hpb]at hcall B2 HB⊢;clear hpb
  cases hu:zV fs (kk:Int)with
  | true=>
   rw[hu]at hcall hst;rw[kE rfl]at hst;have HST':Xp (je fs (kk+1)=je fs kk):=hst;clear hst hu;go_wp2_with fail;refine hcall.mono ?_;rintro e W3 ⟨rfl,g3⟩;have G3:=dD ((BW.trans GA).trans g3);have O3:Xp (zb blE (w.heap.size+1) W3 (.slice xa (je fs (kk+1)).length xc) (je fs (kk+1))):=show zb _ _ _ _ _ by rw[HST'.out];exact O2.grew g3
   have HEQ:Xp ((je fs (kk+1)).length=(je fs kk).length):=dD<|by rw[HST'.out]
   rw[<-HEQ.out];clear g3 hcall x0 x1;go_wp2
   go_roundg (m -(kk+1))
   case measure=>omega
   exact⟨kk+1,xa,xc,by omega,by omega,by go_num,rfl,G3,O3⟩
  | false=>
   rw[hu]at hcall hst;rw[kF (by decide)]at hst
   have HST':Xp (je fs (kk+1)=je fs kk++ [(kk:Int)]):=hst;clear hst hu;go_wp2_with fail;refine hcall.mono ?_;rintro e W3 ⟨rfl,g3⟩;have G3:=dD ((BW.trans GA).trans g3);have O3:=dD (O2.grew g3);have y0:=(B2.grew g3).c 0 rfl;clear g3 hcall x0 x1;have HSZ:Xp (w.heap.size+1<=W3.heap.size):=show _<=_ by
    have:=bS G3.out;rw[HS0.out]at this;exact this
   go_wp2_with (at_builtin;refine zw (E:=blE) rfl (.tmp 17) (.tmp 19) rfl (w.heap.size+1) _ (je fs kk) rfl (O3.grew (za _ _)) _ [(kk:Int)] rfl (jK blE W3 (kk:Int) _ _ rfl (by show 8<=_;omega)) ?qb ?qc ?_)
   case qb=>
    have:=HL.out
    show(_+1)*8<=_
    omega
   case qc=>simp;have:=HSZ.out;omega
   intro v4 W4 ow4 gr4;obtain⟨xa4,xc4,rfl⟩:=ow4.form;have O4:Xp (zb blE (w.heap.size+1) W4 (.slice xa4 (je fs (kk+1)).length xc4) (je fs (kk+1))):=dD<|by rw[HST'.out];exact ow4
   have G4:Xp (zc W0 W4):=dD<|zU (G3.trans (za _ _)) gr4 (fun g hg=>by
    have h1:=(O3.lt g hg).1;rw[HS0.out];exact h1)
   rw[<-HST'.out];clear ow4 gr4;go_wp2
   go_roundg (m -(kk+1))
   case measure=>omega
   exact⟨kk+1,xa4,xc4,by omega,by omega,by go_num,rfl,G4,O4⟩
 have hltz:=kD hlt
 have:kk=m:=by omega
 subst this;have GE:=dD (HG0.trans BW);go_wp2;go_ret;exact⟨_,rfl,OW,GE⟩
theorem zjR (n:Int) (w:Xo):
  Xq prog 125 #[I6 n] w fun e w'=>e= Xl (Xm #[Xi #[eS,I6 (if 0<=n/\n<=80 then n else 0)],I6 (if 0<=n/\n<=80 then 0 else 4)])/\zc w w':=by
 by_cases h:0<=n/\n<=80
 ·rw[kE h,kE h];have hb:=fun W=>Zn (m:=n) (n:=81) h.1 (by omega) W
  clear h
  go_enter func125,ntmps125
  go_wp2_with (go_at_call 170;refine(hb _).mono ?_;rintro e w' ⟨rfl,rfl⟩)
  refine bodyPost_ret (v:= Xm #[Xi #[eS,I6 n],I6 0]) (by simp[results,Tryz.results125,go_sem, *]) rfl ⟨rfl,?_⟩
  first | exact za _ _ | exact Below.setCell (Below.setCell (za _ _) (p:=⟨w.heap.size,0,Xb⟩) (by simp) _) (p:=⟨w.heap.size,1,Xb⟩) (by simp) _
 rw[kF h,kF h];have hb:=fun W=>zaI (m:=n) (n:=81) (by omega) W
 clear h
 go_enter func125,ntmps125
 go_wp2_with (go_at_call 170;refine(hb _).mono ?_;rintro e w' ⟨rfl,rfl⟩)
 refine bodyPost_ret (v:= Xm #[Xi #[eS,I6 0],I6 4]) (by simp[results,Tryz.results125,go_sem, *]) rfl ⟨rfl,?_⟩
 first | exact za _ _ | exact Below.setCell (Below.setCell (za _ _) (p:=⟨w.heap.size,0,Xb⟩) (by simp) _) (p:=⟨w.heap.size,1,Xb⟩) (by simp) _
def zk6 (fs:List Fl) (cnt k:Int):Int:=if stW fs cnt=0 then(if inL fs.length k=Xc then 0 else 5)else stW fs cnt
theorem zeA (v:Xr) (fs:List Fl) (cnt k:Int) (w:Xo) (hv:qh w v fs):
  Xq prog 225 #[Xi #[v,I6 cnt],I6 k] w fun e w'=>e= Xl (I6 (zk6 fs cnt k))/\zc w w':=by
 have h1:∀W,zc w W->Xq prog 155 #[Xi #[v,I6 cnt]] W fun e w'=>e= Xl (I6 (stW fs cnt))/\zc W w':=fun W hW=>zbJ v fs cnt W (hv.grew hW)
 obtain⟨a,c,rfl,hbig,_⟩:=hv.rows;clear hv;have HD:Xp (zk6 fs cnt k=if stW fs cnt=0 then(if inL fs.length k=Xc then 0 else 5)else stW fs cnt):=rfl;have hbel:∀W,Xq prog 170 #[I6 k,I6 (fs.length:Int)] W fun e w'=>e= Xl (Xh (inL fs.length k))/\w'=W:=fun W=>zcG k _ W
 generalize zk6 fs cnt k=Z at HD⊢
 generalize inL fs.length k=B at HD hbel
 generalize stW fs cnt=S at HD h1
 generalize fs.length=n at*
 obtain⟨W0,hW0⟩:=kB (w.alloc (Xk #[O a n c,I6 cnt] 37));have HG0:=gA hW0
 have X0:=xA hW0
 have HW0:Xp (_=W0):=hW0;clear hW0
 by_cases hs:S=0
 ·rw[kE hs]at HD;subst hs
  cases B with
  | true=>
   rw[kE rfl]at HD
   go_enter func225,ntmps225
   go_wp2_with fail;rw[HW0.out];refine(h1 _ HG0).mono ?_;rintro e W1 ⟨rfl,g1⟩;have G1:=dD (HG0.trans g1);have x0:=(X0.grew g1).c 0 rfl;clear g1 h1
   go_wp2_with (go_at_call 170;refine(hbel _).mono ?_;rintro e w' ⟨rfl,rfl⟩)
   go_ret;exact⟨by rw[HD.out];rfl,G1⟩
  | false=>
   rw[kF (by decide)]at HD
   go_enter func225,ntmps225
   go_wp2_with fail;rw[HW0.out];refine(h1 _ HG0).mono ?_;rintro e W1 ⟨rfl,g1⟩;have G1:=dD (HG0.trans g1);have x0:=(X0.grew g1).c 0 rfl;clear g1 h1
   go_wp2_with (go_at_call 170;refine(hbel _).mono ?_;rintro e w' ⟨rfl,rfl⟩)
   go_ret;exact⟨by rw[HD.out];rfl,G1⟩
 rw[kF hs]at HD;have hzb:(S != 0)=Xc:=by simpa using hs
 go_enter func225,ntmps225
 go_wp2_with fail;rw[HW0.out];refine(h1 _ HG0).mono ?_;rintro e W1 ⟨rfl,g1⟩;have G1:=dD (HG0.trans g1);clear g1 h1;go_wp2;go_ret;exact⟨by rw[HD.out];rfl,G1⟩
def zib (n:Int):Int:=if 0<=n/\n<=60 then 0 else 4
def zjS (n:Int):List Int:=if 0<=n/\n<=60 then Xs n.toNat 0 else []
theorem zie (n:Int) (w:Xo):Xq prog 122 #[I6 n] w fun e w'=>∃s:Sli,e= Xl (Xm #[Xi #[s.x,I6 0],I6 (zif n)])/\(zm Qj w' (s.x) (zjT n)/\jn w.heap.size (s.x))/\zc w w':=by
 by_cases h:0<=n/\n<=40
 ·obtain⟨k,rfl⟩:∃k:Nat,n=(k:Int):=⟨n.toNat,by omega⟩
  refine(zic k (by omega) w).mono ?_
  rintro e w' ⟨b,rfl,h1,h2⟩;obtain⟨a,c,rfl,_⟩:=h1.1.rows;refine⟨⟨a,(Xs k frF).length,c⟩,?_,⟨?_,h1.2⟩,h2⟩
  ·unfold zif;rw[kE h]
  unfold zjT;rw[kE h];exact h1.1
 refine(zid n h w).mono ?_;rintro e w' ⟨b,rfl,h1,h2⟩;obtain⟨a,c,rfl,_⟩:=h1.1.rows;refine⟨⟨a,([]:List Fr).length,c⟩,?_,⟨?_,h1.2⟩,h2⟩
 ·unfold zif;rw[kF h]
 unfold zjT;rw[kF h];exact h1.1
theorem zlE (n:Int) (w:Xo):Xq prog 123 #[I6 n] w fun e w'=>∃s:Sli,e= Xl (Xm #[s.x,I6 (zib n)])/\(zm slE w' (s.x) (zjS n)/\jn w.heap.size (s.x))/\zc w w':=by
 by_cases h:0<=n/\n<=60
 ·obtain⟨k,rfl⟩:∃k:Nat,n=(k:Int):=⟨n.toNat,by omega⟩
  refine(zlC k (by omega) w).mono ?_
  rintro e w' ⟨a,c,rfl,h1,h2⟩;refine⟨⟨a,k,c⟩,?_,⟨?_,h1.2⟩,h2⟩
  ·unfold zib;rw[kE h]
  unfold zjS;rw[kE h];exact h1.1
 refine(zlD n h w).mono ?_;rintro e w' ⟨rfl,h2⟩;refine⟨⟨Xb,0,0⟩,?_,⟨?_,j3 _⟩,h2⟩
 ·unfold zib;rw[kF h]
 unfold zjS;rw[kF h];exact zm.nil slE w'
theorem zfb (n:Int) (w:Xo):Xq prog 124 #[I6 n] w fun e w'=>∃b q:Sli,e= Xl (Xm #[Xi #[b.x,q.x],I6 (QT n)])/\(qK w' (b.x) (zhm n)/\qH w' (q.x) []/\jn w.heap.size (b.x)/\jn w.heap.size (q.x))/\zc w w':=by
 refine(zm5 n w).mono ?_;rintro e w' ⟨d,rfl,⟨b,q,rfl,h1,h2,f1,f2⟩,h3⟩;obtain⟨a,c,rfl,_⟩:=h1.rows;obtain⟨a',c',rfl,_⟩:=h2.rows;exact⟨⟨a,(zhm n).length,c⟩,⟨a',([]:List (Int × List Int)).length,c'⟩,rfl,⟨h1,h2,f1,f2⟩,h3⟩
theorem jv.beside {α:Type} {enc:α->List Xr} {w:Xo} {row:Option Nat} {v:Xr} {l:List α} (h:jv enc w v l) (hg:w.grownBy w' row) (hn:∀x n c,v= O (Xa x) n c->Xa x.block≠row):jv enc w' v l:=by
 obtain⟨a,c,h1,h2,h3⟩:=h;refine⟨a,c,h1,h2,fun x hx j u hj=>?_⟩
 subst hx;have hc:=h3 x rfl j u hj;rw[World.cell?_of_block (w:=w) (hg.block _ (World.block_lt_of_cell? _ _ hc) (by rw[Qu];exact hn x _ _ h1))]
 exact hc
def zmL (f s b:Int):Prop:=(0<=f/\f<=40)/\(0<=s/\s<=60)/\(0<=b/\b<=80)
def zaV (f s b:Int):Ma:=⟨Xs f.toNat frF,0,Xs s.toNat 0,Xs s.toNat zx,[],Xs b.toNat zx,[],[],b,[],[⟨Xc,[],qL⟩]⟩
def zlG (f s b:Int):List Int:=[zif f,zib s,QT s,QT b,if 0<=b/\b<=80 then 0 else 4]
theorem zjU {f b:Int} (h:zmL f s b):zu (zlG f s b)=0:=by
 obtain⟨h1,h2,h3⟩:=h;unfold zlG zif zib QT;rw[kE h1,kE h2,kE (by omega),kE h3]
 rfl
theorem zan {fn:Func} {p u t:Tmp} {ty:TypeId} (h:fn.results=#[.cell p ty,.tmp u,.tmp t]) (tmps:Array Xr) {w:Xo} (hp:tmps.getD p undef= Xj (Xa ⟨b,0,Xb⟩)) (hb:Box w b vs) {d:TypeDesc} (hu:Tryz.prog.underlying ty=Xa d) (hd:d.isRow=Xc) (hi:(Tryz.prog.info? ty).map (·.size)=Xa vs.length):
  (results fn tmps).run prog w= .ok (Xm #[Xi vs.toArray,tmps.getD u undef,tmps.getD t undef]) w:=by
 have hp':tmps[p]?.getD undef= Xj (Xa ⟨b,0,Xb⟩):=by simpa using hp
 have hld:=run_loadVar_mid (P:=prog) w b 0 ty vs d hb.range hu hd hi
 simp[results,h,hp',asAddr,hld]
theorem zkH {l:List Int} {n:Int} {k:Nat} (h:(k:Int)<=n\/k=0):ZC l 0 n k=l:=by
 unfold ZC
 apply Yq
 intro i;rw[List.getElem?_mapIdx]
 cases l[i]? with
 | none=>rfl
 | some z=>
  simp only[Option.map_some];rw[kF (by omega)]
theorem zkI (l:List Int) (idx size:Int):Qr l 0 (size - idx*8)=Qr l idx size:=by
 unfold Qr
 congr 1
 funext i z
 by_cases h:size<=8*idx+(i:Int)
 ·rw[kE h,kE (by omega)]
 rw[kF h,kF (by omega)]
theorem zb4 (l:List Int) (n:Int) (w:Xo) (hl:l.length=8) (h1:-9223372036854775808<=n) (h2:n<=9223372036854775807):
  Xq prog 200 #[Xi (pgc l).toArray,I6 n] w fun e w'=>e= Xl (Xi (pgc (Qr l 0 n)).toArray)/\(Qr l 0 n).length=8/\zc w w':=by
 have HL:Xp (l.length=8):=hl;have HC8:Xp ((Qr l 0 n).length=8):=show _=_ by unfold Qr;simp[hl]
 obtain⟨W0,hW0⟩:=kB ((w.alloc (Xk (pgc l).toArray 44)).alloc (Xk #[U8 0,U8 0,U8 0,U8 0,U8 0,U8 0,U8 0,U8 0] 44));have G0:=gD2 hW0
 have X0:=x2a hW0
 have Y0:Xp (Box W0 (w.heap.size+1) (pgc zx)):=dD<|by rw[<-hW0];exact Box.top _ (pgc zx) _ (by simp)
 have HW0:Xp (_=W0):=hW0;have XB:Xp (Box W0 w.heap.size (pgc (ZC l 0 n n.toNat))):=show Box _ _ _ by rw[zkH (by omega)];exact X0.out
 obtain⟨CL,HCL⟩:=kA (Qr l 0 n);rw[HCL.out]at HC8⊢;clear hW0 hl
 go_enter func200,ntmps200
 go_upto_region 1 with fail;rw[HW0.out];go_wp2
 all_goals
  go_loopg [5] 8 (fun gg s5 wr=>∃k:Nat,n<=(k:Int)/\(k:Int)<=9223372036854775807/\8 - k<=gg/\s5=I6 k/\Xp (zc w wr)/\Xp (Box wr w.heap.size (pgc (ZC l 0 n k)))/\Xp (Box wr (w.heap.size+1) (pgc zx)))
  case atStart=>
   exact⟨n.toNat,by omega,by omega,by omega,(by first | rw[Int.toNat_eq_max] | (congr 1;omega) | (congr 1;rw[Int.max_def];split <;> omega) | (congr 1;split <;> omega)),G0,XB,Y0⟩
  obtain⟨k,hk,hk2,hg,rfl,GW,XW,YW⟩:=hrel
  by_cases hlt:k<8
  ·have hltz:(k:Int)<8:=by omega
   obtain⟨z,hz⟩:∃z,(ZC l 0 n k)[k]? =Xa z:=⟨_,gE (by rw[zfF,HL.out];exact hlt)⟩
   have z0:=XW.c k (ze0 hz);have zf:=XW.f;clear hz;go_wp2;obtain⟨W1,hW1⟩:=kB (wr.setCell ⟨w.heap.size,k,Xb⟩ (U8 0));have X1:Xp (Box W1 w.heap.size (pgc (ZC l 0 n (k+1)))):=dD<|by rw[<-hW1,<-zfG (by rw[HL.out];exact hlt) (by omega),zb3];exact XW.set k _
   have Y1:Xp (Box W1 (w.heap.size+1) (pgc zx)):=dD<|by rw[<-hW1];exact YW.other (by simp) _
   have G1:Xp (zc w W1):=dD<|by rw[<-hW1];exact zz GW (by simp) _
   rw[hW1];clear hW1 z0 zf
   go_roundg (8 -(k+1))
   case measure=>omega
   exact⟨k+1,by omega,by omega,by omega,by go_num,G1,X1,Y1⟩
  have hltz:¬(k:Int)<8:=by omega
  have HCE:Xp (ZC l 0 n k=CL):=dD<|by rw[zfH (by rw[HL.out];omega),HCL.out]
  rw[HCE.out]at XW
  go_wp2_with (first | refine zR rfl 44 (.tmp 2) rfl w.heap.size rfl XW underlying44 rfl (by rw[Zs,HC8.out];exact zoI) ?_ | refine zK rfl 44 (.tmp 4) (.tmp 14) rfl (w.heap.size+1) rfl (pgc CL) rfl YW (by rw[Zs,HC8.out];rfl) zoI (Zr _) ?_)
  intro WL hbL hgL _;have HGL:Xp (zc w WL):=dD<|ze GW hgL (by omega)
  go_wp2;refine bodyPost_ret (zZ rfl _ rfl hbL underlying44 rfl (by rw[Zs,HC8.out];exact zoI)) rfl ⟨rfl,HC8,HGL⟩
end
end Go.Proofs.YtacihbmelcegbaaGreat
