import Derived.Test.YtmfckdkcmbncdaaGreatCC1
import Derived.Shelf.Bits.Mul64
namespace Go.Proofs.YtmfckdkcmbncdaaGreat
open Go.Value renaming slice→O,int→Xe,bool→Xh,agg→Xi,pointer→Xj,tuple→Xm
open Go.IntKind renaming i64→Xf,u8→Xg
open Go.Obj renaming cells→Xk
open Go.Ending renaming returned→Xl
open Go renaming World→Xn,Calls→Xp,Value→Xq
open Go.RowKit renaming Hid→Xo
open Option renaming some→Xa,none→Xb
open Bool renaming true→Xc,false→Xd
open List renaming replicate→Xr
open _root_.Nat renaming lt_of_lt_of_le→Xs,min_eq_left→Yb,mul_le_mul_right→Yf,min→Yq,le_of_ble_eq_true→Yz
open _root_.List renaming flatMap_append→Xt,take_of_length_le→Xu,replicate_append_replicate→Xw,getElem?_append_left→Xx,take→Xy,drop→Xz,drop_replicate→Ya,countP_le_length→Yd,any_eq_true→Ye,take_append_of_le_length→Yg,mem_map→Yh,take_zero→Yi,ext_getElem?→Yj,length→Yk,getElem?_map→Yl,length_cons→Yn,length_take→Yo,map_nil→Yp,drop_of_length_le→Yr,length_map→Yt,append_nil→Yu,length_set→Yv,length_filter_le→Yw,take_append_drop→Yx,contains_iff_mem→Yy,mem_range→Oa,getElem?_of_mem→Ob,mem_map_of_mem→Od,mem_singleton→Oe,pairwise_cons→Of,range→Oh,mem_replicate→Oi,append_assoc→Ok
open Go.Addr renaming add_lit→Xv
open Go.Sem renaming run_bind→Yc
open Go.Act renaming put→Ym
open _root_.Bool renaming eq_iff_iff→Ys,not_eq_true'→Ol
open _root_.Array renaming toList_modify→Oc,forIn_toList→Og,toList_push→Oj
set_option maxRecDepth 100000
set_option maxHeartbeats 4000000
variable{B b cl fi g ix j:Nat} {Q:Exit->Act->Xn->Prop} {T:List (Nat->En)} {V:MaV} {W w' w0 w1 w2:Xn} {l:List Ar} {m:Ma} {o:Oper} {ops:Array Oper} {t:TypeId} {us vs xs:List Xq} {z:Int}
open Go.Proofs.Tryz
section
open Go.RowKit
structure zav where
 ty:TypeId
 enc:Int × Int->Xq
 bV:∃fs,Tryz.prog.underlying ty=Xa (.struct fs)
 check:∀(em:Bool) (a:Int × Int) (w:Xn),(Instr.checkKey em 10000 ty (enc a)).run prog w= .ok () w
 same:∀(a b:Int × Int) (w:Xn),(Op.equal ty (enc a) (enc b)).run prog w= .ok (decide (a=b)) w
 bits:∀a:Int × Int,Instr.sameBits 10000 (enc a) (enc a)=Xc
def zax:List ((Int × Int) × Int)->Int × Int->Option Int
 | [],_=>Xb
 | p :: l,k=>if k=p.1 then Xa p.2 else zax l k
def zdP:List ((Int × Int) × Int)->Int × Int->Nat->Option (Nat × Xq)
 | [],_,_=>Xb
 | p :: l,k,i=>if k=p.1 then Xa (i,Xe Xf p.2)else zdP l k (i+1)
def zit:List ((Int × Int) × Int)->Int × Int->Int->List ((Int × Int) × Int)
 | [],k,v=>[(k,v)]
 | p :: l,k,v=>if k=p.1 then(k,v) :: l else p :: zit l k v
theorem zbv:∀(l:List ((Int × Int) × Int)) (k x:Int × Int) (v:Int),zax (zit l k v) x=if x=k then Xa v else zax l x
 | [],k,x,v=>by simp[zit,zax]
 | p :: l,k,x,v=>by
  unfold zit
  by_cases h:k=p.1
  ·rw[kE h];unfold zax
   by_cases a:x=k
   ·simp[a]
   have b:¬x=p.1:=fun e=>a (e.trans h.symm)
   simp[a,b]
  rw[kF h];unfold zax;rw[zbv l]
  by_cases a:x=p.1
  ·rw[kE a,kE a,kF (fun e=>h (e.symm.trans a))]
  rw[kF a,kF a]
theorem zaq:∀{l:List ((Int × Int) × Int)} {k:Int × Int} {i:Nat},zdP l k i=Xb->zax l k=Xb/\∀v,zit l k v=l++ [(k,v)]
 | [],k,i,_=>⟨rfl,fun v=>rfl⟩
 | p :: l,k,i,h=>by
  unfold zdP at h
  by_cases e:k=p.1
  ·rw[kE e]at h;cases h
  rw[kF e]at h;obtain⟨a,b⟩:=zaq h;refine⟨by unfold zax;rw[kF e,a],fun v=>?_⟩
  unfold zit;rw[kF e,b];rfl
theorem zap:∀{l:List ((Int × Int) × Int)} {k:Int × Int} {i j:Nat} {u:Xq},zdP l k i=Xa (j,u)->∃n z,u=I6 z/\j=i+n/\l[n]? =Xa (k,z)/\zax l k=Xa z/\∀v,zit l k v=l.set n (k,v)
 | [],k,i,j,u,h=>by cases h
 | p :: l,k,i,j,u,h=>by
  unfold zdP at h
  by_cases e:k=p.1
  ·rw[kE e]at h;cases h;refine⟨0,p.2,rfl,rfl,Rr e,by unfold zax;rw[kE e],fun v=>?_⟩
   unfold zit;rw[kE e];rfl
  rw[kF e]at h;obtain⟨n,z,a,b,b,c,d⟩:=zap h;refine⟨n+1,z,a,Wm,Si b,by unfold zax;rw[kF e,c],fun v=>?_⟩
  unfold zit;rw[kF e,d];rfl
def Zw (K:zav) (w:Xn) (b:Nat) (g:Int × Int->Option Int):Prop:=
 ∃es clock l,w.heap[b]? =Xa (.map es clock)/\(es.toList.map (fun e=>(e.key,e.val))=l.map (fun p:(Int × Int) × Int=>(K.enc p.1,Value.int .i64 p.2))/\(es.toList.map (·.born)).Pairwise (·< ·)/\∀e∈es.toList,e.born<clock)/\∀k,zax l k=g k
theorem Zw.lt {K:zav} {w:Xn} {g:Int × Int->Option Int} (h:Zw K w b g):b<w.heap.size:=by
 obtain⟨a,c,l,a,_⟩:=h;exact(aS.1 a).1
theorem Zw.made (K:zav) (w:Xn):Zw K (w.alloc (.map #[] 0)) w.heap.size (fun _=>Xb):=⟨#[],0,[],by
 show(w.heap.push _)[w.heap.size]? =_
 simp,⟨rfl,List.Pairwise.nil,fun e a=>by cases a⟩,fun k=>rfl⟩
theorem Zw.aA {K:zav} {w:Xn} {g:Int × Int->Option Int} (h:Zw K w b g) (i:zc w w'):Zw K w' b g:=by
 have a:=h.lt;obtain⟨d,c,l,e,f⟩:=h;exact⟨d,c,l,(Below.block i b a).trans e,f⟩
theorem Zw.kept {K:zav} {w:Xn} {g:Int × Int->Option Int} {a:Option Nat} (h:Zw K w b g) (j:w.grownBy w' a) (c:Xa b≠a):Zw K w' b g:=by
 have a:=h.lt;obtain⟨e,d,l,f,i⟩:=h;exact⟨e,d,l,(j.block b a c).trans f,i⟩
theorem Zw.congr {K:zav} {w:Xn} {g a:Int × Int->Option Int} (h:Zw K w b g) (e:∀k,g k=a k):Zw K w b a:=by
 obtain⟨a,c,l,d,f,i⟩:=h;exact⟨a,c,l,d,f,fun k=>(i k).trans (e k)⟩
theorem zaE (K:zav) (k:Int × Int) (w):∀(l:List ((Int × Int) × Int)) (a:List MapEntry) (i:Nat),a.map (fun e=>(e.key,e.val))=l.map (fun p=>(K.enc p.1,I6 p.2))->(Instr.findAsking K.ty (K.enc k) a i).run prog w= .ok (zdP l k i) w
 | [],[],i,_=>rfl
 | [],e :: a,i,h=>by simp at h
 | p :: l,[],i,h=>by simp at h
 | p :: l,e :: a,i,h=>by
  simp only[mP,List.cons.injEq,pJ]at h;obtain⟨⟨b,c⟩,d⟩:=h;unfold Instr.findAsking zdP;simp only[Yc,b,K.same,rA]
  by_cases b:k=p.1
  ·simp[b,c]
  simp[b,zaE K k w l a (i+1) d]
theorem zaQ (K:zav) (k:Int × Int) (w) (l:List ((Int × Int) × Int)) (a:List MapEntry) (h:a.map (fun e=>(e.key,e.val))=l.map (fun p=>(K.enc p.1,I6 p.2))):(Instr.findKey K.ty (K.enc k) a).run prog w= .ok (zdP l k 0) w:=by
 obtain⟨b,c⟩:=K.bV;unfold Instr.findKey;simp only[Yc,run_underlying c,rA]
 cases a with
 | nil=>
  cases l with
  | nil=>rfl
  | cons p l=>simp at h
 | cons e a=>
  have:Instr.findNow (.struct b) (K.enc k) (e :: a) 0=Xb:=by simp[Instr.findNow,Instr.sameNow]
  rw[this];exact zaE K k w l (e :: a) 0 h
theorem Zw.look {K:zav} {w:Xn} {g:Int × Int->Option Int} (a:Zw K w b g) {e:TypeId} (j:Tryz.prog.underlying t=Xa (.map K.ty e)) (m:(zeroValue e).run prog w= .ok (I6 0) w) (k:Int × Int) (c:Bool):
  (Instr.lookup t (.map (Xa b)) (K.enc k) c).run prog w= .ok (if c then Xm #[I6 ((g k).getD 0),Xh (g k).isSome]else I6 ((g k).getD 0)) w:=by
 obtain⟨d,f,l,f,⟨i,_⟩,h⟩:=a;have a:=zaQ K k w l d.toList i;unfold Instr.lookup
 cases d:zdP l k 0 with
 | none=>
  rw[d]at a;have:=(zaq d).1;rw[h k]at this
  cases c <;> simp[run_underlying j,MapKept.run_getObj_map f,K.check,a,m,this]
 | some q=>
  obtain⟨i,u⟩:=q;rw[d]at a;obtain⟨n,z,rfl,_,_,i,_⟩:=zap d;rw[h k]at i
  cases c <;> simp[run_underlying j,MapKept.run_getObj_map f,K.check,a,i]
theorem zdu (f:MapEntry->MapEntry) (b:∀e,(f e).born=e.born):∀(a:List MapEntry) (n:Nat),(a.modify n f).map (·.born)=a.map (·.born)
 | [],n=>Sm
 | e :: a,0=>by simp[b]
 | e :: a,n+1=>by simp[zdu f b a n]
structure Zv (K:zav) (es:Array MapEntry) (cl:Nat) (l:List ((Int × Int) × Int)):Prop where
 cC:es.toList.map (fun e=>(e.key,e.val))=l.map (fun p=>(K.enc p.1,Value.int .i64 p.2))
 rise:(es.toList.map (·.born)).Pairwise (·< ·)
 low:∀e∈es.toList,e.born<cl
theorem Zv.push {K:zav} {a:Array MapEntry} {l:List ((Int × Int) × Int)} (h:Zv K a cl l) (k:Int × Int) (v:Int):Zv K (a.push ⟨K.enc k,I6 v,cl⟩) (cl+1) (l++ [(k,v)]):=by
 refine⟨by simp[h.cC],?_,fun e a=>?_⟩
 ·simp only[Oj,List.map_append,mP,Yp];rw[List.pairwise_append];refine⟨h.rise,Sm,fun b c b b=>?_⟩
  obtain⟨e,a,rfl⟩:=Yh.1 c
  simp at b
  rw[b];exact h.low e a
 simp only[Oj,List.mem_append,Oe]at a
 rcases a with a|rfl
 ·have:=h.low e a;omega
 simp
theorem Zv.modify {K:zav} {a:Array MapEntry} {l:List ((Int × Int) × Int)} (h:Zv K a cl l) {n:Nat} {k:Int × Int} (d:l[n]? =Xa (k,z)) (f:MapEntry->MapEntry) (v:Int) (c:∀e,(f e).born=e.born) (b:∀e,e.key=K.enc k->e.val=I6 z->(f e).key=K.enc k/\(f e).val=I6 v):Zv K (a.modify n f) cl (l.set n (k,v)):=by
 have b:(a.modify n f).toList.map (·.born)=a.toList.map (·.born):=by rw[Oc];exact zdu f c a.toList n
 refine⟨?_,Rx b h.rise,fun e c=>?_⟩
 ·have d:=h.cC;rw[Oc]
  apply Yj
  intro j;have g:=congrArg (fun(x:List (Xq × Xq))=>x[j]?) d
  grind
 have:e.born∈a.toList.map (·.born):=by rw[<-b];exact Yh.2 ⟨e,c,rfl⟩
 obtain⟨b,a,c⟩:=Yh.1 this;rw[<-c];exact h.low b a
theorem Zv.at {K:zav} {b:Array MapEntry} {l:List ((Int × Int) × Int)} (h:Zv K b cl l) {n:Nat} {k:Int × Int} (a:l[n]? =Xa (k,z)):∃a,b[n]? =Xa a/\a.key=K.enc k/\a.val=I6 z:=by
 have:=congrArg (fun(x:List (Xq × Xq))=>x[n]?) h.cC
 grind
theorem zkl:∀{l:List Nat},l.Pairwise (·< ·)->∀{i j:Nat} {x:Nat},l[i]? =Xa x->l[j]? =Xa x->i=j
 | [],_,i,j,x,h,_=>by simp at h
 | a :: l,hp,i,j,x,h,b=>by
  rw[Of]at hp
  cases i with
  | zero=>
   cases j with
   | zero=>rfl
   | succ j=>
    simp at h b
    subst h;have:=hp.1 a (mG b);omega
  | succ i=>
   cases j with
   | zero=>
    simp at h b
    subst b;have:=hp.1 a (mG h);omega
   | succ j=>
    simp at h b
    rw[zkl hp.2 h b]
theorem zdw {K:zav} {w:Xn} {f c:Array MapEntry} {a:Nat} {l:List ((Int × Int) × Int)} {g:Int × Int->Option Int} {k:Int × Int} {v:Int} (e:w.heap[b]? =Xa (.map f cl)) (h:∀k,zax l k=g k) (d:Zv K c a (zit l k v)):
  Zw K (ChangeMaps.setBlock w b (.map c a)) b (fun x=>if x=k then Xa v else g x)/\w.grownBy (ChangeMaps.setBlock w b (.map c a)) (Xa b)/\(ChangeMaps.setBlock w b (.map c a)).heap.size=w.heap.size:=by
 refine⟨⟨c,a,zit l k v,ChangeMaps.heap_setBlock_same e _,⟨d.cC,d.rise,d.low⟩,fun x=>?_⟩,⟨rfl,rfl,rfl,by simp[ChangeMaps.setBlock],fun i _ a=>ChangeMaps.heap_setBlock_other e _ (fun e=>a (by rw[e]))⟩,by simp[ChangeMaps.setBlock]⟩
 rw[zbv,h]
theorem Zw.put {K:zav} {w:Xn} {g:Int × Int->Option Int} (a:Zw K w b g) {e:TypeId} (n:Tryz.prog.underlying t=Xa (.map K.ty e)) (k:Int × Int) (v:Int):
  ∃w',(Instr.mapUpdate t (.map (Xa b)) (K.enc k) (I6 v)).run prog w= .ok () w'/\Zw K w' b (fun x=>if x=k then Xa v else g x)/\w.grownBy w' (Xa b)/\w'.heap.size=w.heap.size:=by
 obtain⟨i,h,l,c,⟨f,d,j⟩,m⟩:=a;have a:Zv K i h l:=⟨f,d,j⟩;have d:=zaQ K k w l i.toList f
 cases j:zdP l k 0 with
 | none=>
  rw[j]at d;have f:=(zaq j).2 v;refine⟨ChangeMaps.setBlock w b (.map (i.push ⟨K.enc k,I6 v,h⟩) (h+1)),?_,zdw c m (Rx f (a.push k v))⟩
  simp[Instr.mapUpdate,run_underlying n,MapKept.run_getObj_map c,K.check,d,MapKept.run_setObj_map _ c,ChangeMaps.setBlock]
 | some q=>
  obtain⟨f,u⟩:=q;rw[j]at d;obtain⟨q,z,rfl,rfl,l,_,p⟩:=zap j;rw[zA]at d;obtain⟨f,f,j,_⟩:=a.at l;refine⟨ChangeMaps.setBlock w b (.map (i.modify q fun e=>{ e with key:=K.enc k,val:=I6 v }) h),?_,zdw c m (by rw[p];exact a.modify l _ v (fun _=>rfl) (fun _ _ _=>⟨rfl,rfl⟩))⟩
  simp[Instr.mapUpdate,run_underlying n,MapKept.run_getObj_map c,K.check,d,f,j,Instr.keyThatStays,K.bits,MapKept.run_setObj_map _ c,ChangeMaps.setBlock]
def zsa (K:zav) (w:Xn) (b:Nat) (g:Int × Int->Option Int) (k:Int × Int) (st:Int):Prop:=
 ∃es cl l,w.heap[b]? =Xa (.map es cl)/\Zv K es cl l/\(∀k,zax l k=g k)/\∃(n:Nat) (z:Int) (e:MapEntry),l[n]? =Xa (k,z)/\(∀v,zit l k v=l.set n (k,v))/\es[n]? =Xa e/\(e.born:Int)=st
theorem zsa.f {K:zav} {w:Xn} {g:Int × Int->Option Int} {k:Int × Int} {a:Int} (h:zsa K w b g k a):Zw K w b g:=by
 obtain⟨d,c,l,e,a,f,_⟩:=h;exact⟨d,c,l,e,⟨a.cC,a.rise,a.low⟩,f⟩
theorem zgU:∀{l:List ((Int × Int) × Int)} {k:Int × Int} (z v:Int),zax l k=Xb->zit (l++ [(k,z)]) k v=(l++ [(k,z)]).set l.length (k,v)
 | [],k,z,v,_=>by simp[zit]
 | p :: l,k,z,v,h=>by
  unfold zax at h
  by_cases e:k=p.1
  ·rw[kE e]at h;cases h
  rw[kF e]at h;simp only[List.cons_append,zit,e,if_false,Yn,sS];rw[zgU z v h]
theorem Zw.entry {K:zav} {w:Xn} {g:Int × Int->Option Int} (h:Zw K w b g) {e:TypeId} (A:Tryz.prog.underlying t=Xa (.map K.ty e)) (s:(zeroValue e).run prog w= .ok (I6 0) w) (k:Int × Int):
  ∃w' a,(Instr.mapEntry t (.map (Xa b)) (K.enc k)).run prog w= .ok (Xm #[I6 ((g k).getD 0),I6 a]) w'/\zsa K w' b (fun x=>if x=k then Xa ((g k).getD 0)else g x) k a/\w.grownBy w' (Xa b)/\w'.heap.size=w.heap.size:=by
 obtain⟨i,f,l,c,⟨r,a,d⟩,j⟩:=h;have h:Zv K i f l:=⟨r,a,d⟩;have m:=zaQ K k w l i.toList r
 cases q:zdP l k 0 with
 | none=>
  rw[q]at m;obtain⟨p,d⟩:=zaq q;have n:g k=Xb:=Ry j p
  have a:=h.push k 0;have u:=zdw c j (k:=k) (v:=0) (Rx d a)
  refine⟨ChangeMaps.setBlock w b (.map (i.push ⟨K.enc k,I6 0,f⟩) (f+1)),f,?_,⟨_,_,_,ChangeMaps.heap_setBlock_same c _,a,fun x=>?_,l.length,0,⟨K.enc k,I6 0,f⟩,Sm,fun B=>zgU 0 B p,?_,rfl⟩,u.2⟩
  ·rw[n]
   simp[Instr.mapEntry,run_underlying A,MapKept.run_getObj_map c,K.check,m,s,MapKept.run_setObj_map _ c,ChangeMaps.setBlock,goInt]
  ·rw[n,<-d,zbv,j];rfl
  have:i.size=l.length:=by have:=congrArg Yk r;simpa using this
  simp[<-this]
 | some d=>
  obtain⟨p,p⟩:=d;rw[q]at m;obtain⟨r,z,rfl,rfl,p,C,s⟩:=zap q;rw[zA]at m;obtain⟨y,d,q,D⟩:=h.at p;have n:g k=Xa z:=Ry j C
  have a:Zv K (i.modify r fun e=>{ e with key:=K.enc k }) f (l.set r (k,z)):=h.modify p (fun e=>{ e with key:=K.enc k }) z (fun _=>rfl) (fun _ _ h=>⟨rfl,h⟩)
  have u:=zdw c j (k:=k) (v:=z) (Rx s a)
  have h:=(gS.1 p).1;refine⟨ChangeMaps.setBlock w b (.map (i.modify r fun e=>{ e with key:=K.enc k }) f),y.born,?_,⟨_,_,_,ChangeMaps.heap_setBlock_same c _,a,fun x=>?_,r,z,{ y with key:=K.enc k },sF h,fun B=>?_,?_,rfl⟩,u.2⟩
  ·rw[n]
   simp[Instr.mapEntry,run_underlying A,MapKept.run_getObj_map c,K.check,m,d,q,Instr.keyThatStays,K.bits,MapKept.run_setObj_map _ c,ChangeMaps.setBlock,goInt]
  ·rw[n,<-s,zbv,j];rfl
  ·rw[zo9 p,s]
  rw[Array.getElem?_modify,kE rfl,d];rfl
theorem zsa.store {K:zav} {w:Xn} {g:Int × Int->Option Int} {k:Int × Int} {a:Int} (h:zsa K w b g k a) (t) (v:Int):
  ∃w',(Instr.entryStore t (.map (Xa b)) (I6 a) (I6 v)).run prog w= .ok () w'/\Zw K w' b (fun x=>if x=k then Xa v else g x)/\w.grownBy w' (Xa b)/\w'.heap.size=w.heap.size:=by
 obtain⟨a,p,l,i,f,q,n,z,e,r,s,c,rfl⟩:=h;have j:=(aS.1 c).1;have d:a.findIdx? (fun h=>(h.born:Int) ==(e.born:Int))=Xa n:=by
  rw[Array.findIdx?_eq_some_iff_getElem];refine⟨j,?_,fun j l=>?_⟩
  ·have:a[n]=e:=(aS.1 c).2
   simp[this]
  intro u;have m:j<a.size:=Wm
  have l:a[j].born=e.born:=by
   have:(a[j].born:Int)=(e.born:Int):=Si u
   omega
  have u:(a.toList.map (·.born))[n]? =Xa e.born:=by simp[c]
  have c:(a.toList.map (·.born))[j]? =Xa e.born:=by simp[m,l]
  have:=zkl f.rise u c;omega
 refine⟨ChangeMaps.setBlock w b (.map (a.modify n fun h=>{ h with val:=I6 v }) p),?_,zdw i q (by rw[s];exact f.modify r _ v (fun _=>rfl) (fun _ a _=>⟨a,rfl⟩))⟩
 simp[Instr.entryStore,MapKept.run_getObj_map i,asInt,asIntOf,d,MapKept.run_setObj_map _ i,ChangeMaps.setBlock]
theorem zmg {K:zav} {w:Xn} {rest:List Oper} {a:Act} (c:o.guard=Xb) (t e m x v) (f:o.op= .mapUpdate t m x v) (l:Tryz.prog.underlying t=Xa (.map K.ty e)) (b:Nat) (g:Int × Int->Option Int) (h:Zw K w b g) (k:Int × Int) (z:Int)
  (j:a.eval m= .map (Xa b)) (p:a.eval x=K.enc k) (n:a.eval v=I6 z)
  (i:∀w',Zw K w' b (fun x=>if x=k then Xa z else g x)->w.grownBy w' (Xa b)->w'.heap.size=w.heap.size->wpList prog ops Q rest (a.put o.dst undef) w'):wpList prog ops Q (o :: rest) a w:=by
 refine wpList_plain c fun c d=>?_
 obtain⟨w',c,q,r,s⟩:=h.put l k z;unfold Oper.wp
 simp[execOp,f,j,p,n,c,Result.andThen]
 exact d _ _ (i w' q r s)
theorem zmY (em:Bool) (a:Int × Int) (w):(Instr.checkKey em 10000 198 (Xi #[I6 a.1,I6 a.2])).run prog w= .ok () w:=by
 have hf : (Tryz.prog.fieldsOf 198).toList.map (fun f => (f.name, f.type, f.offset)) = [("file", 3, 0), ("index", 3, 1)] := by kernel_rfl
 have hu:∃fs,Tryz.prog.underlying 198=Xa (.struct fs)/\Tryz.prog.fieldsOf 198=fs:=⟨_,underlying198,Kr⟩
 obtain⟨fs,hu,hfe⟩:=hu;rw[hfe]at hf;obtain⟨f0,f1,hfs⟩:∃f0 f1,fs.toList=[f0,f1]:=by
  have hl:fs.toList.length=2:=by have:=congrArg Yk hf;simpa using this
  match hq:fs.toList,hl with
  | [f0,f1],_=>exact⟨f0,f1,rfl⟩
 rw[hfs]at hf
 simp at hf
 obtain⟨⟨n0,t0,o0⟩,⟨n1,t1,o1⟩⟩:=hf;have pI:=zdm w;have pB:=zeM w;have cI:∀(v:Int) (n:Nat),(Instr.checkKey em (n+1) 3 (I6 v)).run prog w= .ok () w:=fun v n=>by
  unfold Instr.checkKey
  simp[run_underlying underlying3]
 have cB:∀(v:Bool) (n:Nat),(Instr.checkKey em (n+1) 4 (Xh v)).run prog w= .ok () w:=fun v n=>by
  unfold Instr.checkKey
  simp[run_underlying underlying4]
 rw[show(10000:Nat)=9999+1 from rfl,Instr.checkKey]
 simp only[Yc,run_underlying hu,rA];rw[<-Og,hfs];have k1:=cI a.1 9998;have k2:=cI a.2 9998;have k3:=cB Xd 9998;have q0:=pI (#[I6 a.1,I6 a.2]) 0 a.1 rfl;have q1:=pI (#[I6 a.1,I6 a.2]) 1 a.2 rfl
 simp[List.forIn_cons,n0,t0,o0,n1,t1,o1,q0,q1,k1,k2]
theorem zpn (a b:Int × Int) (w):(Op.equal 198 (Xi #[I6 a.1,I6 a.2]) (Xi #[I6 b.1,I6 b.2])).run prog w= .ok (decide (a=b)) w:=by
 have hf : (Tryz.prog.fieldsOf 198).toList.map (fun f => (f.name, f.type, f.offset)) = [("file", 3, 0), ("index", 3, 1)] := by kernel_rfl
 unfold Op.equal Op.maxDepth;rw[run_equalIn_struct w 9999 198 _ _ Kr Kr]
 obtain⟨f0,f1,hfs⟩:∃f0 f1,(Tryz.prog.fieldsOf 198).toList=[f0,f1]:=by
  have hl:(Tryz.prog.fieldsOf 198).toList.length=2:=by have:=congrArg Yk hf;simpa using this
  match hq:(Tryz.prog.fieldsOf 198).toList,hl with
  | [f0,f1],_=>exact⟨f0,f1,rfl⟩
 rw[hfs]at hf⊢
 simp at hf
 obtain⟨⟨n0,t0,o0⟩,⟨n1,t1,o1⟩⟩:=hf;have pI:=zdm w;have pB:=zeM w;simp only[Op.eqFields,n0,t0,o0,n1,t1,o1];obtain⟨a1,a2⟩:=a;obtain⟨b1,b2⟩:=b
 simp[pI,run_equalIn_int w _ _ _ _ _ _ underlying3]
 by_cases e1:a1=b1 <;> by_cases e2:a2=b2 <;> simp[e1,e2]
def plK:zav where
 ty:=198
 enc:=fun a=> Xi #[Xe Xf a.1,Xe Xf a.2]
 bV:=⟨_,underlying198⟩
 check:=zmY
 same:=zpn
 bits:=fun a=>by simp[Instr.sameBits]
theorem znU (em:Bool) (a:Int × Int) (w):(Instr.checkKey em 10000 127 (Xi #[I6 a.1,I6 a.2,Xh Xd])).run prog w= .ok () w:=by
 have hf : (Tryz.prog.fieldsOf 127).toList.map (fun f => (f.name, f.type, f.offset)) = [("Kind", 3, 0), ("N", 3, 1), ("Write", 4, 2)] := by kernel_rfl
 have hu:∃fs,Tryz.prog.underlying 127=Xa (.struct fs)/\Tryz.prog.fieldsOf 127=fs:=⟨_,underlying127,Kr⟩
 obtain⟨fs,hu,hfe⟩:=hu;rw[hfe]at hf;obtain⟨f0,f1,f2,hfs⟩:∃f0 f1 f2,fs.toList=[f0,f1,f2]:=by
  have hl:fs.toList.length=3:=by have:=congrArg Yk hf;simpa using this
  match hq:fs.toList,hl with
  | [f0,f1,f2],_=>exact⟨f0,f1,f2,rfl⟩
 rw[hfs]at hf
 simp at hf
 obtain⟨⟨n0,t0,o0⟩,⟨n1,t1,o1⟩,⟨n2,t2,o2⟩⟩:=hf;have pI:=zdm w;have pB:=zeM w;have cI:∀(v:Int) (n:Nat),(Instr.checkKey em (n+1) 3 (I6 v)).run prog w= .ok () w:=fun v n=>by
  unfold Instr.checkKey
  simp[run_underlying underlying3]
 have cB:∀(v:Bool) (n:Nat),(Instr.checkKey em (n+1) 4 (Xh v)).run prog w= .ok () w:=fun v n=>by
  unfold Instr.checkKey
  simp[run_underlying underlying4]
 rw[show(10000:Nat)=9999+1 from rfl,Instr.checkKey]
 simp only[Yc,run_underlying hu,rA];rw[<-Og,hfs];have k1:=cI a.1 9998;have k2:=cI a.2 9998;have k3:=cB Xd 9998;have q0:=pI (#[I6 a.1,I6 a.2,Xh Xd]) 0 a.1 rfl;have q1:=pI (#[I6 a.1,I6 a.2,Xh Xd]) 1 a.2 rfl;have q2:=pB (#[I6 a.1,I6 a.2,Xh Xd]) 2 Xd rfl
 simp[List.forIn_cons,n0,t0,o0,n1,t1,o1,n2,t2,o2,q0,q1,q2,k1,k2,k3]
theorem zp4 (a b:Int × Int) (w):(Op.equal 127 (Xi #[I6 a.1,I6 a.2,Xh Xd]) (Xi #[I6 b.1,I6 b.2,Xh Xd])).run prog w= .ok (decide (a=b)) w:=by
 have hf : (Tryz.prog.fieldsOf 127).toList.map (fun f => (f.name, f.type, f.offset)) = [("Kind", 3, 0), ("N", 3, 1), ("Write", 4, 2)] := by kernel_rfl
 unfold Op.equal Op.maxDepth;rw[run_equalIn_struct w 9999 127 _ _ Kr Kr]
 obtain⟨f0,f1,f2,hfs⟩:∃f0 f1 f2,(Tryz.prog.fieldsOf 127).toList=[f0,f1,f2]:=by
  have hl:(Tryz.prog.fieldsOf 127).toList.length=3:=by have:=congrArg Yk hf;simpa using this
  match hq:(Tryz.prog.fieldsOf 127).toList,hl with
  | [f0,f1,f2],_=>exact⟨f0,f1,f2,rfl⟩
 rw[hfs]at hf⊢
 simp at hf
 obtain⟨⟨n0,t0,o0⟩,⟨n1,t1,o1⟩,⟨n2,t2,o2⟩⟩:=hf;have pI:=zdm w;have pB:=zeM w;simp only[Op.eqFields,n0,t0,o0,n1,t1,o1,n2,t2,o2];obtain⟨a1,a2⟩:=a;obtain⟨b1,b2⟩:=b
 simp[pI,pB,run_equalIn_bool' w _ _ _ _ underlying4,run_equalIn_int w _ _ _ _ _ _ underlying3]
 by_cases e1:a1=b1 <;> by_cases e2:a2=b2 <;> simp[e1,e2]
def enK:zav where
 ty:=127
 enc:=fun a=> Xi #[Xe Xf a.1,Xe Xf a.2,Xh Xd]
 bV:=⟨_,underlying127⟩
 check:=znU
 same:=zp4
 bits:=fun a=>by simp[Instr.sameBits]
theorem Box.bM {K:zav} {w:Xn} {cs:List Xq} {g:Int × Int->Option Int} (h:Box w b cs) (k:Zw K w B g):b≠B:=fun e=>by
 subst e;obtain⟨t,h⟩:=h;obtain⟨a,a,l,a,_⟩:=k
 grind
theorem zb.bM {α:Type} {E:Elt α} {K:zav} {w:Xn} {base:Nat} {v:Xq} {l:List α} {g:Int × Int->Option Int} (h:zb E base w v l) (k:Zw K w B g):∀x,v.ownBlock=Xa x->Xa B≠Xa x:=fun x a e=>by
 cases e;obtain⟨b,b⟩:=h.obj a;obtain⟨a,a,l,a,_⟩:=k
 grind
theorem ztG (w):(zeroValue 3).run prog w= .ok (I6 0) w:=by kernel_rfl
theorem QV (V:MaV) (m:Ma) (w) (z:zw w V m):
  Xp prog 70 #[Xi (mL V m).toArray] w fun e w'=>∃Q,e= Xl (Xi #[V.f.x,I6 m.aB,V.s.x,V.sb.x,V.sq.x,V.db.x,V.dq.x,V.fl.x,I6 m.cnt,V.ca.x,V.sp.x,.map (Xa Q)])/\Zw plK w' Q (ZI m.ca)/\zc w w':=by
 obtain⟨s,t,h,j,d,f,g,⟨l,a,b⟩,i⟩:=V;dsimp only[mL];obtain⟨-,-,-,-,-,-,-,L,-⟩:=z.ns;dsimp only at L;have a4:=dD z.cas;have S:=dD L.symm;have Z:a<=9223372036854775807:=Hm z.ca.short
 clear z L;have H:=@run_makeMap prog;obtain⟨x,n⟩:=kB (((w.alloc (Xk #[s.x,I6 m.aB,t.x,h.x,j.x,d.x,f.x,g.x,I6 m.cnt,O l a b,i.x] 45)).alloc (Xk #[eS,I6 0,eS,eS,eS,eS,eS,eS,I6 0,eS,eS,.map Xb] 131)).alloc (.map #[] 0));have B:Xo (zc w x):=dD<|by rw[<-n];exact((za _ _).trans (za _ _)).trans (za _ _)
 have W:Xo (Box x w.heap.size [s.x,I6 m.aB,t.x,h.x,j.x,d.x,f.x,g.x,I6 m.cnt,O l a b,i.x]):=dD<|by rw[<-n];exact((Box.aE _ _ _ rfl).alloc _).alloc _
 have ac:Xo (Box x (w.heap.size+1) [eS,I6 0,eS,eS,eS,eS,eS,eS,I6 0,eS,eS,.map Xb]):=dD<|by rw[<-n];exact(Box.aE _ _ _ Sm).alloc _
 have a5:Xo (Zw plK x (w.heap.size+1+1) (ZI (m.ca.take 0))):=dD<|by
  rw[<-n];have:=Zw.made plK ((w.alloc (Xk #[s.x,I6 m.aB,t.x,h.x,j.x,d.x,f.x,g.x,I6 m.cnt,O l a b,i.x] 45)).alloc (Xk #[eS,I6 0,eS,eS,eS,eS,eS,eS,I6 0,eS,eS,.map Xb] 131));have aq:((w.alloc (Xk #[s.x,I6 m.aB,t.x,h.x,j.x,d.x,f.x,g.x,I6 m.cnt,O l a b,i.x] 45)).alloc (Xk #[eS,I6 0,eS,eS,eS,eS,eS,eS,I6 0,eS,eS,.map Xb] 131)).heap.size=w.heap.size+1+1:=Sm
  rw[aq]at this;exact this.congr fun ar=>Rr Yi
 have E:=dD n;clear n
 go_enter func70,ntmps70
 go_upto_region 2 with fail;rw[E.out];clear H;have P:=W.c 9 rfl;go_wp2;clear P
 go_loopg [10] a (fun an M wr=>∃k:Nat,k<=a/\a - k<=an/\M=I6 k/\Xo (zc w wr)/\Xo (Box wr w.heap.size [s.x,I6 m.aB,t.x,h.x,j.x,d.x,f.x,g.x,I6 m.cnt,O l a b,i.x])/\Xo (Box wr (w.heap.size+1) [eS,I6 0,eS,eS,eS,eS,eS,eS,I6 0,eS,eS,.map Xb])/\Xo (Zw plK wr (w.heap.size+1+1) (ZI (m.ca.take k))))
 exact⟨0,nZ _,Wm,rfl,B,W,ac,a5⟩
 obtain⟨k,ap,ao,rfl,A,X,Y,T⟩:=hrel
 by_cases r:k<a
 ·have v:=kC r
  obtain⟨p,R⟩:∃p,Xo (m.ca[k]? =Xa p):=⟨_,gE (Rx S.out r)⟩
  obtain⟨ag,rfl,I⟩:=a4.out k p R.out;obtain⟨ak,al,am⟩:=I wr A.out;clear I;go_upto_region 5 with fail;obtain⟨a9,c⟩:=kB (wr.alloc (Xk #[I6 p.file,I6 p.idx,I6 p.fr] 105));have C:=gT c A
  have aa:=yA c X
  have ae:=yA c Y
  have a6:Xo (Zw plK a9 (w.heap.size+1+1) (ZI (m.ca.take k))):=dD<|by rw[<-c];exact T.aA (za _ _)
  have a2:=xA c
  rw[c];clear c ak al am;obtain⟨ah,ai,aj⟩:=a2.c3
  go_wp2_with (refine zmg (K:=plK) rfl 129 3 (.tmp 14) (.tmp 19) (.tmp 21) rfl underlying129 (w.heap.size+1+1) _ a6 (p.file,p.idx) p.fr rfl rfl rfl ?_)
  clear ah ai aj;intro y a1 q _;have a7:Xo (Zw plK y (w.heap.size+1+1) (ZI (m.ca.take (k+1)))):=dD<|a1.congr fun ar=>by rw[ZB R.out,zhp]
  have D:Xo (zc w y):=dD<|zd C q Wm
  have ab:Xo (Box y w.heap.size [s.x,I6 m.aB,t.x,h.x,j.x,d.x,f.x,g.x,I6 m.cnt,O (Xa ag) a b,i.x]):=aa.grown q Wm
  have af:Xo (Box y (w.heap.size+1) [eS,I6 0,eS,eS,eS,eS,eS,eS,I6 0,eS,eS,.map Xb]):=ae.grown q Wm
  clear a1 q;go_wp2
  go_roundg (a -(k+1));exact⟨k+1,Wm,Wm,Gn,D,ab,af,a7⟩;omega
 have v:=kD r
 have:k=a:=Wm
 subst this;have F:Xo (Zw plK wr (w.heap.size+1+1) (ZI m.ca)):=dD<|by
  have:=T.out;rw[Xu (by rw[S.out];exact nR _)]at this
  exact this
 obtain⟨au,av,aw,ax,ay,az,b0,b1,b2,P,N⟩:=X.bL
 go_wp2_with (refine zz rfl 131 (.tmp 2) (.tmp 25) rfl (w.heap.size+1) rfl [s.x,I6 m.aB,t.x,h.x,j.x,d.x,f.x,g.x,I6 m.cnt,O l k b,i.x,.map (Xa (w.heap.size+1+1))] rfl Y rfl Kr (fun b3 a0=>by
  simp only[mC,nM,or_false]at a0
  rcases a0 with rfl|rfl|rfl|rfl|rfl|rfl|rfl|rfl|rfl|rfl|rfl|rfl <;> rfl) ?_)
 clear au av aw ax ay az b0 b1 b2 P N;intro U G u _;have a3:Xo (zc w U):=dD<|zd A u Wm
 have a8:Xo (Zw plK U (w.heap.size+1+1) (ZI m.ca)):=F.kept u Sm
 go_wp2;refine bodyPost_ret (zE rfl _ rfl G underlying131 rfl Kr) rfl ⟨_,rfl,a8,a3⟩
theorem zfW (V:MaV) (m:Ma) (B k:Nat) (g:Int × Int->Option Int) (w) (b:zw w V m) (s:k<m.fs.length) (d:Zw plK w B g):
  Xp prog 72 #[Xi #[V.f.x,I6 m.aB,V.s.x,V.sb.x,V.sq.x,V.db.x,V.dq.x,V.fl.x,I6 m.cnt,V.ca.x,V.sp.x,.map (Xa B)],I6 (k:Int)] w fun e w'=>e= Xl (Xh (decide (g ((zQ m k).f,(zQ m k).x)=Xa (k:Int))))/\zc w w':=by
 obtain⟨⟨x,r,y⟩,z,j,p,f,h,i,c,n⟩:=V;dsimp only[mL];obtain⟨t,-⟩:=b.ns;dsimp only at t;have a:k<r:=Wm
 obtain⟨q,l⟩:∃q,Xo (m.fs[k]? =Xa q):=⟨_,gE s⟩;have a:zQ m (k:Int)=q:=by unfold zQ;rw[tN,gD,l.out];rfl
 rw[a];obtain⟨v,rfl,u⟩:=(show zkw w x m.fs from b.bF) k q l.out
 clear a b t s;obtain⟨l,b⟩:=kB (w.alloc (Xk #[O (Xa v) r y,I6 m.aB,z.x,j.x,p.x,f.x,h.x,i.x,I6 m.cnt,c.x,n.x,.map (Xa B)] 131));have a:=gA b
 have t:=xA b
 have h:=sA b
 obtain⟨x,y,z,A,C,D,E,F,G,H,n,p,r⟩:=u l a.out;obtain⟨i,c⟩:=kB (l.alloc (Xk #[U8 q.p.b0,U8 q.p.b1,U8 q.p.b2,U8 q.p.b3,U8 q.p.b4,U8 q.p.b5,U8 q.p.b6,U8 q.p.b7,I6 q.r,Xh q.u,Xh q.d,I6 q.f,I6 q.x] 93));have f:=gT c a
 have v:=yA c t
 have s:=xP c h
 have a:(Instr.lookup 129 (.map (Xa B)) (Xi #[I6 q.f,I6 q.x]) Xc).run prog i= .ok (Xm #[I6 ((g (q.f,q.x)).getD 0),Xh (g (q.f,q.x)).isSome]) i:=(d.aA f).look (K:=plK) underlying129 (ztG i) (q.f,q.x) Xc;have j:Xo (_=l):=b;have l:Xo (_=i):=c;clear b c u d;obtain⟨R,b⟩:=kA (decide (g (q.f,q.x)=Xa (k:Int)));rw[b.out];obtain⟨d,c⟩:=kA (g (q.f,q.x));rw[c.out]at a b
 go_enter func72,ntmps72
 go_upto_region 1 with fail;rw[j.out];have c:=t.c 0 rfl;go_upto_region 2 with fail;rw[l.out];rw[h.out];clear x y z A C D E F G H n p r c;have c:=v.c 11 rfl;have c:=s.c 11 rfl;have c:=s.c 12 rfl
 cases d with
 | none=>
  simp only[Option.getD_none,Option.isSome_none]at a;go_wp2;go_ret;exact⟨by rw[<-b.out];rfl,f⟩
 | some z=>
  simp only[Option.getD_some,Option.isSome_some]at a;have a:Xo ((z ==(k:Int))=R):=dD<|by rw[<-b.out,Ys];simp
  go_wp2;go_ret;exact⟨by rw[<-a.out];rfl,f⟩
def Js (K:zav) (w:Xn) (b:Nat) (H:Int × Int->Int):Prop:=∃g,Zw K w b g/\∀k,(g k).getD 0=H k
theorem Js.aA {K:zav} {w:Xn} {H:Int × Int->Int} (h:Js K w b H) (k:zc w w'):Js K w' b H:=by
 obtain⟨g,a,c⟩:=h;exact⟨g,a.aA k,c⟩
theorem Js.congr {K:zav} {w:Xn} {H a:Int × Int->Int} (h:Js K w b H) (e:∀k,H k=a k):Js K w b a:=by
 obtain⟨g,a,c⟩:=h;exact⟨g,a,fun k=>(c k).trans (e k)⟩
theorem Js.bP {K:zav} {w:Xn} {cs:List Xq} {H:Int × Int->Int} (k:Js K w B H) (h:Box w b cs):b≠B:=by
 obtain⟨g,a,_⟩:=k;exact h.bM a
theorem Js.ne_own {α:Type} {E:Elt α} {K:zav} {w:Xn} {base:Nat} {v:Xq} {l:List α} {H:Int × Int->Int} (k:Js K w B H) (h:zb E base w v l):∀x,v.ownBlock=Xa x->Xa B≠Xa x:=by
 obtain⟨g,a,_⟩:=k;exact h.bM a
def zey (K:zav) (w:Xn) (b:Nat) (H:Int × Int->Int) (k:Int × Int) (st:Int):Prop:=∃g,zsa K w b g k st/\∀x,(g x).getD 0=H x
theorem Js.entry {K:zav} {w:Xn} {H:Int × Int->Int} (h:Js K w b H) {e:TypeId} (g:Tryz.prog.underlying t=Xa (.map K.ty e)) (i:(zeroValue e).run prog w= .ok (I6 0) w) (k:Int × Int):
  ∃w' a,(Instr.mapEntry t (.map (Xa b)) (K.enc k)).run prog w= .ok (Xm #[I6 (H k),I6 a]) w'/\zey K w' b H k a/\w.grownBy w' (Xa b)/\w'.heap.size=w.heap.size:=by
 obtain⟨c,f,c⟩:=h;obtain⟨w',a,d,h,j,l⟩:=f.entry g i k;rw[c k]at d;refine⟨w',a,d,⟨_,h,fun x=>?_⟩,j,l⟩
 by_cases e:x=k
 ·subst e;rw[kE rfl];exact c x
 rw[kF e];exact c x
theorem zey.h {K:zav} {w:Xn} {H:Int × Int->Int} {k:Int × Int} {a:Int} (h:zey K w b H k a):Js K w b H:=by
 obtain⟨g,a,c⟩:=h;exact⟨g,a.f,c⟩
theorem Js.look {K:zav} {w:Xn} {H:Int × Int->Int} (h:Js K w b H) {e:TypeId} (d:Tryz.prog.underlying t=Xa (.map K.ty e)) (f:(zeroValue e).run prog w= .ok (I6 0) w) (k:Int × Int):
  (Instr.lookup t (.map (Xa b)) (K.enc k) Xd).run prog w= .ok (I6 (H k)) w:=by
 obtain⟨g,a,c⟩:=h;have:=a.look d f k Xd;rw[c k]at this;exact this
def zte (H:Int × Int->Int) (k:Int × Int):Int × Int->Int:=fun x=>H x+(if x=k then 1 else 0)
theorem zbg {K:zav} {w:Xn} {rest:List Oper} {a:Act} (c:o.guard=Xb) (t m s x) (e:o.op= .entryStore t m s x) (b:Nat) (H:Int × Int->Int) (k:Int × Int) (d:Int) (h:zey K w b H k d)
  (j:a.eval m= .map (Xa b)) (l:a.eval s=I6 d) (n:a.eval x=I6 (H k+1))
  (i:∀w',Js K w' b (zte H k)->w.grownBy w' (Xa b)->w'.heap.size=w.heap.size->wpList prog ops Q rest (a.put o.dst undef) w'):wpList prog ops Q (o :: rest) a w:=by
 refine wpList_plain c fun c d=>?_
 obtain⟨g,f,g⟩:=h;obtain⟨w',c,h,p,q⟩:=f.store t (H k+1);unfold Oper.wp
 simp[execOp,e,j,l,n,c,Result.andThen]
 refine d _ _ (i w' ⟨_,h,fun y=>?_⟩ p q)
 unfold zte
 by_cases e:y=k
 ·subst e;rw[kE rfl,kE rfl];rfl
 rw[kF e,kF e,g y];omega
theorem zpL (l:List Ca) (a:Int × Int):0<=JS l a/\JS l a<=l.length:=by
 grind [JS,zX,Yd,Ca]
theorem zeN (s):(qP s).length<=64:=by
 unfold qP;have:=Yw (fun n=>enS (zh s n)) (Oh 64)
 simpa using this
theorem zrt (m:Ma) (i:Nat) (l:List Nat) (s) (a:Int × Int):0<=qz m i l s a/\qz m i l s a<=m.ca.length+64*m.sp.length+l.length:=by
 unfold qz;have b:(if a.1=1 then zX m.ca a.2 else 0)<=m.ca.length:=by
  split
  ·exact Yd
  omega
 have b:∀(L:List Sp),(L.map fun s=>(qP s).countP fun n=>isE (zh s n) a.1 a.2).sum<=64*L.length:=by
  intro L
  induction L with
  | nil=>simp
  | cons b L c=>
   have c:=Yd (p:=fun n=>isE (zh b n) a.1 a.2) (l:=qP b)
   have a:=zeN b;simp only[mP,List.sum_cons,Yn];omega
 grind
def zem:Sp:=⟨Xc,[],[]⟩
theorem ziS (V) (m:Ma) (w) (g:zw w V m) (u:m.sp.length<=4) (y:∀s∈m.sp,tbW s.tb=0):
  Xp prog 71 #[Xi (mL V m).toArray] w fun e w'=>∃B,e= Xl (.map (Xa B))/\Js enK w' B (qz m m.sp.length [] zem)/\zc w w':=by
 obtain⟨a3,a4,t,z,p,q,r,⟨d,a,l⟩,⟨h,b,n⟩⟩:=V;dsimp only[mL];obtain⟨-,-,-,-,-,-,-,D,E⟩:=g.ns;dsimp only at D E;have F:Xo (zoJ w d m.ca):=g.cas;have b9:=dD D.symm;have c:a<=140737488355328:=by have:=g.ca.2;have c:Zz.bytes=24:=rfl;rw[c]at this;omega
 obtain⟨bb,A,f,k⟩:=g.bG;have b1:=dD A;have az:Xo (∀(j:Nat) x,bb[j]? =Xa x->∃a8,h=Xa a8/\∀W,zc w W->zoz W (a8.add (j*10)) x):=f;have b0:=dD k;have a6:=dD E.symm;have c:=dD y;have C:Xo (∀j c,0<=JS (m.ca.take j) c/\JS (m.ca.take j) c<=140737488355328):=show∀j c,_ from fun j c=>by
  have G:=zpL (m.ca.take j) c;have i:(m.ca.take j).length<=m.ca.length:=by simp;omega
  omega
 have ay:Xo (∀i B s c,B.length<=64->0<=qz m i B s c/\qz m i B s c<=140737488360000):=dD<|fun i B s c aj=>by
  have G:=zrt m i B s c;omega
 have c:b<=4:=Wm
 clear g D E A f k u y;have u:=@run_makeMap prog;obtain⟨f,c⟩:=kB ((w.alloc (Xk #[a3.x,I6 m.aB,a4.x,t.x,z.x,p.x,q.x,r.x,I6 m.cnt,O d a l,O h b n] 45)).alloc (.map #[] 0));have g:Xo (zc w f):=dD<|by rw[<-c];exact(za _ _).trans (za _ _)
 have y:Xo (Box f w.heap.size [a3.x,I6 m.aB,a4.x,t.x,z.x,p.x,q.x,r.x,I6 m.cnt,O d a l,O h b n]):=dD<|by rw[<-c];exact(Box.aE _ _ _ rfl).alloc _
 have A:Xo (Js enK f (w.heap.size+1) (JS (m.ca.take 0))):=dD<|by
  rw[<-c];have:=Zw.made enK (w.alloc (Xk #[a3.x,I6 m.aB,a4.x,t.x,z.x,p.x,q.x,r.x,I6 m.cnt,O d a l,O h b n] 45));have k:(w.alloc (Xk #[a3.x,I6 m.aB,a4.x,t.x,z.x,p.x,q.x,r.x,I6 m.cnt,O d a l,O h b n] 45)).heap.size=w.heap.size+1:=Sm
  rw[k]at this;exact⟨_,this,fun G=>by rw[Yi,znw];rfl⟩
 have k:Xo (_=f):=c;clear c
 go_enter func71,ntmps71
 go_upto_region 2 with fail;rw[k.out];clear u;have c:=y.c 9 rfl;go_wp2;clear c
 go_loopg [15] a (fun ak c wr=>∃B:Nat,B<=a/\a - B<=ak/\c=I6 B/\Xo (zc w wr)/\Xo (Box wr w.heap.size [a3.x,I6 m.aB,a4.x,t.x,z.x,p.x,q.x,r.x,I6 m.cnt,O d a l,O h b n])/\Xo (Js enK wr (w.heap.size+1) (JS (m.ca.take B))))
 exact⟨0,nZ _,Wm,rfl,g,y,A⟩
 obtain⟨B,c,c,rfl,N,ba,a0⟩:=hrel
 by_cases ae:B<a
 ·have an:=kC ae
  obtain⟨c,b8⟩:∃c,Xo (m.ca[B]? =Xa c):=⟨_,gE (Rx b9.out ae)⟩
  obtain⟨a8,rfl,aj⟩:=F.out B c b8.out;obtain⟨b2,b3,b4⟩:=aj wr N.out;clear aj;go_upto_region 5 with fail;obtain⟨L,d⟩:=kB (wr.alloc (Xk #[I6 c.file,I6 c.idx,I6 c.fr] 105));have P:=gT d N
  have g:=yA d ba
  have av:Xo (Js enK L (w.heap.size+1) (JS (m.ca.take B))):=dD<|by rw[<-d];exact a0.aA (za _ _)
  have f:=xA d
  rw[d];clear d b2 b3 b4;obtain⟨ah,a7⟩:=kA wr.heap.size;rw[a7.out]at f⊢;obtain⟨H,a5⟩:=kA (JS (m.ca.take B));rw[a5.out]at av;obtain⟨ab,ac⟩:0<=H (1,c.fr)/\H (1,c.fr)<=140737488355328:=by rw[<-a5.out];exact C B (1,c.fr)
  obtain⟨k,am⟩:∃k:Xn->Prop,k=fun u=>Js enK u (w.heap.size+1) H/\Box u ah [I6 c.file,I6 c.idx,I6 c.fr]/\Box u w.heap.size [a3.x,I6 m.aB,a4.x,t.x,z.x,p.x,q.x,r.x,I6 m.cnt,O (Xa a8) a l,O h b n]/\zc w u:=⟨_,rfl⟩
  have E:Xo (∀u,k u↔Js enK u (w.heap.size+1) H/\Box u ah [I6 c.file,I6 c.idx,I6 c.fr]/\Box u w.heap.size [a3.x,I6 m.aB,a4.x,t.x,z.x,p.x,q.x,r.x,I6 m.cnt,O (Xa a8) a l,O h b n]/\zc w u):=dD<|fun u=>by rw[am]
  clear am;have ao:=fun y:zq k=>((E _).1 y.holds).2.1.c 2 rfl
  have S:∀y:zq k,(Instr.lookup 133 (.map (Xa (w.heap.size+1))) (Xi #[I6 1,I6 c.fr,Xh Xd]) Xd).run prog y.world= .ok (I6 (H (1,c.fr))) y.world:=fun y=>((E _).1 y.holds).1.look (K:=enK) underlying133 (ztG _) (1,c.fr)
  have A:k L.drew:=(E _).2 ⟨av.aA (gW _),f.aA (gW _),g.aA (gW _),P.trans (gW _)⟩
  have T:Nonempty (zq k):=⟨⟨_,A⟩⟩;refine j1 (I:=k) 8 [(6,⟨fun M=>∃g,M= Xm #[I6 (H (1,c.fr)),I6 g],fun M w'=>∃g,M= Xm #[I6 (H (1,c.fr)),I6 g]/\zey enK w' (w.heap.size+1) H (1,c.fr) g,fun _ _=>True,fun _=>True⟩)] A zW Kr rfl rfl Dc (Sa ⟨_,0,rfl⟩) ?hp ?hpre ?hpr0 ?_
  case hp=>
   intro G s j ar Y a1 R _ M b7 C f b5;obtain⟨rfl,rfl⟩:=zb7 Y;obtain⟨rfl,rfl⟩:=zb7 a1;exact absurd rfl R
  case hpre=>
   intro j ar G s a1 Y R b7 C f af;obtain⟨rfl,rfl⟩:=zb7 a1;trivial
  case hpr0=>
   intro G ar Y;obtain⟨rfl,rfl⟩:=zb7 Y;trivial
  simp only[Xy,Xz];iterate 6 refine qY ?_
  refine j9 rfl rfl (fun w' aa af a9=>?_) (fun bf b6=>?_)
  ·obtain⟨F,Z,W,X⟩:=(E _).1 aa;obtain⟨au,g,U,aq,a2,be⟩:=F.entry (K:=enK) underlying133 (ztG w') (1,c.fr);have ag:(Instr.mapEntry 133 (.map (Xa (w.heap.size+1))) (Xi #[I6 1,I6 c.fr,Xh Xd])).run prog w'= .ok (Xm #[I6 (H (1,c.fr)),I6 g]) au:=U;clear ao S T;refine zP.step (v:= Xm #[I6 (H (1,c.fr)),I6 g]) (w':=au) (by simp only[execOp];go_simp) ⟨(E _).2 ⟨aq.h,Z.grown a2 (F.bP Z),W.grown a2 (F.bP W),zd X a2 Wm⟩,trivial,⟨_,rfl⟩,_,rfl,aq⟩
  obtain⟨g,rfl⟩:=b6;refine Uq ?_;refine qY ?_
  refine zaj fun aw ai a9=>?_
  obtain⟨F,Z,W,X⟩:=(E _).1 ai;obtain⟨D,f,al⟩:∃D,(Value.tuple #[I6 (H (1,c.fr)),I6 g])= Xm #[I6 (H (1,c.fr)),I6 D]/\zey enK aw (w.heap.size+1) H (1,c.fr) D:=a9 6;have Q:zey enK aw (w.heap.size+1) H (1,c.fr) g:=by
   simp at f
   rw[f];exact al
  have bc:=dD W;have ax:=dD X;have aw:=dD Q;clear ao S T a9 ai F Z W X al f Q A;refine zbg (K:=enK) rfl 133 (.tmp 19) (.tmp 26) (.tmp 24) rfl (w.heap.size+1) H (1,c.fr) g aw rfl rfl Gn ?_
  intro ai aw c _;have bd:Xo (Box ai w.heap.size [a3.x,I6 m.aB,a4.x,t.x,z.x,p.x,q.x,r.x,I6 m.cnt,O (Xa a8) a l,O h b n]):=bc.grown c Wm
  have p:Xo (zc w ai):=dD<|zd ax c Wm
  have ao:Xo (Js enK ai (w.heap.size+1) (JS (m.ca.take (B+1)))):=dD<|aw.congr fun G=>by rw[ZB b8.out,zlk,<-a5.out];rfl
  clear aw c ab ac;go_wp2
  go_roundg (a -(B+1));exact⟨B+1,Wm,Wm,Gn,p,bd,ao⟩;omega
 have an:=kD ae
 have:B=a:=Wm
 subst this;have h:Xo (Js enK wr (w.heap.size+1) (qz m 0 [] zem)):=dD<|a0.congr fun G=>by
  rw[Xu (by rw[b9.out];exact nR _)]
  exact znx m zem G
 have a:=ba.c 10 rfl;go_wp2;clear a;have a:Xo (zc w wr):=N
 go_loopg [31] b (fun ak l wr=>∃i:Nat,i<=b/\b - i<=ak/\l=I6 i/\Xo (zc w wr)/\Xo (Js enK wr (w.heap.size+1) (qz m i [] zem)))
 exact⟨0,nZ _,Wm,rfl,a,h⟩
 obtain⟨i,a,a,rfl,N,a0⟩:=hrel
 by_cases h:i<b
 ·have z:=kC h
  obtain⟨s,b8⟩:∃s,Xo (m.sp[i]? =Xa s):=⟨_,gE (Rx a6.out h)⟩
  obtain⟨x,a⟩:∃x,Xo (bb[i]? =Xa x):=⟨_,gE (by rw[b1.out,a6.out];exact h)⟩
  have a3:=dD<|b0.out i x s a b8.out;obtain⟨a8,rfl,aj⟩:=az.out i x a.out;obtain⟨b2,b3,b4,a,n,q,r,t,B,a4⟩:=aj wr N.out;clear aj;go_upto_region 10 with fail;obtain⟨L,d⟩:=kB (wr.alloc (Xk #[Xh x.aH,x.ar.x,x.t0.x,x.t1.x,x.t2.x,x.t3.x,x.t4.x,x.t5.x,x.t6.x,x.t7.x] 76));have P:=gT d N
  have av:Xo (Js enK L (w.heap.size+1) (qz m i [] s)):=dD<|by rw[<-d];exact(a0.aA (za _ _)).congr fun G=>by unfold qz;simp
  have l:=xA d
  rw[d];clear d b2 b3 b4 a n q r t B a4;obtain⟨ah,a7⟩:=kA wr.heap.size;rw[a7.out]at l⊢;have a:Xp prog 66 #[Xi #[x.t0.x,x.t1.x,x.t2.x,x.t3.x,x.t4.x,x.t5.x,x.t6.x,x.t7.x]] L fun e w'=>∃M,e= Xl M/\zb blE L.heap.size w' M (qX s.tb zcm 64)/\zc L w':=zaT x.tab s.tb L (a3.aA P).tb
  have an:=l.c 2 rfl;have aw:=l.c 3 rfl;have ax:=l.c 4 rfl;have az:=l.c 5 rfl;have b0:=l.c 6 rfl;have b1:=l.c 7 rfl;have b2:=l.c 8 rfl;have b3:=l.c 9 rfl;go_wp2_with fail;refine a.mono ?_;clear a an aw ax az b0 b1 b2 b3;rintro b4 a ⟨a,rfl,a,d⟩;have q:=dD (P.trans d);have r:=dD (av.aA d);have t:=dD (l.aA d);have l:=dD<|bS P.out
  clear d;obtain⟨n,ae,rfl⟩:=a.form;have d:=a.at.short;rw[Q2]at a d⊢;rw[Yt]at a d⊢;obtain⟨C,a8⟩:=kA ((qP s).length);rw[a8.out]at a d⊢;have d:=dD a
  have l:C<=64:=by rw[<-a8.out];exact zeN s
  clear a;go_wp2
  go_loopg [39] C (fun ak a wr=>∃j:Nat,j<=C/\C - j<=ak/\a=I6 j/\Xo (zc w wr)/\Xo (zb blE L.heap.size wr (O n C ae) ((qP s).map fun(n:Nat)=>(n:Int)))/\Xo (Box wr ah [Xh x.aH,x.ar.x,x.t0.x,x.t1.x,x.t2.x,x.t3.x,x.t4.x,x.t5.x,x.t6.x,x.t7.x])/\Xo (Js enK wr (w.heap.size+1) (qz m i ((qP s).take j) s)))
  exact⟨0,nZ _,Wm,rfl,q,d,t,Rx Yi r⟩
  obtain⟨j,a1,a,rfl,N,ak,l,a0⟩:=hrel
  by_cases d:j<C
  ·have B:=kC d
   obtain⟨n,q⟩:∃n,Xo ((qP s)[j]? =Xa n):=⟨_,gE (Rx a8.out d)⟩
   have a4:=zg0 q.out;have aj:=dD<|ZB q.out;obtain⟨_,_,t,a7⟩:=ak.at.bB;simp only[vJ]at t;obtain⟨r,a,P⟩:=a7 j (n:Int) (by rw[Yl,q.out];rfl)
   have av:=P wr (zc.refl _);rw[<-t.1]at a;subst a;clear P t a7;have q:Xp prog 69 #[Xi #[x.t0.x,x.t1.x,x.t2.x,x.t3.x,x.t4.x,x.t5.x,x.t6.x,x.t7.x],I6 (n:Int)] wr fun e w'=>e= Xl (enV (zh s n))/\zc wr w':=by
    have:=QJ x.tab s.tb (n:Int) wr (a3.aA N).tb;rw[zfY a4]at this;exact this
   obtain⟨a,t⟩:=kA (zh s n);rw[t.out]at q;have an:=l.c 2 rfl;have aw:=l.c 3 rfl;have ax:=l.c 4 rfl;have az:=l.c 5 rfl;have b0:=l.c 6 rfl;have b1:=l.c 7 rfl;have b2:=l.c 8 rfl;have b3:=l.c 9 rfl;go_wp2_with fail;refine q.mono ?_;clear q av an aw ax az b0 b1 b2 b3;rintro b4 ai ⟨rfl,c⟩;have p:=dD (N.trans c);have P:=dD (ak.aA c)
   have a4:=dD (l.aA c);have ao:=dD (a0.aA c);clear c;unfold enV;go_upto_region 14 with fail;obtain⟨a3,c⟩:=kB (ai.alloc (Xk #[I6 a.kind,I6 a.n,Xh a.wr] 127));have q:=gT c p
   have p:Xo (zb blE L.heap.size a3 (O (Xa r) C ae) ((qP s).map fun(n:Nat)=>(n:Int))):=dD<|by rw[<-c];exact P.aA (za _ _)
   have a7:=yA c a4
   have a4:Xo (Js enK a3 (w.heap.size+1) (qz m i ((qP s).take j) s)):=dD<|by rw[<-c];exact ao.aA (za _ _)
   have P:=xA c
   rw[c];clear c;obtain⟨c,l⟩:=kA ai.heap.size;rw[l.out]at P⊢;obtain⟨H,a5⟩:=kA (qz m i ((qP s).take j) s);rw[a5.out]at a4;obtain⟨ab,ac⟩:0<=H (a.kind,a.n)/\H (a.kind,a.n)<=140737488360000:=by rw[<-a5.out];exact ay i _ s (a.kind,a.n) (by simp;omega)
   obtain⟨k,am⟩:∃k:Xn->Prop,k=fun u=>Js enK u (w.heap.size+1) H/\Box u c [I6 a.kind,I6 a.n,Xh a.wr]/\Box u ah [Xh x.aH,x.ar.x,x.t0.x,x.t1.x,x.t2.x,x.t3.x,x.t4.x,x.t5.x,x.t6.x,x.t7.x]/\zb blE L.heap.size u (O (Xa r) C ae) ((qP s).map fun(n:Nat)=>(n:Int))/\zc w u:=⟨_,rfl⟩
   have E:Xo (∀u,k u↔Js enK u (w.heap.size+1) H/\Box u c [I6 a.kind,I6 a.n,Xh a.wr]/\Box u ah [Xh x.aH,x.ar.x,x.t0.x,x.t1.x,x.t2.x,x.t3.x,x.t4.x,x.t5.x,x.t6.x,x.t7.x]/\zb blE L.heap.size u (O (Xa r) C ae) ((qP s).map fun(n:Nat)=>(n:Int))/\zc w u):=dD<|fun u=>by rw[am]
   clear am;have l:=fun y:zq k=>((E _).1 y.holds).2.1.c 0 rfl
   have n:=fun y:zq k=>((E _).1 y.holds).2.1.c 1 rfl
   have S:∀y:zq k,(Instr.lookup 133 (.map (Xa (w.heap.size+1))) (Xi #[I6 a.kind,I6 a.n,Xh Xd]) Xd).run prog y.world= .ok (I6 (H (a.kind,a.n))) y.world:=fun y=>((E _).1 y.holds).1.look (K:=enK) underlying133 (ztG _) (a.kind,a.n)
   have A:k a3.drew:=(E _).2 ⟨a4.aA (gW _),P.aA (gW _),a7.aA (gW _),p.aA (gW _),q.trans (gW _)⟩
   have T:Nonempty (zq k):=⟨⟨_,A⟩⟩;refine j1 (I:=k) 10 [(8,⟨fun M=>∃g,M= Xm #[I6 (H (a.kind,a.n)),I6 g],fun M w'=>∃g,M= Xm #[I6 (H (a.kind,a.n)),I6 g]/\zey enK w' (w.heap.size+1) H (a.kind,a.n) g,fun _ _=>True,fun _=>True⟩)] A zW Kr rfl rfl Dc (Sa ⟨_,0,rfl⟩) ?hp ?hpre ?hpr0 ?_
   case hp=>
    intro G s j ar Y a1 R _ M b7 C f b5;obtain⟨rfl,rfl⟩:=zb7 Y;obtain⟨rfl,rfl⟩:=zb7 a1;exact absurd rfl R
   case hpre=>
    intro j ar G s a1 Y R b7 C f af;obtain⟨rfl,rfl⟩:=zb7 a1;trivial
   case hpr0=>
    intro G ar Y;obtain⟨rfl,rfl⟩:=zb7 Y;trivial
   simp only[Xy,Xz];iterate 8 refine qY ?_
   refine j9 rfl rfl (fun w' aa af a9=>?_) (fun bf b6=>?_)
   ·obtain⟨F,Z,W,X,p⟩:=(E _).1 aa;obtain⟨au,g,U,aq,a2,be⟩:=F.entry (K:=enK) underlying133 (ztG w') (a.kind,a.n);have ag:(Instr.mapEntry 133 (.map (Xa (w.heap.size+1))) (Xi #[I6 a.kind,I6 a.n,Xh Xd])).run prog w'= .ok (Xm #[I6 (H (a.kind,a.n)),I6 g]) au:=U;clear l n S T;refine zP.step (v:= Xm #[I6 (H (a.kind,a.n)),I6 g]) (w':=au) (by simp only[execOp];go_simp) ⟨(E _).2 ⟨aq.h,Z.grown a2 (F.bP Z),W.grown a2 (F.bP W),X.grown a2 (F.ne_own X),zd p a2 Wm⟩,trivial,⟨_,rfl⟩,_,rfl,aq⟩
   obtain⟨g,rfl⟩:=b6;refine Uq ?_;refine qY ?_
   refine zaj fun c k a9=>?_
   obtain⟨F,Z,W,X,p⟩:=(E _).1 k;obtain⟨D,f,al⟩:∃D,(Value.tuple #[I6 (H (a.kind,a.n)),I6 g])= Xm #[I6 (H (a.kind,a.n)),I6 D]/\zey enK c (w.heap.size+1) H (a.kind,a.n) D:=a9 8;have Q:zey enK c (w.heap.size+1) H (a.kind,a.n) g:=by
    simp at f
    rw[f];exact al
   have x:=dD W;have c:=dD X
   have r:=dD p;have u:=dD F;have q:=dD Q;clear l n S T a9 k F Z W X p al f Q A;refine zbg (K:=enK) rfl 133 (.tmp 47) (.tmp 56) (.tmp 54) rfl (w.heap.size+1) H (a.kind,a.n) g q rfl rfl Gn ?_
   intro g k a _;have n:=dD<|x.grown a (u.bP x);have f:=dD<|c.grown a (u.ne_own c)
   have c:Xo (zc w g):=dD<|zd r a Wm
   have l:Xo (Js enK g (w.heap.size+1) (qz m i ((qP s).take (j+1)) s)):=dD<|k.congr fun G=>by rw[aj.out,znu,t.out,a5.out];rfl
   clear k a ab ac;go_wp2
   go_roundg (C -(j+1));exact⟨j+1,Wm,Wm,Gn,c,f,n,l⟩;omega
  have B:=kD d
  have:j=C:=Wm
  subst this;have a:Xo (Js enK wr (w.heap.size+1) (qz m (i+1) [] zem)):=dD<|a0.congr fun G=>by
   rw[Xu (by rw[a8.out];exact nR _)]
   exact znv m i s zem b8 G
  go_wp2
  go_roundg (b -(i+1));exact⟨i+1,Wm,Wm,Gn,N,a⟩;omega
 have z:=kD h
 have:i=b:=Wm
 subst this;have a:Xo (Js enK wr (w.heap.size+1) (qz m m.sp.length [] zem)):=dD<|Rx a6.out a0.out
 go_wp2;go_ret;exact⟨_,rfl,a,N⟩
def qN (fl:List Fl) (i:Nat) (bl:List Int):List Int:=(Jd (fl.take i))++bl
theorem zaX {n:Nat} {g h:List Int} (e:∀i:Nat,i<n->g.contains (i:Int)=h.contains (i:Int)):qL n g=qL n h:=by
 grind [qL,List.map_congr_left,Oa.1]
theorem zlz (fl) (i:Nat) (a) {b:Int} (c:b<0) (n:Nat):qL n (qN fl i (a++ [b]))=qL n (qN fl i a):=zaX fun j _=>by grind [qN]
theorem znO (fl) (i:Nat) (a) (b:Nat) (n:Nat):qL n ((b:Int) :: qN fl i a)=qL n (qN fl i (a++ [(b:Int)])):=zaX fun j _=>by
 unfold qN
 grind
theorem zlA {fl:List Fl} {i:Nat} {f:Fl} (a:fl[i]? =Xa f):qN fl i f.bl=qN fl (i+1) []:=by
 unfold qN Jd;rw[List.take_add_one,a];simp
theorem znP (fl:List Fl) (b:Int):(qN fl fl.length []).contains b=zR fl b:=by
 unfold qN Jd zR;rw[List.take_length,Yu,Ys];simp
theorem ztH:(Tryz.prog.info? 114).map (·.size)=Xa 80:=by kernel_rfl
theorem zhf (n:Nat) (g):∀v∈qL n g,v.oneCell'=Xc:=fun v a=>by
 unfold qL at a;obtain⟨i,_,rfl⟩:=Yh.1 a;rfl
theorem zbt (n:Nat) (g):(qL n g).length=n:=by simp[qL]
theorem zdQ (v) (fl:List Fl) (d:Int) (w) (a7:z7 w v fl) (H:stW fl d=0):
  Xp prog 62 #[Xi #[v,I6 d]] w fun e w'=>e= Xl (Xi (qL 80 (qN fl fl.length [])).toArray)/\zc w w':=by
 have ay:=zbY;obtain⟨a0,a1,rfl,D,n⟩:=a7.rows;have af:=dD n;clear n a7;have ac:Xo (∀f∈fl,∀b∈f.bl,b=-1\/(0<=b/\b<80)):=show∀f∈fl,_ from fun f au b a5=>by
  obtain⟨⟨_,_,ar⟩,aq,_⟩:=(zY fl d).1 H
  rcases(aq f au).2.2 b a5 with a3|a3
  ·exact .inl a3
  exact .inr Wm
 clear H;obtain⟨q,I⟩:=kA fl.length;rw[I.out]at D⊢;obtain⟨K,a⟩:=kB (((w.alloc (Xk #[O a0 q a1,I6 d] 41)).alloc (Xk zgo 114)).alloc (Xk zgo 114));have M:Xo (zc w K):=dD<|by rw[<-a];exact((za _ _).trans (za _ _)).trans (za _ _)
 have ah:Xo (Box K w.heap.size [O a0 q a1,I6 d]):=dD<|by rw[<-a];exact((Box.aE _ _ _ rfl).alloc _).alloc _
 have ai:Xo (Box K (w.heap.size+1) (qL 80 [])):=dD<|by rw[<-a,zdv];exact(Box.aE _ (Xr 80 (Xh Xd)) _ Sm).alloc _
 have al:Xo (Box K (w.heap.size+1+1) (qL 80 (qN fl 0 []))):=dD<|by
  have:qL 80 (qN fl 0 [])=qL 80 []:=zaX fun i _=>by simp[qN,Jd]
  rw[<-a,this,zdv];exact Box.aE _ (Xr 80 (Xh Xd)) _ Sm
 have T:=dD a;clear a
 go_enter func62,ntmps62
 go_upto_region 2 with fail;rw[T.out];clear ay;have az:=ah.c 0 rfl;go_wp2;clear az
 go_loopg [5,11] q (fun U _ Y wr=>∃i:Nat,i<=q/\q - i<=U/\Y=I6 i/\Xo (zc w wr)/\Xo (Box wr (w.heap.size+1) (qL 80 []))/\Xo (Box wr (w.heap.size+1+1) (qL 80 (qN fl i []))))
 exact⟨0,nZ _,Wm,rfl,M,ai,al⟩
 obtain⟨i,b4,aw,rfl,h,A,l⟩:=hrel
 by_cases x:i<q
 ·have F:=kC x
  obtain⟨f,L⟩:∃f,Xo (fl[i]? =Xa f):=⟨_,gE (Rx I.out x)⟩
  obtain⟨b2,rfl,a8,b0,z,a6⟩:=af.out i f L.out;obtain⟨ao,a2⟩:=a6 wr h.out;obtain⟨_,_,u,G⟩:=z.bB;have ax:=z.short;have Q:Xo (zoC w a8 f.bl):=dD<|by
   simp only[vJ]at u;rw[u.1];exact G
  clear u G z a6;obtain⟨r,R⟩:=kA f.bl.length;rw[R.out]at a2 ax;go_upto_region 5 with fail;obtain⟨b1,c⟩:=kB (wr.alloc (Xk #[I6 f.size,O a8 r b0] 159));have N:=gT c h
  have a9:=xA c
  have aj:=yA c A
  have am:=yA c l
  rw[c];clear c ao a2;have ap:=a9.c 1 rfl;go_wp2;clear ap;have ae:=dD h
  go_loopg [7,18] r (fun U _ Z wr=>∃j:Nat,j<=r/\r - j<=U/\Z=I6 j/\Xo (zc w wr)/\Xo (Box wr (w.heap.size+1) (qL 80 []))/\Xo (Box wr (w.heap.size+1+1) (qL 80 (qN fl i (f.bl.take j)))))
  exact⟨0,nZ _,Wm,rfl,N,aj,Rx Yi am⟩
  obtain⟨j,b5,av,rfl,h,A,l⟩:=hrel
  by_cases g:j<r
  ·have y:=kC g
   obtain⟨b,s⟩:∃b,Xo (f.bl[j]? =Xa b):=⟨_,gE (Rx R.out g)⟩
   obtain⟨an,rfl,E⟩:=Q.out j b s.out;have b3:=E wr h.out;have S:=dD<|ac.out f (mG L) b (mG s);have B:=dD<|ZB s.out;clear E
   by_cases a5:0<=b
   ·obtain⟨p,rfl⟩:∃p:Nat,b=(p:Int):=⟨b.toNat,Wm⟩
    have m:p<80:=Hm S.out
    have b6:=l.c p (zbu _ m);have b7:=l.f;have C:Xo (Box (wr.setCell ⟨w.heap.size+1+1,p,Xb⟩ (Xh Xc)) (w.heap.size+1+1) (qL 80 (qN fl i (f.bl.take (j+1))))):=dD<|by
     rw[B.out,<-znO,<-zhe _ m];exact l.set p _
    have ak:Xo (Box (wr.setCell ⟨w.heap.size+1+1,p,Xb⟩ (Xh Xc)) (w.heap.size+1) (qL 80 [])):=dD<|A.other Sm _
    have aa:Xo (zc w (wr.setCell ⟨w.heap.size+1+1,p,Xb⟩ (Xh Xc))):=dD<|zK h (by simp;omega) _
    go_wp2
    go_roundg (r -(j+1));exact⟨j+1,Wm,Wm,Gn,aa,ak,C⟩;omega
   have C:Xo (Box wr (w.heap.size+1+1) (qL 80 (qN fl i (f.bl.take (j+1))))):=dD<|by
    rw[B.out,zlz _ _ _ Wm]
    exact l.out
   go_wp2
   go_roundg (r -(j+1));exact⟨j+1,Wm,Wm,Gn,h,A,C⟩;omega
  have y:=kD g
  have:j=r:=Wm
  subst this;have C:Xo (Box wr (w.heap.size+1+1) (qL 80 (qN fl (i+1) []))):=dD<|by
   have a4:=l.out;rw[Xu (by rw[R.out];exact nR _),zlA L.out]at a4
   exact a4
  go_wp2
  go_roundg (q -(i+1));exact⟨i+1,Wm,Wm,Gn,h,A,C⟩;omega
 have F:=kD x
 have:i=q:=Wm
 subst this;obtain⟨X,k⟩:=kA (qL 80 (qN fl i []));have t:Xo (X.length=80):=dD<|by rw[<-k.out];exact zbt _ _
 have P:Xo (∀v∈X,v.oneCell'=Xc):=dD<|by rw[<-k.out];exact zhf _ _
 rw[k.out]at l;go_upto_region 12 with fail
 go_wp2_with (first | (refine zp rfl 114 (.tmp 3) rfl (w.heap.size+1+1) rfl l underlying114 rfl (Rx t.out ztH) ?_) | (refine zz rfl 114 (.tmp 2) (.tmp 28) rfl (w.heap.size+1) rfl X rfl A (by rw[t.out,zbt]) (Rx zbt ztH) P.out ?_))
 intro ag V W _;have ab:Xo (zc w ag):=dD<|zd h W Wm
 go_wp2;refine bodyPost_ret (zE rfl _ rfl V underlying114 rfl (Rx t.out ztH)) rfl ⟨by rw[<-k.out],ab⟩
theorem zl9 (a b c d e f g h:Int):zfA ⟨a,b,c,d,e,f,g,h⟩ ⟨0,0,0,0,0,0,0,0⟩=([a,b,c,d,e,f,g,h] == zI):=by
 rw[Ys,zbo]
 simp[zI]
def zhZ (m:Ma) (b:Nat):Bool:=!zR m.fl (b:Int) && !(m.db.getD b [] == zI)
theorem zlX (a:b<m.db.length) (h:zhZ m b=Xc):zbO m=7:=by
 unfold zbO;rw[kE];rw[Ye];exact⟨b,Oa.2 a,h⟩
theorem zkV {q:Int × List Int} (a:m.dq[j]? =Xa q) (h:zR m.fl q.1=Xd):zbn m=7:=by
 grind [zbn,Ye,mG]
theorem zh7 {n:Nat} {qs:List (Int × List Int)} (h:zB n qs=0):n<=80/\∀(j:Nat) q,qs[j]? =Xa q->0<=q.1/\q.1<n:=by grind [zB,j0,Ye.2,mG]
theorem zp1 (a:b<80):(qL 80 (qN m.fl m.fl.length []))[b]? =Xa (Xh (zR m.fl (b:Int))):=by
 rw[zbu _ a,znP]
theorem zpV (a:zcl m Xb m.ca=0) (k:Nat):frE m k=if(zQ m k).r≠qz m m.sp.length [] zem (1,(k:Int))\/(0<=(zQ m k).f/\¬ZI m.ca ((zQ m k).f,(zQ m k).x)=Xa (k:Int))then 7 else 0:=by
 unfold frE;rw[zj4 m zem (k:Int) (by decide:(1:Int)≠0),kE rfl]
 grind [zlm,zX,ZI,zQ]
theorem zmC (m:Ma) (k:Nat):zoL m k=if m.sl.getD k 0≠qz m m.sp.length [] zem (2,(k:Int))then 7 else 0:=by
 unfold zoL;have h:=zj4 m zem (k:Int) (by decide:(2:Int)≠0)
 grind
def chk:List Nat:=[28,29,30,31,32,33]
def zrV (m:Ma):List Int:=[zC (QW m),zC (Jy m),Qp m,zeC m,zgv m,zaN m]
theorem zgu (h:Qp m=0):m.sp.length<=4:=by
 unfold Qp at h
 split at h
 ·cases h
 omega
theorem zlS (k f:Nat) (a:chk[k]? =Xa f):∀b w,(callFunc f b).run prog w= .ok (.enter f b) w:=by
 match k,a with
 | 0,a=>cases a;exact enters_of func28 Kr rfl
 | 1,a=>cases a;exact enters_of func29 Kr rfl
 | 2,a=>cases a;exact enters_of func30 Kr rfl
 | 3,a=>cases a;exact enters_of func31 Kr rfl
 | 4,a=>cases a;exact enters_of func32 Kr rfl
 | 5,a=>cases a;exact enters_of func33 Kr rfl
 | k+6,a=>simp[chk]at a
def fnV (f:Nat):Xq:= .func (.func f) #[] #[]
theorem zaU {a n:Nat} {w:Xn} {e:TypeId} {v:Xq} (h:w.ownsRow b e a v n xs) (c:v.ownBlock=Xa g):b<=g/\g<w.heap.size/\∃cs,w.heap[g]? =Xa (Xk cs e (0,0)):=by
 rcases h.2 with⟨rfl,_⟩|⟨k,a,a,rfl,a,a,a⟩
 ·cases c
 simp only[Value.ownBlock,Option.some.injEq]at c
 grind
theorem zcs {D:Nat->Prop} {a n:Nat} {w:Xn} {e:TypeId} {v:Xq} (h:w.ownsRow b e a v n xs) (k:zk D w W) (i:∀g,v.ownBlock=Xa g->¬D g):W.ownsRow b e a v n xs:=by
 refine⟨h.1,?_⟩
 rcases h.2 with a|⟨g,a,c,rfl,f,d,h⟩
 ·grind
 exact .inr ⟨g,a,c,rfl,f,by rw[k.block g (aS.1 d).1 (i g rfl)];exact d,h⟩
variable{X:Nat->Prop}
theorem jm {D:Nat->Prop} {a n:Nat} {w:Xn} {e:TypeId} {v:Xq} (h:w.ownsRow b e a v n xs) (k:zk D w W) (i:∀g,v.ownBlock=Xa g->¬D g):W.ownsRow b e a v n xs:=by
 refine⟨h.1,?_⟩
 rcases h.2 with a|⟨g,a,c,rfl,f,d,h⟩
 ·grind
 exact .inr ⟨g,a,c,rfl,f,by rw[k.block g (aS.1 d).1 (i g rfl)];exact d,h⟩
def oB (s:Sli) (b:Nat):Prop:=(O s.a s.n s.c).ownBlock=Xa b
def Dw (p:Nat) (V:MaV):Nat->Prop:=fun b=>b=p\/oB V.f b\/oB V.ca b\/oB V.sp b
def Dr (B:Nat) (X:Nat->Prop) (p:Nat) (V:MaV):Nat->Prop:=fun b=>(b<B\/X b)\/Dw p V b
def noX:Nat->Prop:=fun _=>False
structure zjw (w:Xn) (V:MaV) (m:Ma):Prop where
 sl:zj slE w (O V.s.a V.s.n V.s.c) m.sl
 sb:qV w (O V.sb.a V.sb.n V.sb.c) m.sb
 sq:jr w (O V.sq.a V.sq.n V.sq.c) m.sq
 db:qV w (O V.db.a V.db.n V.db.c) m.db
 dq:jr w (O V.dq.a V.dq.n V.dq.c) m.dq
 fl:z7 w (O V.fl.a V.fl.n V.fl.c) m.fl
structure ChW (w0:Xn) (X:Nat->Prop) (p:Nat) (w:Xn) (V:MaV) (m:Ma):Prop where
 grx:zc w0 w/\∀k,X k->k<w.heap.size
 lo:w0.heap.size<=p
 box:zl w p 88 (chL V m)
 fs:zb qi w0.heap.size w (O V.f.a V.f.n V.f.c) m.fs
 ca:zb Zz w0.heap.size w (O V.ca.a V.ca.n V.ca.c) m.ca
 sp:∃xs:List SpV,zb Jm w0.heap.size w (O V.sp.a V.sp.n V.sp.c) xs/\xs.length=m.sp.length/\∀(i:Nat) x s,xs[i]? =Xa x->m.sp[i]? =Xa s->∀W,zk (Dr w0.heap.size X p V) w W->Zf W x s
 rest:∀W,zk (Dr w0.heap.size X p V) w W->zjw W V m
def Chg (w0:Xn) (X:Nat->Prop) (p:Nat) (w:Xn) (V:MaV) (m':Ma) (w':Xn):Prop:=∃V':MaV,ChW w0 X p w' V' m'/\zk (Dw p V) w w'/\∀k,Dw p V' k->Dw p V k\/w.heap.size<=k
section
variable{w0 w w1 w2:Xn} {p:Nat} {V V':MaV} {m m':Ma}
theorem ChW.gr (h:ChW w0 X p w V m):zc w0 w:=h.grx.1
theorem ChW.aM (h:ChW w0 X p w V m):∀k,Dw p V k->k<w.heap.size:=by
 rintro k (rfl|a|a|a)
 ·exact h.box.box.lt
 ·exact(h.fs.lt k a).2
 ·exact(h.ca.lt k a).2
 obtain⟨b,b,_⟩:=h.sp;exact(b.lt k a).2
theorem ChW.dlo (h:ChW w0 X p w V m):∀k,Dw p V k->w0.heap.size<=k:=by
 rintro k (rfl|a|a|a)
 ·exact h.lo
 ·exact(h.fs.lt k a).1
 ·exact(h.ca.lt k a).1
 obtain⟨b,b,_⟩:=h.sp;exact(b.lt k a).1
theorem ChW.drt (h:ChW w0 X p w V m):∀k,Dr w0.heap.size X p V k->k<w.heap.size:=by
 rintro k ((a|a) | a)
 ·exact Xs a (bS h.gr)
 ·exact h.grx.2 k a
 exact h.aM k a
theorem ChW.aA (h:ChW w0 X p w V m) (k:zc w w1):ChW w0 X p w1 V m:=by
 obtain⟨e,b,c,d⟩:=h.sp;exact⟨⟨h.gr.trans k,fun j a=>Xs (h.grx.2 j a) (bS k)⟩,h.lo,h.box.aA k,h.fs.aA k,h.ca.aA k,⟨e,b.aA k,c,fun i x s c b W a=>d i x s c b W ((zk.aA k).trans a)⟩,fun W a=>h.rest W ((zk.aA k).trans a)⟩
theorem ChW.at (h:ChW w0 X p w V m):zw w V m:=by
 have r:=h.rest w (zk.refl _ _);obtain⟨d,a,b,c⟩:=h.sp;exact⟨h.fs.at,r.sl,r.sb,r.sq,r.db,r.dq,r.fl,h.ca.at,⟨d,a.at,b,fun i x s b a=>c i x s b a w (zk.refl _ _)⟩⟩
theorem ChW.nf (h:ChW w0 X p w V m):∀g,oB V.f g->p≠g:=h.fs.ne h.box Dc
theorem ChW.nc (h:ChW w0 X p w V m):∀g,oB V.ca g->p≠g:=h.ca.ne h.box Dc
theorem ChW.ns (h:ChW w0 X p w V m):∀g,oB V.sp g->p≠g:=by
 obtain⟨a,a,_⟩:=h.sp;exact a.ne h.box Dc
theorem ChW.fc (h:ChW w0 X p w V m):∀g,oB V.f g->¬oB V.ca g:=h.fs.apart h.ca Dc
theorem ChW.fS (h:ChW w0 X p w V m):∀g,oB V.f g->¬oB V.sp g:=by
 obtain⟨a,a,_⟩:=h.sp;exact h.fs.apart a Dc
theorem ChW.cS (h:ChW w0 X p w V m):∀g,oB V.ca g->¬oB V.sp g:=by
 obtain⟨a,a,_⟩:=h.sp;exact h.ca.apart a Dc
theorem ChW.key (k:zk (Dw p V) w w1) (f:∀k,Dw p V' k->Dw p V k\/w.heap.size<=k) (a:zk (Dr w0.heap.size X p V') w1 W):zk (Dr w0.heap.size X p V) w W:=
 ⟨a.os.trans k.os,a.tape.trans k.tape,a.output.trans k.output,nT k.size a.size,fun b d c=>(a.block b (Xs d k.size) (fun e=>by
  rcases e with e|e
  ·exact c (.inl e)
  rcases f b e with e|e
  ·exact c (.inr e)
  omega)).trans (k.block b d (fun e=>c (.inr e)))⟩
theorem ChW.grOut (h:ChW w0 X p w V m) (k:zk (Dw p V) w w1):zc w0 w1:=
 ⟨k.os.trans (Below.os h.gr),k.tape.trans (Below.tape h.gr),k.output.trans (Below.output h.gr),nT (bS h.gr) k.size,fun b a=>(k.block b (Xs a (bS h.gr)) (fun e=>Hm (h.dlo b e))).trans (Below.block h.gr b a)⟩
theorem ChW.grX (h:ChW w0 X p w V m) (k:zk (Dw p V) w w1):zc w0 w1/\∀j,X j->j<w1.heap.size:=⟨h.grOut k,fun j a=>Xs (h.grx.2 j a) k.size⟩
theorem Chg.refl (h:ChW w0 X p w V m) (g:zc w w1):Chg w0 X p w V m w1:=⟨V,h.aA g,zk.aA g,fun _ a=> .inl a⟩
theorem Chg.aI (g:zc w w1) (h:Chg w0 X p w1 V m' w2):Chg w0 X p w V m' w2:=by
 obtain⟨a,b,d,c⟩:=h;refine⟨a,b,(zk.aA g).trans d,fun k a=>?_⟩
 rcases c k a with e|e
 ·grind
 exact .inr (nT (bS g) e)
theorem Chg.step {b:MaV} (a:zk (Dw p V) w w1) (c:∀k,Dw p b k->Dw p V k\/w.heap.size<=k) (e:Chg w0 X p w1 b m' w2):Chg w0 X p w V m' w2:=by
 obtain⟨c,d,b,f⟩:=e;refine⟨c,d,⟨b.os.trans a.os,b.tape.trans a.tape,b.output.trans a.output,nT a.size b.size,fun c d g=>(b.block c (Xs d a.size) (fun e=>?_)).trans (a.block c d g)⟩,fun k b=>?_⟩
 ·grind
 rcases f k b with e|e
 ·grind
 exact .inr (nT a.size e)
theorem Chg.far {a:MaV} (g:zc w w1) (d:∀k,Dw p a k->Dw p V k\/w1.heap.size<=k):∀k,Dw p a k->Dw p V k\/w.heap.size<=k:=fun k a=>(d k a).elim .inl fun e=> .inr (nT (bS g) e)
theorem zl.bW {cs:List Xq} (h:zl w b t cs) (k:zk (Dw p V) w w1) (a:¬Dw p V b):zl w1 b t cs:=h.aK k a
theorem ChW.field (h:ChW w0 X p w V m) (k:zc w w1) (c:w1.grownBy w2 (Xa p)) (f:V'.f=V.f) (n:V'.ca=V.ca) (q:V'.sp=V.sp) (g:m'.fs=m.fs) (u:m'.ca=m.ca) (r:m'.sp=m.sp) (a:zl w2 p 88 (chL V' m')) (rs:∀W,zk (Dr w0.heap.size X p V) w W->zk (Dr w0.heap.size X p V) w1 W->zjw W V m->zjw W V' m'):Chg w0 X p w V m' w2:=by
 have j:zk (Dw p V) w w2:=(zk.aA k).trans (zk.grown c (.inl rfl));have e:Dw p V'=Dw p V:=by unfold Dw;rw[f,n,q]
 have d:Dr w0.heap.size X p V'=Dr w0.heap.size X p V:=by unfold Dr;rw[e]
 obtain⟨i,x,b,y⟩:=h.sp;refine⟨V',⟨h.grX j,h.lo,a,?_,?_,⟨i,?_,Rx r b,fun t z v s i W b=>?_⟩,fun W b=>?_⟩,j,fun l a=> .inl (by rw[e]at a;exact a)⟩
 ·rw[f,g];exact(h.fs.aA k).grown c (fun g f e=>h.nf g f (by cases e;rfl))
 ·rw[n,u];exact(h.ca.aA k).grown c (fun g f e=>h.nc g f (by cases e;rfl))
 ·rw[q];exact(x.aA k).grown c (fun g f e=>h.ns g f (by cases e;rfl))
 ·rw[d]at b;rw[r]at i;exact y t z v s i W ((j.wide fun l a=> .inr a).trans b)
 rw[d]at b;exact rs W ((j.wide fun l a=> .inr a).trans b) (((zk.grown c (.inr (.inl rfl)))).trans b) (h.rest W ((j.wide fun l a=> .inr a).trans b))
theorem ChW.setS (h:ChW w0 X p w V m) {b:Sli} {a:List Int} (d:zc w w1) (f:z3 slE w.heap.size w1 (b.x) a) (e:w1.grownBy w2 (Xa p)) (c:zl w2 p 88 (chL { V with s:=b } { m with sl:=a })):Chg w0 X p w V { m with sl:=a } w2:=
 h.field (V':={ V with s:=b }) (m':={ m with sl:=a }) d e rfl rfl rfl rfl rfl rfl c (fun W _ a r=>⟨f.aN h.drt W a,r.sb,r.sq,r.db,r.dq,r.fl⟩)
theorem ChW.setF (h:ChW w0 X p w V m) {b:Sli} {fs:List Fr} {a:Int} (j:zc w w1) (l:zb qi w.heap.size w1 (b.x) fs) (d:w1.grownBy w2 (Xa p)) (c:zl w2 p 88 (chL { V with f:=b } { m with fs:=fs,aB:=a })):Chg w0 X p w V { m with fs:=fs,aB:=a } w2:=by
 have i:zk (Dw p V) w w2:=(zk.aA j).trans (zk.grown d (.inl rfl));have e:=h.aM p (.inl rfl);have a:∀k,Dw p { V with f:=b } k->Dw p V k\/w.heap.size<=k:=by
  rintro k (e|e|e|e)
  ·exact .inl (.inl e)
  ·exact .inr (l.lt k e).1
  ·exact .inl (.inr (.inr (.inl e)))
  exact .inl (.inr (.inr (.inr e)))
 obtain⟨r,k,n,q⟩:=h.sp;refine⟨{ V with f:=b },⟨h.grX i,h.lo,c,(l.base (bS h.gr)).grown d (fun g c e=>?_),(h.ca.aA j).grown d (fun g c e=>h.nc g c (by cases e;rfl)),⟨r,(k.aA j).grown d (fun g c e=>h.ns g c (by cases e;rfl)),n,fun k x s j g W d=>q k x s j g W (ChW.key i a d)⟩,fun W d=>?_⟩,i,a⟩
 ·cases e;have:=(l.lt _ c).1;omega
 have r:=h.rest W (ChW.key i a d);exact⟨r.sl,r.sb,r.sq,r.db,r.dq,r.fl⟩
theorem ChW.frame (h:ChW w0 X p w V m) {fs:List Fr} (c:oB V.f g) (b:w.grownBy w1 (Xa g)) (q:zb qi w0.heap.size w1 (V.f.x) fs):Chg w0 X p w V { m with fs:=fs } w1:=by
 have d:zk (Dw p V) w w1:=zk.grown b (.inr (.inl c));have i:∀k,Dw p V k->Dw p V k\/w.heap.size<=k:=fun _ a=> .inl a
 obtain⟨y,t,u,v⟩:=h.sp;refine⟨V,⟨h.grX d,h.lo,h.box.beside b (fun k e=>by cases e;exact h.nf g c),q,h.ca.grown b (fun k a e=>by cases e;exact h.fc _ c a),⟨y,t.grown b (fun k a e=>by cases e;exact h.fS _ c a),u,fun n x s l j W f=>v n x s l j W (ChW.key d i f)⟩,fun W f=>?_⟩,d,i⟩
 have r:=h.rest W (ChW.key d i f);exact⟨r.sl,r.sb,r.sq,r.db,r.dq,r.fl⟩
theorem ChW.cache (h:ChW w0 X p w V m) {b:Sli} {l:List Ca} (j:zk (oB V.ca) w w1) (i:∀g,oB b g->oB V.ca g\/w.heap.size<=g) (r:zb Zz w0.heap.size w1 (b.x) l) (c:w1.grownBy w2 (Xa p)) (n:zl w2 p 88 (chL { V with ca:=b } { m with ca:=l })):Chg w0 X p w V { m with ca:=l } w2:=by
 have a:zk (Dw p V) w w2:=(j.wide fun k d=> .inr (.inr (.inl d))).trans (zk.grown c (.inl rfl))
 have d:∀k,Dw p { V with ca:=b } k->Dw p V k\/w.heap.size<=k:=by
  rintro k (e|e|e|e)
  ·exact .inl (.inl e)
  ·exact .inl (.inr (.inl e))
  ·rcases i k e with e|e
   ·exact .inl (.inr (.inr (.inl e)))
   grind
  exact .inl (.inr (.inr (.inr e)))
 have f:=h.aM p (.inl rfl);have own:∀{f:Type} {E:Elt f} {s:Sli} {l:List f},zb E w0.heap.size w (s.x) l->(∀g,oB s g->¬oB V.ca g)->(∀g,oB s g->p≠g)->zb E w0.heap.size w2 (s.x) l:=fun f k q=>by refine zb.grown ⟨jm f.1 j k,f.2⟩ c (fun g f e=>q g f (by cases e;rfl))
 obtain⟨t,j,k,q⟩:=h.sp;refine⟨{ V with ca:=b },⟨h.grX a,h.lo,n,own h.fs h.fc h.nf,r.grown c (fun g f e=>?_),⟨t,own j (fun g c b=>h.cS g b c) h.ns,k,fun n x s k j W c=>q n x s k j W (ChW.key a d c)⟩,fun W c=>?_⟩,a,d⟩
 ·cases e
  rcases i _ f with e|e
  ·exact h.nc _ e rfl
  omega
 have r:=h.rest W (ChW.key a d c);exact⟨r.sl,r.sb,r.sq,r.db,r.dq,r.fl⟩
theorem ChW.setT (h:ChW w0 X p w V m) {xs:List SpV} {q:Nat} {x y:SpV} {s:Sp} {t:List (List En)} (s2:xs.length=m.sp.length) (s3:∀(i:Nat) x s,xs[i]? =Xa x->m.sp[i]? =Xa s->∀W,zk (Dr w0.heap.size X p V) w W->Zf W x s) (n:xs[q]? =Xa x) (l:m.sp[q]? =Xa s) (b:oB V.sp g)
  (d:zc w w1) (z:za8 0 w.heap.size w1 us t) (a:w1.grownBy w2 (Xa g)) (v:zb Jm w0.heap.size w2 (V.sp.x) (xs.set q y)) (r:y.aH=x.aH/\y.ar=x.ar/\y.tab=us):Chg w0 X p w V { m with sp:=m.sp.set q { s with tb:=t } } w2:=by
 have u:zk (Dr w0.heap.size X p V) w1 w2:=zk.grown a (.inr (.inr (.inr (.inr b))));have f:zk (Dw p V) w w2:=(zk.aA d).trans (zk.grown a (.inr (.inr (.inr b))));have j:∀k,Dw p V k->Dw p V k\/w.heap.size<=k:=fun _ c=> .inl c
 refine⟨V,⟨h.grX f,h.lo,(h.box.aA d).beside a (fun k e=>by cases e;exact h.ns g b),(h.fs.aA d).grown a (fun k c e=>by cases e;exact h.fS _ c b),(h.ca.aA d).grown a (fun k c e=>by cases e;exact h.cS _ c b),⟨xs.set q y,v,by simp[s2],fun i a d b a W c=>?_⟩,fun W c=>?_⟩,f,j⟩
 ·by_cases e:i=q
  ·subst e;rw[sF (gS.1 n).1]at b;have a:(m.sp.set i { s with tb:=t })[i]? =Xa d:=a;rw[sF (gS.1 l).1]at a;cases b;cases a;have k:=s3 i x s n l W (ChW.key f j c);obtain⟨b,a,d⟩:=r;refine⟨b.trans k.aH,Rx a k.ar,Rx a k.cap,?_⟩
   rw[d];exact z.aK h.drt (u.trans c)
  grind [sN,ChW.key]
 have r:=h.rest W (ChW.key f j c);exact⟨r.sl,r.sb,r.sq,r.db,r.dq,r.fl⟩
end
variable{X:Nat->Prop}
theorem zed.bZ {base p:Nat} {w:Xn} (h:zed base w V m) (a:B<=base) (hp:w.heap.size<=p) (k:zk (Dr B noX p V) w W):zjw W V m/\∀(g:List SpV) (c:Nat->Nat),base<=c 0->(∀i,c i<=c (i+1))->(∀(i:Nat) x s,g[i]? =Xa x->m.sp[i]? =Xa s->Jf (c i) (c (i+1)) w x s)->∀(i:Nat) x s,g[i]? =Xa x->m.sp[i]? =Xa s->Zf W x s:=by
 obtain⟨a,_,r,_⟩:=h.sp;have b:∀{e a n:Nat} {d:TypeId} {v:Xq} {g:List Xq},w.ownsRow e d a v n g->base<=e->Jm.ty≠d/\qi.ty≠d/\Zz.ty≠d->W.ownsRow e d a v n g:=fun n d l=>zcs n k fun a j a=>by
  obtain⟨f,f,f,f⟩:=zaU n j
  rcases a with(a|a) | a|a|a|a
  ·omega
  ·exact a.elim
  ·omega
  ·obtain⟨q,j⟩:=h.fs.obj a;rw[j]at f;cases f;exact l.2.1 rfl
  ·obtain⟨q,j⟩:=h.ca.obj a;rw[j]at f;cases f;exact l.2.2 rfl
  obtain⟨q,j⟩:=r.obj a;rw[j]at f;cases f;exact l.1 rfl
 have a:∀{j:Type} {E:Elt j} {e:Nat} {v:Xq} {f:List j},zb E e w v f->base<=e->Jm.ty≠E.ty/\qi.ty≠E.ty/\Zz.ty≠E.ty->zb E e W v f:=fun n d l=>⟨b n.1 d l,n.2⟩
 obtain⟨n,⟨t,e,j,l,r⟩,q,f⟩:=h.fl;have f:z4 n W (V.fl.x) m.fl:=⟨t,a e q Dc,j,fun i x j e n=>⟨(l i x j e n).1,a (l i x j e n).2 q Dc⟩,r⟩
 have d:=nR base;refine⟨⟨(a h.sl d Dc).at,zs.at ⟨b h.sb.1 d Dc,h.sb.2⟩,zo.at ⟨b h.sq.1 d Dc,h.sq.2⟩,zs.at ⟨b h.db.1 d Dc,h.db.2⟩,zo.at ⟨b h.dq.1 d Dc,h.dq.2⟩,f.new.bQ⟩,fun g c f g d i x s e h=>?_⟩
 have b:=d i x s e h;have d:=nT f (zdt g (nZ i));have f:Jf (c i) (c (i+1)) W x s:=⟨b.aH,a b.ar d Dc,⟨b.tb.len,b.tb.aO,fun j v y c e=>a (b.tb.row j v y c e) d Dc,b.tb.two⟩,b.arh,b.tbh⟩
 exact f.at
theorem zp7 (V m w) (c:zw w V m):
  Xp prog 24 #[Xi (mL V m).toArray] w fun e w'=>∃(p:Nat) (V':MaV),e= Xl (Xj (Xa ⟨p,0,Xb⟩))/\ChW w noX p w' V' m:=by
 obtain⟨d,a⟩:=kB (w.alloc (Xk (mL V m).toArray 45));have f:=gA a
 have g:=xA a
 have b:=dD a;clear a;have a:=zfD V m d (c.aA f);clear c
 go_enter func24,ntmps24
 go_upto_region 1 with fail;rw[b.out];obtain⟨c,d,h,i,j,k,l,n,q,r,b⟩:=g.bL;go_wp2_with fail;refine a.mono ?_;clear a c d h i j k l n q r b;rintro e d ⟨V',rfl,h,a⟩;have g:=dD (f.trans a);have c:=dD h;have b:=dD<|bS f.out
 clear h a;have h:Xo (ChW w noX d.heap.size (d.alloc (Xk (chL V' m).toArray 88)) V' m):=dD<|by
  have a:zc d (d.alloc (Xk (chL V' m).toArray 88)):=za _ _;obtain⟨f,B,i,j,k,l,n⟩:=c.sp;refine⟨⟨g.trans a,fun _ d=>d.elim⟩,bS g,zl.aE _ _ _ rfl,(c.fs.aA a).base b,(c.ca.aA a).base b,⟨f,(i.aA a).base b,j,fun j x s i g W d=>(c.bZ b (nR _) ((zk.aA a).trans d)).2 f B k l n j x s i g⟩,fun W d=>(c.bZ b (nR _) ((zk.aA a).trans d)).1⟩
 go_wp2;go_ret;exact⟨_,V',rfl,h⟩
section
variable{α:Type} {E:Elt α}
theorem zcN {w:Xn} {base:Nat} {v:Xq} {b:List α} (x:TypeId) (q:zb E base w v b) (G:Xq) (l:List α) (W:zj E w G l) (p:(b.length+l.length)*E.bytes<=140737488355328) (c:base<=w.heap.size):
  ∃f w',(Builtin.append_ #[E.st,E.st] x #[v,G]).run prog w= .ok f w'/\zb E base w' f (b++l)/\w.grownBy w' v.ownBlock/\∀g,f.ownBlock=Xa g->v.ownBlock=Xa g\/w.heap.size<=g:=by
 obtain⟨D,z,t,m,u⟩:=info_parts E.aF;obtain⟨⟨H,y,rfl,j,a⟩,M⟩:=W;have L:(b.length+l.length)*1<=(b.length+l.length)*E.bytes:=Nat.mul_le_mul_left _ (nT E.pos E.few)
 cases H with
 | none=>
  have C:=j rfl;subst C;exact⟨v,w,JF x q y,Si q,World.grownBy.rfl' _ _,fun g i=> .inl i⟩
 | some n=>
  rcases q.1.2 with⟨rfl,B⟩|⟨g,h,K,rfl,S,T,V,N,Q,R⟩
  ·have A:b=[]:=eN B;subst A;obtain⟨f,w',s,r,e,_⟩:=run_append_own (P:=prog) w w.heap.size E.st x E.ty D _ E.k E.bytes E.bV z t m u (zoT E) E.pos _ 0 [] (World.ownsRow_nil _ _ _ _) n l.length y (l.flatMap E.enc) (qC E l) (a n rfl) (qS E.one l) (jB (by simp at L p⊢;omega)) (Si p) (nR _)
   have d:zb E w.heap.size w' f ([]++l):=⟨Si r,Si p⟩
   exact⟨f,w',s,d.base c,e,fun g i=> .inr (d.lt g i).1⟩
  by_cases k:b.length+l.length<=h
  ·obtain⟨w',s,r,e⟩:=run_append_fits (P:=prog) w base E.st x E.ty D E.k E.bV z m g b.length h _ q.1 n l.length y (l.flatMap E.enc) (qC E l) (a n rfl) (qS E.one l) k;exact⟨_,w',s,⟨by rw[lA,Xt];exact r,Rx lA p⟩,e,fun F i=> .inl i⟩
  obtain⟨f,w',s,r,e⟩:=run_append_arg_grows (P:=prog) w E.st x E.ty D _ E.k E.bytes E.bV z t m u (zoT E) E.pos ⟨g,0,Xb⟩ b.length h (b.flatMap E.enc) (qC E b) (q.1.cells rfl) n l.length y (l.flatMap E.enc) (qC E l) (a n rfl) Wm (jB Wm) p
  have d:zb E w.heap.size w' f (b++l):=⟨by rw[lA,Xt];exact r,Rx lA p⟩
  exact⟨f,w',s,d.base c,⟨e.os,e.tape,e.output,e.size,fun X U _=>e.block X U Sm⟩,fun F i=> .inr (d.lt F i).1⟩
theorem ZZ {w:Xn} {rest:List Oper} {a:Act} (f:o.guard=Xb) (s x:Operand) (r:o.op= .call { callee:= .builtin .append,args:=#[s,x],argTypes:=#[E.st,E.st] })
  (base:Nat) (vs:Xq) (h:List α) (t:a.eval s=vs) (c:zb E base w vs h) (i:Xq) (l:List α) (v:a.eval x=i) (u:zj E w i l) (q:(h.length+l.length)*E.bytes<=140737488355328) (b:base<=w.heap.size)
  (j:∀e w',zb E base w' e (h++l)->w.grownBy w' vs.ownBlock->(∀g,e.ownBlock=Xa g->vs.ownBlock=Xa g\/w.heap.size<=g)->wpList prog ops Q rest (a.put o.dst e) w'):wpList prog ops Q (o :: rest) a w:=by
 refine wpList_plain f fun K p=>?_
 obtain⟨e,w',d,k,m,n⟩:=zcN o.type c i l u q b;unfold Oper.wp execOp;simp only[r,resolve,invoke,builtin,Yc,Sem.run_pure,rA,List.map_toArray,mP,Yp,t,v,d];exact p _ _ (j e w' k m n)
end
theorem zeh (V m) (a:Ar) (n:Nat) (e:En) (w) (a9:zw w V m) (ar:jV a) (av:n<=64) (bh:0<=e.n) (b:zeB m a n e=0):
  Xp prog 68 #[Xi (mL V m).toArray,Xi #[I6 a.fr,I6 a.tz,Xh a.rd,Xh a.wr,Xh a.sh,I6 a.file,I6 a.base],I6 (n:Int),Xi #[I6 e.kind,I6 e.n,Xh e.wr]] w fun bd w'=>bd= Xl (I6 0)/\zc w w':=by
 obtain⟨aa,ab,-⟩:=a9.ns;have u:(0<=a.base/\a.base<=100)/\(0<=a.fr/\a.fr<=100):=by
  obtain⟨bq,br,bs,bt,bu,bv,bf,bg⟩:=ar
  by_cases bi:a.file<0
  ·have:=bf bi;omega
  have:=bg Wm;omega
 have y:Xo (∀(q:Fr) W,Xp prog 125 #[Xi (frv q).toArray,Xi #[I6 a.fr,I6 a.tz,Xh a.rd,Xh a.wr,Xh a.sh,I6 a.file,I6 a.base],I6 (n:Int)] W fun e w'=>e= Xl (Xh (Ql q a n))/\zc W w'):=dD<|fun q W=>ziF q a n W u.1 u.2 av
 have z:Xo (∀(q:Fr) W,Xp prog 126 #[Xi (frv q).toArray,Xi #[I6 a.fr,I6 a.tz,Xh a.rd,Xh a.wr,Xh a.sh,I6 a.file,I6 a.base]] W fun e w'=>e= Xl (Xh (ZD q a))/\zc W w'):=dD<|fun q W=>zhd q a W
 have bm:=dD ab.symm;have ay:=dD aa.symm;have P:=dD a9.bF;have al:Xo (zeB m a n e=if e.kind=2 then(if(V.s.n:Int)<=e.n\/a.sh=Xc then 7 else 0)else if(V.f.n:Int)<=e.n then 3 else if Ql (zQ m e.n) a n=Xd\/(e.wr=Xc/\ZD (zQ m e.n) a=Xd)then 7 else 0):=show _=_ by
  unfold zeB;rw[aa,ab]
 rw[al.out]at b;clear a9 ar u aa ab av;have D:zc w (((w.alloc (Xk (mL V m).toArray 45)).alloc (Xk #[I6 a.fr,I6 a.tz,Xh a.rd,Xh a.wr,Xh a.sh,I6 a.file,I6 a.base] 125)).alloc (Xk #[I6 e.kind,I6 e.n,Xh e.wr] 127)):=((za _ _).trans (za _ _)).trans (za _ _);have c:=dD D;clear D
 by_cases v:e.kind=2
 ·have F:(e.kind == 2)=Xc:=by simp[v]
  rw[kE v]at b;clear v;have a6:¬(V.s.n:Int)<=e.n:=fun a5=>by rw[kE (.inl a5)]at b;exact absurd b Dc
  have aw:a.sh=Xd:=by
   cases C:a.sh
   ·rfl
   rw[kE (.inr C)]at b;exact absurd b Dc
  rw[aw]at c y z;rw[aw];clear b
  go_enter func68,ntmps68
  go_wp2;go_ret;exact⟨rfl,c⟩
 have F:(e.kind == 2)=Xd:=by simp[v]
 rw[kF v]at b;clear v;have a6:¬(V.f.n:Int)<=e.n:=fun a5=>by rw[kE a5]at b;exact absurd b Dc
 rw[kF a6]at b;obtain⟨ap,aq,L⟩:=e;simp only at bh F a6 b al c⊢;obtain⟨l,rfl⟩:∃l:Nat,aq=(l:Int):=⟨aq.toNat,Wm⟩
 have a8:l<V.f.n:=Wm
 obtain⟨q,ak⟩:∃q,Xo (m.fs[l]? =Xa q):=⟨_,gE (Rx ay.out a8)⟩
 have E:zQ m (l:Int)=q:=by unfold zQ;rw[tN,gD,ak.out];rfl
 rw[E]at b;clear E;obtain⟨ao,K,au⟩:=P.out l q ak.out;(try simp only[mL,Sli.x]at c P⊢);rw[K]at c P⊢;clear K;obtain⟨p,d⟩:=kB (((w.alloc (Xk #[O (Xa ao) V.f.n V.f.c,I6 m.aB,V.s.x,V.sb.x,V.sq.x,V.db.x,V.dq.x,V.fl.x,I6 m.cnt,V.ca.x,V.sp.x] 45)).alloc (Xk #[I6 a.fr,I6 a.tz,Xh a.rd,Xh a.wr,Xh a.sh,I6 a.file,I6 a.base] 125)).alloc (Xk #[I6 ap,I6 (l:Int),Xh L] 127));rw[d]at c;have b0:Xo (Box p (w.heap.size+1) [I6 a.fr,I6 a.tz,Xh a.rd,Xh a.wr,Xh a.sh,I6 a.file,I6 a.base]):=dD<|by rw[<-d];exact(Box.aE _ _ _ Sm).alloc _
 have an:Xo (Box p (w.heap.size+1+1) [I6 ap,I6 (l:Int),Xh L]):=dD<|by rw[<-d];exact Box.aE _ _ _ Sm
 have az:Xo (Box p w.heap.size [O (Xa ao) V.f.n V.f.c,I6 m.aB,V.s.x,V.sb.x,V.sq.x,V.db.x,V.dq.x,V.fl.x,I6 m.cnt,V.ca.x,V.sp.x]):=dD<|by rw[<-d];exact((Box.aE _ _ _ rfl).alloc _).alloc _
 have bj:=az.c 0 rfl;have bk:=an.c 1 rfl;have B:Xo (p.heap.size=w.heap.size+1+1+1):=dD<|by rw[<-d];simp
 obtain⟨b3,b4,b5,b6,b7,b8,b9,ba,bb,bc,R,S,T⟩:=au p c.out;have Q:Xo (_=p):=d;clear d au;have G:Ql q a n=Xc:=by
  cases C:Ql q a n
  ·rw[kE (.inl C)]at b;exact absurd b Dc
  rfl
 have A:Xo (L=Xc->ZD q a=Xc):=dD<|fun be=>by
  cases C:ZD q a
  ·rw[kE (.inr ⟨be,C⟩)]at b;exact absurd b Dc
  rfl
 clear b;have j:=y.out q;rw[G]at j;have ax:=dD j
 clear j;clear G
 go_enter func68,ntmps68
 go_upto_region 7 with fail;rw[Q.out];go_upto_region 8 with fail;obtain⟨bn,h⟩:=kB (p.alloc (Xk #[U8 q.p.b0,U8 q.p.b1,U8 q.p.b2,U8 q.p.b3,U8 q.p.b4,U8 q.p.b5,U8 q.p.b6,U8 q.p.b7,I6 q.r,Xh q.u,Xh q.d,I6 q.f,I6 q.x] 93));have N:=gT h c
 have am:=yA h b0
 have b2:=yA h an
 have f:=xP h B
 rw[h,B.out];clear h bj bk b3 b4 b5 b6 b7 b8 b9 ba bb bc R S T;obtain⟨ac,ae,af,ag,ah,ai,aj⟩:=am.c7;have U:=f.c 0 rfl;have X:=f.c 1 rfl;have Y:=f.c 2 rfl;have Z:=f.c 3 rfl;have I:=f.c 4 rfl;have a0:=f.c 5 rfl;have a1:=f.c 6 rfl;have a2:=f.c 7 rfl;have a3:=f.c 8 rfl;have a4:=f.c 9 rfl;have r:=f.c 10 rfl;have s:=f.c 11 rfl;have t:=f.c 12 rfl;go_wp2_with fail;refine(ax _).mono ?_;clear ac ae af ag ah ai aj U X Y Z I a0 a1 a2 a3 a4 r s t;rintro e bo ⟨rfl,i⟩;have x:=dD (N.trans i);have b1:=am.aA i;have bl:=(b2.aA i).c 2 rfl;have g:=f.aA i;clear i
 cases L with
 | false=>
  go_wp2;go_ret;exact⟨rfl,x⟩
 | true=>
 have H:=A.out rfl;have k:=z.out q;rw[H]at k;have M:=dD k
 clear k;clear H;obtain⟨ac,ae,af,ag,ah,ai,aj⟩:=b1.c7;have U:=g.c 0 rfl;have X:=g.c 1 rfl;have Y:=g.c 2 rfl;have Z:=g.c 3 rfl;have I:=g.c 4 rfl;have a0:=g.c 5 rfl;have a1:=g.c 6 rfl;have a2:=g.c 7 rfl;have a3:=g.c 8 rfl;have a4:=g.c 9 rfl;have r:=g.c 10 rfl;have s:=g.c 11 rfl;have t:=g.c 12 rfl
 go_wp2_with (go_at_call 126;refine(M _).mono ?_;clear ac ae af ag ah ai aj U X Y Z I a0 a1 a2 a3 a4 r s t bl;rintro e bp ⟨rfl,a7⟩)
 go_ret;exact⟨rfl,x.trans a7⟩
theorem zeg (V m w) (ah:zw w V m) (cr:zks m) (cs:zoB m) (cq:zgv m=0):
  Xp prog 32 #[Xi (mL V m).toArray] w fun e w'=>e= Xl (I6 0)/\zc w w':=by
 have a7:=dD<|fun (a:Ar) (n:Nat) (e:En) W (a9:zc w W) (dr:jV a) (bj:n<=64) (ds:0<=e.n)=>zeh V m a n e W (ah.aA a9) dr bj ds
 have b6:=dD cr.mem;have b8:=dD cs;obtain⟨aw,ax,L,M,G,H,K,F,⟨ar,d,E⟩⟩:=V;dsimp only[mL]at a7⊢;obtain⟨-,-,-,-,-,-,-,-,cc⟩:=ah.ns;dsimp only at cc;obtain⟨eb,ap,S,al⟩:=ah.bG;have bd:=dD ap;have cy:=dD S;have ba:=dD al;have cj:=dD cc.symm;have ct:d<=9223372036854775807:=by
  obtain⟨ek,dy,ef,_⟩:=ah.sp;have:=dy.short;omega
 have b0:Xo (∀s∈m.sp,∀n∈qP s,zgl m (zJ s.aD n) (zh s n)=0):=dD<|fun s dw n bj=>zr.1 ((ziq m s).symm.trans (zr.1 cq _ (Od dw))) _ (Od bj)
 clear ah ap S al cc cr cs cq;obtain⟨ec,C⟩:=kB (w.alloc (Xk #[aw.x,I6 m.aB,ax.x,L.x,M.x,G.x,H.x,K.x,I6 m.cnt,F.x,O ar d E] 45));have b2:=gA C
 have cn:=xA C
 have bc:=dD C;clear C
 go_enter func32,ntmps32
 go_upto_region 1 with fail;rw[bc.out];have ch:=cn.c 10 rfl;go_wp2;clear ch
 go_loopg [12] d (fun bf ce wr=>∃f:Nat,f<=d/\d - f<=bf/\ce=I6 f/\Xo (zc w wr)/\Xo (Box wr w.heap.size [aw.x,I6 m.aB,ax.x,L.x,M.x,G.x,H.x,K.x,I6 m.cnt,F.x,O ar d E]))
 exact⟨0,nZ _,Wm,rfl,b2,cn⟩
 obtain⟨f,du,dt,rfl,g,dc⟩:=hrel
 by_cases D:f<d
 ·have ag:=kC D
  obtain⟨s,b9⟩:∃s,Xo (m.sp[f]? =Xa s):=⟨_,gE (Rx cj.out D)⟩
  obtain⟨x,cl⟩:∃x,Xo (eb[f]? =Xa x):=⟨_,gE (by rw[bd.out,cj.out];exact D)⟩
  have h:=dD<|ba.out f x s cl b9.out;obtain⟨Q,R⟩:=b8.out s (mG b9);have a1:=dD<|(zab.1 Q).2;have bb:=dD R;have ay:=dD h.ar.n.symm;have az:Xo (zky w x.ar.a s.aD):=show zky _ _ _ by
   obtain⟨_,_,aq,cd⟩:=h.ar.aD;simp only[vJ]at aq;rw[aq.1];exact cd
  clear Q R;obtain⟨cp,rfl,q⟩:=cy.out f x cl.out;obtain⟨df,dg,dh,di,dj,dk,dl,dm,dn,dp⟩:=q wr g.out;clear q;go_upto_region 4 with fail;obtain⟨cz,j⟩:=kB (wr.alloc (Xk #[Xh x.aH,x.ar.x,x.t0.x,x.t1.x,x.t2.x,x.t3.x,x.t4.x,x.t5.x,x.t6.x,x.t7.x] 76));have a4:=gT j g
  have db:=yA j dc
  have t:=xA j
  rw[j];clear j df dg dh di dj dk dl dm dn dp;obtain⟨eh,b7⟩:=kA wr.heap.size;rw[b7.out]at t⊢;have l:=zaT x.tab s.tb cz (h.aA a4).tb
  have e2:=t.c 2 rfl;have e3:=t.c 3 rfl;have e4:=t.c 4 rfl;have e5:=t.c 5 rfl;have e6:=t.c 6 rfl;have e7:=t.c 7 rfl;have e8:=t.c 8 rfl;have e9:=t.c 9 rfl;go_wp2_with fail;refine l.mono ?_;clear l e2 e3 e4 e5 e6 e7 e8 e9;rintro be da ⟨ej,rfl,Z,p⟩;have v:=dD (a4.trans p);have co:=dD (db.aA p);have cm:=dD (t.aA p);clear p;obtain⟨eg,ei,rfl,aj⟩:=Z.at.bB;have ak:=Z.at.short;have a6:=dD aj;rw[Q2,Yt]at ak⊢;rw[Q2]at a6;clear Z aj;obtain⟨I,ck⟩:=kA ((qP s).length);rw[ck.out]at ak⊢;go_wp2;have cx:=dD g
  go_loopg [20] I (fun bf cf wr=>∃u:Nat,u<=I/\I - u<=bf/\cf=I6 u/\Xo (zc da wr))
  exact⟨0,nZ _,Wm,rfl,zc.refl _⟩
  obtain⟨u,ee,p,rfl,g⟩:=hrel
  by_cases r:u<I
  ·have X:=kC r
   obtain⟨n,T⟩:∃n,Xo ((qP s)[u]? =Xa n):=⟨_,gE (Rx ck.out r)⟩
   have ai:=zg0 T.out;obtain⟨de,rfl,af⟩:=a6.out u (n:Int) (by rw[Yl,T.out];rfl)
   have dq:=af wr g.out;clear af;have ab:=b0.out s (mG b9) n (mG T);have a2:=dD ab;clear ab;have b4:=dD (v.trans g);have aa:=zc0 (x.ar.x) s.aD (n:Int) wr (h.ar.aA b4);have e1:=(cm.aA g).c 1 rfl;go_wp2_with fail;refine aa.mono ?_;clear aa dq e1;rintro be N ⟨⟨cv,rfl,cu⟩,ac⟩;have a3:=dD cu;have z:=dD (g.trans ac);have b:=dD (v.trans z);clear ac cu;have dx:¬cv<0:=fun av=>by
    have:=zf3 a3.out;rw[decide_eq_false Wm]at this
    have bg:=a2.out;unfold zgl at bg;rw[kE this.symm]at bg;exact absurd bg Dc
   obtain⟨k,a,rfl,A,b5⟩:∃(k:Nat) (a:Ar),cv=(k:Int)/\Xo (s.aD[k]? =Xa a)/\Xo (inZ a (n:Int)=Xc):=by
    rcases a3 with⟨k,a,aq,cd,dz⟩|⟨aq,_⟩
    ·exact⟨k,a,aq,cd,dz⟩
    omega
   have a0:=dD<|zf9 a1 A.out;have dv:k<x.ar.n:=by rw[<-ay.out];exact(gS.1 A).1
   have b1:Xo (zeB m a n (zh s n)=0):=dD<|by rw[<-a2.out,zbp a1.out A.out b5.out,zmm b6.out a0.out]
   have P:=(Zc (zrE bb n)).2.1.1;have a8:Xo (∀W,zc w W->Xp prog 68 #[Xi #[aw.x,I6 m.aB,ax.x,L.x,M.x,G.x,H.x,K.x,I6 m.cnt,F.x,O (Xa cp) d E],Xi #[I6 a.fr,I6 a.tz,Xh a.rd,Xh a.wr,Xh a.sh,I6 a.file,I6 a.base],I6 (n:Int),enV (zh s n)] W fun be w'=>be= Xl (I6 0)/\zc W w'):=dD<|fun W a9=>a7.out a n (zh s n) W a9 a0 Wm P b1.out
   have b3:Xo (∀W,zc w W->Xp prog 69 #[Xi #[x.t0.x,x.t1.x,x.t2.x,x.t3.x,x.t4.x,x.t5.x,x.t6.x,x.t7.x],I6 (n:Int)] W fun e w'=>e= Xl (enV (zh s n))/\zc W w'):=dD<|fun W a9=>by
    have:=QJ x.tab s.tb (n:Int) W (h.aA a9).tb;rw[zfY ai]at this;exact this
   clear P;go_upto_region 10 with fail;obtain⟨c,am,q⟩:=az.out k a A.out;have i:=dD (co.aA z);have B:=dD (cm.aA z);have bu:=i.gw 0 rfl
   have bv:=i.gw 1 rfl
   have bw:=i.gw 2 rfl
   have bx:=i.gw 3 rfl
   have bz:=i.gw 4 rfl
   have c0:=i.gw 5 rfl
   have c1:=i.gw 6 rfl
   have c2:=i.gw 7 rfl
   have c3:=i.gw 8 rfl
   have c4:=i.gw 9 rfl
   have ao:=i.gw 10 rfl
   have Y:=B.gw 1 rfl
   have bl:=B.gw 2 rfl
   have bm:=B.gw 3 rfl
   have bn:=B.gw 4 rfl
   have bo:=B.gw 5 rfl
   have bp:=B.gw 6 rfl
   have bq:=B.gw 7 rfl
   have br:=B.gw 8 rfl
   have bs:=B.gw 9 rfl
   (try simp only[Sli.x]at Y);rw[am]at Y;have c5:=fun y:zf N=>(q _ (b.trans y.aA)).1
   have c6:=fun y:zf N=>(q _ (b.trans y.aA)).2.1
   have c7:=fun y:zf N=>(q _ (b.trans y.aA)).2.2.1
   have c8:=fun y:zf N=>(q _ (b.trans y.aA)).2.2.2.1
   have c9:=fun y:zf N=>(q _ (b.trans y.aA)).2.2.2.2.1
   have ca:=fun y:zf N=>(q _ (b.trans y.aA)).2.2.2.2.2.1
   have cb:=fun y:zf N=>(q _ (b.trans y.aA)).2.2.2.2.2.2
   have bk:Nonempty (zf N):=⟨⟨_,zc.refl _⟩⟩;clear q am;refine qx [(10,⟨fun au=>au=enV (zh s n),fun au w'=>True⟩),(11,⟨fun au=>au=I6 0,fun au w'=>True⟩)] zW Kr (Sb ⟨_,rfl⟩ ⟨_,rfl⟩) ?hp ?_
   case hp=>
    intro x an;simp only[mC,nM,or_false]at an
    rcases an with rfl|rfl
    ·exact fun _ _ _ _ av=>av
    exact fun _ _ _ _ av=>av
   iterate 10 refine ze ?_
   refine zx rfl rfl (fun w' bi bh=>?_) (fun ea bt=>?_)
   ·refine zP.call [Xi #[x.t0.x,x.t1.x,x.t2.x,x.t3.x,x.t4.x,x.t5.x,x.t6.x,x.t7.x],I6 (n:Int)] rfl func69 rfl rfl rfl ?_;refine(b3 w' (b.trans bi)).mono ?_;rintro e cg ⟨rfl,U⟩;exact⟨_,rfl,U,rfl,trivial⟩
   subst bt;refine Uq ?_;refine zx rfl rfl (fun w' bi bh=>?_) (fun ea bt=>?_)
   ·refine zP.call [Xi #[aw.x,I6 m.aB,ax.x,L.x,M.x,G.x,H.x,K.x,I6 m.cnt,F.x,O (Xa cp) d E],Xi #[I6 a.fr,I6 a.tz,Xh a.rd,Xh a.wr,Xh a.sh,I6 a.file,I6 a.base],I6 (n:Int),enV (zh s n)] rfl func68 rfl rfl rfl ?_;refine(a8 w' (b.trans bi)).mono ?_;rintro e cg ⟨rfl,U⟩;exact⟨_,rfl,U,rfl,trivial⟩
   subst bt;refine Uq ?_;refine ze ?_
   refine zL fun ed ae bh=>?_
   have a5:=dD (z.trans ae);have ci:=dD (v.trans a5);clear ae bh bu bv bw bx bz c0 c1 c2 c3 c4 ao Y bl bm bn bo bp bq br bs c5 c6 c7 c8 c9 ca cb bk;go_wp2
   go_roundg (I -(u+1));exact⟨u+1,Wm,Wm,Gn,a5⟩;omega
  have X:=kD r
  have:u=I:=Wm
  subst this;have dd:=dD (co.aA g);have cw:=dD (v.trans g);go_wp2
  go_roundg (d -(f+1));exact⟨f+1,Wm,Wm,Gn,cw,dd⟩;omega
 have ag:=kD D
 have:f=d:=Wm
 subst this;go_wp2;go_ret;exact⟨rfl,g⟩
theorem zbc (a w) (k:frW a=0):Xp prog 108 #[Xi (frv a).toArray] w fun e w'=>e= Xl (I6 0)/\zc w w':=by
 obtain⟨⟨n,p,q,s,t,u,v,y⟩,r,B,z,h,x⟩:=a
 show Xp prog 108 #[Xi #[U8 n,U8 p,U8 q,U8 s,U8 t,U8 u,U8 v,U8 y,I6 r,Xh B,Xh z,I6 h,I6 x]] w _
 cases b:inB r 1001 with
 | false=>simp[frW,b]at k
 | true=>
 cases d:inB x 12 with
 | false=>simp[frW,b,d]at k
 | true=>
 by_cases l:h=-1
 ·have f:(h == -1)=Xc:=by simp[l]
  have i:(h != -1)=Xd:=by simp[l]
  by_cases m:r=0
  ·have c:(r == 0)=Xc:=by simp[m]
   cases g:zbI (⟨⟨n,p,q,s,t,u,v,y⟩,r,B,z,h,x⟩:Fr) frF with
   | false=>simp[frW,b,d,f,c,g]at k
   | true=>
    have j:x=0:=by have:=zf1 g;simp only[frF,Fr.mk.injEq]at this;exact this.2.2.2.2.2
    exact wf7 _ _ _ _ _ _ _ _ _ _ _ _ _ w b d i f c g (by simp[j])
  have c:(r == 0)=Xd:=by simp[m]
  by_cases j:x=0
  ·exact wf9 _ _ _ _ _ _ _ _ _ _ _ _ _ w b d i f c (by simp[j])
  have A:(x == 0)=Xd:=by simp[j]
  simp[frW,b,d,f,c,A]at k
 have f:(h == -1)=Xd:=by simp[l]
 have i:(h != -1)=Xc:=by simp[l]
 cases j:inB h 5 with
 | false=>simp[frW,b,d,f,j]at k
 | true=>
  by_cases m:r=0
  ·have c:(r == 0)=Xc:=by simp[m]
   have g:zbI (⟨⟨n,p,q,s,t,u,v,y⟩,r,B,z,h,x⟩:Fr) frF=Xd:=by
    refine zpU fun h=>?_
    simp only[frF,Fr.mk.injEq]at h;exact l h.2.2.2.2.1
   simp[frW,b,d,f,j,c,g]at k
  have c:(r == 0)=Xd:=by simp[m]
  exact wf5 _ _ _ _ _ _ _ _ _ _ _ _ _ w b d i f j c
theorem znE:∀{fs:List Fr},zgk fs=0->∀f∈fs,frW f=0
 | [],_,_,a=>by cases a
 | g :: fs,h,f,a=>by
  unfold zgk at h
  by_cases b:frW g=0
  ·rw[kE b]at h
   rcases mC.1 a with rfl|a
   ·exact b
   exact znE h f a
  rw[kF b]at h;exact absurd h b
theorem ZX (a) (c:Nat) (fs:List Fr) (h:Int) (w) (g:zj qi w (O a fs.length c) fs) (i:Zi fs h=0):
  Xp prog 58 #[Xi #[O a fs.length c,I6 h]] w fun e w'=>e= Xl (I6 0)/\zc w w':=by
 have d:=g.short;obtain⟨b,b,f,b⟩:=g.bF;cases f;have r:=dD b;clear b g;have b:Zi fs h=if 40<fs.length then 4 else if zgk fs=0 then(if inB h (max fs.length 1)then 0 else 3)else zgk fs:=rfl;rw[i]at b;obtain⟨n,k⟩:=kA fs.length;rw[k.out]at d b⊢;have d:¬40<n:=fun e=>by rw[kE e]at b;cases b
 rw[kF d]at b;have p:Xo (∀f∈fs,frW f=0):=dD<|znE (Decidable.byContradiction fun e=>e (by rw[kF e]at b;exact b.symm))
 have g:zgk fs=0:=Decidable.byContradiction fun e=>e (by rw[kF e]at b;exact b.symm)
 rw[kE g]at b;have f:inB h (max n 1)=Xc:=by
  cases e:inB h (max n 1)with
  | true=>rfl
  | false=>rw[e]at b;cases b
 clear b g i;have b:¬(40:Int)< (n:Int):=Wm
 have j:Xo (∀W,Xp prog 109 #[I6 h,I6 (max (n:Int) 1)] W fun e w'=>e= Xl (Xh Xc)/\w'=W):=dD<|fun W=>by
  have b:=Zs h (max (n:Int) 1) W;rw[show inB h (max (n:Int) 1)=inB h (max n 1) by simp,f]at b
  exact b
 clear f;obtain⟨g,b⟩:=kB (w.alloc (Xk #[O a n c,I6 h] 32));have h:=gA b
 have m:=xA b
 have f:=dD b;clear b d
 go_enter func58,ntmps58
 go_wp2;rw[f.out]
 go_loopg [13] n (fun f d wr=>∃b:Nat,b<=n/\n - b<=f/\d=I6 b/\Xo (zc g wr))
 exact⟨0,nZ _,Wm,rfl,zc.refl _⟩
 obtain⟨b,d,d,rfl,g⟩:=hrel
 by_cases f:b<n
 ·have i:=kC f
  obtain⟨q,l⟩:∃q,Xo (fs[b]? =Xa q):=⟨_,gE (Rx k.out f)⟩
  obtain⟨d,rfl,k⟩:=r.out b q l.out;obtain⟨d,d,d,d,d,d,d,d,d,d,d,d,d⟩:=k wr (h.trans g);have d:=fun W=>zbc q W (p q (mG l))
  clear k
  go_wp2_with (go_at_call 108;refine(d _).mono ?_;rintro e w' ⟨rfl,d⟩)
  go_roundg (n -(b+1));exact⟨b+1,Wm,Wm,Gn,(g.trans (za _ _)).trans d⟩;omega
 have i:=kD f
 have:b=n:=Wm
 subst this;obtain⟨b,b⟩:=(m.aA g).k2;have b:=j.out
 go_wp2_with (go_at_call 109;refine(b _).mono ?_;rintro e w' ⟨rfl,rfl⟩)
 go_ret;exact⟨rfl,h.trans g⟩
theorem zdW (h:zaN m=0):(∀k:Nat,k<m.fs.length->frE m k=0)/\∀k:Nat,k<m.sl.length->zoL m k=0:=by
 have a:∀(f:Nat->Int) (n:Nat),zC ((Oh n).map f)=0->∀k,k<n->f k=0:=fun f n a k b=>zr.1 a _ (Yh.2 ⟨k,Oa.2 b,rfl⟩)
 grind [zaN,zC,Oh,frE]
theorem zei (V) (m:Ma) (w) (a3:zw w V m) (b2:zcl m Xb m.ca=0) (a9:m.sp.length<=4) (b9:∀s∈m.sp,tbW s.tb=0) (ck:zaN m=0):
  Xp prog 33 #[Xi (mL V m).toArray] w fun e w'=>e= Xl (I6 0)/\zc w w':=by
 have au:Xo (∀W,zc w W->Xp prog 70 #[Xi (mL V m).toArray] W fun e w'=>∃B,e= Xl (Xi #[V.f.x,I6 m.aB,V.s.x,V.sb.x,V.sq.x,V.db.x,V.dq.x,V.fl.x,I6 m.cnt,V.ca.x,V.sp.x,.map (Xa B)])/\Zw plK w' B (ZI m.ca)/\zc W w'):=dD<|fun W a6=>QV V m W (a3.aA a6)
 have ar:Xo (∀W,zc w W->Xp prog 71 #[Xi (mL V m).toArray] W fun e w'=>∃B,e= Xl (.map (Xa B))/\Js enK w' B (qz m m.sp.length [] zem)/\zc W w'):=dD<|fun W a6=>ziS V m W (a3.aA a6) a9 b9
 have aq:=dD<|fun (B:Nat) (k:Nat) W (a6:zc w W) (b5:k<m.fs.length) (ay:Zw plK W B (ZI m.ca))=>zfW V m B k (ZI m.ca) W (a3.aA a6) b5 ay
 obtain⟨⟨a4,j,S⟩,⟨U,n,X⟩,g,i,c,d,f,b,h⟩:=V;dsimp only[mL]at au ar aq⊢;obtain⟨cn,co,-⟩:=a3.ns;dsimp only at cn co;have c3:=dD a3.bF;have cb:=dD a3.sls;have c7:=dD cn.symm;have c8:=dD co.symm;have e4:j<=9223372036854775807:=Hm a3.fs.short
 have e5:n<=9223372036854775807:=Hm a3.sl.short
 have c2:Xo (∀k:Nat,k<m.fs.length->(zQ m k).r=qz m m.sp.length [] zem (1,(k:Int))/\(0<=(zQ m k).f->ZI m.ca ((zQ m k).f,(zQ m k).x)=Xa (k:Int))):=dD<|fun k b5=>by
  have l:=(zdW ck).1 k b5;rw[zpV b2 k]at l
  by_cases ao:(zQ m k).r≠qz m m.sp.length [] zem (1,(k:Int))\/(0<=(zQ m k).f/\¬ZI m.ca ((zQ m k).f,(zQ m k).x)=Xa (k:Int))
  ·rw[kE ao]at l;cases l
  exact⟨Decidable.byContradiction fun e=>ao (.inl e),fun e=>Decidable.byContradiction fun dv=>ao (.inr ⟨e,dv⟩)⟩
 have ca:Xo (∀k:Nat,k<m.sl.length->m.sl.getD k 0=qz m m.sp.length [] zem (2,(k:Int))):=dD<|fun k b5=>by
  have l:=(zdW ck).2 k b5;rw[zmC m k]at l
  by_cases ao:m.sl.getD k 0≠qz m m.sp.length [] zem (2,(k:Int))
  ·rw[kE ao]at l;cases l
  exact Decidable.byContradiction ao
 clear a3 b2 a9 b9 cn co ck;obtain⟨di,a0⟩:=kB (w.alloc (Xk #[O a4 j S,I6 m.aB,O U n X,g.x,i.x,c.x,d.x,f.x,I6 m.cnt,b.x,h.x] 45));have I:=gA a0
 have A:=xA a0
 have cc:=dD a0;clear a0
 go_enter func33,ntmps33
 go_upto_region 1 with fail;rw[cc.out];have ba:=A.gw 0 rfl
 have bb:=A.gw 1 rfl
 have bc:=A.gw 2 rfl
 have bd:=A.gw 3 rfl
 have be:=A.gw 4 rfl
 have bf:=A.gw 5 rfl
 have bg:=A.gw 6 rfl
 have bh:=A.gw 7 rfl
 have bi:=A.gw 8 rfl
 have bj:=A.gw 9 rfl
 have aa:=A.gw 10 rfl
 have P:Nonempty (zf di):=⟨⟨_,zc.refl _⟩⟩;refine jf 5 [(1,⟨fun r=>∃B,r= Xi #[O a4 j S,I6 m.aB,O U n X,g.x,i.x,c.x,d.x,f.x,I6 m.cnt,b.x,h.x,.map (Xa B)],fun r w'=>∃B,r= Xi #[O a4 j S,I6 m.aB,O U n X,g.x,i.x,c.x,d.x,f.x,I6 m.cnt,b.x,h.x,.map (Xa B)]/\Zw plK w' B (ZI m.ca)⟩),(3,⟨fun r=>∃B,r= .map (Xa B),fun r w'=>∃B,r= .map (Xa B)/\Js enK w' B (qz m m.sp.length [] zem)⟩),(4,⟨fun r=>∃R,r= Xj (Xa ⟨R,0,Xb⟩),fun r w'=>∃R,r= Xj (Xa ⟨R,0,Xb⟩)/\Box w' R [eS,I6 0,eS,eS,eS,eS,eS,eS,I6 0,eS,eS,.map Xb]/\w.heap.size<=R⟩)] zW Kr rfl rfl Dc (Sc ⟨_,0,rfl⟩ ⟨_,0,rfl⟩ ⟨_,0,rfl⟩) ?hp ?_
 case hp=>
  intro cs Q;simp only[mC,nM,or_false]at Q
  rcases Q with rfl|rfl|rfl
  ·exact fun _ _ _ z t=>by obtain⟨B,l,a5⟩:=t;exact⟨B,l,a5.aA z⟩
  ·exact fun _ _ _ z t=>by obtain⟨B,l,a5⟩:=t;exact⟨B,l,a5.aA z⟩
  exact fun _ _ _ z t=>by obtain⟨R,l,a5,e0⟩:=t;exact⟨R,l,a5.aA z,e0⟩
 simp only[Xy,Xz];refine ze ?_
 refine zx rfl rfl (fun w' z D=>?_) (fun cr T=>?_)
 ·refine zP.call [Xi #[O a4 j S,I6 m.aB,O U n X,g.x,i.x,c.x,d.x,f.x,I6 m.cnt,b.x,h.x]] rfl func70 rfl rfl rfl ?_;refine(au w' (I.trans z)).mono ?_;rintro e bu ⟨B,rfl,ay,a2⟩;exact⟨_,rfl,a2,⟨B,rfl⟩,B,rfl,ay⟩
 obtain⟨ct,rfl⟩:=T;refine Uq ?_;refine ze ?_
 refine zx rfl rfl (fun w' z D=>?_) (fun cr T=>?_)
 ·refine zP.call [Xi #[O a4 j S,I6 m.aB,O U n X,g.x,i.x,c.x,d.x,f.x,I6 m.cnt,b.x,h.x]] rfl func71 rfl rfl rfl ?_;refine(ar w' (I.trans z)).mono ?_;rintro e bu ⟨B,rfl,ay,a2⟩;exact⟨_,rfl,a2,⟨B,rfl⟩,B,rfl,ay⟩
 obtain⟨cu,rfl⟩:=T;refine Uq ?_;refine zx rfl rfl (fun w' z D=>?_) (fun cr T=>?_)
 ·have b8:Box (w'.alloc (Xk #[eS,I6 0,eS,eS,eS,eS,eS,eS,I6 0,eS,eS,.map Xb] 131)) w'.heap.size [eS,I6 0,eS,eS,eS,eS,eS,eS,I6 0,eS,eS,.map Xb]:=Box.aE _ _ _ rfl;have cl:=bS (I.trans z);clear ba bb bc bd be bf bg bh bi bj aa P;refine zP.step (v:= Xj (Xa ⟨w'.heap.size,0,Xb⟩)) (w':=w'.alloc (Xk #[eS,I6 0,eS,eS,eS,eS,eS,eS,I6 0,eS,eS,.map Xb] 131)) (by simp only[execOp];go_simp) ⟨za _ _,⟨_,rfl⟩,_,rfl,b8,cl⟩
 obtain⟨de,rfl⟩:=T;refine Uq ?_;refine zL fun ce H D=>?_
 obtain⟨u,af,az⟩:∃B,(Value.agg #[O a4 j S,I6 m.aB,O U n X,g.x,i.x,c.x,d.x,f.x,I6 m.cnt,b.x,h.x,.map (Xa ct)])= Xi #[O a4 j S,I6 m.aB,O U n X,g.x,i.x,c.x,d.x,f.x,I6 m.cnt,b.x,h.x,.map (Xa B)]/\Zw plK ce B (ZI m.ca):=D 1;obtain⟨Y,ag,b0⟩:∃B,(Value.map (Xa cu))= .map (Xa B)/\Js enK ce B (qz m m.sp.length [] zem):=D 3;obtain⟨an,ah,ax,a8⟩:∃R,(Value.pointer (Xa ⟨de,0,Xb⟩))= Xj (Xa ⟨R,0,Xb⟩)/\Box ce R [eS,I6 0,eS,eS,eS,eS,eS,eS,I6 0,eS,eS,.map Xb]/\w.heap.size<=R:=D 4;have dw:u=ct:=by simp at af;exact af.symm
 have dx:Y=cu:=by simp at ag;exact ag.symm
 have dy:an=de:=by simp at ah;exact ah.symm
 subst dw dx dy;have cx:=dD az;have dg:=dD b0;have bw:=dD ax;have c6:=dD a8;have c4:=dD (I.trans H);have da:=dD (A.aA H);clear af ag ah az b0 ax a8 H D ba bb bc bd be bf bg bh bi bj aa P;have cd:Xo (w.heap.size≠an):=show _≠_ from fun e=>by
  obtain⟨ed,l⟩:=da.out;obtain⟨ee,a5⟩:=bw.out;rw[<-e,l]at a5
  simp at a5
 go_wp2_with (refine zz rfl 131 (.tmp 3) (.tmp 10) rfl an rfl [O a4 j S,I6 m.aB,O U n X,g.x,i.x,c.x,d.x,f.x,I6 m.cnt,b.x,h.x,.map (Xa u)] rfl bw rfl Kr (fun r T=>by
    simp only[mC,nM,or_false]at T
    rcases T with rfl|rfl|rfl|rfl|rfl|rfl|rfl|rfl|rfl|rfl|rfl|rfl <;> rfl) ?_)
 intro aw b1 L _;have dk:=dD b1;have db:=dD<|da.grown L cd.out;have dh:Xo (Zw plK aw u (ZI m.ca)):=cx.kept L (fun e=>by cases e;exact bw.bM cx rfl)
 have cy:Xo (Js enK aw Y (qz m m.sp.length [] zem)):=dD<|by
  obtain⟨dz,dd,e8⟩:=dg.out;exact⟨dz,dd.kept L (fun e=>by cases e;exact bw.bM dd rfl),e8⟩
 have E:=dD<|zd c4 L c6.out
 clear b1 L;have e9:=db.c 0 rfl;go_wp2;clear e9
 go_loopg [17] j (fun cj cp wr=>∃a:Nat,a<=j/\j - a<=cj/\cp=I6 a/\Xo (zc aw wr))
 exact⟨0,nZ _,Wm,rfl,zc.refl _⟩
 obtain⟨a,e7,e6,rfl,Z⟩:=hrel
 by_cases ak:a<j
 ·have b7:=kC ak
  have y:Xo (a<m.fs.length):=dD<|Rx c7.out ak
  obtain⟨q,cw⟩:∃q,Xo (m.fs[a]? =Xa q):=⟨_,gE y⟩;have ap:Xo (zQ m (a:Int)=q):=dD<|by unfold zQ;rw[tN,gD,cw.out];rfl
  obtain⟨cf,rfl,b6⟩:=c3.out a q cw.out;obtain⟨dc,dl,dm,dn,dp,dq,dr,ds,dt,du,cg,ch,ci⟩:=b6 wr (E.trans Z);clear b6;go_upto_region 5 with fail;obtain⟨cz,a1⟩:=kB (wr.alloc (Xk #[U8 q.p.b0,U8 q.p.b1,U8 q.p.b2,U8 q.p.b3,U8 q.p.b4,U8 q.p.b5,U8 q.p.b6,U8 q.p.b7,I6 q.r,Xh q.u,Xh q.d,I6 q.f,I6 q.x] 93));have x:=gT a1 Z
  have cv:=dD (E.trans x);have bz:=xA a1
  have C:=dD (dk.aA x);rw[a1];clear a1 dc dl dm dn dp dq dr ds dt du cg ch ci;obtain⟨ec,c9⟩:=kA wr.heap.size;rw[c9.out]at bz⊢;obtain⟨t,F⟩:=kA ((qz m m.sp.length [] zem) (1,(a:Int)));have aj:∀bx:zf cz,(Instr.lookup 133 (.map (Xa Y)) (Xi #[I6 1,I6 (a:Int),Xh Xd]) Xd).run prog bx.world= .ok (I6 t) bx.world:=fun bx=>by
   have:=(cy.aA (x.trans bx.aA)).look (K:=enK) underlying133 (ztG _) (1,(a:Int));rw[F.out]at this;exact this
  have b4:=bz.gw 8 rfl
  have a7:=bz.gw 11 rfl
  have bk:=C.gw 0 rfl
  have bl:=C.gw 1 rfl
  have bm:=C.gw 2 rfl
  have bn:=C.gw 3 rfl
  have bo:=C.gw 4 rfl
  have bp:=C.gw 5 rfl
  have bq:=C.gw 6 rfl
  have br:=C.gw 7 rfl
  have bs:=C.gw 8 rfl
  have bt:=C.gw 9 rfl
  have ab:=C.gw 10 rfl
  have ac:=C.gw 11 rfl
  have P:Nonempty (zf cz):=⟨⟨_,zc.refl _⟩⟩;obtain⟨am,ai⟩:=c2.out a y.out;rw[ap.out,F.out]at am;have cm:(q.r != t)=Xd:=by simp[am]
  by_cases G:0<=q.f
  ·have b3:decide (0<=q.f)=Xc:=Si G
   have df:Xo (decide (ZI m.ca ((zQ m (a:Int)).f,(zQ m (a:Int)).x)=Xa (a:Int))=Xc):=dD<|decide_eq_true (ai (Rx ap.out G))
   have c1:Xo (∀W,zc aw W->Xp prog 72 #[Xi #[O (Xa cf) j S,I6 m.aB,O U n X,g.x,i.x,c.x,d.x,f.x,I6 m.cnt,b.x,h.x,.map (Xa u)],I6 (a:Int)] W fun e w'=>e= Xl (Xh Xc)/\zc W w'):=dD<|fun W a6=>by
    have l:=aq.out u a W (E.trans a6) y (dh.aA a6);rw[df.out]at l;exact l
   clear am G ai;refine qx [(14,⟨fun r=>r= Xh Xc,fun r w'=>True⟩)] zW Kr (Sa ⟨_,rfl⟩) ?hp ?_
   case hp=>
    intro cs Q;simp only[mC,nM,or_false]at Q;subst Q;exact fun _ _ _ _ t=>t
   iterate 14 refine ze ?_
   refine zx rfl rfl (fun w' z D=>?_) (fun cr T=>?_)
   ·refine zP.call [Xi #[O (Xa cf) j S,I6 m.aB,O U n X,g.x,i.x,c.x,d.x,f.x,I6 m.cnt,b.x,h.x,.map (Xa u)],I6 (a:Int)] rfl func72 rfl rfl rfl ?_;refine(c1 w' (x.trans z)).mono ?_;rintro e bu ⟨rfl,H⟩;exact⟨_,rfl,H,rfl,trivial⟩
   subst T;refine Uq ?_;iterate 3 refine ze ?_
   refine zL fun dj M D=>?_
   have ae:=dD (x.trans M);clear M D aj b4 a7 bk bl bm bn bo bp bq br bs bt ab ac P;go_wp2
   go_roundg (j -(a+1));exact⟨a+1,Wm,Wm,Gn,ae⟩;omega
  have b3:decide (0<=q.f)=Xd:=Si G
  clear am G ai;refine qx [] zW Kr Sm Sm ?_
  iterate 12 refine ze ?_
  iterate 4 (refine ji Kr ?_;simp only[Ym,sB,sS,sZ])
  iterate 2 refine ze ?_
  refine zL fun dj M D=>?_
  have ae:=dD (x.trans M);clear M D aj b4 a7 bk bl bm bn bo bp bq br bs bt ab ac P;go_wp2
  go_roundg (j -(a+1));exact⟨a+1,Wm,Wm,Gn,ae⟩;omega
 have b7:=kD ak
 have:a=j:=Wm
 subst this;have ea:=(db.aA Z).c 2 rfl;go_wp2;clear ea;have c0:=dD Z
 go_loopg [44] n (fun cj cq wr=>∃p:Nat,p<=n/\n - p<=cj/\cq=I6 p/\Xo (zc aw wr))
 exact⟨0,nZ _,Wm,rfl,c0⟩
 obtain⟨p,eb,a2,rfl,Z⟩:=hrel
 by_cases N:p<n
 ·have al:=kC N
  have y:Xo (p<m.sl.length):=dD<|Rx c8.out N
  obtain⟨bv,av⟩:∃bv,Xo (m.sl[p]? =Xa bv):=⟨_,gE y⟩;obtain⟨cf,rfl,b6⟩:=cb.out p bv av.out;have dc:=b6 wr (E.trans Z);clear b6;obtain⟨t,F⟩:=kA ((qz m m.sp.length [] zem) (2,(p:Int)));have aj:(Instr.lookup 133 (.map (Xa Y)) (Xi #[I6 2,I6 (p:Int),Xh Xd]) Xd).run prog wr= .ok (I6 t) wr:=by
   have:=(cy.aA Z).look (K:=enK) underlying133 (ztG _) (2,(p:Int));rw[F.out]at this;exact this
  have am:bv=t:=by
   have:=ca.out p y.out;rw[gD,av.out,F.out]at this;exact this
  have cm:(bv != t)=Xd:=by simp[am]
  clear am;go_wp2
  go_roundg (n -(p+1));exact⟨p+1,Wm,Wm,Gn,Z⟩;omega
 have al:=kD N
 have:p=n:=Wm
 subst this;have c5:=dD (E.trans Z);go_wp2;go_ret;exact⟨rfl,c5⟩
theorem zfm (V m w) (a3:zw w V m) (bu:zks m) (ch:zC (Jy m)=0):
  Xp prog 29 #[Xi (mL V m).toArray] w fun e w'=>e= Xl (I6 0)/\zc w w':=by
 obtain⟨c6,y,f,T,⟨D,d,E⟩,⟨F,i,G⟩,R,Q,S⟩:=V;dsimp only[mL];have df:=zbY;obtain⟨-,s,bx,-,am,bz,-⟩:=a3.ns;dsimp only at s bx am bz;have aq:=dD<|fun ai (d9:zc w ai)=>zdQ _ m.fl m.cnt ai (a3.aA d9).fl bu.st
 have b9:=dD a3.pgs;have ba:=dD a3.puts;obtain⟨ab,ah⟩:=zh7 bu.dq;have bd:=dD ah;have B:=dD am.symm;have az:=dD bz.symm;have bw:i<=9223372036854775807:=Hm a3.dq.2.2
 rw[B.out]at ab;have h:zpY m=if y.n≠f.n\/m.cnt≠(d:Int)then 7 else 0:=by unfold zpY;rw[s,bx,am]
 have v:=zr.1 ch;have n:zbO m=0:=v _ (by simp[Jy])
 have r:zbn m=0:=v _ (by simp[Jy])
 rw[v (zpY m) (by simp[Jy])]at h
 have ao:Xo (∀c,c<m.db.length->zhZ m c=Xd):=dD<|fun c bv=>by
  cases aa:zhZ m c with
  | false=>rfl
  | true=>rw[zlX bv aa]at n;cases n
 have be:Xo (∀(j:Nat) x,m.dq[j]? =Xa x->zR m.fl x.1=Xc):=dD<|fun j x de=>by
  cases aa:zR m.fl x.1 with
  | true=>rfl
  | false=>rw[zkV de aa]at r;cases r
 have da:¬(y.n≠f.n\/m.cnt≠(d:Int)):=fun aa=>by rw[kE aa]at h;cases h
 have al:f.n=y.n:=Wm
 have bk:m.cnt=(d:Int):=Wm
 clear a3 bu ah s bx am bz h v n r ch da;obtain⟨cb,k⟩:=kB (w.alloc (Xk #[c6.x,I6 m.aB,y.x,f.x,T.x,O D d E,O F i G,R.x,I6 m.cnt,Q.x,S.x] 45));have a5:=gA k
 have C:=xA k
 have cn:Xo (w.heap.size<cb.heap.size):=dD<|by rw[<-k];simp
 have bf:=dD k;clear k;have cw:((f.n:Int) !=(y.n:Int))=Xd:=by simp[al]
 have cy:((d:Int) != m.cnt)=Xd:=by simp[bk]
 have cx:(f.n != y.n)=Xd:=by simp[al]
 have ac:=aq.out cb a5.out;have cl:=dD al;have cm:=dD bk;clear al bk
 go_enter func29,ntmps29
 go_upto_region 1 with fail;rw[bf.out];have dn:=C.c 2 rfl;have dp:=C.c 3 rfl;have c7:=C.c 5 rfl;have c8:=C.c 6 rfl;have dq:=C.c 7 rfl;have dr:=C.c 8 rfl;go_upto_region 3 with fail;go_wp2_with fail;refine ac.mono ?_;clear ac dn dp c7 c8 dq dr;rintro e aj ⟨rfl,H⟩;have a6:=dD (a5.trans H);have cc:=dD (C.aA H);clear H;obtain⟨a4,u⟩:=kA (qL 80 (qN m.fl m.fl.length []));have aw:Xo (a4.length=80):=show _=_ by rw[<-u.out];exact zbt _ _
 have ax:Xo (∀dm∈a4,dm.oneCell'=Xc):=dD<|by rw[<-u.out];exact zhf _ _
 have a8:Xo (∀c:Nat,c<80->a4[c]? =Xa (Xh (zR m.fl (c:Int)))):=dD<|fun c bv=>by rw[<-u.out];exact zp1 bv
 rw[u.out];obtain⟨cq,l⟩:=kB (aj.alloc (Xk zgo 114));have ar:=gT l a6
 have ct:=yA l cc
 have cu:Xo (Box cq aj.heap.size (Xr 80 (Xh Xd))):=dD<|by rw[<-l];exact Box.aE _ (Xr 80 (Xh Xd)) _ rfl
 have bg:=dD l;clear l;have av:=dD<|bS a6.out
 have bh:=dD cc.lt
 go_wp2_with (first | (rw[bg.out];refine zz rfl 114 (.tmp 3) (.tmp 28) rfl aj.heap.size rfl a4 rfl cu (by rw[aw.out];simp) (Si ztH) ax.out ?_))
 intro cr ae K _;have au:=dD<|zd ar K av.out
 have cd:Xo (Box cr w.heap.size [c6.x,I6 m.aB,y.x,f.x,T.x,O D d E,O F i G,R.x,I6 m.cnt,Q.x,S.x]):=ct.grown K (Hm bh.out)
 have cg:=dD ae;obtain⟨an,b8⟩:=kA aj.heap.size;rw[b8.out]at cg⊢;clear ae K df;have c7:=cd.c 5 rfl;go_wp2;clear c7;obtain⟨P,ay⟩:=kA d;rw[ay.out]at ab⊢
 go_loopg [33] P (fun bt c4 wr=>∃b:Nat,b<=P/\P - b<=bt/\c4=I6 b/\Xo (zc w wr)/\Xo (Box wr w.heap.size [c6.x,I6 m.aB,y.x,f.x,T.x,O D d E,O F i G,R.x,I6 m.cnt,Q.x,S.x])/\Xo (Box wr an a4))
 exact⟨0,nZ _,Wm,rfl,au,cd,cg⟩
 obtain⟨b,dd,dc,rfl,z,cf,ak⟩:=hrel
 by_cases L:b<P
 ·have ag:=kC L
  have p:b<80:=Wm
  have a7:Xo (b<m.db.length):=dD<|by rw[B.out,ay.out];exact L
  obtain⟨c0,c9⟩:∃c0,Xo (m.db[b]? =Xa c0):=⟨_,gE a7⟩;obtain⟨cv,W,X,Y,Z,I,a0,a1,a2,rfl,rfl,af⟩:=b9.out b c0 c9.out;have A:Xo (zhZ m b=(!zR m.fl (b:Int) && !([W,X,Y,Z,I,a0,a1,a2] == zI))):=dD<|by unfold zhZ;rw[gD,c9.out];rfl
  obtain⟨bl,bm,bn,bo,bp,bq,br,bs⟩:=af wr z.out;have N:=fun ai=>zb1 9998 W X Y Z I a0 a1 a2 0 0 0 0 0 0 0 0 ai
  simp only[zl9]at N;obtain⟨cp,ca⟩:=kA (zR m.fl (b:Int));have g:=a8.out b p;rw[ca.out]at g;rw[ca.out]at A;obtain⟨co,bb⟩:=kA ([W,X,Y,Z,I,a0,a1,a2] == zI);rw[bb.out]at N A;clear af;go_upto_region 7 with fail;obtain⟨cs,a⟩:=kB (wr.alloc (Xk #[U8 W,U8 X,U8 Y,U8 Z,U8 I,U8 a0,U8 a1,U8 a2] 91));have t:=gT a z
  have ce:=yA a cf
  have U:=yA a ak
  have bj:=xA a
  rw[a];clear a bl bm bn bo bp bq br bs;have ds:=U.c b g;obtain⟨cj,dg,dh,an,di,dj,dk,dl⟩:=bj.c8;clear g
  cases cp with
  | true=>
   clear cj dg dh an di dj dk dl N;go_wp2
   go_roundg (P -(b+1));exact⟨b+1,Wm,Wm,Gn,t,ce,U⟩;omega
  | false=>
   cases co with
   | true=>
    go_wp2
    go_roundg (P -(b+1));exact⟨b+1,Wm,Wm,Gn,t,ce,U⟩;omega
   | false=>
    have:=ao.out b a7.out;rw[A.out]at this;cases this
 have ag:=kD L
 have:b=P:=Wm
 subst this;have c8:=cf.c 6 rfl;go_wp2;clear c8;obtain⟨s,a9⟩:=kA i;rw[a9.out]at bw⊢;have ap:=dD z;have bi:=dD ak
 go_loopg [52] s (fun bt c5 wr=>∃j:Nat,j<=s/\s - j<=bt/\c5=I6 j/\Xo (zc w wr)/\Xo (Box wr an a4))
 exact⟨0,nZ _,Wm,rfl,ap,bi⟩
 obtain⟨j,dt,db,rfl,z,ak⟩:=hrel
 by_cases q:j<s
 ·have M:=kC q
  obtain⟨x,bc⟩:∃x,Xo (m.dq[j]? =Xa x):=⟨_,gE (by rw[az.out,a9.out];exact q)⟩
  obtain⟨cv,ci,W,X,Y,Z,I,a0,a1,a2,rfl,rfl,af⟩:=ba.out j x bc.out;obtain⟨ck,c3⟩:=bd.out j _ bc.out;simp only at ck c3;obtain⟨c,rfl⟩:∃c:Nat,ci=(c:Int):=⟨ci.toNat,Wm⟩
  have p:c<80:=by rw[B.out,ay.out]at c3;omega
  obtain⟨bl,bm,bn,bo,bp,bq,br,bs,cz⟩:=af wr z.out;have g:=a8.out c p;rw[show zR m.fl (c:Int)=Xc from be.out j _ bc.out]at g
  clear af ck c3;go_upto_region 13 with fail;obtain⟨cs,a⟩:=kB (wr.alloc (Xk #[I6 (c:Int),U8 W,U8 X,U8 Y,U8 Z,U8 I,U8 a0,U8 a1,U8 a2] 117));have t:=gT a z
  have U:=yA a ak
  have bj:=xA a
  rw[a];clear a bl bm bn bo bp bq br bs cz;have ds:=U.c c g;have cj:=bj.c 0 rfl;clear g;go_wp2
  go_roundg (s -(j+1));exact⟨j+1,Wm,Wm,Gn,t,U⟩;omega
 have M:=kD q
 have:j=s:=Wm
 subst this;go_wp2;go_ret;exact⟨rfl,z⟩
theorem zsA (V m w) (b:zw w V m) (d:maW m=0) (k:Nat) (f:Nat) (a:chk[k]? =Xa f):
  Xp prog f #[Xi (mL V m).toArray] w fun e w'=>e= Xl (I6 0)/\zc w w':=by
 have c:∀e∈zrV m,e=0:=zr.1 (by rw[<-d,zrf];rfl)
 have g:zC (QW m)=0:=c _ (by simp[zrV])
 have n:zC (Jy m)=0:=c _ (by simp[zrV])
 have d:Qp m=0:=c _ (by simp[zrV])
 have j:zeC m=0:=c _ (by simp[zrV])
 have p:zgv m=0:=c _ (by simp[zrV])
 have q:zaN m=0:=c _ (by simp[zrV])
 have c:=zsh.1 g
 match k,a with
 | 0,a=>
  cases a;have k:=zfj V m w b fun W i=>by
   obtain⟨l,-⟩:=b.ns;have h:=(b.aA i).fs;(try simp only[Sli.x]at h⊢);rw[l]at h⊢;have i:Zi m.fs m.aB=0:=zr.1 g _ (by simp[QW])
   rw[i];exact ZX _ _ m.fs m.aB W h i
  rw[g]at k;exact k
 | 1,a=>cases a;exact zfm V m w b c n
 | 2,a=>cases a;rw[<-d];exact zc3 V m w b
 | 3,a=>cases a;rw[<-j];exact zej V m w b c
 | 4,a=>cases a;exact zeg V m w b c (zmN d) p
 | 5,a=>cases a;exact zei V m w b j (zgu d) (fun s b=>(zmN d s b).2) q
 | k+6,a=>simp[chk]at a
theorem QA (V m w) (b:zw w V m) (a:maW m=0):
  Xp prog 20 #[Xi (mL V m).toArray] w fun e w'=>e= Xl (I6 0)/\zc w w':=by
 have g:Xo (∀W,zc w W->∀(k f:Nat),chk[k]? =Xa f->Xp prog f #[Xi (mL V m).toArray] W fun e w'=>e= Xl (I6 0)/\zc W w'):=dD<|fun W c k f d=>zsA V m W (b.aA c) a k f d
 clear b a;obtain⟨d,a⟩:=kB ((w.alloc (Xk (mL V m).toArray 45)).alloc (Xk #[.func (.func 28) #[] #[],.func (.func 29) #[] #[],.func (.func 30) #[] #[],.func (.func 31) #[] #[],.func (.func 32) #[] #[],.func (.func 33) #[] #[]] 77));have b:=gD2 a
 have j:=x2a a
 have k:Xo (Box d (w.heap.size+1) (chk.map fnV)):=dD<|by rw[<-a];exact Box.aE _ (chk.map fnV) _ Sm
 have c:=dD a;clear a
 go_enter func20,ntmps20
 go_upto_region 2 with fail;rw[c.out];go_wp2
 go_loopg [10] 6 (fun h c wr=>∃a:Nat,a<=6/\6 - a<=h/\c=I6 a/\Xo (zc d wr))
 exact⟨0,nZ _,Wm,rfl,zc.refl _⟩
 obtain⟨a,c,c,rfl,d⟩:=hrel;have i:=dD (b.trans d)
 by_cases b:a<6
 ·have c:(a:Int)<6:=Wm
  obtain⟨f,h⟩:∃f,Xo (chk[a]? =Xa f):=⟨_,gE (by simp[chk];exact b)⟩
  have v:wr.cell? ⟨w.heap.size+1,a,Xb⟩=Xa (.func (.func f) #[] #[]):=(k.aA d).c a (by rw[Yl,h.out];rfl)
  have k:=zlS a f h.out;have b:=g.out wr i a f h.out;have g:=dD (j.aA d);obtain⟨h,j,l,n,p,q,r,s,t,u,f⟩:=g.bL;go_wp2_with fail;refine b.mono ?_;clear b h j l n p q r s t u f v;rintro b b ⟨rfl,b⟩;have f:=dD (d.trans b);clear b k;go_wp2
  go_roundg (6 -(a+1));exact⟨a+1,Wm,Wm,Gn,f⟩;omega
 have c:¬(a:Int)<6:=Wm
 go_wp2;go_ret;exact⟨rfl,i⟩
def zcn (m:Ma) (p:Int) (q:Nat) (s:Sp):Prop:=p=(q:Int)/\m.sp[q]? =Xa s/\s.aH=Xc
theorem ziY (n:Nat) (a:n<=40) (w):
  Xp prog 107 #[.int .u64 1,.int .u64 (n:Int)] w fun e w'=>e= Xl (Xm #[.int .u64 0,.int .u64 (n:Int)])/\w'=w:=by
 have h:bits .and .u64 1 4294967295=1:=Mul64.maskN 1 Wm
 have i:bits .and .u64 (n:Int) 4294967295=(n:Int):=by rw[Mul64.maskN n Wm];omega
 have g:bits .and .u64 0 4294967295=0:=Mul64.maskN 0 Wm
 have f:(n:Int) / 4294967296=0:=Wm
 have c:=dD h;have d:=dD i;have b:=dD g;have a:=dD f;clear h i g f
 go_enter func107,ntmps107
 go_wp2;have f:IntKind.u64.wrap 0=0:=Mul64.wrapN 0 Wm
 have g:IntKind.u64.wrap (n:Int)=(n:Int):=Mul64.wrapN n Wm
 simp only[c.out,d.out,Int.one_mul,g,a.out,f,b.out,Int.mul_zero,Int.add_zero,Int.zero_ediv]
 go_ret2
 exact⟨rfl,rfl⟩
theorem zhw (n:Nat) (b:n<=40) (w):
  Xp prog 57 #[.int .u64 1,.int .u64 (n:Int)] w fun e w'=>e= Xl (Xm #[.int .u64 0,.int .u64 (n:Int)])/\w'=w:=by
 have a:=ziY n b w
 go_enter func57,ntmps57
 go_wp2_with (go_at_call 107;refine a.mono ?_;rintro e w' ⟨rfl,a⟩;rw[a])
 go_ret2
 exact⟨rfl,rfl⟩
section
variable{α:Type} {E:Elt α}
theorem zkN (m:List α):∀(l:List α) (a:Nat),a+m.length<=l.length->splice (l.flatMap E.enc) (a*E.k) (m.flatMap E.enc)=(l.take a++(m++l.drop (a+m.length))).flatMap E.enc:=fun l a h=>by
 have b:∀(l:List α) (j:Nat),j<=l.length->(l.flatMap E.enc).take (j*E.k)=(l.take j).flatMap E.enc/\(l.flatMap E.enc).drop (j*E.k)=(l.drop j).flatMap E.enc:=fun l j c=>by
  have d:l.flatMap E.enc=(l.take j).flatMap E.enc++(l.drop j).flatMap E.enc:=by rw[<-Xt,Yx]
  have e:((l.take j).flatMap E.enc).length=j*E.k:=by rw[qC E,Yo,Yb c]
  constructor
  ·grind
  grind
 unfold splice;rw[qC E m,<-Nat.add_mul,(b l a Wm).1,(b l (a+m.length) h).2,Xt,Xt]
theorem QZ {w:Xn} (A:TypeId) (base:Nat) (v:Xq) (l:List α) (d:zb E base w v l) (g:Nat) (u:v.ownBlock=Xa g) (a b h:Nat) (n:Addr) (e k:Nat)
  (m:List α) (y:m.length=Yq e b) (j:jc w n (m.flatMap E.enc)) (c:a+m.length<=l.length):
  ∃w',(Builtin.copy_ #[E.st,E.st] A #[O (Xa ⟨g,a*E.k,Xb⟩) b h,O (Xa n) e k]).run prog w= .ok (goInt m.length) w'/\zb E base w' v (l.take a++(m++l.drop (a+m.length)))/\w.grownBy w' (Xa g)/\w'.heap.size=w.heap.size:=by
 obtain⟨B,x,_,p,_⟩:=info_parts E.aF;have i:(m.flatMap E.enc).length=m.length*E.k:=qC E m;have f:a*E.k+(m.flatMap E.enc).length<=l.length*E.k:=by
  rw[i,<-Nat.add_mul];exact Yf _ c
 obtain⟨w',z,q,s,t⟩:=ju (P:=prog) d.1 u (a*E.k) (m.flatMap E.enc) f (qS E.one m);have r:=run_loadCells_list (P:=prog) w n (m.flatMap E.enc) j;rw[i]at r;rw[zkN m l a c]at q;have hlen:(l.take a++(m++l.drop (a+m.length))).length=l.length:=by simp;omega
 refine⟨w',?_,⟨by rw[hlen];exact q,by rw[hlen];exact d.2⟩,s,t⟩
 simp[Builtin.copy_,run_underlying E.bV,Builtin.lenOf,Builtin.firstCells,sizeOf,typeInfo,x,p,<-y,r,z]
theorem qy {w:Xn} {rest:List Oper} {a:Act} (r:o.guard=Xb) (d s:Operand) (F:o.op= .call { callee:= .builtin .copy,args:=#[d,s],argTypes:=#[E.st,E.st] })
  (base:Nat) (v:Xq) (l:List α) (j:zb E base w v l) (g:Nat) (C:v.ownBlock=Xa g) (c b f:Nat) (t:Addr) (B:a.eval d= O (Xa t) b f) (q:t=⟨g,c*E.k,Xb⟩) (p:Addr) (e h:Nat) (G:a.eval s= O (Xa p) e h)
  (m:List α) (D:m.length=Yq e b) (n:jc w p (m.flatMap E.enc)) (i:c+m.length<=l.length)
  (u:∀w',zb E base w' v (l.take c++(m++l.drop (c+m.length)))->w.grownBy w' (Xa g)->w'.heap.size=w.heap.size->wpList prog ops Q rest (a.put o.dst (goInt m.length)) w'):wpList prog ops Q (o :: rest) a w:=by
 subst q;refine wpList_plain r fun K A=>?_
 obtain⟨w',k,x,y,z⟩:=QZ o.type base v l j g C c b f p e h m D n i;unfold Oper.wp
 simp[execOp,F,resolve,invoke,builtin,B,G,k,Result.andThen]
 exact A _ _ (u w' x y z)
end
theorem zlp (q) (n m z:Nat) (_h:m<=n) (a:z=Yq m (n - m)):(Xr m q++Xr (n - m) fr0).take m++(Xr z q++(Xr m q++Xr (n - m) fr0).drop (m+z))=Xr (m+z) q++Xr (n -(m+z)) fr0:=by
 have b:z<=n - m:=by rw[a];exact Nat.min_le_right _ _
 rw[Yg Sm,Xu Sm,List.drop_append,Yr Sm,List.nil_append,lR,Ya,<-Ok,Xw]
 congr 2
 omega
theorem zhv (q) (x:Nat) (c n:Nat) (i:n<=40) (d:1<=n) (w:Xn) (a:zj qi w (O (Xa ⟨x,0,Xb⟩) 1 c) [q]):
  Xp prog 25 #[O (Xa ⟨x,0,Xb⟩) 1 c,I6 (n:Int)] w fun e w'=>∃b,e= Xl b/\z3 qi w.heap.size w' b (Xr n q)/\zc w w':=by
 have h:Xo (jc w ⟨x,0,Xb⟩ ([q].flatMap qi.enc)):=by
  obtain⟨⟨f,f,g,_,f⟩,_⟩:=a;cases g;exact f _ rfl
 clear a;have a:=zhw n i w;have i:¬(n:Int)<0:=Wm
 have i:¬(9223372036854775807:Int)< (n:Int):=Wm
 go_enter func25,ntmps25
 go_wp2_with (first
  | (go_at_call 57;refine a.mono ?_;rintro e w' ⟨rfl,a⟩;rw[a])
  | (refine qv (E:=qi) rfl (.tmp 29) rfl n rfl (by show n*40<=_;omega) ?_;intro C a;have i:Xo (zb qi w.heap.size (w.alloc (Xk C 93)) (O (Xa ⟨w.heap.size,0,Xb⟩) n n) (Xr n fr0)):=a;clear a)
  | (refine qy (E:=qi) rfl (.tmp 31) (.tmp 32) rfl w.heap.size (O (Xa ⟨w.heap.size,0,Xb⟩) n n) (Xr n fr0) i w.heap.size rfl 0 n n _ rfl ?a1 _ 1 c rfl [q] ?a2 ?a3 ?a4 ?_))
 case a1=>simp
 case a2=>show 1=Yq 1 n;exact(Yb d).symm
 case a3=>exact h.aA (za _ _)
 case a4=>simp;omega
 intro j h a _;have i:Xo (zb qi w.heap.size j (O (Xa ⟨w.heap.size,0,Xb⟩) n n) (Xr 1 q++Xr (n - 1) fr0)):=show zb qi _ _ _ (Xr 1 q++Xr (n - 1) fr0) by simpa [Ya]using h
 have j:=dD<|zd (za _ _) a (nR _);clear h a;go_wp2
 go_loopg [8] n (fun a h wr=>∃m:Nat,1<=m/\m<=n/\n - m<=a/\h=I6 m/\Xo (zb qi w.heap.size wr (O (Xa ⟨w.heap.size,0,Xb⟩) n n) (Xr m q++Xr (n - m) fr0))/\Xo (zc w wr))
 exact⟨1,nR _,d,Wm,rfl,i,j⟩
 obtain⟨m,a,a,a,rfl,r,p⟩:=hrel
 by_cases j:m<n
 ·have k:=kC j
  have a:(m:Int)<=(n:Int):=Wm
  have h:=dD<|r.aA (gW _)
  obtain⟨z,l⟩:∃z,Xo (z=Yq m (n - m)):=⟨_,rfl⟩;have a:z=min m (n - m):=l.out;have d:1<=z:=Wm
  have i:z<=m:=Wm
  have d:z<=n - m:=Wm
  clear a;have d:jc wr.drew ⟨w.heap.size,0,Xb⟩ ((Xr z q).flatMap qi.enc):=fun s u a=>by
   have g:=h.1.cells rfl;refine g s u ?_;rw[Xt,Xx]
   ·rw[show m=z+(m - z) by omega,<-Xw,Xt,Xx (gS.1 a).1]
    exact a
   have f:=(gS.1 a).1;rw[qC qi]at f⊢;simp only[lR]at f⊢;exact Xs f (Yf _ i)
  obtain⟨s,a,f,i,_⟩:=QZ (E:=qi) 3 w.heap.size _ _ h w.heap.size rfl m (n - m) (n - m) ⟨w.heap.size,0,Xb⟩ m n (Xr z q) (Rx lR l) d (by simp;omega)
  have h:(Builtin.copy_ #[30,30] 3 #[O (Xa ⟨w.heap.size,m*13,Xb⟩) (n - m) (n - m),O (Xa ⟨w.heap.size,0,Xb⟩) m n]).run prog wr.drew= .ok (I6 (z:Int)) s:=by
   have g:=a;rw[lR]at g;exact g
  have h:Xo (zb qi w.heap.size s (O (Xa ⟨w.heap.size,0,Xb⟩) n n) (Xr (m+z) q++Xr (n -(m+z)) fr0)):=dD<|by
   rw[<-zlp q n m z Wm l.out]
   rw[lR]at f;exact f
  have g:=dD<|zd (p.trans (gW _)) i (nR _)
  clear d a f i;go_wp2
  go_region
  go_wp2
  go_roundg (n -(m+z));exact⟨m+z,Wm,Wm,nR _,Gn,h,g⟩;omega
 have k:=kD j
 have:m=n:=Wm
 subst this;have a:Xo (zb qi w.heap.size wr (O (Xa ⟨w.heap.size,0,Xb⟩) m m) (Xr m q)):=dD<|by have:=r.out;simpa using this
 go_wp2;go_ret;exact⟨_,rfl,a.new,p⟩
def zk6 (n:Int):Int:=if 0<=n/\n<=40 then 0 else 4
def zpw (n:Int):List Fr:=if 0<=n/\n<=40 then Xr n.toNat frF else []
theorem zis (q) (x:Nat) (c:Nat) (w:Xn):
  Xp prog 25 #[O (Xa ⟨x,0,Xb⟩) 1 c,I6 0] w fun e w'=>∃b,e= Xl b/\z3 qi w.heap.size w' b (Xr 0 q)/\zc w w':=by
 have a:=zhw 0 Wm w
 go_enter func25,ntmps25
 go_wp2_with (first
  | (go_at_call 57;refine a.mono ?_;rintro e w' ⟨rfl,a⟩;rw[a])
  | (refine qv (E:=qi) rfl (.tmp 29) rfl 0 rfl (by show 0*40<=_;omega) ?_;intro C a;have d:Xo (zb qi w.heap.size (w.alloc (Xk C 93)) (O (Xa ⟨w.heap.size,0,Xb⟩) 0 0) (Xr 0 fr0)):=a;clear a)
  | (refine qy (E:=qi) rfl (.tmp 31) (.tmp 32) rfl w.heap.size (O (Xa ⟨w.heap.size,0,Xb⟩) 0 0) (Xr 0 fr0) d w.heap.size rfl 0 0 0 _ rfl ?a1 _ 1 c rfl [] ?a2 ?a3 ?a4 ?_))
 case a1=>simp
 case a2=>rfl
 case a3=>intro j u a;simp at a
 case a4=>simp
 intro g d a _;have f:Xo (zb qi w.heap.size g (O (Xa ⟨w.heap.size,0,Xb⟩) 0 0) (Xr 0 q)):=dD<|Si d
 have h:=dD<|zd (za _ _) a (nR _);clear d a;go_wp2
 go_loopg [8] 0 (fun _ a wr=>a=I6 0/\wr=g)
 exact⟨rfl,rfl⟩
 obtain⟨rfl,rfl⟩:=hrel;go_wp2;go_ret;exact⟨_,rfl,f.new,h⟩
theorem zk3 (n:Nat) (z:n<=40) (w:Xn):
  Xp prog 15 #[I6 (n:Int)] w fun e w'=>∃b,e= Xl (Xm #[Xi #[b,I6 0],I6 0])/\z3 qi w.heap.size w' b (Xr n frF)/\zc w w':=by
 have B:¬(n:Int)<0:=Wm
 have A:¬(40:Int)< (n:Int):=Wm
 have d:∀W x,Box W x (frv frF)->Xp prog 25 #[O (Xa ⟨x,0,Xb⟩) 1 1,I6 (n:Int)] W fun e w'=>∃b,e= Xl b/\z3 qi W.heap.size w' b (Xr n frF)/\zc W w':=fun W x C=>by
  by_cases u:1<=n
  ·refine zhv frF x 1 n z u W ⟨⟨_,1,rfl,fun h=>(by cases h),fun L D=>?_⟩,by show 1*40<=_;omega⟩
   cases D;intro E K y;rw[Xv,zA];exact C.c E (by have h:=y;simp only[List.flatMap_cons,List.flatMap_nil,Yu]at h;exact h)
  have:n=0:=Wm
  subst this;exact zis frF x 1 W
 go_enter func15,ntmps15
 go_wp2_with fail;refine(Q8 _).mono ?_;rintro e g ⟨rfl,i⟩;have m:=dD<|(Box.aE w [eS,I6 0] _ rfl).aA i;have k:Xo (zc w g):=(za _ _).trans i;clear i;simp only[frv,frF,pg0];go_wp2_with fail;refine(d _ _ (Box.aE g _ _ rfl)).mono ?_;rintro e t ⟨b,rfl,f,j⟩;obtain⟨p,q,rfl,_⟩:=f.1.rows;rw[lR]at f⊢;have s:Xo (z3 qi g.heap.size t (O p n q) (Xr n frF)):=f.base Sm
 have c:=(m.alloc (Xk #[U8 0,U8 0,U8 0,U8 0,U8 0,U8 0,U8 0,U8 0,I6 0,Xh Xd,Xh Xd,I6 (-1),I6 0] 93)).aA j;have r:=dD ((k.trans (za _ _)).trans j);obtain⟨F,G⟩:=c.k2;have H:=c.f;have l:=dD m.lt;clear f j;go_wp2;refine bodyPost_ret (v:= Xm #[Xi #[O p n q,I6 0],I6 0]) (by simp[results,Tryz.results15,go_sem, *]) rfl ⟨_,rfl,?_,?_⟩
 ·exact((s.setCell (a:=⟨w.heap.size,0,Xb⟩) l _).setCell (a:=⟨w.heap.size,1,Xb⟩) l _).base (bS k)
 exact zK (zK r Sm _) Sm _
theorem zk4 (n:Int) (a:¬(0<=n/\n<=40)) (w:Xn):
  Xp prog 15 #[I6 n] w fun e w'=>∃b,e= Xl (Xm #[Xi #[b,I6 0],I6 4])/\z3 qi w.heap.size w' b ([]:List Fr)/\zc w w':=by
 by_cases a:n<0
 ·go_enter func15,ntmps15
  go_wp2;refine bodyPost_ret (v:= Xm #[Xi #[eS,I6 0],I6 4]) (by simp[results,Tryz.results15,go_sem, *]) rfl ⟨_,rfl,z3.nil qi _ _,?_⟩
  exact za _ _
 have a:40<n:=Wm
 go_enter func15,ntmps15
 go_wp2;refine bodyPost_ret (v:= Xm #[Xi #[eS,I6 0],I6 4]) (by simp[results,Tryz.results15,go_sem, *]) rfl ⟨_,rfl,z3.nil qi _ _,?_⟩
 exact za _ _
theorem zps (n:Nat) (a:n<=60) (w:Xn):
  Xp prog 16 #[I6 (n:Int)] w fun e w'=>∃a b,e= Xl (Xm #[O a n b,I6 0])/\z3 slE w.heap.size w' (O a n b) (Xr n 0)/\zc w w':=by
 have a:¬(n:Int)<0:=Wm
 have a:¬(60:Int)< (n:Int):=Wm
 go_enter func16,ntmps16
 go_wp2_with (refine qv slE rfl (.tmp 10) rfl n rfl (by show n*8<=_;omega) ?_)
 intro C a;have b:Xo (zb slE w.heap.size (w.alloc (Xk C 3)) (O (Xa ⟨w.heap.size,0,Xb⟩) n n) (Xr n 0)):=a;clear a
 show wpList _ _ _ _ _ (w.alloc (Xk C 3))
 obtain⟨a,a⟩:=kB (w.alloc (Xk C 3));have c:=gA a
 rw[a]at b⊢;clear a;go_wp2;refine bodyPost_ret (v:= Xm #[O (Xa ⟨w.heap.size,0,Xb⟩) n n,I6 0]) (by simp[results,Tryz.results16,go_sem, *]) rfl ⟨_,_,rfl,b.new,c⟩
theorem zpt (n:Int) (a:¬(0<=n/\n<=60)) (w):
  Xp prog 16 #[I6 n] w fun e w'=>e= Xl (Xm #[eS,I6 4])/\zc w w':=by
 by_cases b:n<0
 ·clear a
  go_enter func16,ntmps16
  go_wp2;refine bodyPost_ret (v:= Xm #[eS,I6 4]) (by simp[results,Tryz.results16,go_sem, *]) rfl ⟨rfl,zc.refl _⟩
 have b:60<n:=Wm
 clear a
 go_enter func16,ntmps16
 go_wp2;refine bodyPost_ret (v:= Xm #[eS,I6 4]) (by simp[results,Tryz.results16,go_sem, *]) rfl ⟨rfl,zc.refl _⟩
theorem zhn (v) (fs:List Int) (b:Int) (w) (x:zj blE w v fs):
  Xp prog 251 #[v,I6 b] w fun e w'=>(∃z:Int,e= Xl (I6 z)/\decide (0<=z)=fs.contains b)/\zc w w':=by
 have k:=x.short;obtain⟨K,M,rfl,d⟩:=x.bB;have C:=dD d;clear d x;obtain⟨n,s⟩:=kA fs.length;rw[s.out]at k⊢;obtain⟨i,c⟩:=kA (fs.contains b);rw[c.out]
 go_enter func251,ntmps251
 go_wp2
 go_loopg [5,8] n (fun D _ H wr=>∃a:Nat,a<=n/\n - a<=D/\H=I6 a/\Xo (zc w wr)/\Xo (∀(j:Nat) q,j<a->fs[j]? =Xa q->¬b=q))
 exact⟨0,nZ _,Wm,rfl,zc.refl w,fun j q l=>absurd l (nL _)⟩
 obtain⟨a,F,P,rfl,p,A⟩:=hrel
 by_cases f:a<n
 ·have m:=kC f
  obtain⟨q,t⟩:∃q,Xo (fs[a]? =Xa q):=⟨_,gE (Rx s.out f)⟩
  obtain⟨L,rfl,y⟩:=C.out a q t.out;have N:=y wr p.out;clear y
  by_cases h:b=q
  ·have u:(b == q)=Xc:=Si h
   have r:Xo (decide (0<=(a:Int))=i):=dD<|by
    rw[<-c.out,h,Yy.2 (mG t.out)];simp
   clear h;go_wp2;go_ret;exact⟨⟨_,rfl,r⟩,p⟩
  have u:(b == q)=Xd:=Si h
  have B:Xo (∀(j:Nat) q,j<a+1->fs[j]? =Xa q->¬b=q):=dD<|fun j G l g=>by
   by_cases e:j=a
   ·subst e;rw[t.out]at g;cases g;exact h
   exact A j G Wm g
  clear h;go_wp2
  go_roundg (n -(a+1));exact⟨a+1,Wm,Wm,Gn,p,B⟩;omega
 have m:=kD f
 have:a=n:=Wm
 subst this;have r:Xo (decide (0<=(-1:Int))=i):=dD<|by
  have:fs.contains b=Xd:=by
   cases E:fs.contains b with
   | false=>rfl
   | true=>
    obtain⟨j,l⟩:=Ob (Yy.1 E);exact absurd rfl (A j b (by rw[<-s.out];exact(gS.1 l).1) l)
  rw[<-c.out,this];rfl
 go_wp2;go_ret;exact⟨⟨_,rfl,r⟩,p⟩
theorem zdY (v) (fs:List Int) (b:Int) (w) (c:zj blE w v fs):
  Xp prog 245 #[v,I6 b] w fun e w'=>e= Xl (Xh (fs.contains b))/\zc w w':=by
 have a:=zhn v fs b w c;obtain⟨d,d,rfl,_⟩:=c.bB;clear c
 generalize fs.contains b=c at a⊢
 generalize fs.length=n at a⊢
 go_enter func245,ntmps245
 go_wp2_with fail;refine a.mono ?_;rintro e c ⟨⟨z,rfl,d⟩,c⟩;have f:=dD c;clear c a;have a:=dD d;clear d;go_wp2;go_ret;exact⟨by rw[<-a.out];rfl,f⟩
theorem zru (f:Fl) (g) (h:Nat) (b:Int) (p:Nat) (w) (k:Box w p [I6 b]) (q:zj blE w (O g f.bl.length h) f.bl):
  Xp prog 244 #[Xi #[I6 f.size,O g f.bl.length h],Xj (Xa ⟨p,0,Xb⟩)] w fun e w'=>e= Xl (Xh (f.bl.contains b))/\zc w w':=by
 have j:∀W,zc w W->Xp prog 245 #[O g f.bl.length h,I6 b] W fun e w'=>e= Xl (Xh (f.bl.contains b))/\zc W w':=fun W c=>zdY _ f.bl b W (q.aA c)
 have l:=k.lt;have c:p≠w.heap.size:=Wm
 have c:w.heap.size≠p:=Wm
 obtain⟨c,c⟩:=kB (w.alloc (Xk #[I6 f.size,O g f.bl.length h] 159));have d:=gA c
 have m:=(k.aA d).c 0 rfl;have n:(w.alloc (Xk #[I6 f.size,O g f.bl.length h] 159)).cell? ⟨p,0,Xb⟩=Xa (I6 b):=Rx c m
 have i:=dD c;clear c q k
 generalize f.bl.contains b=c at j⊢
 generalize f.bl.length=k at*
 generalize f.size=q at*
 have c:=World.cell?_of_block (w:=w) (w':=w.alloc (Xk #[I6 q,O g k h] 159)) (a:=⟨p,0,Xb⟩) (Below.heap_alloc _ _ _ l);rw[n]at c;have g:=c.symm;clear m n c
 go_enter func244,ntmps244
 go_wp2_with fail;rw[i.out];refine(j _ d).mono ?_;rintro e c ⟨rfl,c⟩;have g:=dD (d.trans c);clear c j;go_wp2;go_ret;exact⟨rfl,g⟩
theorem zfT (v fs) (b:Int) (p:Nat) (w) (d:Box w p [I6 b]) (f:z7 w v fs):
  Xp prog 252 #[v,.func (.func 244) #[] #[Xj (Xa ⟨p,0,Xb⟩)]] w fun e w'=>(∃z:Int,e= Xl (I6 z)/\decide (0<=z)=zR fs b)/\zc w w':=by
 obtain⟨a,c,rfl,c,a⟩:=f.rows;have s:=dD a;have l:=dD d;have g:=enters_of func244 Kr rfl
 clear a f d;obtain⟨n,u⟩:=kA fs.length;rw[u.out]at c⊢;obtain⟨k,d⟩:=kA (zR fs b);rw[d.out]
 go_enter func252,ntmps252
 go_wp2
 go_loopg [5,8] n (fun a _ f wr=>∃c:Nat,c<=n/\n - c<=a/\f=I6 c/\Xo (zc w wr)/\Xo (∀(j:Nat) (q:Fl),j<c->fs[j]? =Xa q->q.bl.contains b=Xd))
 exact⟨0,nZ _,Wm,rfl,zc.refl w,fun j q m=>absurd m (nL _)⟩
 obtain⟨c,a,a,rfl,h,A⟩:=hrel
 by_cases f:c<n
 ·have r:=kC f
  obtain⟨q,x⟩:∃q,Xo (fs[c]? =Xa q):=⟨_,gE (Rx u.out f)⟩
  obtain⟨a,rfl,t,y,g,i⟩:=s.out c q x.out;obtain⟨a,a⟩:=i wr h.out;have a:=zru q t y b p wr (l.aA h) (g.aA h);clear i g
  cases i:q.bl.contains b with
  | true=>
   rw[i]at a;have t:Xo (decide (0<=(c:Int))=k):=dD<|by
    rw[<-d.out];unfold zR;rw[zsH x.out i];simp
   clear i;go_wp2_with fail;refine a.mono ?_;rintro e B ⟨rfl,l⟩;have s:=dD (h.trans l);clear l a;go_wp2;go_ret;exact⟨⟨_,rfl,t⟩,s⟩
  | false=>
   rw[i]at a;have y:Xo (∀(j:Nat) (q:Fl),j<c+1->fs[j]? =Xa q->q.bl.contains b=Xd):=dD<|fun j C m g=>by
    by_cases e:j=c
    ·subst e;rw[x.out]at g;cases g;exact i
    exact A j C Wm g
   clear i;go_wp2_with fail;refine a.mono ?_;rintro e B ⟨rfl,l⟩;have s:=dD (h.trans l);clear l a;go_wp2
   go_roundg (n -(c+1));exact⟨c+1,Wm,Wm,Gn,s,y⟩;omega
 have r:=kD f
 have:c=n:=Wm
 subst this;have t:Xo (decide (0<=(-1:Int))=k):=dD<|by
  rw[<-d.out];unfold zR;rw[zsG (fun j q m=>A.out j q (by rw[<-u.out];exact(gS.1 m).1) m)]
  rfl
 go_wp2;go_ret;exact⟨⟨_,rfl,t⟩,h⟩
theorem zcQ (v fs) (b:Int) (p:Nat) (w) (d:Box w p [I6 b]) (c:z7 w v fs):
  Xp prog 246 #[v,.func (.func 244) #[] #[Xj (Xa ⟨p,0,Xb⟩)]] w fun e w'=>e= Xl (Xh (zR fs b))/\zc w w':=by
 have a:=zfT v fs b p w d c;obtain⟨f,f,rfl,_⟩:=c.rows;clear c d
 generalize zR fs b=c at a⊢
 generalize fs.length=n at a⊢
 go_enter func246,ntmps246
 go_wp2_with fail;refine a.mono ?_;rintro e c ⟨⟨z,rfl,d⟩,c⟩;have f:=dD c;clear c a;have a:=dD d;clear d;go_wp2;go_ret;exact⟨by rw[<-a.out];rfl,f⟩
def jI (fs:List Fl) (k:Nat):List Int:=((Oh k).filter fun(b:Nat)=>!zR fs (b:Int)).map fun(b:Nat)=>(b:Int)
theorem ziH (fs) (k:Nat):jI fs (k+1)=if zR fs (k:Int)=Xc then jI fs k else jI fs k++ [(k:Int)]:=by
 unfold jI;rw[List.range_succ,List.filter_append]
 cases h:zR fs (k:Int)with
 | true=>simp[h]
 | false=>simp[h]
theorem zlc (fs) (n:Nat):jI fs n=(Zp fs (n:Int)).map fun(b:Nat)=>(b:Int):=by
 unfold jI Zp;rw[tN]
theorem zlb (fs) (k:Nat):(jI fs k).length<=k:=by
 unfold jI;rw[Yt];exact nT (Yw _ _) Sm
theorem zjW (v fs) (m:Nat) (a:m<=80) (w:Xn) (c:z7 w v fs):
  Xp prog 239 #[Xi #[v,I6 (m:Int)]] w fun e w'=>∃b,e= Xl b/\zb blE (w.heap.size+1) w' b (jI fs m)/\zc w w':=by
 have f:=dD c;obtain⟨d,g,rfl,a,_⟩:=c.rows;clear c;obtain⟨n,c⟩:=kA fs.length;rw[c.out]at a f⊢;have a:∀(c:Fn) (first a:Array Xq) (w:Xn),(Instr.makeFunc c first a).run prog w= .ok (.func c first a) w:=fun _ _ _ _=>rfl
 obtain⟨B,a⟩:=kB (w.alloc (Xk #[O d n g,I6 (m:Int)] 41));have j:=gA a
 have s:=xA a
 have k:=sA a
 have c:=dD a;clear a
 go_enter func239,ntmps239
 go_wp2;rw[c.out]
 go_loopg [3,4,5,8] m (fun a d _ _ g wr=>∃(c:Nat) (p:Option Addr) (q:Nat),c<=m/\m - c<=a/\g=I6 c/\d= .slice p (jI fs c).length q/\Xo (zc B wr)/\Xo (zb blE (w.heap.size+1) wr (.slice p (jI fs c).length q) (jI fs c)))
 exact⟨0,Xb,0,nZ _,Wm,rfl,rfl,zc.refl _,zb.nil _ _ _⟩
 obtain⟨c,p,q,a,a,rfl,rfl,h,A⟩:=hrel
 by_cases l:c<m
 ·have n:=kC l
  obtain⟨g,d⟩:=kB (wr.alloc (Xk #[I6 (c:Int)] 3));have i:=gA d
  have r:=xA d
  have a:=zcQ _ fs (c:Int) wr.heap.size g r (f.aA ((j.trans h).trans i));have z:=dD (A.aA i);have g:=dD d;have f:=ziH fs c;have F:=dD<|zlb fs c;clear d;go_upto_region 5 with fail;rw[g.out];have C:=(s.aA (h.trans i)).c 0 rfl;have D:=(s.aA (h.trans i)).c 1 rfl;have g:=dD r.lt;obtain⟨d,d⟩:=kB wr.heap.size;rw[d]at a r g⊢;clear d
  cases x:zR fs (c:Int)with
  | true=>
   rw[x]at a f;rw[kE rfl]at f;have d:=dD f;clear f x;go_wp2_with fail;refine a.mono ?_;rintro e u ⟨rfl,g⟩;have s:=dD ((h.trans i).trans g);have t:Xo (zb blE (w.heap.size+1) u (.slice p (jI fs (c+1)).length q) (jI fs (c+1))):=show zb _ _ _ _ _ by rw[d.out];exact z.aA g
   have y:Xo ((jI fs (c+1)).length=(jI fs c).length):=dD<|by rw[d.out]
   rw[<-y.out];clear g a C D;go_wp2
   go_roundg (m -(c+1));exact⟨c+1,p,q,Wm,Wm,Gn,rfl,s,t⟩;omega
  | false=>
   rw[x]at a f;rw[kF Dc]at f
   have d:=dD f;clear f x;go_wp2_with fail;refine a.mono ?_;rintro e u ⟨rfl,g⟩;have s:=dD ((h.trans i).trans g);have t:=dD (z.aA g);have f:=(r.aA g).c 0 rfl;clear g a C D;have a:Xo (w.heap.size+1<=u.heap.size):=show _<=_ by
    have:=bS s.out;rw[k.out]at this;exact this
   go_wp2_with (at_builtin;refine zu (E:=blE) rfl (.tmp 17) (.tmp 19) rfl (w.heap.size+1) _ (jI fs c) rfl (t.aA (za _ _)) _ [(c:Int)] rfl (Qs blE u (c:Int) _ _ rfl (by show 8<=_;omega)) ?qb ?qc ?_)
   case qb=>
    have:=F.out
    show(_+1)*8<=_
    omega
   case qc=>simp;have:=a.out;omega
   intro a p a f;obtain⟨g,i,rfl⟩:=a.form;have r:Xo (zb blE (w.heap.size+1) p (.slice g (jI fs (c+1)).length i) (jI fs (c+1))):=dD<|Rx d.out a
   have q:Xo (zc B p):=dD<|zU (s.trans (za _ _)) f (fun p u=>by
    have s:=(t.lt p u).1;rw[k.out];exact s)
   rw[<-d.out];clear a f;go_wp2
   go_roundg (m -(c+1));exact⟨c+1,g,i,Wm,Wm,Gn,rfl,q,r⟩;omega
 have n:=kD l
 have:c=m:=Wm
 subst this;have a:=dD (j.trans h);go_wp2;go_ret;exact⟨_,rfl,A,a⟩
theorem zm9 (n:Int) (w):
  Xp prog 18 #[I6 n] w fun e w'=>e= Xl (Xm #[Xi #[eS,I6 (if 0<=n/\n<=80 then n else 0)],I6 (if 0<=n/\n<=80 then 0 else 4)])/\zc w w':=by
 by_cases h:0<=n/\n<=80
 ·rw[kE h,kE h];have a:=fun W=>Zd (m:=n) (n:=81) h.1 Wm W
  clear h
  go_enter func18,ntmps18
  go_wp2_with (go_at_call 27;refine(a _).mono ?_;rintro e w' ⟨rfl,rfl⟩)
  refine bodyPost_ret (v:= Xm #[Xi #[eS,I6 n],I6 0]) (by simp[results,Tryz.results18,go_sem, *]) rfl ⟨rfl,?_⟩
  first | exact za _ _ | exact Below.setCell (Below.setCell (za _ _) (p:=⟨w.heap.size,0,Xb⟩) Sm _) (p:=⟨w.heap.size,1,Xb⟩) Sm _
 rw[kF h,kF h];have a:=fun W=>zau (m:=n) (n:=81) Wm W
 clear h
 go_enter func18,ntmps18
 go_wp2_with (go_at_call 27;refine(a _).mono ?_;rintro e w' ⟨rfl,rfl⟩)
 refine bodyPost_ret (v:= Xm #[Xi #[eS,I6 0],I6 4]) (by simp[results,Tryz.results18,go_sem, *]) rfl ⟨rfl,?_⟩
 first | exact za _ _ | exact Below.setCell (Below.setCell (za _ _) (p:=⟨w.heap.size,0,Xb⟩) Sm _) (p:=⟨w.heap.size,1,Xb⟩) Sm _
def zm6 (fs:List Fl) (cnt k:Int):Int:=if stW fs cnt=0 then(if inL fs.length k=Xc then 0 else 5)else stW fs cnt
theorem zcp (v fs) (a k:Int) (w) (m:z7 w v fs):
  Xp prog 188 #[Xi #[v,I6 a],I6 k] w fun e w'=>e= Xl (I6 (zm6 fs a k))/\zc w w':=by
 have i:∀W,zc w W->Xp prog 61 #[Xi #[v,I6 a]] W fun e w'=>e= Xl (I6 (stW fs a))/\zc W w':=fun W t=>zaK v fs a W (m.aA t)
 obtain⟨r,s,rfl,q,_⟩:=m.rows;clear m;have d:Xo (zm6 fs a k=if stW fs a=0 then(if inL fs.length k=Xc then 0 else 5)else stW fs a):=rfl;have c:∀W,Xp prog 27 #[I6 k,I6 (fs.length:Int)] W fun e w'=>e= Xl (Xh (inL fs.length k))/\w'=W:=fun W=>zd5 k _ W
 generalize zm6 fs a k=Z at d⊢
 generalize inL fs.length k=B at d c
 generalize stW fs a=S at d i
 generalize fs.length=x at*
 obtain⟨z,g⟩:=kB (w.alloc (Xk #[O r x s,I6 a] 41));have b:=gA g
 have p:=xA g
 have h:=dD g;clear g
 by_cases l:S=0
 ·rw[kE l]at d;subst l
  cases B with
  | true=>
   rw[kE rfl]at d
   go_enter func188,ntmps188
   go_wp2_with fail;rw[h.out];refine(i _ b).mono ?_;rintro e n ⟨rfl,f⟩;have j:=dD (b.trans f);have y:=(p.aA f).c 0 rfl;clear f i
   go_wp2_with (go_at_call 27;refine(c _).mono ?_;rintro e w' ⟨rfl,rfl⟩)
   go_ret;exact⟨Rr d.out,j⟩
  | false=>
   rw[kF Dc]at d
   go_enter func188,ntmps188
   go_wp2_with fail;rw[h.out];refine(i _ b).mono ?_;rintro e n ⟨rfl,f⟩;have j:=dD (b.trans f);have y:=(p.aA f).c 0 rfl;clear f i
   go_wp2_with (go_at_call 27;refine(c _).mono ?_;rintro e w' ⟨rfl,rfl⟩)
   go_ret;exact⟨Rr d.out,j⟩
 rw[kF l]at d;have u:(S != 0)=Xc:=Si l
 go_enter func188,ntmps188
 go_wp2_with fail;rw[h.out];refine(i _ b).mono ?_;rintro e n ⟨rfl,f⟩;have j:=dD (b.trans f);clear f i;go_wp2;go_ret;exact⟨Rr d.out,j⟩
def zk2 (n:Int):Int:=if 0<=n/\n<=60 then 0 else 4
def zpv (n:Int):List Int:=if 0<=n/\n<=60 then Xr n.toNat 0 else []
theorem zk5 (n:Int) (w:Xn):Xp prog 15 #[I6 n] w fun e w'=>∃s:Sli,e= Xl (Xm #[Xi #[s.x,I6 0],I6 (zk6 n)])/\(zj qi w' (s.x) (zpw n)/\Zb w.heap.size (s.x))/\zc w w':=by
 by_cases h:0<=n/\n<=40
 ·obtain⟨k,rfl⟩:∃k:Nat,n=(k:Int):=⟨n.toNat,Wm⟩
  refine(zk3 k Wm w).mono ?_
  rintro e w' ⟨f,rfl,a,d⟩;obtain⟨b,c,rfl,_⟩:=a.1.rows;refine⟨⟨b,(Xr k frF).length,c⟩,?_,⟨?_,a.2⟩,d⟩
  ·unfold zk6;rw[kE h]
  unfold zpw;rw[kE h];exact a.1
 refine(zk4 n h w).mono ?_;rintro e w' ⟨f,rfl,a,d⟩;obtain⟨b,c,rfl,_⟩:=a.1.rows;refine⟨⟨b,([]:List Fr).length,c⟩,?_,⟨?_,a.2⟩,d⟩
 ·unfold zk6;rw[kF h]
 unfold zpw;rw[kF h];exact a.1
theorem zpu (n:Int) (w:Xn):Xp prog 16 #[I6 n] w fun e w'=>∃s:Sli,e= Xl (Xm #[s.x,I6 (zk2 n)])/\(zj slE w' (s.x) (zpv n)/\Zb w.heap.size (s.x))/\zc w w':=by
 by_cases h:0<=n/\n<=60
 ·obtain⟨k,rfl⟩:∃k:Nat,n=(k:Int):=⟨n.toNat,Wm⟩
  refine(zps k Wm w).mono ?_
  rintro e w' ⟨c,d,rfl,b,a⟩;refine⟨⟨c,k,d⟩,?_,⟨?_,b.2⟩,a⟩
  ·unfold zk2;rw[kE h]
  unfold zpv;rw[kE h];exact b.1
 refine(zpt n h w).mono ?_;rintro e w' ⟨rfl,a⟩;refine⟨⟨Xb,0,0⟩,?_,⟨?_,ZE _⟩,a⟩
 ·unfold zk2;rw[kF h]
 unfold zpv;rw[kF h];exact zj.nil slE w'
theorem zg9 (n:Int) (w:Xn):Xp prog 17 #[I6 n] w fun e w'=>∃b q:Sli,e= Xl (Xm #[Xi #[b.x,q.x],I6 (JN n)])/\(qV w' (b.x) (znb n)/\jr w' (q.x) []/\Zb w.heap.size (b.x)/\Zb w.heap.size (q.x))/\zc w w':=by
 refine(zq9 n w).mono ?_;rintro e w' ⟨d,rfl,⟨b,q,rfl,a,c,i,j⟩,k⟩;obtain⟨d,g,rfl,_⟩:=a.rows;obtain⟨f,h,rfl,_⟩:=c.rows;exact⟨⟨d,(znb n).length,g⟩,⟨f,([]:List (Int × List Int)).length,h⟩,rfl,⟨a,c,i,j⟩,k⟩
theorem jN.beside {α:Type} {enc:α->List Xq} {w:Xn} {a:Option Nat} {v:Xq} {l:List α} (h:jN enc w v l) (i:w.grownBy w' a) (k:∀x n c,v= O (Xa x) n c->Xa x.block≠a):jN enc w' v l:=by
 obtain⟨e,c,b,f,g⟩:=h;refine⟨e,c,b,f,fun x m p u j=>?_⟩
 subst m;have d:=g x rfl p u j;rw[World.cell?_of_block (w:=w) (i.block _ (World.block_lt_of_cell? _ _ d) (by rw[Ze];exact k x _ _ b))]
 exact d
def zst (f s b:Int):Prop:=(0<=f/\f<=40)/\(0<=s/\s<=60)/\(0<=b/\b<=80)
def ZC (f s b:Int):Ma:=⟨Xr f.toNat frF,0,Xr s.toNat 0,Xr s.toNat zI,[],Xr b.toNat zI,[],[],b,[],[⟨Xc,[],Qt⟩]⟩
def zpx (f s b:Int):List Int:=[zk6 f,zk2 s,JN s,JN b,if 0<=b/\b<=80 then 0 else 4]
theorem zna {f s b:Int} (h:zst f s b):zC (zpx f s b)=0:=by
 obtain⟨a,c,d⟩:=h;unfold zpx zk6 zk2 JN;rw[kE a,kE c,kE Wm,kE d]
 rfl
theorem z6 {e:Func} {p u t:Tmp} {c:TypeId} (h:e.results=#[.cell p c,.tmp u,.tmp t]) (a:Array Xq) {w:Xn} (hp:a.getD p undef= Xj (Xa ⟨b,0,Xb⟩)) (f:Box w b vs) {d:TypeDesc} (i:Tryz.prog.underlying c=Xa d) (g:d.isRow=Xc) (hi:(Tryz.prog.info? c).map (·.size)=Xa vs.length):
  (results e a).run prog w= .ok (Xm #[Xi vs.toArray,a.getD u undef,a.getD t undef]) w:=by
 have e:a[p]?.getD undef= Xj (Xa ⟨b,0,Xb⟩):=Si hp
 have a:=run_loadVar_mid (P:=prog) w b 0 c vs d f.range i g hi
 simp[results,h,e,asAddr,a]
theorem zn3 {l:List Int} {n:Int} {k:Nat} (h:(k:Int)<=n\/k=0):zbK l 0 n k=l:=by
 unfold zbK
 apply Yj
 grind
theorem zn7 (l) (idx a:Int):qJ l 0 (a - idx*8)=qJ l idx a:=by
 grind [qJ]
theorem Z5 (l:List Int) (n:Int) (w) (f:l.length=8) (a:-9223372036854775808<=n) (b:n<=9223372036854775807):
  Xp prog 182 #[Xi (pgc l).toArray,I6 n] w fun e w'=>e= Xl (Xi (pgc (qJ l 0 n)).toArray)/\(qJ l 0 n).length=8/\zc w w':=by
 have h:=dD f;have a:Xo ((qJ l 0 n).length=8):=show _=_ by unfold qJ;simp[f]
 obtain⟨c,b⟩:=kB ((w.alloc (Xk (pgc l).toArray 91)).alloc (Xk #[U8 0,U8 0,U8 0,U8 0,U8 0,U8 0,U8 0,U8 0] 91));have g:=gD2 b
 have i:=x2a b
 have p:Xo (Box c (w.heap.size+1) (pgc zI)):=dD<|by rw[<-b];exact Box.aE _ (pgc zI) _ Sm
 have d:=dD b;have m:Xo (Box c w.heap.size (pgc (zbK l 0 n n.toNat))):=show Box _ _ _ by rw[zn3 Wm];exact i.out
 obtain⟨j,c⟩:=kA (qJ l 0 n);rw[c.out]at a⊢;clear b f
 go_enter func182,ntmps182
 go_upto_region 1 with fail;rw[d.out];go_wp2
 all_goals
  go_loopg [5] 8 (fun b d wr=>∃k:Nat,n<=(k:Int)/\(k:Int)<=9223372036854775807/\8 - k<=b/\d=I6 k/\Xo (zc w wr)/\Xo (Box wr w.heap.size (pgc (zbK l 0 n k)))/\Xo (Box wr (w.heap.size+1) (pgc zI)))
  case atStart=>
   exact⟨n.toNat,Wm,Wm,Wm,(by first | rw[Int.toNat_eq_max] | (congr 1;omega) | (congr 1;rw[Int.max_def];split <;> omega) | (congr 1;split <;> omega)),g,m,p⟩
  obtain⟨k,b,b,b,rfl,m,d,p⟩:=hrel
  by_cases f:k<8
  ·have g:(k:Int)<8:=Wm
   obtain⟨z,b⟩:∃z,(zbK l 0 n k)[k]? =Xa z:=⟨_,gE (by rw[zn4,h.out];exact f)⟩
   have s:=d.c k (zsl b);have t:=d.f;clear b;go_wp2;obtain⟨i,b⟩:=kB (wr.setCell ⟨w.heap.size,k,Xb⟩ (U8 0));have q:Xo (Box i w.heap.size (pgc (zbK l 0 n (k+1)))):=dD<|by rw[<-b,<-zn5 (Rx h.out f) Wm,zq6];exact d.set k _
   have r:Xo (Box i (w.heap.size+1) (pgc zI)):=dD<|by rw[<-b];exact p.other Sm _
   have f:Xo (zc w i):=dD<|by rw[<-b];exact zK m Sm _
   rw[b];clear b s t
   go_roundg (8 -(k+1));exact⟨k+1,Wm,Wm,Wm,Gn,f,q,r⟩;omega
  have g:¬(k:Int)<8:=Wm
  have b:Xo (zbK l 0 n k=j):=dD<|by rw[zn6 (by rw[h.out];omega),c.out]
  rw[b.out]at d
  go_wp2_with (first | refine zp rfl 91 (.tmp 2) rfl w.heap.size rfl d underlying91 rfl (by rw[ZL,a.out];exact ztF) ?_ | refine zz rfl 91 (.tmp 4) (.tmp 14) rfl (w.heap.size+1) rfl (pgc j) rfl p (by rw[ZL,a.out];rfl) ztF (jy _) ?_)
  intro f c d _;have b:Xo (zc w f):=dD<|zd m d Wm
  go_wp2;refine bodyPost_ret (zE rfl _ rfl c underlying91 rfl (by rw[ZL,a.out];exact ztF)) rfl ⟨rfl,a,b⟩
theorem zP.aL {a:Act} {w:Xn} {K:Xq->Xn->Prop} (d p x) (g:o.op= .store d p x) (b:Nat) (hp:a.eval p= Xj (Xa ⟨b,0,Xb⟩)) (vs:List Xq) (j:a.eval x= Xi vs.toArray)
  {t:TypeId} {cs:List Xq} (e:zl w b t cs) (c:vs.length=cs.length) (hi:(Tryz.prog.info? d).map (·.size)=Xa cs.length) (f:∀v∈vs,v.oneCell'=Xc)
  (h:∀w',zl w' b t vs->w.grownBy w' (Xa b)->w'.heap.size=w.heap.size->K undef w'):zP prog o a w K:=by
 unfold zP;have i:(execOp a.eval o).run prog w= .ok .skip (w.setCells b 0 vs):=by
  have:=run_storeAt_mid (P:=prog) w b 0 d vs.toArray (by simpa [c]using e.box.there) (by simpa [c]using hi) (all_oneCell_toArray f)
  simp only[execOp,g,hp,j,Yc,this,rA,Sem.run_pure]
 rw[i];have hp:=e.part (ds:=vs) (o:=0) Wm
 rw[zad c]at hp;exact h _ hp (zZ b vs 0 w).1 (zZ b vs 0 w).2
theorem Qa (a:∀p∈m.db,p.length=8) (b:∀q∈m.dq,q.2.length=8) (file idx:Int):(z9 m file idx).length=8:=by
 unfold z9
 split
 ·rfl
 grind [qJ,zgO]
theorem ZU {f:Fl} {a:Int} (d:m.fl[fi]? =Xa f) (b:f.bl[ix]? =Xa a):z9 m fi ix=if a<0 then zI else qJ (zS m.db m.dq a) ix f.size:=by
 have c:m.fl.getD ((fi:Int).toNat) ⟨0,[]⟩=f:=by rw[tN,gD,d];rfl
 have d:Qc m fi ix=a:=by unfold Qc;rw[c,tN,gD,b];rfl
 have a:qW m fi=f.size:=by unfold qW;rw[c]
 unfold z9;rw[d,a]
theorem zrw {fl:List Fl} {f:Fl} {c:Int} (b:fl[fi]? =Xa f) (a:f.bl[ix]? =Xa c):zoO fl fi ix=Xc:=by
 have c:=(gS.1 b).1;have c:=(gS.1 a).1;have a:fl.getD ((fi:Int).toNat) ⟨0,[]⟩=f:=by rw[tN,gD,b];rfl
 unfold zoO;rw[a,Zu.2 ⟨Wm,Wm⟩,Zu.2 ⟨Wm,Wm⟩]
 rfl
theorem zaO (V) (m:Ma) (fi ix:Nat) (f:Fl) (d:Int) (w) (g:zw w V m) (x:m.fl[fi]? =Xa f) (b:f.bl[ix]? =Xa d) (a:ix<=1000) (H:0<=f.size/\f.size<=1000):
  Xp prog 155 #[Xi (mL V m).toArray,I6 (fi:Int),I6 (ix:Int)] w fun e w'=>e= Xl (Xi (pgc (z9 m fi ix)).toArray)/\(z9 m fi ix).length=8/\zc w w':=by
 have l:=dD<|fun W (a:zc w W)=>zfy _ m.db m.dq d W ⟨_,_,rfl,(g.aA a).db,(g.aA a).dq⟩
 have r:Xo (∀W,zc w W->Xp prog 119 #[Xi #[V.fl.x,I6 m.cnt],I6 (fi:Int),I6 (ix:Int)] W fun e w'=>e= Xl (Xh Xc)/\zc W w'):=dD<|fun W a=>by
  have:=za3 (V.fl.x) m.fl m.cnt fi ix W (g.aA a).fl;rw[zrw x b]at this;exact this
 have u:Xo ((zS m.db m.dq d).length=8):=zgO g.db.2.1 g.dq.2.1;have j:Xo ((z9 m fi ix).length=8):=Qa g.db.2.1 g.dq.2.1 _ _;have a:=dD<|ZU x b;obtain⟨a6,c⟩:=kA (z9 m fi ix);rw[c.out]at a j⊢;obtain⟨⟨X,Z,Y⟩,a0,L,N,S,T,⟨h,k,F⟩,⟨C,E,D⟩,M⟩:=V;dsimp only[mL]at l r⊢;obtain⟨-,-,-,-,-,-,K,-,-⟩:=g.ns;dsimp only at K;obtain⟨_,_,q,_,z⟩:=z7.rows g.fl;have c:Xo (zkx w h m.fl):=show zkx _ _ _ by
  simp only[vJ]at q;rw[q.1];exact z
 have h:fi<k:=by rw[K];exact(gS.1 x).1
 obtain⟨R,rfl,P,U,t,y⟩:=c.out fi f x;have i:=dD y
 obtain⟨_,_,p,s⟩:=t.bB;have G:=(gS.1 b).1;obtain⟨n,h,c⟩:=s ix d b;have B:Xo (P=Xa n/\∀W,zc w W->W.cell? (n.add ix)=Xa (I6 d)):=dD<|⟨by simp only[vJ]at p;rw[p.1];exact h,c⟩
 obtain⟨Q,A⟩:=kA f.bl.length;rw[A.out]at G i;clear g K q z x b y t p s h c;obtain⟨a5,b⟩:=kA f.size;rw[b.out]at i a H;have b:(fi:Int)< (k:Int):=Wm
 have b:(ix:Int)< (Q:Int):=Wm
 obtain⟨s,b⟩:=kB ((w.alloc (Xk #[O X Z Y,I6 m.aB,a0.x,L.x,N.x,S.x,T.x,O (Xa R) k F,I6 m.cnt,O C E D,M.x] 45)).alloc (Xk #[U8 0,U8 0,U8 0,U8 0,U8 0,U8 0,U8 0,U8 0] 91));have q:=gD2 b
 have h:=x2a b
 have t:Xo (Box s (w.heap.size+1) (pgc zI)):=dD<|by rw[<-b];exact Box.aE _ (pgc zI) _ Sm
 have g:=dD b;clear b
 go_enter func155,ntmps155
 go_upto_region 1 with fail;rw[g.out];have p:=h.c 7 rfl;have g:=h.c 8 rfl;have b:=r.out s q.out;go_wp2_with fail;refine b.mono ?_;clear b p g;rintro W k ⟨rfl,b⟩;have r:=dD (q.trans b);have q:=dD (h.aA b);have s:=dD (t.aA b);clear b;have p:=q.c 7 rfl;obtain⟨t,y⟩:=i.out k r.out;go_upto_region 4 with fail;obtain⟨b,g⟩:=kA k.heap.size;obtain⟨h,b⟩:=kB (k.alloc (Xk #[I6 a5,O P Q U] 159));have i:=gP b
 have X:=xP b g
 have A:=dD (r.trans i);have x:=dD (q.aA i);have a2:=dD (s.aA i);rw[b,g.out];clear b i t y p;obtain⟨b,c⟩:=B.out;subst b;have b:=dD c
 clear c;have p:=X.c 1 rfl;have i:=b.out h A.out
 by_cases c:d<0
 ·rw[kE c]at a
  go_wp2_with (refine zz rfl 91 (.tmp 6) (.tmp 29) rfl (w.heap.size+1) rfl (pgc zI) rfl a2 rfl ztF (jy _) ?_)
  intro Y s t _;have k:Xo (zc w Y):=dD<|zd A t Wm
  go_wp2;refine bodyPost_ret (zE rfl _ rfl s underlying91 rfl ztF) rfl ⟨by rw[a.out],Rr a.out,k⟩
 rw[kF c]at a;have g:decide (d<0)=Xd:=decide_eq_false c;go_upto_region 6 with fail;clear p i c g;obtain⟨p,c⟩:=kA (zS m.db m.dq d);rw[c.out]at a u l;obtain⟨H,K,L,M,N,P,Q,R,rfl⟩:=zba p u.out;obtain⟨g,c⟩:=Wq fun u=>zc h u
 have r:=(c _).2 (gW _)
 have F:=x.h c 5 rfl
 have G:=x.h c 6 rfl
 have D:=X.h c 1 rfl
 have C:∀y:zq g,y.world.cell? (n.add ix)=Xa (I6 d):=fun y=>b.out _ (A.trans ((c _).1 y.holds))
 have a0:Nonempty (zq g):=⟨⟨_,r⟩⟩;refine Jw (I:=g) 14 [(7,⟨.const (Xh Xd),fun b=>b= Xm #[Xi #[U8 H,U8 K,U8 L,U8 M,U8 N,U8 P,U8 Q,U8 R],I6 (zg m.db.length m.dq d)],fun _ _ _=>True,fun p q=>zc p q,fun _=>True⟩),(11,⟨.const (Xh Xd),fun b=>∃g,b= Xj (Xa ⟨g,0,Xb⟩),fun _ b u=>∃g x,b= Xj (Xa ⟨g,0,Xb⟩)/\h.heap.size<=g/\zl u g 91 x/\x.length=8,fun p q=>zc p q,fun _=>True⟩),(12,⟨.tmp 8,fun _=>True,fun W _ u=>∃g,W= Xj (Xa ⟨g,0,Xb⟩)/\h.heap.size<=g/\Box u g (pgc [H,K,L,M,N,P,Q,R]),fun p q=>∃g,h.heap.size<=g/\p.grownBy q (Xa g)/\zl q g 91 (pgc [H,K,L,M,N,P,Q,R]),fun _=>True⟩)] r zW Kr Kr rfl rfl Dc (Sc ⟨_,rfl⟩ ⟨_,0,rfl⟩ ⟨Xh Xc,trivial⟩) ?hp ?hpre ?hpr0 ?_
 case hp=>
  intro a1 aa a7 a4 u U n h W b p q i E;have h:=qe u;have b:=qe U;clear u U;simp only[mC,pJ,nM,or_false]at h b
  rcases h with⟨rfl,rfl⟩|⟨rfl,rfl⟩|⟨rfl,rfl⟩
  ·trivial
  ·obtain⟨g,x,y,z,B,a3⟩:=E
   rcases b with⟨rfl,rfl⟩|⟨rfl,rfl⟩|⟨rfl,rfl⟩
   ·exact⟨g,x,y,z,B.aA i,a3⟩
   ·exact absurd rfl n
   obtain⟨Z,a8,a8,a9⟩:=i
   by_cases e:g=Z
   ·subst e;exact⟨g,_,y,z,a9,rfl⟩
   exact⟨g,x,y,z,B.beside a8 (fun a1 u=>by cases u;exact e),a3⟩
  obtain⟨g,y,z,B⟩:=E
  rcases b with⟨rfl,rfl⟩|⟨rfl,rfl⟩|⟨rfl,rfl⟩
  ·exact⟨g,y,z,B.aA i⟩
  ·exact⟨g,y,z,B.aA i⟩
  exact absurd rfl n
 case hpre=>
  intro a7 a4 a1 aa U u n p q i i;have b:=qe U;simp only[mC,pJ,nM,or_false]at b
  rcases b with⟨rfl,rfl⟩|⟨rfl,rfl⟩|⟨rfl,rfl⟩ <;> trivial
 case hpr0=>
  intro a1 a4 u;have h:=qe u;simp only[mC,pJ,nM,or_false]at h
  rcases h with⟨rfl,rfl⟩|⟨rfl,rfl⟩|⟨rfl,rfl⟩ <;> trivial
 simp only[Xy,Xz];iterate 7 refine Zr ?_
 refine jC rfl rfl (fun w' b i n=>?_) (fun q h=>?_)
 ·refine zP.call [Xi #[S.x,T.x],I6 d] rfl func184 rfl rfl rfl ?_;refine(l w' (A.trans ((c _).1 b))).mono ?_;rintro e p ⟨rfl,d⟩;exact⟨_,rfl,(c _).2 (((c _).1 b).trans d),d,rfl,trivial⟩
 subst h;refine Uq ?_;iterate 3 refine Zr ?_
 refine jC rfl rfl (fun w' b i n=>?_) (fun q h=>?_)
 ·refine zP.step (v:= Xj (Xa ⟨w'.heap.size,0,Xb⟩)) (w':=w'.alloc (Xk #[U8 0,U8 0,U8 0,U8 0,U8 0,U8 0,U8 0,U8 0] 91)) (by clear F G D C;simp only[execOp];go_simp) ⟨(c _).2 (((c _).1 b).trans (za _ _)),za _ _,⟨_,rfl⟩,_,_,rfl,bS ((c _).1 b),zl.aE _ (pgc zI) _ rfl,rfl⟩
 obtain⟨l,rfl⟩:=h;refine Uq ?_;refine jC rfl rfl (fun w' b i n=>?_) (fun q h=>?_)
 ·obtain⟨g,x,g,d,h,i⟩:=n 11 Kr
  simp only[Value.pointer.injEq,Option.some.injEq,Addr.mk.injEq,and_true]at g;subst g;refine zP.aL 91 (.tmp 8) (.tmp 39) rfl l rfl (pgc [H,K,L,M,N,P,Q,R]) rfl h (Rr i) (Rx i ztF) (jy _) fun p i p q=>?_
  exact⟨(c _).2 (zd ((c _).1 b) p d),⟨l,d,p,i⟩,trivial,l,rfl,d,i.box⟩
 simp only[Ym];refine Zr ?_
 refine zby fun u i n=>?_
 obtain⟨Z,g,h,d⟩:=n 12;have b:(Value.pointer (Xa ⟨l,0,Xb⟩):Xq)= Xj (Xa ⟨Z,0,Xb⟩):=g;simp only[Value.pointer.injEq,Option.some.injEq,Addr.mk.injEq,and_true]at b;subst b;have b:=(c _).1 i;have p:=dD (A.trans b);have c:=dD (X.aA b);have x:=dD (a2.aA b);have q:=dD d;clear n i r a0 F G D C b g d h;have hcut:=Z5 [H,K,L,M,N,P,Q,R] (a5 -(ix:Int)*8) u rfl Wm Wm
 rw[zn7]at hcut;rw[<-a.out]at hcut;have a:=c.c 0 rfl
 go_wp2_with (refine zp rfl 91 (.tmp 8) rfl l rfl q underlying91 rfl ztF ?_)
 refine hcut.mono ?_;clear hcut a;rintro W a ⟨rfl,-,a⟩;have c:=dD (x.aA a);have b:=dD (p.trans a);clear a
 go_wp2_with (refine zz rfl 91 (.tmp 6) (.tmp 47) rfl (w.heap.size+1) rfl (pgc a6) rfl c (by rw[ZL,j.out];rfl) ztF (jy _) ?_)
 intro Y s t _;have k:Xo (zc w Y):=dD<|zd b t Wm
 go_wp2;refine bodyPost_ret (zE rfl _ rfl s underlying91 rfl (by rw[ZL,j.out];exact ztF)) rfl ⟨rfl,j,k⟩
theorem ChW.cF {w:Xn} {p:Nat} (h:ChW w0 noX p w V m) (o:zk (fun k=>k<w0.heap.size) w W):zw W V m:=by
 have c:zk (Dr w0.heap.size noX p V) w W:=o.wide fun k a=> .inl (.inl a)
 have r:=h.rest W c;obtain⟨n,f,i,j⟩:=h.sp;have a:∀{b:Type} {E:Elt b} {v:Xq} {l:List b},zb E w0.heap.size w v l->zj E W v l:=fun b=>zb.at (base:=w0.heap.size) ⟨jm b.1 o (fun g d e=>by have:=(b.lt g d).1;have e:g<w0.heap.size:=e;omega),b.2⟩
 exact⟨a h.fs,r.sl,r.sb,r.sq,r.db,r.dq,r.fl,a h.ca,⟨n,a f,i,fun i x s b a=>j i x s b a W c⟩⟩
variable{X:Nat->Prop}
theorem Ja {w:Xn} {p:Nat} (h:ChW w0 X p w V m) (q:Nat) (t:q<m.sp.length) (n:Int):
  Xp prog 136 #[Xj (Xa ⟨p,0,Xb⟩),Xi #[I6 (q:Int),I6 n]] w fun e w'=>e= Xl (enV (Jo m q n))/\zc w w':=by
 obtain⟨s,u⟩:∃s,m.sp[q]? =Xa s:=⟨_,gE t⟩;obtain⟨b,f,z,A⟩:=h.sp;obtain⟨x,d⟩:∃x,b[q]? =Xa x:=⟨_,gE (Rx z t)⟩
 have g:=dD<|A q x s d u w (zk.refl _ _);obtain⟨B,a⟩:=kA b.length;obtain⟨l,C,b⟩:=f.aJ Wm
 rw[a.out]at b;have c:=h.box.box.c 10 rfl;rw[b]at c f;have i:(q:Int)< (B:Int):=Hm a.out
 have a:=dD c;have i:=dD h.box;have a:=(f.one d).sp10;rw[Xv,zA]at a;have j:Xo (∀W,zc w W->zoz W ⟨l,q*10,Xb⟩ x):=show∀W,_ from fun W r=>by
  have:=((f.aA r).one d).sp10;rw[Xv,zA]at this;exact this
 have k:=dD b;obtain⟨E,v⟩:=kA (Jo m q n);have D:Xo (∀W,zc w W->Xp prog 69 #[Xi #[x.t0.x,x.t1.x,x.t2.x,x.t3.x,x.t4.x,x.t5.x,x.t6.x,x.t7.x],I6 n] W fun e w'=>e= Xl (enV E)/\zc W w'):=show∀W,_ from fun W r=>by
  have y:=QJ x.tab s.tb n W (g.tb.aA r);rw[show zer s.tb n=E from by rw[<-v.out];unfold Jo;rw[Sp.aP u]]at y
  exact y
 rw[v.out];clear h t u f z A d b c a;obtain⟨s,b⟩:=kB ((w.alloc (Xk #[I6 (q:Int),I6 n] 142)).alloc (Xk #[I6 0,I6 0,Xh Xd] 127));have g:=gD2 b
 have h:=x2a b
 have t:=x2b b
 have c:=dD b;clear b
 go_enter func136,ntmps136
 go_upto_region 1 with fail;rw[c.out];obtain⟨F,r⟩:=kA w.heap.size;rw[r.out]at h t⊢;obtain⟨f,b⟩:=Wq fun u=>zc s u
 have c:=(b _).2 (gW _)
 have G:∀y:zq f,y.world.cell? ⟨p,10,Xb⟩=Xa (O (Xa ⟨l,0,Xb⟩) B C):=fun y=>by rw[<-k.out];exact(i.box.aA (g.trans ((b _).1 y.holds))).c 10 rfl
 have i:=h.h b 0 rfl
 have k:=h.h b 1 rfl
 have a:∀y:zq f,zoz y.world ⟨l,q*10,Xb⟩ x:=fun y=>j.out _ (g.trans ((b _).1 y.holds))
 have j:=fun y=>(a y).2.2.1
 have l:=fun y=>(a y).2.2.2.1
 have s:=fun y=>(a y).2.2.2.2.1
 have v:=fun y=>(a y).2.2.2.2.2.1
 have z:=fun y=>(a y).2.2.2.2.2.2.1
 have A:=fun y=>(a y).2.2.2.2.2.2.2.1
 have B:=fun y=>(a y).2.2.2.2.2.2.2.2.1
 have C:=fun y=>(a y).2.2.2.2.2.2.2.2.2
 dsimp only at j l s v z A B C;clear a;have h:Nonempty (zq f):=⟨⟨_,c⟩⟩;refine qw (I:=f) 13 [(12,fun a=>a=enV E)] (fun u=>True) c trivial zW Kr rfl rfl Dc (Sa ⟨_,rfl⟩) Kr ?_
 simp only[Xy,Xz];refine zy ?_
 refine qG (.tmp 5) ⟨p,0,Xb⟩ rfl rfl rfl rfl ?_;refine Uq ?_;iterate 10 refine zy ?_
 refine zV rfl rfl (fun _ u=>True) (fun w' a d=>?_) (fun d f=>?_)
 ·refine zP.call [Xi #[x.t0.x,x.t1.x,x.t2.x,x.t3.x,x.t4.x,x.t5.x,x.t6.x,x.t7.x],I6 n] rfl func69 rfl rfl rfl ?_;refine(D w' (g.trans ((b _).1 a))).mono ?_;rintro e d ⟨rfl,d⟩;exact⟨_,rfl,(b _).2 (((b _).1 a).trans d),rfl,trivial⟩
 cases f;refine Uq ?_;refine jW fun a a d=>?_
 have f:=dD<|(b _).1 a;have b:=dD (t.aA f);clear a d c G i k j l s v z A B C h;unfold enV;refine zz rfl 127 (.tmp 4) (.tmp 17) rfl (F+1) rfl [I6 E.kind,I6 E.n,Xh E.wr] rfl b rfl Kr (by simp[Value.oneCell']) ?_
 intro c a b _;have d:Xo (zc w c):=dD<|zd (g.trans f) b (Hm r.out)
 have c:=dD a;clear a b;go_wp2;refine bodyPost_ret (zE rfl _ rfl c underlying127 rfl Kr) rfl ⟨rfl,d⟩
theorem hoF (a) (c:Nat) (fs:List Fr) (h:Int) (i:Nat) (q:Fr) (u:Int) (w:Xn) (F:zj qi w (O a fs.length c) fs) (T:Zi fs h=0) (Q:fs[i]? =Xa q) (bp:(q.r == 0)=Xd) (bo:¬u< -q.r) (bf:¬1000 - q.r<u) (av:q.r+u=0):
  Xp prog 173 #[Xi #[O a fs.length c,I6 h],I6 (i:Int),I6 u] w fun e w'=>∃b,e= Xl (Xm #[Xi #[b,I6 h],I6 0])/\zb qi w.heap.size w' b (fs.set i frF)/\zc w w':=by
 have a1:=dD F;have b6:=dD av;clear av;have I:∀W,zc w W->Xp prog 58 #[Xi #[O a fs.length c,I6 h]] W fun e w'=>e= Xl (I6 (Zi fs h))/\zc W w':=fun W af=>by rw[T];exact ZX a c fs h W (a1.aA af) T
 have A:∀W,Xp prog 109 #[I6 (i:Int),I6 (fs.length:Int)] W fun e w'=>e= Xl (Xh (inB (i:Int) fs.length))/\w'=W:=fun W=>Zs (i:Int) _ W
 have ai:∀W,zc w W->Xp prog 51 #[Xi #[O a fs.length c,I6 h]] W fun e w'=>∃b,e= Xl (Xi #[b,I6 h])/\zb qi W.heap.size w' b fs/\zc W w':=fun W af=>QF a c fs h W (a1.aA af)
 have s:=zbH ((jn T).2.1 q (mG Q));have t:=(gS.1 Q).1;obtain⟨bl,bm,ag,x⟩:=F.bF;cases ag;obtain⟨b7,rfl,au⟩:=x i q Q;have b5:=dD au;have an:=dD Q;clear x au Q;simp only[show inB (i:Int) fs.length=Xc from by simp[inB];exact t]at A
 have N:=F.short;clear F;simp only[T]at I;clear T;obtain⟨y,G⟩:=kA fs.length;simp only[G.out]at I a1 N A ai t⊢;have be:(i:Int)< (y:Int):=Wm
 obtain⟨bb,bc⟩:=s;obtain⟨ao,j⟩:=kB ((w.alloc (Xk #[O (Xa b7) y c,I6 h] 32)).alloc (Xk #[eS,I6 0] 32));have g:=gD2 j
 have Y:=x2a j
 have ap:=x2b j
 have a2:=dD j;clear j
 go_enter func173,ntmps173
 go_upto_region 1 with fail;rw[a2.out];obtain⟨aa,ab⟩:=Y.k2;go_wp2_with fail;refine(I _ g).mono ?_;rintro e a6 ⟨rfl,aq⟩;have B:=dD aq;clear aq aa ab I;obtain⟨-,-,-,-,-,-,-,-,b8,-,-,-,-⟩:=b5.out a6 (g.trans B);obtain⟨aa,ab⟩:=(Y.aA B).k2
 go_wp2_with (go_at_call 109;refine(A _).mono ?_;rintro e w' ⟨rfl,R⟩;rw[R];clear R w')
 refine(ai _ (g.trans B)).mono ?_;rintro e C ⟨b,rfl,f,ae⟩;obtain⟨l,D,rfl⟩:=f.aJ (by rw[G.out];omega)
 rw[G.out]at f⊢;have a3:=dD f;have am:=dD (B.trans ae);have ac:=dD<|bS ae;clear f ae aa ab ai b8;have bd:=a3.lt l rfl;have bg:l≠C.heap.size:=Wm
 have u8:=(a3.aA (za C (Xk #[O (Xa ⟨l,0,Xb⟩) y D,I6 h] 32))).frc an 8 rfl
 go_wp2_with (refine zt (E:=qi) rfl (.tmp 61) (.tmp 59) 3 rfl a6.heap.size (O (Xa ⟨l,0,Xb⟩) y D) fs (a3.aA (za _ _)) l i 8 rfl q { q with r:=q.r+u } an.out [I6 (q.r+u)] Kr rfl (Yz rfl) (by intro bq aw;simp at aw;subst aw;rfl) _ rfl (by simp[qi]) _ rfl rfl ?_)
 intro K U n ak;have H:=dD U;have ba:=ac.out;have b9:=bS B.out;have bi:=ap.lt;have Z:Xo (Box K C.heap.size [O (Xa ⟨l,0,Xb⟩) y D,I6 h]):=(Box.aE C _ _ rfl).beside n (fun M d=>by cases d;omega)
 have m:Xo (Box K (w.heap.size+1) [eS,I6 0]):=((ap.aA am).alloc _).beside n (fun M d=>by cases d;omega)
 have b2:Xo (zc ao K):=zU (am.trans (za _ _)) n (fun M d=>by cases d;omega)
 have a0:Xo ((fs.set i { q with r:=q.r+u })[i]? =Xa { q with r:=q.r+u }):=dD<|by rw[sF (Rx G.out t)]
 clear U n ak u8;have u8:=H.frc a0 8 rfl;obtain⟨ax,ay⟩:=Z.k2;obtain⟨az,b0⟩:=m.k2;have b1:=m.f;simp only at u8;have bh:(q.r+u == 0)=Xc:=by simp[b6.out]
 go_wp2;have aj:=fun X:zf K=>(Z.aA X.aA).c 0 rfl
 have P:Nonempty (zf K):=⟨⟨_,zc.refl _⟩⟩;clear u8 ax ay az b0 b1;refine jf 5 [(3,⟨fun v=>v= Xi (frv frF).toArray,fun _ _=>True⟩)] zW Kr rfl rfl Dc ?_ ?_ ?_
 ·intro X S
  simp at S
  subst S;exact⟨_,rfl⟩
 ·intro X S
  simp at S
  subst S;exact fun _ _ _ _ h=>h
 simp only[Xy,Xz];iterate 3 refine ze ?_
 refine zx rfl rfl (fun w' bn ar=>?_) (fun br F=>?_)
 ·refine zP.call [] rfl func26 rfl rfl rfl ?_;refine(Q8 w').mono ?_;rintro e bj ⟨rfl,ah⟩;exact⟨_,rfl,ah,rfl,trivial⟩
 subst F;simp only[Ym,sB,sS,sZ,frv,frF,pg0];refine ze ?_
 refine zL fun bk k ar=>?_
 have a4:=dD (H.aA k);have a9:=dD (Z.aA k);have a8:=dD (m.aA k);have b3:=dD (b2.trans k);clear ar aj k P
 go_wp2_with (refine qg (E:=qi) rfl (.tmp 73) (.tmp 72) rfl a6.heap.size _ _ a4 l i rfl frF (by rw[Yv,G.out];exact t) _ rfl (by simp[qi]) _ rfl rfl ?_)
 intro a7 V p al;have a5:=dD V;have L:Xo (Box a7 C.heap.size [O (Xa ⟨l,0,Xb⟩) y D,I6 h]):=a9.beside p (fun M d=>by cases d;omega)
 have z:Xo (Box a7 (w.heap.size+1) [eS,I6 0]):=a8.beside p (fun M d=>by cases d;omega)
 have b4:Xo (zc ao a7):=zU b3 p (fun M d=>by cases d;omega)
 clear V p al;obtain⟨ax,ay⟩:=L.k2;obtain⟨az,b0⟩:=z.k2;have b1:=z.f;go_wp2;refine bodyPost_ret (v:= Xm #[Xi #[O (Xa ⟨l,0,Xb⟩) y D,I6 h],I6 0]) (by simp[results,Tryz.results173,go_sem, *]) rfl ⟨_,rfl,?_,?_⟩
 ·exact((a5.setCell (a:=⟨w.heap.size+1,0,Xb⟩) (by show w.heap.size+1<_;omega) _).setCell (a:=⟨w.heap.size+1,1,Xb⟩) (by show w.heap.size+1<_;omega) _).base (Hm (bS g.out))
 exact zK (zK (g.trans b4) Sm _) Sm _
theorem hoG (a) (c:Nat) (fs:List Fr) (h:Int) (i:Nat) (q:Fr) (m:Int) (w:Xn) (M:zj qi w (O a fs.length c) fs) (D:Zi fs h=0) (B:fs[i]? =Xa q) (av:(q.r == 0)=Xd) (au:¬m< -q.r) (an:¬1000 - q.r<m) (aw:(q.r+m == 0)=Xd):
  Xp prog 173 #[Xi #[O a fs.length c,I6 h],I6 (i:Int),I6 m] w fun e w'=>∃b,e= Xl (Xm #[Xi #[b,I6 h],I6 0])/\zb qi w.heap.size w' b (fs.set i { q with r:=q.r+m })/\zc w w':=by
 have Q:=dD M;have N:∀W,zc w W->Xp prog 58 #[Xi #[O a fs.length c,I6 h]] W fun e w'=>e= Xl (I6 (Zi fs h))/\zc W w':=fun W Z=>by rw[D];exact ZX a c fs h W (Q.aA Z) D
 have t:∀W,Xp prog 109 #[I6 (i:Int),I6 (fs.length:Int)] W fun e w'=>e= Xl (Xh (inB (i:Int) fs.length))/\w'=W:=fun W=>Zs (i:Int) _ W
 have a0:∀W,zc w W->Xp prog 51 #[Xi #[O a fs.length c,I6 h]] W fun e w'=>∃b,e= Xl (Xi #[b,I6 h])/\zb qi W.heap.size w' b fs/\zc W w':=fun W Z=>QF a c fs h W (Q.aA Z)
 have l:=zbH ((jn D).2.1 q (mG B));have u:=(gS.1 B).1;obtain⟨aq,ar,I,n⟩:=M.bF;cases I;obtain⟨af,rfl,a9⟩:=n i q B;have ac:=dD a9;have a3:=dD B;clear n a9 B;simp only[show inB (i:Int) fs.length=Xc from by simp[inB];exact u]at t
 have A:=M.short;clear M;simp only[D]at N;clear D;obtain⟨y,G⟩:=kA fs.length;simp only[G.out]at N Q A t a0 u⊢;have am:(i:Int)< (y:Int):=Wm
 obtain⟨aj,ak⟩:=l;obtain⟨ae,g⟩:=kB ((w.alloc (Xk #[O (Xa af) y c,I6 h] 32)).alloc (Xk #[eS,I6 0] 32));have f:=gD2 g
 have K:=x2a g
 have a5:=x2b g
 have R:=dD g;clear g
 go_enter func173,ntmps173
 go_upto_region 1 with fail;rw[R.out];obtain⟨U,V⟩:=K.k2;go_wp2_with fail;refine(N _ f).mono ?_;rintro e a4 ⟨rfl,a8⟩;have x:=dD a8;clear a8 U V N;obtain⟨-,-,-,-,-,-,-,-,ag,-,-,-,-⟩:=ac.out a4 (f.trans x);obtain⟨U,V⟩:=(K.aA x).k2
 go_wp2_with (go_at_call 109;refine(t _).mono ?_;rintro e w' ⟨rfl,C⟩;rw[C];clear C w')
 refine(a0 _ (f.trans x)).mono ?_;rintro e H ⟨b,rfl,d,Y⟩;obtain⟨s,L,rfl⟩:=d.aJ (by rw[G.out];omega)
 rw[G.out]at d⊢;have S:=dD d;have a2:=dD (x.trans Y);have X:=dD<|bS Y;clear d Y U V a0 ag;have al:=S.lt s rfl;have ao:s≠H.heap.size:=Wm
 have u8:=(S.aA (za H (Xk #[O (Xa ⟨s,0,Xb⟩) y L,I6 h] 32))).frc a3 8 rfl
 go_wp2_with (refine zt (E:=qi) rfl (.tmp 61) (.tmp 59) 3 rfl a4.heap.size (O (Xa ⟨s,0,Xb⟩) y L) fs (S.aA (za _ _)) s i 8 rfl q { q with r:=q.r+m } a3.out [I6 (q.r+m)] Kr rfl (Yz rfl) (by intro b2 aa;simp at aa;subst aa;rfl) _ rfl (by simp[qi]) _ rfl rfl ?_)
 intro T F k a1;have z:=dD F;have ai:=X.out;have ah:=bS x.out;have ap:=a5.lt;have a6:Xo (Box T H.heap.size [O (Xa ⟨s,0,Xb⟩) y L,I6 h]):=(Box.aE H _ _ rfl).beside k (fun a7 j=>by cases j;omega)
 have p:Xo (Box T (w.heap.size+1) [eS,I6 0]):=((a5.aA a2).alloc _).beside k (fun a7 j=>by cases j;omega)
 have ab:Xo (zc ae T):=zU (a2.trans (za _ _)) k (fun a7 j=>by cases j;omega)
 have P:Xo ((fs.set i { q with r:=q.r+m })[i]? =Xa { q with r:=q.r+m }):=dD<|by rw[sF (Rx G.out u)]
 clear F k a1 u8;have u8:=z.frc P 8 rfl;obtain⟨ax,ay⟩:=a6.k2;obtain⟨az,b0⟩:=p.k2;have b1:=p.f;simp only at u8;go_wp2;refine bodyPost_ret (v:= Xm #[Xi #[O (Xa ⟨s,0,Xb⟩) y L,I6 h],I6 0]) (by simp[results,Tryz.results173,go_sem, *]) rfl ⟨_,rfl,?_,?_⟩
 ·exact((z.setCell (a:=⟨w.heap.size+1,0,Xb⟩) (by show w.heap.size+1<_;omega) _).setCell (a:=⟨w.heap.size+1,1,Xb⟩) (by show w.heap.size+1<_;omega) _).base (Hm (bS f.out))
 exact zK (zK (f.trans ab) Sm _) Sm _
theorem zan {fs:List Fr} {h k nn:Int} (he:Zj fs h k nn=0):∃(i:Nat) (q:Fr),k=(i:Int)/\fs[i]? =Xa q/\Zi fs h=0/\q.r≠0/\-q.r<=nn/\nn<=1000 - q.r/\QI fs h k nn=fs.set i (frH q nn)/\zns fs h k nn=h:=by
 have he0:=he;unfold Zj at he
 split at he
 ·rename_i h0
  split at he
  ·rename_i h1
   simp only[inB,Bool.and_eq_true,decide_eq_true_eq,Ol,beq_eq_false_iff_ne]at h1;obtain⟨⟨h2,h3⟩,h4⟩:=h1
   split at he
   ·rename_i h5
    have hl:k.toNat<fs.length:=Wm
    have e:fs.getD k.toNat fr0=fs[k.toNat]:=by rw[gD,gE hl];rfl
    rw[e]at h4 h5;refine⟨k.toNat,fs[k.toNat],Wm,gE hl,h0,h4,h5.1,h5.2,?_,?_⟩
    ·grind [QI]
    grind [zns]
   cases he
  cases he
 grind
theorem zfV (a) (c:Nat) (fs:List Fr) (h k d:Int) (w:Xn) (l:zj qi w (O a fs.length c) fs) (f:Zj fs h k d=0):
  Xp prog 173 #[Xi #[O a fs.length c,I6 h],I6 k,I6 d] w fun e w'=>∃b,e= Xl (Xm #[Xi #[b,I6 h],I6 0])/\zb qi w.heap.size w' b (QI fs h k d)/\zc w w':=by
 obtain⟨m,q,rfl,i,g,j,n,n,n,_⟩:=zan f;rw[n]
 by_cases f:q.r+d=0
 ·rw[show frH q d=frF from kE f]
  exact hoF a c fs h m q d w l g i (Si j) Wm Wm f
 rw[show frH q d={ q with r:=q.r+d }from kF f]
 exact hoG a c fs h m q d w l g i (Si j) Wm Wm (Si f)
variable{X:Nat->Prop}
theorem ze9 {w:Xn} {p:Nat} (h:ChW w0 X p w V m) (z:En) (n:Int) (j:z.kind=1->Zj m.fs m.aB z.n n=0):
  Xp prog 135 #[Xj (Xa ⟨p,0,Xb⟩),Xi #[I6 z.kind,I6 z.n,Xh z.wr],I6 n] w fun e w'=>(∃v,e= Xl v)/\Chg w0 X p w V (Qw m z n) w':=by
 have A:=dD h;obtain⟨l,q,-⟩:=h.at.ns;have x:Xo (z.kind=1->∀W,zc w W->Xp prog 173 #[Xi #[V.f.x,I6 m.aB],I6 z.n,I6 n] W fun e w'=>∃d:Sli,e= Xl (Xm #[Xi #[d.x,I6 m.aB],I6 0])/\zb qi W.heap.size w' (d.x) (QI m.fs m.aB z.n n)/\zc W w'):=show _->∀W,_ from fun D W f=>by
  have k:=(h.at.aA f).fs;(try simp only[Sli.x]at k⊢);rw[l]at k⊢;refine(zfV V.f.a V.f.c m.fs m.aB z.n n W k (j D)).mono ?_;rintro e w' ⟨d,rfl,a,g⟩;have i:zb qi W.heap.size w' d (QI m.fs m.aB z.n n):=a;obtain⟨b,c,rfl,_⟩:=i.at.rows;exact⟨⟨b,_,c⟩,rfl,a,g⟩
 have Y:Xo (∀W,zc w W->Xp prog 174 #[V.s.x,I6 z.n,I6 n] W fun e w'=>∃d:Sli,e= Xl (Xm #[d.x,I6 (Za m.sl z.n n)])/\z3 slE W.heap.size w' (d.x) (ZS m.sl z.n n)/\zc W w'):=dD<|fun W f=>by
  have k:=(h.at.aA f).sl;(try simp only[Sli.x]at k⊢);rw[q]at k⊢;refine(znr V.s.a V.s.c m.sl z.n n W k).mono ?_;rintro e w' ⟨b,c,rfl,a,g⟩;exact⟨⟨b,_,c⟩,rfl,a,g⟩
 have a8:=dD h.aM;clear h l q;obtain⟨h,a⟩:=kB (w.alloc (Xk #[I6 z.kind,I6 z.n,Xh z.wr] 127));have r:=gA a
 have T:=xA a
 have b:=dD a;clear a;have a7:=T.c 0 rfl
 go_enter func135,ntmps135
 go_upto_region 1 with fail;rw[b.out];obtain⟨d,U⟩:=kA w.heap.size;rw[U.out]at T a7⊢
 by_cases q:z.kind=1
 ·have D:(z.kind == 1)=Xc:=Rr q
  have L:Xo (Qw m z n={ m with fs:=QI m.fs m.aB z.n n,aB:=m.aB }):=dD<|by
   obtain⟨_,_,_,_,_,_,_,_,_,a⟩:=zan (j q);unfold Qw;rw[kE q,a]
  have x:=dD<|x.out q;clear q;go_upto_region 3 with fail;clear a7;obtain⟨g,f⟩:=Wq fun u=>Box u d [I6 z.kind,I6 z.n,Xh z.wr]
  have c:=(f _).2 (T.aA (gW _))
  have j:zc h h.drew:=show Below _ _ _ from(bR _ _).drew
  have G:=fun H:zq g=>((f _).1 H.holds).c 1 rfl
  have E:Nonempty (zq g):=⟨⟨_,c⟩⟩;refine qw (I:=g) 17 [(5,fun v=>v= Xi #[V.f.x,I6 m.aB]),(9,fun v=>∃s:Sli,v= Xm #[Xi #[s.x,I6 m.aB],I6 0]),(16,fun _=>True)] (fun u=>zc h u) c j zW Kr rfl rfl Dc (Sc ⟨_,rfl⟩ ⟨_,ZH,rfl⟩ ⟨undef,trivial⟩) Kr ?_
  simp only[Xy,Xz];iterate 2 refine zy ?_
  refine qG (.tmp 12) ⟨p,0,Xb⟩ rfl rfl rfl rfl ?_;refine Uq ?_;iterate 2 refine zy ?_
  refine zV rfl rfl (fun _ u=>zc h u) (fun w' b a=>?_) (fun S l=>?_)
  ·refine QO 32 (.tmp 15) rfl p 0 rfl [V.f.x,I6 m.aB] ((A.box.box.aA (r.trans a)).mid 0 (fun k v i=>by
    match k,i with
    | 0,i=>exact i
    | 1,i=>exact i)) underlying32 rfl Kr ⟨b,rfl,a⟩
  cases l;refine Uq ?_;iterate 3 refine zy ?_
  refine zV rfl rfl (fun v u=>∃(s:Sli) (t:Xn),v= Xm #[Xi #[s.x,I6 m.aB],I6 0]/\zc h t/\zc t u/\zb qi t.heap.size u (s.x) (QI m.fs m.aB z.n n)) (fun w' b a=>?_) (fun S l=>?_)
  ·refine zP.call [Xi #[V.f.x,I6 m.aB],I6 z.n,I6 n] rfl func173 rfl rfl rfl ?_;refine(x w' (r.trans a)).mono ?_;rintro e a6 ⟨s,rfl,a4,N⟩;exact⟨_,rfl,(f _).2 (((f _).1 b).aA N),⟨s,rfl⟩,s,w',rfl,a,N,a4⟩
  obtain⟨s,rfl⟩:=l;refine Uq ?_;iterate 3 refine zy ?_
  refine qG (.tmp 11) ⟨p,0,Xb⟩ rfl rfl rfl rfl ?_;refine Uq ?_;iterate 2 refine zy ?_
  refine zV rfl rfl (fun _ u=>Chg w0 X p w V { m with fs:=QI m.fs m.aB z.n n,aB:=m.aB } u) (fun w' b a=>?_) (fun S l=>?_)
  ·obtain⟨x,t,Q,P,W,a5⟩:=a;have F:x=s:=by
    obtain⟨a9,aa,ab⟩:=s;obtain⟨ac,ad,ae⟩:=x;simp only[Value.tuple.injEq,Array.mk.injEq,List.cons.injEq,Value.agg.injEq,vJ,and_true]at Q;obtain⟨rfl,rfl,rfl⟩:=Q;rfl
   subst F;have K:=(r.trans P).trans W;refine jk 32 (.tmp 25) (.tmp 21) rfl p 0 rfl (Xi #[x.x,I6 m.aB]) rfl [x.x,I6 m.aB] rfl (A.box.aA K) (by simp[chL]) Kr (by simp[Value.oneCell']) ?_
   intro M B i _;have a0:=a8.out p (.inl rfl);exact⟨(f _).2 (((f _).1 b).grown i (Hm U.out)),trivial,A.setF K (a5.base (nT (bS r) (bS P))) i B⟩
  clear l;try simp only[Ym]
  refine jW fun M C k=>?_
  have y:Xo (Chg w0 X p w V (Qw m z n) M):=dD<|Rx L.out k
  clear C k c j G E;go_wp2
  exact Ge y.out
 have D:(z.kind == 1)=Xd:=Si q
 by_cases D:z.kind=2
 ·have Z:(z.kind == 2)=Xc:=Rr D
  have L:Xo (Qw m z n={ m with sl:=ZS m.sl z.n n }):=dD<|by unfold Qw;rw[kF q,kE D]
  clear q D;go_upto_region 5 with fail;clear a7;obtain⟨g,f⟩:=Wq fun u=>Box u d [I6 z.kind,I6 z.n,Xh z.wr]
  have c:=(f _).2 (T.aA (gW _))
  have j:zc h h.drew:=show Below _ _ _ from(bR _ _).drew
  have G:=fun H:zq g=>((f _).1 H.holds).c 1 rfl
  have E:Nonempty (zq g):=⟨⟨_,c⟩⟩;refine qw (I:=g) 17 [(5,fun v=>v=V.s.x),(9,fun v=>∃s:Sli,v= Xm #[s.x,I6 (Za m.sl z.n n)]),(16,fun _=>True)] (fun u=>zc h u) c j zW Kr rfl rfl Dc (Sc ⟨_,rfl⟩ ⟨_,ZH,rfl⟩ ⟨undef,trivial⟩) Kr ?_
  simp only[Xy,Xz];iterate 2 refine zy ?_
  refine qG (.tmp 30) ⟨p,0,Xb⟩ rfl rfl rfl rfl ?_;refine Uq ?_;iterate 2 refine zy ?_
  refine zV rfl rfl (fun _ u=>zc h u) (fun w' b a=>?_) (fun S l=>?_)
  ·exact zlG 34 (.tmp 33) rfl p 2 rfl (V.s.x) ((A.box.box.aA (r.trans a)).c 2 rfl) underlying34 rfl ⟨b,rfl,a⟩
  cases l;refine Uq ?_;iterate 3 refine zy ?_
  refine zV rfl rfl (fun v u=>∃(s:Sli) (t:Xn),v= Xm #[s.x,I6 (Za m.sl z.n n)]/\zc h t/\zc t u/\z3 slE t.heap.size u (s.x) (ZS m.sl z.n n)) (fun w' b a=>?_) (fun S l=>?_)
  ·refine zP.call [V.s.x,I6 z.n,I6 n] rfl func174 rfl rfl rfl ?_;refine(Y w' (r.trans a)).mono ?_;rintro e a6 ⟨s,rfl,a4,N⟩;exact⟨_,rfl,(f _).2 (((f _).1 b).aA N),⟨s,rfl⟩,s,w',rfl,a,N,a4⟩
  obtain⟨s,rfl⟩:=l;refine Uq ?_;iterate 3 refine zy ?_
  refine qG (.tmp 29) ⟨p,0,Xb⟩ rfl rfl rfl rfl ?_;refine Uq ?_;iterate 2 refine zy ?_
  refine zV rfl rfl (fun _ u=>Chg w0 X p w V { m with sl:=ZS m.sl z.n n } u) (fun w' b a=>?_) (fun S l=>?_)
  ·obtain⟨x,t,Q,P,W,a5⟩:=a;have F:x=s:=by
    obtain⟨a9,aa,ab⟩:=s;obtain⟨ac,ad,ae⟩:=x;simp only[Value.tuple.injEq,Array.mk.injEq,List.cons.injEq,vJ,and_true]at Q;obtain⟨rfl,rfl,rfl⟩:=Q;rfl
   subst F;have K:=(r.trans P).trans W;refine jk 34 (.tmp 43) (.tmp 39) rfl p 2 rfl (x.x) rfl [x.x] rfl (A.box.aA K) (by simp[chL]) Kr (by simp[Value.oneCell']) ?_
   intro M B i _;have a0:=a8.out p (.inl rfl);exact⟨(f _).2 (((f _).1 b).grown i (Hm U.out)),trivial,A.setS K (a5.base (nT (bS r) (bS P))) i B⟩
  clear l;try simp only[Ym]
  refine jW fun M C k=>?_
  have y:Xo (Chg w0 X p w V (Qw m z n) M):=dD<|Rx L.out k
  clear C k c j G E;go_wp2
  exact Ge y.out
 have Z:(z.kind == 2)=Xd:=Si D
 have L:Xo (Qw m z n=m):=dD<|by unfold Qw;rw[kF q,kF D]
 clear q D;have y:Xo (Chg w0 X p w V (Qw m z n) h):=dD<|Rx L.out (Chg.refl A r.out)
 go_wp2
 exact Ge y.out
variable{X:Nat->Prop}
def zaJ (w0:Xn) (X:Nat->Prop) (p:Nat) (w:Xn) (V:MaV) (m':Ma) (w':Xn):Prop:=∃V':MaV,V'.ca=V.ca/\ChW w0 X p w' V' m'/\zk (Dw p V) w w'/\∀k,Dw p V' k->Dw p V k\/w.heap.size<=k
section
variable{w0 w w1 w2:Xn} {p:Nat} {V V':MaV} {m m':Ma}
theorem zaJ.bW (h:zaJ w0 X p w V m' w1):Chg w0 X p w V m' w1:=by
 obtain⟨a,_,h⟩:=h;exact⟨a,h⟩
theorem zaJ.refl (h:ChW w0 X p w V m) (g:zc w w1):zaJ w0 X p w V m w1:=⟨V,rfl,h.aA g,zk.aA g,fun _ a=> .inl a⟩
theorem zaJ.aI (g:zc w w1) (h:zaJ w0 X p w1 V m' w2):zaJ w0 X p w V m' w2:=by
 obtain⟨a,e,b,d,c⟩:=h;exact⟨a,e,b,(zk.aA g).trans d,Chg.far g c⟩
theorem zaJ.step {b:MaV} (a:zk (Dw p V) w w1) (c:∀k,Dw p b k->Dw p V k\/w.heap.size<=k) (g:b.ca=V.ca) (h:zaJ w0 X p w1 b m' w2):zaJ w0 X p w V m' w2:=by
 obtain⟨c,e,d,b,f⟩:=h;refine⟨c,e.trans g,d,⟨b.os.trans a.os,b.tape.trans a.tape,b.output.trans a.output,nT a.size b.size,fun c d g=>(b.block c (Xs d a.size) (fun e=>?_)).trans (a.block c d g)⟩,fun k b=>?_⟩
 ·grind
 rcases f k b with e|e
 ·grind
 exact .inr (nT a.size e)
theorem ChW.fieldC (h:ChW w0 X p w V m) (k:zc w w1) (c:w1.grownBy w2 (Xa p)) (f:V'.f=V.f) (l:V'.ca=V.ca) (q:V'.sp=V.sp) (g:m'.fs=m.fs) (u:m'.ca=m.ca) (r:m'.sp=m.sp) (a:zl w2 p 88 (chL V' m')) (rs:∀W,zk (Dr w0.heap.size X p V) w W->zk (Dr w0.heap.size X p V) w1 W->zjw W V m->zjw W V' m'):zaJ w0 X p w V m' w2:=by
 have j:zk (Dw p V) w w2:=(zk.aA k).trans (zk.grown c (.inl rfl));have e:Dw p V'=Dw p V:=by unfold Dw;rw[f,l,q]
 have d:Dr w0.heap.size X p V'=Dr w0.heap.size X p V:=by unfold Dr;rw[e]
 obtain⟨i,x,b,y⟩:=h.sp;refine⟨V',l,⟨h.grX j,h.lo,a,?_,?_,⟨i,?_,Rx r b,fun t z v s i W b=>?_⟩,fun W b=>?_⟩,j,fun n a=> .inl (by rw[e]at a;exact a)⟩
 ·rw[f,g];exact(h.fs.aA k).grown c (fun g f e=>h.nf g f (by cases e;rfl))
 ·rw[l,u];exact(h.ca.aA k).grown c (fun g f e=>h.nc g f (by cases e;rfl))
 ·rw[q];exact(x.aA k).grown c (fun g f e=>h.ns g f (by cases e;rfl))
 ·rw[d]at b;rw[r]at i;exact y t z v s i W ((j.wide fun n a=> .inr a).trans b)
 rw[d]at b;exact rs W ((j.wide fun n a=> .inr a).trans b) (((zk.grown c (.inr (.inl rfl)))).trans b) (h.rest W ((j.wide fun n a=> .inr a).trans b))
theorem ChW.frameC (h:ChW w0 X p w V m) {fs:List Fr} (c:oB V.f g) (b:w.grownBy w1 (Xa g)) (i:zb qi w0.heap.size w1 (V.f.x) fs):zaJ w0 X p w V { m with fs:=fs } w1:=by
 have d:zk (Dw p V) w w1:=zk.grown b (.inr (.inl c));have f:∀k,Dw p V k->Dw p V k\/w.heap.size<=k:=fun _ a=> .inl a
 obtain⟨q,j,l,n⟩:=h.sp;refine⟨V,rfl,⟨h.grX d,h.lo,h.box.beside b (fun k e=>by cases e;exact h.nf g c),i,h.ca.grown b (fun k a e=>by cases e;exact h.fc _ c a),⟨q,j.grown b (fun k a e=>by cases e;exact h.fS _ c a),l,fun i x s c b W a=>n i x s c b W (ChW.key d f a)⟩,fun W a=>?_⟩,d,f⟩
 have r:=h.rest W (ChW.key d f a);exact⟨r.sl,r.sb,r.sq,r.db,r.dq,r.fl⟩
end
def zs6 (B:Nat) (V:MaV):Prop:=(Zb B V.f.v/\Zb B V.s.v/\Zb B V.sb.v/\Zb B V.sq.v)/\(Zb B V.db.v/\Zb B V.dq.v/\Zb B V.fl.v/\Zb B V.ca.v/\Zb B V.sp.v)
theorem Zb.less {a:Nat} {v:Xq} (h:Zb b v) (k:a<=b):Zb a v:=fun x n c e=>nT k (h x n c e)
theorem zjT (u cs j:Int) (b:zst u cs j) (w:Xn):
  Xp prog 13 #[Xi #[I6 u,I6 cs,I6 j]] w fun e w'=>(∃V:MaV,e= Xl (Xm #[Xi #[V.f.x,I6 0,V.s.x,V.sb.x,V.sq.x,V.db.x,V.dq.x,V.fl.x,I6 j,V.ca.x,V.sp.x],I6 0])/\zw w' V (ZC u cs j)/\zs6 w.heap.size V/\∃v,V.sp=⟨Xa ⟨v,0,Xb⟩,1,1⟩)/\zc w w':=by
 obtain⟨a9,a⟩:=kB ((w.alloc (Xk #[I6 u,I6 cs,I6 j] 51)).alloc (Xk zM.toArray 45));have Y:=gD2 a
 have l:=x2a a
 have aa:=x2b a
 have i:=dD a;clear a;obtain⟨r,a⟩:∃e,Xo (zk6 u=e):=⟨_,rfl⟩;obtain⟨t,c⟩:∃e,Xo (zk2 cs=e):=⟨_,rfl⟩;obtain⟨z,d⟩:∃e,Xo (JN cs=e):=⟨_,rfl⟩;obtain⟨K,g⟩:∃e,Xo (JN j=e):=⟨_,rfl⟩;obtain⟨M,h⟩:∃e:Int,Xo ((if 0<=j/\j<=80 then(0:Int)else 4)=e):=⟨_,rfl⟩;obtain⟨a4,L⟩:∃e:Int,Xo ((if 0<=j/\j<=80 then j else 0)=e):=⟨_,rfl⟩;have k:=fun W=>zk5 u W
 have m:=fun W=>zpu cs W
 have n:=fun W=>zg9 cs W
 have p:=fun W=>zg9 j W
 have q:=fun W=>zm9 j W
 rw[a.out]at k;rw[c.out]at m;rw[d.out]at n;rw[g.out]at p;rw[h.out,L.out]at q;have X:Xo (zpx u cs j=[r,t,z,K,M]):=dD<|by unfold zpx;rw[a.out,c.out,d.out,g.out,h.out]
 have a:=dD k;have h:=dD m;have A:=dD n;have G:=dD p;have I:=dD q;clear k m n p q
 go_enter func13,ntmps13
 go_upto_region 1 with fail;rw[i.out];have i:=l.c 0 rfl;go_wp2_with fail;refine(a _).mono ?_;rintro e c ⟨P,rfl,⟨g,a⟩,d⟩;clear i;have ab:=dD g;have y:=dD d;have C:=dD a;clear g d a;go_upto_region 2 with fail;obtain⟨a,a⟩:=kB (c.alloc (Xk #[P.x,I6 0] 32));have p:=gA a
 have R:=xA a
 rw[a];clear a;obtain⟨a,a⟩:∃m,Xo (c.heap.size=m):=⟨_,rfl⟩;rw[a.out]at R⊢;have d:=(l.aA (y.trans p)).c 1 rfl;go_wp2_with fail;refine(h _).mono ?_;rintro e a ⟨S,rfl,⟨h,g⟩,a⟩;clear d;have ac:=dD h;have q:=dD a;have c:=dD ((y.trans p).trans a);have D:=dD g;clear h a g;have d:=(l.aA c).c 1 rfl;go_upto_region 3 with fail;go_wp2_with fail;refine(A _).mono ?_;rintro e g ⟨A,Q,rfl,⟨k,B,a,h⟩,i⟩;clear d;have a5:=dD k;have a6:=dD B;have n:=dD i;have E:=dD a;have F:=dD h;clear k B i a h;go_upto_region 4 with fail;obtain⟨a,a⟩:=kB (g.alloc (Xk #[A.x,Q.x] 38));have k:=gA a
 have T:=xA a
 rw[a];clear a;obtain⟨a,a⟩:∃m,Xo (g.heap.size=m):=⟨_,rfl⟩;rw[a.out]at T⊢;have d:=dD ((c.trans n).trans k);have c:=(l.aA d).c 2 rfl;go_wp2_with fail;refine(G _).mono ?_;rintro e g ⟨B,N,rfl,⟨W,Z,a,h⟩,U⟩;clear c;have a7:=dD W;have a8:=dD Z;have i:=dD U;have G:=dD a;have H:=dD h;clear W Z U a h;go_upto_region 5 with fail;obtain⟨a,a⟩:=kB (g.alloc (Xk #[B.x,N.x] 38));have h:=gA a
 have U:=xA a
 rw[a];clear a;obtain⟨a,a⟩:∃m,Xo (g.heap.size=m):=⟨_,rfl⟩;rw[a.out]at U⊢;have g:=dD ((d.trans i).trans h);have c:=(l.aA g).c 2 rfl;go_wp2_with fail;refine(I _).mono ?_;rintro e l ⟨rfl,a⟩;clear c;have c:=dD a;clear a;go_upto_region 6 with fail;obtain⟨Z,a⟩:=kB (l.alloc (Xk #[eS,I6 a4] 41));have d:=gA a
 have W:=xA a
 rw[a];clear a;obtain⟨a,a⟩:∃m,Xo (l.heap.size=m):=⟨_,rfl⟩;rw[a.out]at W⊢;obtain⟨a0,I⟩:=kA (zC [r,t,z,K,M]);have a:=zdn (O (Xa ⟨Z.heap.size,0,Xb⟩) 5 5) [r,t,z,K,M] _ (zfx zl7 Z [r,t,z,K,M] #[I6 r,I6 t,I6 z,I6 K,I6 M] rfl (show 5*8<=140737488355328 by decide))
 rw[I.out]at a;go_wp2_with fail;refine a.mono ?_;rintro e l ⟨rfl,r⟩;clear a;have a:Xo (zc Z l):=dD<|by rw[r];exact za _ _
 clear r;have z:=dD (((g.trans c).trans d).trans a);have K:=dD (aa.aA z);have g:a0=0:=by rw[<-I.out,<-X.out];exact zna b
 subst g;have X:=(R.aA ((((((q.trans n).trans k).trans i).trans h).trans c).trans (d.trans a))).c 0 rfl;have Z:=(R.aA ((((((q.trans n).trans k).trans i).trans h).trans c).trans (d.trans a))).c 1 rfl;have I:=(T.aA (((i.trans h).trans c).trans (d.trans a))).c 0 rfl;have a0:=(T.aA (((i.trans h).trans c).trans (d.trans a))).c 1 rfl;have a1:=(U.aA ((c).trans (d.trans a))).c 0 rfl;have a2:=(U.aA ((c).trans (d.trans a))).c 1 rfl;obtain⟨U,a3⟩:=(W.aA a).k2;have t:=dD b;clear b;go_upto_region 9 with fail;obtain⟨r,b⟩:=kB (l.alloc (Xk #[Xh Xc,eS,eS,eS,eS,eS,eS,eS,eS,eS] 76));have g:=gA b
 have T:Xo (zj Jm r (O (Xa ⟨l.heap.size,0,Xb⟩) 1 1) [⟨Xc,ZH,ZH,ZH,ZH,ZH,ZH,ZH,ZH,ZH⟩]):=dD<|by rw[<-b];exact Qs Jm l ⟨Xc,ZH,ZH,ZH,ZH,ZH,ZH,ZH,ZH,ZH⟩ _ _ rfl Dc
 have M:=dD (K.aA g);have K:=dD b;clear b;obtain⟨v,r⟩:∃m,Xo (l.heap.size=m):=⟨_,rfl⟩
 go_wp2_with (first | (rw[K.out];rw[r.out];refine zz rfl 45 (.tmp 2) (.tmp 63) rfl (w.heap.size+1) rfl [P.x,I6 0,S.x,A.x,Q.x,B.x,N.x,eS,I6 a4,eS,O (Xa ⟨v,0,Xb⟩) 1 1] rfl M rfl Kr (fun W R=>by
   simp only[mC,nM,or_false]at R
   rcases R with rfl|rfl|rfl|rfl|rfl|rfl|rfl|rfl|rfl|rfl|rfl <;> rfl) ?_))
 intro l M b _;clear X Z I a0 a1 a2 U a3;have K:Xo (zc w l):=dD<|zd ((Y.trans z).trans g) b Wm
 have m:w.heap.size+1<a9.heap.size:=aa.lt;have X:=bS y.out;have Y:=bS p.out;have Z:=bS q.out;have I:=bS n.out;have a0:=bS k.out;have a1:=bS z.out;have m:∀{y:Nat} {W:Xq},a9.heap.size<=y->Zb y W->∀x z y,W= O (Xa x) z y->Xa x.block≠Xa (w.heap.size+1):=fun U U x z y R e=>by
  have:=U x z y R;simp only[Option.some.injEq]at e;omega
 have R:=((((((p.trans q).trans n).trans k).trans i).trans h).trans c).trans ((d.trans a).trans g);have p:=((((n.trans k).trans i).trans h).trans c).trans ((d.trans a).trans g);have n:=(((k.trans i).trans h).trans c).trans ((d.trans a).trans g);have k:=(h.trans c).trans ((d.trans a).trans g);have d:Xo (zw l ⟨P,S,A,Q,B,N,ZH,ZH,⟨Xa ⟨v,0,Xb⟩,1,1⟩⟩ (ZC u cs j)):=dD<|by
  obtain⟨a,c,g⟩:=t.out;refine⟨?_,?_,?_,?_,?_,?_,?_,zj.nil Zz l,?_⟩
  ·have h:=(ab.aA R).beside b (m (nR _) C);unfold zpw at h;rw[kE a]at h;exact h
  ·have h:=(ac.aA p).beside b (m Wm D)
   unfold zpv at h;rw[kE c]at h;exact h
  ·have h:qV l (A.x) (znb cs):=⟨(a5.aA n).1.beside b (m Wm E),a5.2⟩
   unfold znb at h;rw[kE Wm]at h
   exact h
  ·exact⟨(a6.aA n).1.beside b (m Wm F),a6.2⟩
  ·have h:qV l (B.x) (znb j):=⟨(a7.aA k).1.beside b (m Wm G),a7.2⟩
   unfold znb at h;rw[kE g]at h;exact h
  ·exact⟨(a8.aA k).1.beside b (m Wm H),a8.2⟩
  ·exact⟨nR _,[],fun w' _=>zj.nil fvE w',rfl,fun i x f a=>by simp at a⟩
  have c:=T.out;rw[r.out]at c;refine⟨_,c.beside b (fun x z y a e=>?_),rfl,fun i x s a c=>?_⟩
  ·cases a;simp only[Option.some.injEq]at e;have:=r.out;omega
  cases i with
  | zero=>
   cases a;cases c;exact⟨rfl,zj.nil arE l,nR _,za8.nil 0 0 l⟩
  | succ i=>simp at a
 have a:Xo (zs6 w.heap.size ⟨P,S,A,Q,B,N,ZH,ZH,⟨Xa ⟨v,0,Xb⟩,1,1⟩⟩):=dD<|by
  refine⟨⟨C.less Wm,D.less Wm,E.less Wm,F.less Wm⟩,G.less Wm,H.less Wm,ZE _,ZE _,fun x z y e=>?_⟩
  cases e;have:=r.out
  show w.heap.size<=v
  omega
 have b:a4=j:=by rw[<-L.out,kE t.2.2]
 subst b;clear R p n k m X Y Z I a0 a1;go_wp2;refine bodyPost_ret (z5 rfl _ rfl M underlying45 rfl Kr) rfl ⟨⟨⟨P,S,A,Q,B,N,ZH,ZH,⟨Xa ⟨v,0,Xb⟩,1,1⟩⟩,rfl,d,a,v,rfl⟩,K⟩
end
section
theorem zeF:∀(l:List Int) (lo hi:Int),l.Pairwise (·< ·)->(∀x∈l,lo<=x/\x<hi)->(l.length:Int)<=max (hi - lo) 0
 | [],lo,hi,_,_=>by simp only[List.length_nil];omega
 | a :: l,lo,hi,hp,hb=>by
  obtain⟨h1,h2⟩:=Of.1 hp;obtain⟨b1,b2⟩:=hb a (List.mem_cons_self ..);have:=zeF l (a+1) hi h2 fun x hx=>⟨Hm (h1 x hx),(hb x (List.mem_cons_of_mem _ hx)).2⟩
  simp only[Yn];omega
def jo (fs:List Fr):Nat:=fs.countP fun f=>decide (f.r=0)
section
variable{m:Ma}
theorem zlW (S:Nat->Nat->Prop) (r:Rt m) {file idx:Nat} {f:Fl} {db':List (List Int)} {dq':List (Int × List Int)} (t:m.fl[file]? =Xa f) (l:stW (m.fl.set file ⟨f.size,f.bl.set idx (b:Int)⟩) m.cnt=0)
  (n:∀x,zR (m.fl.set file ⟨f.size,f.bl.set idx (b:Int)⟩) x=Xc↔(zR m.fl x=Xc/\x≠-1)\/x=(b:Int)\/(x=-1/\zR (m.fl.set file ⟨f.size,f.bl.set idx (b:Int)⟩) x=Xc))
  (j:db'.length=m.db.length) (d:zB db'.length dq'=0) (a:∀i:Nat,db'[i]? =m.db[i]?\/∃q∈m.dq,q.1=(i:Int)) (u:∀q∈dq',q.1=(b:Int)\/∃v∈m.dq,v.1=q.1) (k:∀i:Int,i≠(b:Int)->zS db' dq' i=zS m.db m.dq i)
  (h:f.bl[idx]? =Xa (b:Int)\/(zR m.fl (b:Int)=Xd)) (s:∃c∈m.ca,c.file=(file:Int)/\c.idx=(idx:Int)) (e:∀(i p:Nat) g,m.fl[i]? =Xa g->g.bl[p]? =Xa (b:Int)->i=file/\p=idx):
  Qd S m (ZK m file idx f (b:Int) db' dq'):=by
 obtain⟨⟨p,v⟩,w⟩:=zhW r t l n j d a u k h s e;refine⟨p,v.mono (fun _ _ e=>e.elim),rfl,fun q n s h a a _ d=>?_,fun file idx d e=>⟨e,w file idx d⟩⟩
 have:m.sp[q]? =Xa h:=a
 grind
def zju (k:Nat) (fr:Fr) (l:List (Nat × Nat)) (q:Nat) (s:Sp) (a:Ar) (n:Nat):Prop:=(qp a n).file=fr.f/\(qp a n).aG=fr.x/\(q,n)∉l/\((zh s n).kind=0\/isE (zh s n) 1 (k:Int)=Xc)
theorem zsd {k:Nat} {fr:Fr} {l:List (Nat × Nat)} (h:∀(q:Nat) s (i:Nat) a (n:Nat),m.sp[q]? =Xa s->s.aD[i]? =Xa a->Jt a n=Xc->n<64->¬zju k fr l q s a n) (q n:Nat) (s:Sp) (g:m.sp[q]? =Xa s) (f:n<64) (b:(zJ s.aD n).is=Xc) (c:(zJ s.aD n).file=fr.f) (hp:(zJ s.aD n).aG=fr.x) (e:(zh s n).kind=0\/isE (zh s n) 1 (k:Int)=Xc):(q,n)∈l:=by
 obtain⟨i,a,c,d,j⟩:=zdo b;refine Classical.byContradiction fun b=>h q s i a n g c d f ⟨?_,?_,b,e⟩
 ·grind
 grind
theorem zfE (h:Rt m) {k:Nat} {fr:Fr} {l:List (Nat × Nat)} (d:m.fs[k]? =Xa fr) (c:0<=fr.f) (e:fr.r≠0) (b:z9 m fr.f fr.x=qJ (pgL fr.p) fr.x (qW m fr.f))
  (hS:qJ (pgL fr.p) fr.x (qW m fr.f)=pgL fr.p\/∀(q:Nat) s (i:Nat) a (n:Nat),m.sp[q]? =Xa s->s.aD[i]? =Xa a->Jt a n=Xc->n<64->¬zju k fr l q s a n):Qd (fun q j=>(q,j)∈l) m (z2 m k):=
 znQ h _ d c e b (hS.imp id fun b q n s c d e f g h=>zsd b q n s c d e f g h)
theorem zgp {l:List (Nat × Nat)} {file idx:Nat} {f:Fl} {db':List (List Int)} {dq':List (Int × List Int)} {k:Nat} {fr:Fr} (c:Qd (fun q j=>(q,j)∈l) m (ZK m file idx f (b:Int) db' dq')) (h:m.fl[file]? =Xa f) (hi:idx<f.bl.length) (p:m.fs[k]? =Xa fr) (d:fr.f=(file:Int)) (e:fr.x=(idx:Int)) (r:fr.r≠0)
  (g:zS db' dq' (b:Int)=qJ (pgL fr.p) (idx:Int) (qW m (file:Int)))
  (hS:qJ (pgL fr.p) fr.x (qW m fr.f)=pgL fr.p\/∀(q:Nat) s (i:Nat) a (n:Nat),m.sp[q]? =Xa s->s.aD[i]? =Xa a->Jt a n=Xc->n<64->¬zju k fr l q s a n):Qd (fun q j=>(q,j)∈l) m (z2 (ZK m file idx f (b:Int) db' dq') k):=by
 refine c.trans (zfE c.rt (fr:=fr) p Wm r ?_ ?_)
 ·rw[d,e,zez h hi g,<-c.aW.sz]
 rw[c.aW.sz];exact hS
end
theorem Rt.parts (h:Rt m):Zi m.fs m.aB=0/\slW m.sl=0:=by
 have b:=h.w;unfold maW at b;rw[zr]at b;have a:zaR m=0:=b _ Sm
 unfold zaR at a;rw[zr]at a;exact⟨a _ Sm,a _ Sm⟩
theorem Rt.refs (h:Rt m) {k:Nat} {f:Fr} (a:m.fs[k]? =Xa f):0<=f.r/\f.r<=300:=by
 have b:=(h.inv.cf k f a).1;have c:=zdE (jd m) 1 k;have d:=zff h.inv.ca (k:Int);have e:=h.inv.tl;have g:=h.inv.aQ;omega
theorem Rt.slots (h:Rt m) {k:Nat} (a:m.sl[k]? =Xa z):0<=z/\z<=300:=by
 have b:=h.inv.cs k z a;have c:=zdE (jd m) 2 k;have d:=h.inv.tl;have e:=h.inv.aQ;omega
theorem ziC:Qy Qt:=⟨rfl,fun h a=>by
 have:=List.eq_of_mem_replicate (show h∈Xr 8 []from a)
 subst this;exact .inl rfl⟩
theorem JX {s:Sp} {n:Nat} (a:n<64):zer s.tb (n:Int)=zh s n:=by
 unfold zer zh;rw[kE Wm,tN]
theorem zqZ {t:List (List En)} (h:Qy t) {n:Nat} (b:n<64) {e:En} (a:enW e=0):zjD t (n:Int) e=zjC t n e:=by
 have a:=Qj.2 h.2
 grind [zl3,zjD,tN]
theorem QM (d:∀s∈m.sp,Qy s.tb) {p n:Nat} (hp:p<m.sp.length) (c:n<64) {e:En} (b:enW e=0):jv m p (n:Int) e=zaF m p n e:=by
 obtain⟨s,a⟩:∃s,m.sp[p]? =Xa s:=⟨_,gE hp⟩;unfold jv zaF;rw[Sp.aP a,zqZ (d s (mG a)) c b]
 congr 1
 apply Yj
 grind
theorem zmR {n:Nat} {qs:List (Int × List Int)} (h:zB n qs=0) {q:Int × List Int} (c:q∈qs):0<=q.1/\q.1< (n:Int):=by
 unfold zB at h
 split at h
 ·cases h
 split at h
 ·cases h
 split at h
 ·cases h
 rename_i a
 refine Classical.byContradiction fun b=>a (Ye.2 ⟨q,c,?_⟩)
 simp only[j0,Ol,Bool.and_eq_false_iff,decide_eq_false_iff_not];omega
def Qb (m:Ma) (db':List (List Int)):Ma:=⟨Xr m.fs.length frF,0,Xr m.sl.length 0,Xr m.sl.length zI,[],db',[],m.fl,m.cnt,[],[⟨Xc,[],Qt⟩]⟩
theorem zjd (h:Rt m) {db':List (List Int)} (b:db'.length=m.db.length) (d:∀i:Nat,db'[i]? =m.db[i]?\/∃q∈m.dq,q.1.toNat=i):Rt (Qb m db'):=by
 have a:=h.inv;have g:zs9 m.fl m.cnt db' [] []:=by
  obtain⟨c,c,c⟩:=(zY _ _).1 a.st;refine⟨a.st,Rx b a.cnt,nZ _,fun b a=>(by cases a),Rx Yu c,fun b c c _=>?_,fun q e=>(by cases e)⟩
  rcases d b with e|⟨q,f,d⟩
  ·rw[e];exact a.bJ b Wm c
  have d:=zmR a.aU f;have d:=a.bE q f;rw[show q.1=(b:Int) by omega,c]at d
  cases d
 have b:=g.start a.aY a.aX 0;have d:=b.more (s':=⟨Xc,[],Qt⟩) Sm (by rfl) (fun e=>by cases e)
 have c:jd (Qb m db')=[fun _=>en0]:=by
  unfold jd Qb;simp only[mP,Yp,List.cons.injEq,and_true]
  funext n
  unfold zh zcZ;simp only;have a:Qt[n / 8]?.getD []=([]:List En):=by
   cases e:Qt[n / 8]? with
   | none=>rfl
   | some x=>
    exact(Oi.1 (show x∈Xr 8 []from mG e)).2
  rw[a];rfl
 refine Rt.of ?_ (fun s b=>?_) (Int.le_refl 0) (by show(0:Int)<max _ 1;omega)
 ·rw[c];exact d
 rw[Oe.1 b];exact ziC
end
section
open Go.RowKit
theorem jN.aN {α:Type} {enc:α->List Xq} {base:Nat} {w:Xn} {v:Xq} {l:List α} (h:jN enc w v l) (c:Zb base v) {D:Nat->Prop} (g:∀k,D k->k<base) (k:zk D w W):jN enc W v l:=by
 obtain⟨b,d,a,e,f⟩:=h;refine⟨b,d,a,e,fun x b j u d=>?_⟩
 subst b;have b:=f x rfl j u d;have d:=World.block_lt_of_cell? _ _ b;have c:=c x _ _ a;rw[World.cell?_of_block (w:=w) (k.block _ d (fun e=>by have:=g _ e;rw[Ze]at this;omega))]
 exact b
theorem zO.aN {base:Nat} {w:Xn} {v:Xq} {a:List (List Int)} {qs:List (Int × List Int)} (h:zO base w v a qs) {D:Nat->Prop} (e:∀k,D k->k<base) (k:zk D w W):zO base W v a qs:=by
 obtain⟨f,q,g,a,b,c,d⟩:=h;exact⟨f,q,g,⟨a.1.aN c e k,a.2⟩,⟨b.1.aN d e k,b.2⟩,c,d⟩
theorem zO.form {base:Nat} {w:Xn} {v:Xq} {a:List (List Int)} {qs:List (Int × List Int)} (h:zO base w v a qs):∃d q:Sli,v= Xi #[d.x,q.x]/\Zb base d.v/\Zb base q.v:=by
 obtain⟨b,q,rfl,⟨⟨a,c,rfl,_⟩,_⟩,⟨⟨b,e,rfl,_⟩,_⟩,f,g⟩:=h;exact⟨⟨a,_,c⟩,⟨b,_,e⟩,rfl,f,g⟩
theorem zO.rows {base:Nat} {w:Xn} {d q:Sli} {a:List (List Int)} {qs:List (Int × List Int)} (h:zO base w (Xi #[d.x,q.x]) a qs):qV w (d.x) a/\jr w (q.x) qs:=by
 obtain⟨b,q,e,a,a,_⟩:=h
 grind
theorem zjG {α:Type} {E:Elt α} {w:Xn} {v:Xq} (h:zj E w v []):zj E W v []:=by
 obtain⟨⟨a,c,b,d,g⟩,e⟩:=h;exact⟨⟨a,c,b,d,fun x i j u f=>by simp at f⟩,e⟩
theorem j4 (a:Nat->Bool):∀(qs:List (Int × List Int)) (j:Nat) (b:List (List Int)),(qB a qs j b).length=b.length
 | [],_,_=>rfl
 | q :: qs,j,b=>by
  unfold qB;rw[j4 a qs]
  split <;> simp
theorem zbj (a:Nat->Bool):∀(qs:List (Int × List Int)) (j:Nat) (b:List (List Int)) (i:Nat),(qB a qs j b)[i]? =b[i]?\/∃q∈qs,q.1.toNat=i
 | [],_,_,_=> .inl rfl
 | q :: qs,j,b,i=>by
  unfold qB
  rcases zbj a qs (j+1) (if a j then b.set q.1.toNat q.2 else b) i with h|⟨x,a,b⟩
  ·by_cases e:q.1.toNat=i
   ·exact .inr ⟨q,Sm,e⟩
   left;rw[h]
   split
   ·exact sN e
   rfl
  exact .inr ⟨x,by simp[a],b⟩
theorem zeV (h:Rt m) (a:Nat->Bool):Rt (Qb m (jL a m.db m.dq)):=by
 have e:jL a m.db m.dq=qB a m.dq 0 m.db:=kE h.inv.aU;rw[e];exact zjd h (j4 _ _ _ _) (zbj _ _ _ _)
theorem zlO (V:MaV) (m:Ma) (G:Int) (w:Xn) (b2:zw w V m) (h:Rt m):
  Xp prog 97 #[Xi (mL V m).toArray,I6 G] w fun e w'=>(∃V':MaV,e= Xl (Xm #[Xi #[V'.f.x,I6 0,V'.s.x,V'.sb.x,V'.sq.x,V'.db.x,V'.dq.x,V'.fl.x,I6 m.cnt,V'.ca.x,V'.sp.x],I6 0])/\(∀W,zk (fun k=>k<w.heap.size) w' W->zw W V' (Qb m (jL (J0 G) m.db m.dq)))/\∃b9,V'.sp=⟨Xa ⟨b9,0,Xb⟩,1,1⟩)/\zc w w':=by
 obtain⟨F,b⟩:=kB ((w.alloc (Xk (mL V m).toArray 45)).alloc (Xk zM.toArray 45));have bf:=gD2 b
 obtain⟨A,ae⟩:=kA w.heap.size;have bi:Xo (zl F A 45 (mL V m)):=dD<|by rw[<-b];exact(zl.aE w (mL V m) _ ae.symm).aA (za _ _)
 have c6:Xo (zl F (A+1) 45 zM):=dD<|by rw[<-b];exact zl.aE _ zM _ (by have:=ae.out;simp;omega)
 have A1:Xo (zw F V m):=b2.aA bf.out;have c1:Xo (Rt m):=h;have av:Xo (_=F):=b;obtain⟨b4,b5,-⟩:=b2.ns;have am:Xo (zst (V.f.n:Int) (V.s.n:Int) m.cnt):=show zst _ _ _ by
  have i:=h.inv;have cg:=i.aY;have d3:=i.aX;have d4:=((zY _ _).1 i.st).1;rw[b4,b5];exact⟨⟨Wm,Wm⟩,⟨Wm,Wm⟩,Wm⟩
 have ao:Xo (V.f.n=m.fs.length):=b4;have ap:Xo (V.s.n=m.sl.length):=b5;clear b b2 h b4 b5
 go_enter func97,ntmps97
 go_upto_region 1 with fail;rw[av.out,ae.out];have Z:=QA V m F A1 c1.w;obtain⟨I,ba,a0,bb,bc,aa,ab,ac,v,bd,u⟩:=bi.box.bL;go_wp2_with fail;refine Z.mono ?_;clear Z I ba a0 bb bc aa ab ac v bd u;rintro e r ⟨rfl,L⟩;have aj:=dD (bi.aA L);have ay:=dD (c6.aA L);have A2:=dD (A1.aA L);have bg:=dD (bf.trans L);clear L;have S:=zjT (V.f.n:Int) (V.s.n:Int) m.cnt am r;have I:=aj.box.c 0 rfl;have a0:=aj.box.c 2 rfl;have v:=aj.box.c 8 rfl;go_wp2_with fail;refine S.mono ?_;clear S I a0 v;rintro e z ⟨⟨U,rfl,bp,R,X⟩,bo⟩;have ar:Xo (∃b9,U.sp=⟨Xa ⟨b9,0,Xb⟩,1,1⟩):=X;have au:Xo (zw z U (ZC (V.f.n:Int) (V.s.n:Int) m.cnt)):=bp;have aq:Xo (zs6 r.heap.size U):=R;have n:Xo (zc r z):=bo;clear bp R bo X;go_upto_region 5 with fail;obtain⟨j,y⟩:=kA z.heap.size;obtain⟨af,d⟩:=kB (z.alloc (Xk #[U.f.x,I6 0,U.s.x,U.sb.x,U.sq.x,U.db.x,U.dq.x,U.fl.x,I6 m.cnt,U.ca.x,U.sp.x] 45));have ad:=gA d
 have bk:=xPT d y
 have ax:=dD (aj.aA (n.trans ad));rw[d,y.out];clear d;have be:=dD (A2.aA (n.trans ad));have N:=zob (Xi #[V.db.x,V.dq.x]) m.db m.dq G af ⟨_,_,rfl,be.db,be.dq⟩;have aa:=ax.box.c 5 rfl;have ab:=ax.box.c 6 rfl;go_wp2_with fail;refine N.mono ?_;clear N aa ab;rintro e ag ⟨d0,rfl,b6,b0⟩;obtain⟨l,q,rfl,ce,cf⟩:=b6.form;have bw:Xo (zO af.heap.size ag (Xi #[l.x,q.x]) (jL (J0 G) m.db m.dq) []):=b6;have al:Xo (zc af ag):=b0;have c2:=dD (bk.aA b0);clear b6 b0 ce cf
 go_upto_region 6 with(refine qK rfl 38 (.tmp 37) (.tmp 35) rfl j 5 rfl (Xi #[l.x,q.x]) rfl [l.x,q.x] rfl c2 Sm Kr (by simp[Value.oneCell']) ?_)
 intro g H c _;have c3:Xo (zl g j 45 [U.f.x,I6 0,U.s.x,U.sb.x,U.sq.x,l.x,q.x,U.fl.x,I6 m.cnt,U.ca.x,U.sp.x]):=H;have D:Xo (ag.grownBy g (Xa j)):=c;have C:Xo (zc z g):=show zc _ _ from zd (ad.trans al) c (Hm y.out)
 have bj:Xo (zl g A 45 (mL V m)):=dD<|(ax.aA al).beside c (fun k e=>by cases e;have cg:=ay.box.lt;have:=y.out;have:=bS n.out;omega)
 have bu:=dD ((A2.aA n).aA C);clear H c;try simp only[Ym]
 have T:=JJ (V.fl.x) m.fl m.cnt g bu.fl;have ac:=bj.box.c 7 rfl;have v:=bj.box.c 8 rfl;go_wp2_with fail;refine T.mono ?_;clear T ac v;rintro e ah ⟨d1,rfl,ak,b1,_⟩;obtain⟨bm,bn,rfl,_⟩:=z7.rows ak.new.bQ;obtain⟨f,c0⟩:∃f:Sli,Xo (f=⟨bm,m.fl.length,bn⟩):=⟨_,rfl⟩;have P:O bm m.fl.length bn=f.x:=by rw[c0.out]
 rw[P]at ak⊢;have bx:Xo (qo 0 (g.heap.size+2) ah (f.x) m.fl):=ak.new;have bh:Xo (zc g ah):=b1;have c4:=dD (c3.aA b1);clear ak b1 P
 go_upto_region 7 with(refine qK rfl 41 (.tmp 41) (.tmp 40) rfl j 7 rfl (Xi #[f.x,I6 m.cnt]) rfl [f.x,I6 m.cnt] rfl c4 Sm Kr (by simp[Value.oneCell']) ?_)
 intro ai K t _;have c5:Xo (zl ai j 45 [U.f.x,I6 0,U.s.x,U.sb.x,U.sq.x,l.x,q.x,f.x,I6 m.cnt,U.ca.x,U.sp.x]):=K;have E:Xo (ah.grownBy ai (Xa j)):=t;have p:Xo (zc z ai):=show zc _ _ from zd (C.trans bh) t (Hm y.out)
 have c7:=dD ((ay.aA n).aA p);clear K t;try simp only[Ym]
 obtain⟨I,ba,a0,bb,bc,aa,ab,ac,v,bd,u⟩:=c5.box.bL
 go_wp2_with (refine zm rfl 45 (.tmp 4) (.tmp 42) rfl (A+1) rfl [U.f.x,I6 0,U.s.x,U.sb.x,U.sq.x,l.x,q.x,f.x,I6 m.cnt,U.ca.x,U.sp.x] rfl c7 rfl Kr (by simp[Value.oneCell']) ?_)
 clear I ba a0 bb bc aa ab ac v bd u;intro aw az M _;have bz:Xo (zc w aw):=dD<|zd ((bg.trans n).trans p) M (Hm ae.out)
 have bv:Xo (zl aw (A+1) 45 [U.f.x,I6 0,U.s.x,U.sb.x,U.sq.x,l.x,q.x,f.x,I6 m.cnt,U.ca.x,U.sp.x]):=az;have an:Xo (∀W,zk (fun k=>k<w.heap.size) aw W->zw W ⟨U.f,U.s,U.sb,U.sq,l,q,f,U.ca,U.sp⟩ (Qb m (jL (J0 G) m.db m.dq))):=show∀W,_ from fun W ch=>by
  have ci:A+1<r.heap.size:=ay.box.lt;have cm:=bS n.out;have cn:=bS ad.out;have co:=bS al.out;have cp:=D.size;have d5:=y.out;have cj:j<af.heap.size:=bk.box.lt;have u8:=au.aA p.out;have a:zk (fun k=>k<r.heap.size) ai W:=(zk.grown M ci).trans (ch.wide fun k B=>Xs B (bS bg))
  obtain⟨⟨c8,c9,ca,cb⟩,cx,cy,cz,cc,cd⟩:=aq.out;have b7:zk (fun k=>k=j\/k<r.heap.size) ag W:=(((zk.grown D (.inl rfl)).trans (zk.aA bh)).trans (zk.grown E (.inl rfl))).trans (a.wide fun k B=> .inr B)
  have bl:=(bw.aN (fun k B=>by rcases B with rfl | B <;> omega) b7).rows
  have b8:Out 0 (g.heap.size+2) ah W:=(Out.grown E (fun d2 e=>by cases e;omega)).trans ⟨a.os,a.tape,a.output,a.size,fun i ck d6=>a.block i ck (fun h=>by have h:i<r.heap.size:=h;omega)⟩
  have b3:=ao.out;have Q:=ap.out;obtain⟨cw,br,ct,cu⟩:=u8.sp;refine⟨?_,?_,?_,?_,bl.1,bl.2,(bx.out.out b8).bQ,⟨u8.ca.1.aN cc (fun _ h=>h) a,u8.ca.2⟩,⟨cw,⟨br.1.aN cd (fun _ h=>h) a,br.2⟩,ct,fun i x s cr cl=>?_⟩⟩
  ·have:zj _ W _ _:=⟨u8.fs.1.aN c8 (fun _ h=>h) a,u8.fs.2⟩
   rw[show(ZC (V.f.n:Int) (V.s.n:Int) m.cnt).fs=Xr m.fs.length frF from by unfold ZC;simp only;rw[b3,tN]]at this
   exact this
  ·have:zj _ W _ _:=⟨u8.sl.1.aN c9 (fun _ h=>h) a,u8.sl.2⟩
   rw[show(ZC (V.f.n:Int) (V.s.n:Int) m.cnt).sl=Xr m.sl.length 0 from by unfold ZC;simp only;rw[Q,tN]]at this
   exact this
  ·have:qV W _ _:=⟨u8.sb.1.aN ca (fun _ h=>h) a,u8.sb.2⟩
   rw[show(ZC (V.f.n:Int) (V.s.n:Int) m.cnt).sb=Xr m.sl.length zI from by unfold ZC;simp only;rw[Q,tN]]at this
   exact this
  ·exact⟨u8.sq.1.aN cb (fun _ h=>h) a,u8.sq.2⟩
  have Y: [(⟨Xc,[],Qt⟩:Sp)][i]? =Xa s:=cl
  cases i with
  | succ i=>simp at Y
  | zero=>
   cases Y;have k:=cu 0 x _ cr rfl;refine⟨k.aH,zjG k.ar,k.cap,⟨k.tb.len,k.tb.aO,fun cs cv bt cq bq=>?_⟩⟩
   have e:bt=[]:=(Oi.1 (show bt∈Xr 8 []from mG bq)).2
   subst e;exact fun w' _=>zjG (k.tb.row cs cv [] cq bq).now
 go_wp2;refine bodyPost_ret (z5 rfl _ rfl bv.box underlying45 rfl Kr) rfl ⟨⟨_,rfl,an,ar⟩,bz⟩
theorem znd (n:Nat) (l:n<=40) (w:Xn):
  Xp prog 107 #[.int .u64 1,.int .u64 (n:Int)] w fun e w'=>e= Xl (Xm #[.int .u64 0,.int .u64 (n:Int)])/\w'=w:=by
 have h:bits .and .u64 1 4294967295=1:=Mul64.maskN 1 Wm
 have i:bits .and .u64 (n:Int) 4294967295=(n:Int):=by rw[Mul64.maskN n Wm];omega
 have g:bits .and .u64 0 4294967295=0:=Mul64.maskN 0 Wm
 have f:(n:Int) / 4294967296=0:=Wm
 have c:Xo (bits .and .u64 1 4294967295=1):=h;have d:Xo (bits .and .u64 (n:Int) 4294967295=(n:Int)):=i;have b:Xo (bits .and .u64 0 4294967295=0):=g;have a:Xo ((n:Int) / 4294967296=0):=f;clear h i g f
 go_enter func107,ntmps107
 go_wp2;have j:IntKind.u64.wrap 0=0:=Mul64.wrapN 0 Wm
 have k:IntKind.u64.wrap (n:Int)=(n:Int):=Mul64.wrapN n Wm
 simp only[c.out,d.out,Int.one_mul,k,a.out,j,b.out,Int.mul_zero,Int.add_zero,Int.zero_ediv]
 go_ret2
 exact⟨rfl,rfl⟩
theorem zra (n:Nat) (b:n<=40) (w:Xn):
  Xp prog 57 #[.int .u64 1,.int .u64 (n:Int)] w fun e w'=>e= Xl (Xm #[.int .u64 0,.int .u64 (n:Int)])/\w'=w:=by
 have a:=znd n b w
 go_enter func57,ntmps57
 go_wp2_with (go_at_call 107;refine a.mono ?_;rintro e w' ⟨rfl,c⟩;rw[c])
 go_ret2
 exact⟨rfl,rfl⟩
theorem zpi (q:Int) (n m z:Nat) (_h:m<=n) (a:z=Yq m (n - m)):(Xr m q++Xr (n - m) (0:Int)).take m++(Xr z q++(Xr m q++Xr (n - m) (0:Int)).drop (m+z))=Xr (m+z) q++Xr (n -(m+z)) (0:Int):=by
 have b:z<=n - m:=by rw[a];exact Nat.min_le_right _ _
 rw[Yg Sm,Xu Sm,List.drop_append,Yr Sm,List.nil_append,lR,Ya,<-Ok,Xw]
 congr 2
 omega
theorem zkS (q:Int) (x:Nat) (c n:Nat) (Y:n<=40) (r:1<=n) (w:Xn) (M:zj blE w (O (Xa ⟨x,0,Xb⟩) 1 c) [q]):
  Xp prog 217 #[O (Xa ⟨x,0,Xb⟩) 1 c,I6 (n:Int)] w fun e w'=>∃b,e= Xl b/\z3 blE w.heap.size w' b (Xr n q)/\zc w w':=by
 have R:Xo (jc w ⟨x,0,Xb⟩ ([q].flatMap blE.enc)):=by
  obtain⟨⟨aa,ab,g,_,k⟩,_⟩:=M;cases g;exact k _ rfl
 clear M;have V:=zra n Y w;have I:¬(n:Int)<0:=Wm
 have Z:¬(9223372036854775807:Int)< (n:Int):=Wm
 go_enter func217,ntmps217
 go_wp2_with (first
  | (go_at_call 57;refine V.mono ?_;rintro e w' ⟨rfl,a0⟩;rw[a0])
  | (refine qv blE rfl (.tmp 29) rfl n rfl (by show n*8<=_;omega) ?_;intro P N;have T:Xo (zb blE w.heap.size (w.alloc (Xk P 3)) (O (Xa ⟨w.heap.size,0,Xb⟩) n n) (Xr n (0:Int))):=N;clear N)
  | (refine qy (E:=blE) rfl (.tmp 31) (.tmp 32) rfl w.heap.size (O (Xa ⟨w.heap.size,0,Xb⟩) n n) (Xr n (0:Int)) T w.heap.size rfl 0 n n _ rfl ?a1 _ 1 c rfl [q] ?a2 ?a3 ?a4 ?_))
 case a1=>simp
 case a2=>show 1=Yq 1 n;exact(Yb r).symm
 case a3=>exact R.aA (za _ _)
 case a4=>simp;omega
 intro K s i _;have v:Xo (zb blE w.heap.size K (O (Xa ⟨w.heap.size,0,Xb⟩) n n) (Xr 1 q++Xr (n - 1) (0:Int))):=show zb _ _ _ _ (Xr 1 q++Xr (n - 1) (0:Int)) by simpa [Ya]using s
 have Q:Xo (zc w K):=zd (za _ _) i (nR _);clear s i;go_wp2
 go_loopg [8] n (fun U a8 wr=>∃m:Nat,1<=m/\m<=n/\n - m<=U/\a8=I6 m/\Xo (zb blE w.heap.size wr (O (Xa ⟨w.heap.size,0,Xb⟩) n n) (Xr m q++Xr (n - m) (0:Int)))/\Xo (zc w wr))
 exact⟨1,nR _,r,Wm,rfl,v,Q⟩
 obtain⟨m,W,X,ac,rfl,H,G⟩:=hrel
 by_cases l:m<n
 ·have p:=kC l
  have L:(m:Int)<=(n:Int):=Wm
  have h:Xo (zb blE w.heap.size wr.drew (O (Xa ⟨w.heap.size,0,Xb⟩) n n) (Xr m q++Xr (n - m) (0:Int))):=dD<|H.aA (gW _)
  obtain⟨z,u⟩:∃z,Xo (z=Yq m (n - m)):=⟨_,rfl⟩;have D:z=min m (n - m):=u.out;have a5:1<=z:=Wm
  have F:z<=m:=Wm
  have a6:z<=n - m:=Wm
  clear D;have d:jc wr.drew ⟨w.heap.size,0,Xb⟩ ((Xr z q).flatMap blE.enc):=fun a7 a9 C=>by
   have g:=h.1.cells rfl;refine g a7 a9 ?_;rw[Xt,Xx]
   ·rw[show m=z+(m - z) by omega,<-Xw,Xt,Xx (gS.1 C).1]
    exact C
   have k:=(gS.1 C).1;rw[qC blE]at k⊢;simp only[lR]at k⊢;exact Xs k (Yf _ F)
  obtain⟨A,a,f,j,_⟩:=QZ (E:=blE) 3 w.heap.size _ _ h w.heap.size rfl m (n - m) (n - m) ⟨w.heap.size,0,Xb⟩ m n (Xr z q) (Rx lR u) d (by simp;omega)
  have B:(Builtin.copy_ #[33,33] 3 #[O (Xa ⟨w.heap.size,m,Xb⟩) (n - m) (n - m),O (Xa ⟨w.heap.size,0,Xb⟩) m n]).run prog wr.drew= .ok (I6 (z:Int)) A:=by
   have g:=a;rw[lR,show m*blE.k=m from Nat.mul_one m]at g
   exact g
  have y:Xo (zb blE w.heap.size A (O (Xa ⟨w.heap.size,0,Xb⟩) n n) (Xr (m+z) q++Xr (n -(m+z)) (0:Int))):=dD<|by
   rw[<-zpi q n m z Wm u.out]
   rw[lR]at f;exact f
  have t:Xo (zc w A):=zd (G.trans (gW _)) j (nR _)
  clear d a f j;go_wp2
  go_region
  go_wp2
  go_roundg (n -(m+z));exact⟨m+z,Wm,Wm,nR _,Gn,y,t⟩;omega
 have p:=kD l
 have:m=n:=Wm
 subst this;have S:Xo (zb blE w.heap.size wr (O (Xa ⟨w.heap.size,0,Xb⟩) m m) (Xr m q)):=dD<|by have:=H.out;simpa using this
 go_wp2;go_ret;exact⟨_,rfl,S.new,G⟩
theorem zfX {w:Xn} {a:Option Nat} (h:zc w w1) (k:w1.grownBy w2 a):w.grownBy w2 a:=
 ⟨k.os.trans (Below.os h),k.tape.trans (Below.tape h),k.output.trans (Below.output h),nT (bS h) k.size,fun i c b=>(k.block i (Xs c (bS h)) b).trans (Below.block h i c)⟩
theorem zir (a:Option Addr) (c:Nat) (l:List Int) (n:Nat) (au:n<=12) (ar:l.length<=12) (base:Nat) (w:Xn) (b:zb blE base w (O a l.length c) l) (Z:base<=w.heap.size):
  Xp prog 189 #[O a l.length c,I6 (n:Int)] w fun e w'=>∃K u,e= Xl (O K n u)/\z3 blE base w' (O K n u) (jt l n)/\(∀x,K=Xa x->∃cs,w'.heap[x.block]? =Xa (Xk cs blE.ty (0,0)))/\w.grownBy w' (O a l.length c).ownBlock:=by
 have F:Xo (zb blE base w (O a l.length c) l):=b;obtain⟨a1,s⟩:=kA l.length;have W:Xo (∀x,a=Xa x->∃cs,w.heap[x.block]? =Xa (Xk cs blE.ty (0,0))):=show∀x,_ from fun x R=>b.obj (Rr R)
 by_cases i:n<=l.length
 ·have I:l.length<=c:=by
   rcases b.1.2 with⟨g,_⟩|⟨ae,L,M,g,_,_,ah,_⟩
   ·have h:=congrArg (fun U=>match U with | O _ n _=>n | _=>0) g
    simp at h
    simp[h]
   have h:=congrArg (fun U=>match U with | O _ _ n=>n | _=>0) g
   simp at h
   rw[h];exact ah
  have q:jt l n=l.take n:=by
   unfold jt;rw[show n - l.length=0 by omega]
   simp
  have t:Xo (z3 blE base w (O a n c) (jt l n)):=dD<|by
   obtain⟨⟨⟨x,u,aa,ab,ac⟩,aq⟩,ad⟩:=b.new;cases aa;rw[q];refine⟨⟨⟨a,c,by rw[Yo,Yb i],fun af=>by rw[ab af];simp,fun an aj al am a0=>?_⟩,?_⟩,fun x k u e=>?_⟩
   ·refine ac an aj al am ?_;rw[<-Yx n l,Xt,Xx (gS.1 a0).1];exact a0
   ·rw[Yo,Yb i]
    show n*8<=_
    omega
   cases e;exact ad x _ _ rfl
  have S:(n:Int)<=(l.length:Int):=Wm
  have ak:(n:Int)<=(c:Int):=Wm
  rw[s.out]at S⊢;clear b q
  rcases a with _|x
  ·have g:a1=0:=by
    rw[<-s.out];have h:=F.1.2
    rcases h with⟨g,ag⟩|⟨ae,L,M,g,_⟩
    ·exact ag
    cases g
   subst g;have Q:n=0:=Wm
   subst Q
   go_enter func189,ntmps189
   go_wp2;refine bodyPost_ret (v:= O Xb 0 c) (by simp[results,Tryz.results189,go_sem, *]) rfl ⟨_,_,rfl,t,W,World.grownBy.rfl' _ _⟩
  go_enter func189,ntmps189
  go_wp2;refine bodyPost_ret (v:= O (Xa x) n c) (by simp[results,Tryz.results189,go_sem, *]) rfl ⟨_,_,rfl,t,W,World.grownBy.rfl' _ _⟩
 obtain⟨k,ai⟩:∃k,n=l.length+k:=⟨n - l.length,Wm⟩
 have q:jt l n=l++Xr k (-1):=by
  unfold jt;rw[Xu Wm,show n - l.length=k by omega]
 have a5:Xo (jt l n=l++Xr k (-1)):=q;have N:1<=k:=Wm
 have P:k<=40:=Wm
 have S:¬(n:Int)<=(l.length:Int):=Wm
 have r:(n:Int) -(l.length:Int)=(k:Int):=Wm
 have a4:Xo (base<=w.heap.size):=Z;have j:Xo ((l.length+(Xr k (-1:Int)).length)*blE.bytes<=140737488355328):=show(_+_)*8<=_ by rw[lR];omega
 have B:Xo ((l++Xr k (-1:Int)).length=n):=dD<|by rw[lA,lR];omega
 rw[s.out]at S r j F⊢;clear b q Z i ai;obtain⟨G,f⟩:=kB (w.alloc (Xk #[I6 (-1)] 3));have A:=gA f
 have a8:Xo (zj blE G (O (Xa ⟨w.heap.size,0,Xb⟩) 1 1) [-1]):=dD<|by rw[<-f];exact Qs blE w (-1) _ _ rfl (by show 8<=_;omega)
 have D:Xo (_=G):=f;clear f
 go_enter func189,ntmps189
 go_wp2_with fail;rw[D.out];refine(zkS (-1) w.heap.size 1 k P N G a8).mono ?_;rintro e X ⟨a9,rfl,T,Y⟩;have y:=dD (A.trans Y);have t:Xo (zj blE X a9 (Xr k (-1))):=T.1;obtain⟨ao,ap,p,_⟩:=T.1.bB;rw[lR]at p;subst p;have a7:=dD (F.aA y);have z:Xo (base<=X.heap.size):=nT a4 (bS y);clear T Y
 go_wp2_with (at_builtin;refine zu (E:=blE) rfl (.tmp 12) (.tmp 18) rfl base _ l rfl a7 _ (Xr k (-1)) rfl t.out ?qb z.out ?_)
 case qb=>rw[s.out];exact j.out
 intro av H d m;obtain⟨V,a2,rfl⟩:=d.form;rw[B.out]at d⊢;have a6:Xo (z3 blE base H (O V n a2) (jt l n)):=dD<|Rx a5.out d.new
 have C:Xo (∀x,V=Xa x->∃cs,H.heap[x.block]? =Xa (Xk cs blE.ty (0,0))):=dD<|fun x R=>d.obj (Rr R)
 have a3:Xo (w.grownBy H (O a a1 c).ownBlock):=zfX y m;clear d m;go_wp2;refine bodyPost_ret (v:= O V n a2) (by simp[results,Tryz.results189,go_sem, *]) rfl ⟨_,_,rfl,a6,C,a3⟩
theorem z3.grown {α:Type} {E:Elt α} {base G:Nat} {w:Xn} {a:Option Addr} {n c:Nat} {l:List α} (h:z3 E base w (O a n c) l) (k:w.grownBy w' (Xa G)) (q:∀x,a=Xa x->x.block≠G):z3 E base w' (O a n c) l:=by
 obtain⟨⟨⟨v,y,g,i,j⟩,m⟩,p⟩:=h;cases g;refine⟨⟨⟨a,c,rfl,i,fun x s t u r=>?_⟩,m⟩,p⟩
 subst s;have d:=j x rfl t u r;have f:=World.block_lt_of_cell? _ _ d;have b:=q x rfl;rw[Ze]at f;rw[World.cell?_of_block (w:=w) (k.block _ (Rx Ze f) (fun e=>by rw[Ze]at e;cases e;exact b rfl))]
 exact d
theorem zjS {fs:List Fl} {a k:Int} (h:stW fs a≠0):zm6 fs a k=stW fs a:=by unfold zm6;rw[kF h]
theorem zg6 {fs:List Fl} {a k:Int} (h:stW fs a=0) (b:¬(0<=k/\k< (fs.length:Int))):zm6 fs a k=5:=by unfold zm6;rw[kE h,kF (Rx Qv b)]
theorem zb4 {fs:List Fl} {a:Int} {i:Nat} {f:Fl} (h:stW fs a=0) (b:fs[i]? =Xa f):zm6 fs a (i:Int)=0:=by
 have:=(gS.1 b).1;unfold zm6;rw[kE h,kE (Qv.2 ⟨Wm,Wm⟩)]
theorem zkP (v:Xq) (fs:List Fl) (a k n:Int) (w:Xn) (ac:z7 w v fs):
  Xp prog 153 #[Xi #[v,I6 a],I6 k,I6 n] w fun e w'=>∃b,e= Xl (Xm #[Xi #[b,I6 (zoM fs a k n)],I6 (zgj fs a k n)])/\qo 0 w.heap.size w' b (zkQ fs a k n)/\zc w w':=by
 have h:∀W,zc w W->Xp prog 188 #[Xi #[v,I6 a],I6 k] W fun e w'=>e= Xl (I6 (zm6 fs a k))/\zc W w':=fun W bx=>zcp v fs a k W (ac.aA bx)
 have a8:∀W,zc w W->Xp prog 54 #[Xi #[v,I6 a]] W fun e w'=>∃b,e= Xl (Xi #[b,I6 a])/\z4 (W.heap.size+2) w' b fs/\zc W w'/\W.heap.size+2<=w'.heap.size:=fun W bx=>JJ v fs a W (ac.aA bx)
 obtain⟨br,bt,rfl,b3,_⟩:=ac.rows;clear ac;obtain⟨A,a5⟩:=kA fs.length;rw[a5.out]at h a8 b3⊢;obtain⟨d7,L⟩:=kB ((w.alloc (Xk #[O br A bt,I6 a] 41)).alloc (Xk #[eS,I6 0] 41));have t:=gD2 L
 have d8:=x2a L
 have bp:=x2b L
 have aj:Xo (_=d7):=L;clear L;have T:∀az:Int,az≠0->(∀W,zc w W->Xp prog 188 #[Xi #[O br A bt,I6 a],I6 k] W fun e w'=>e= Xl (I6 az)/\zc W w')->Xp prog 153 #[Xi #[O br A bt,I6 a],I6 k,I6 n] w fun e w'=>∃b,e= Xl (Xm #[Xi #[b,I6 0],I6 az])/\qo 0 w.heap.size w' b []/\zc w w':=fun az dg h=>by
  have dh:(az != 0)=Xc:=Si dg
  clear a8
  go_enter func153,ntmps153
  go_wp2_with fail;rw[aj.out];refine(h _ t).mono ?_;rintro e c ⟨rfl,F⟩;have ax:=dD (t.trans F);have Q:=bp.aA F;obtain⟨cu,cv⟩:=Q.k2;have cw:=Q.f;clear F h;go_wp2;refine bodyPost_ret (v:= Xm #[Xi #[eS,I6 0],I6 az]) (by simp[results,Tryz.results153,go_sem, *]) rfl ⟨_,rfl,qo.nil _ _ _,?_⟩
  exact Below.setCell (Below.setCell ax (p:=⟨w.heap.size+1,0,Xb⟩) Sm _) (p:=⟨w.heap.size+1,1,Xb⟩) Sm _
 rcases zgG fs a k n with⟨P,U,K,V⟩|⟨P,ar,U,K,V⟩|⟨P,i,f,rfl,a9,aa,U,K,V⟩|⟨P,i,f,rfl,a9,aa,U,K,V⟩
 ·rw[U,K,V];rw[zjS P]at h;exact T _ P h
 ·rw[U,K,V];rw[zg6 P ar]at h;exact T _ Dc h
 ·rw[U,K,V];rw[zb4 P a9]at h;have bi:=fun W=>zau (m:=n) (n:=97) Wm W
  clear U K V a8 P aa T a9
  go_enter func153,ntmps153
  go_wp2_with fail;rw[aj.out];refine(h _ t).mono ?_;rintro e c ⟨rfl,F⟩;have ax:=dD (t.trans F);have Q:=bp.aA F;obtain⟨cu,cv⟩:=Q.k2;have cw:=Q.f;clear F h
  go_wp2_with (go_at_call 27;refine(bi _).mono ?_;rintro e w' ⟨rfl,rfl⟩)
  refine bodyPost_ret (v:= Xm #[Xi #[eS,I6 0],I6 3]) (by simp[results,Tryz.results153,go_sem, *]) rfl ⟨_,rfl,qo.nil _ _ _,?_⟩
  exact Below.setCell (Below.setCell ax (p:=⟨w.heap.size+1,0,Xb⟩) Sm _) (p:=⟨w.heap.size+1,1,Xb⟩) Sm _
 rw[U,K,V];rw[zb4 P a9]at h;have bi:=fun W=>Zd (m:=n) (n:=97) aa.1 Wm W
 have ao:=fun W=>zbM n W aa.1 aa.2
 have c2:=Qm aa.1 aa.2;obtain⟨l,c5⟩:∃l:Nat,jH n=(l:Int):=⟨(jH n).toNat,Wm⟩
 rw[c5]at ao;have d3:Xo ((jH n).toNat=l):=dD<|by rw[c5,tN]
 have b5:l<=12:=Wm
 rw[d3.out];have a2:=((zY fs a).1 P).2.1 f (mG a9);have c3:f.bl.length<=12:=by
  have:=Qm a2.1.1 a2.1.2;have:=a2.2.1;omega
 have a1:i<A:=by rw[<-a5.out];exact(gS.1 a9).1
 have cl:(i:Int)< (A:Int):=Wm
 have d2:Xo (fs[i]? =Xa f):=a9;clear U K V P aa T a9 a2 c2 c5
 go_enter func153,ntmps153
 go_wp2_with fail;rw[aj.out];refine(h _ t).mono ?_;rintro e c ⟨rfl,F⟩;have ax:=dD (t.trans F);have ci:=dD (d8.aA F);have Q:=dD (bp.aA F);obtain⟨dn,dp⟩:=ci.k2;clear F h
 go_wp2_with (go_at_call 27;refine(bi _).mono ?_;rintro e w' ⟨rfl,b7⟩;rw[b7];clear b7 w')
 refine(a8 _ ax).mono ?_;rintro e al ⟨b,rfl,cb,bv,cp⟩;have s:Xo (w.heap.size+2<=c.heap.size):=Q.lt;obtain⟨R,bj,b9,ca,cm⟩:=cb;obtain⟨x,q⟩:∃x,R[i]? =Xa x:=⟨_,gE (by rw[b9,a5.out];exact a1)⟩
 obtain⟨G,a6,rfl⟩:=bj.aJ (by rw[b9,a5.out];omega)
 rw[b9,a5.out]at bj⊢;obtain⟨cc,ay⟩:=ca i x f q d2.out;obtain⟨cf,B,dq,C⟩:=x;obtain⟨dk,dl,co⟩:=ay.form;have dj:O B dq C= O dk f.bl.length dl:=co;cases dj;have bn:Xo (R[i]? =Xa ⟨cf,B,f.bl.length,C⟩):=q;have d4:Xo (zb fvE (c.heap.size+2) al (O (Xa ⟨G,0,Xb⟩) A a6) R):=bj;have bo:Xo (R.length=fs.length):=b9;have d5:Xo (∀(i:Nat) x f,R[i]? =Xa x->fs[i]? =Xa f->x.size=f.size/\zb blE (c.heap.size+2) al x.v f.bl):=ca;have d6:Xo (∀(i ae:Nat) x ct,i≠ae->R[i]? =Xa x->R[ae]? =Xa ct->∀d,x.v.ownBlock=Xa d->ct.v.ownBlock≠Xa d):=cm;have cg:Xo (zb blE (c.heap.size+2) al (O B f.bl.length C) f.bl):=ay;have cz:=dD (ax.trans bv);have bm:Xo (c.heap.size+2<=al.heap.size):=cp;have bl:Xo (zc c al):=bv;clear bv cp a8 dn dp bj b9 ca cm cc ay co q bi;go_upto_region 7 with fail;obtain⟨a4,z⟩:=kB al.heap.size;obtain⟨S,Y⟩:=kB (al.alloc (Xk #[O (Xa ⟨G,0,Xb⟩) A a6,I6 a] 41));have r:=gA Y
 have b1:Xo (zl S a4 41 [O (Xa ⟨G,0,Xb⟩) A a6,I6 a]):=dD<|by rw[<-Y];exact zl.aE _ _ _ z.symm
 have d9:=dD ((Q.aA bl).aA r);have ai:Xo (c.heap.size+2<=a4):=show _<=_ by rw[<-z];exact bm.out
 have ah:Xo (a4<S.heap.size):=b1.box.lt;have d0:=dD (cz.trans r);have u:=dD (d4.aA r);have H:=dD (cg.aA r);rw[Y];rw[z];clear Y z;obtain⟨d,ap,dd,de,df,b4⟩:∃d,(∀D,(O B f.bl.length C).ownBlock=Xa D->D=d)/\d≠G/\d≠a4/\c.heap.size+2<=d/\((O B f.bl.length C).ownBlock=Xb->S.heap.size<=d):=by
  cases N:(O B f.bl.length C).ownBlock with
  | none=>exact⟨S.heap.size,fun D X=>(by cases X),Hm ((u.lt G rfl).2),Hm ah.out,by have:=ah.out;have:=ai.out;omega,fun _=>nR _⟩
  | some d=>
   refine⟨d,fun D X=>by cases X;rfl,fun e=>?_,fun e=>?_,(H.lt d N).1,fun X=>by cases X⟩
   ·subst e;exact H.apart u QC d N rfl
   exact H.ne b1 Dc d N e.symm
 obtain⟨I,af⟩:=Wq fun w=>Out d (d+1) S w
 have c9:=fun x:zq I=>(b1.box.out ((af _).1 x.holds) Wm).c 0 rfl
 have b8:∀x:zq I,x.world.cell? ⟨G,i*2+1,Xb⟩=Xa (O B f.bl.length C):=fun x=>by
  have N:=u.out.out ((af _).1 x.holds) (fun D j=>by simp[Value.ownBlock]at j;omega)
  obtain⟨dr,du,c8,au⟩:=N.at.rows;obtain⟨dt,bz,c1⟩:=au i _ bn.out;cases c8;cases bz;have:=c1 _ (zc.refl _) 1 _ rfl;rw[qO,Xv,zA]at this;exact this
 have c6:Nonempty (zq I):=⟨⟨S,(af _).2 (Out.refl _ _ _)⟩⟩;obtain⟨ba,ag⟩:=kA f.bl.length;rw[ag.out]at b8 ap b4 cg H bn;refine j1 (I:=I) 15 [(11,⟨fun v=>v=I6 (l:Int),fun _ _=>True,fun w w'=>w'=w,fun _=>True⟩),(12,⟨fun v=>∃bs a7,v= O bs l a7,fun v w'=>z3 blE (c.heap.size+2) w' v (jt f.bl l)/\∀x bk a7,v= O (Xa x) bk a7->∃bg,w'.heap[x.block]? =Xa (Xk bg blE.ty (0,0)),fun w w'=>w.grownBy w' (O B ba C).ownBlock,fun w=>zb blE (c.heap.size+2) w (O B ba C) f.bl/\c.heap.size+2<=w.heap.size⟩)] ((af _).2 (Out.drew _)) zW Kr rfl rfl Dc ?hS ?hp ?hpre ?hpr0 ?_
 case hS=>
  intro x q
  simp at q
  rcases q with rfl|rfl
  ·exact⟨_,rfl⟩
  exact⟨_,Xb,0,rfl⟩
 case hp=>
  intro k dm ae cq ar c4 aq _ v w w' av z
  rcases znj ar with⟨rfl,rfl⟩|⟨rfl,rfl⟩
  ·trivial
  rcases znj c4 with⟨rfl,rfl⟩|⟨rfl,rfl⟩
  ·have e:w'=w:=av;subst e;exact z
  exact absurd rfl aq
 case hpre=>
  intro ae cq k dm c4 ar aq w w' av a3
  rcases znj c4 with⟨rfl,rfl⟩|⟨rfl,rfl⟩
  ·trivial
  rcases znj ar with⟨rfl,rfl⟩|⟨rfl,rfl⟩
  ·have e:w'=w:=av;subst e;exact a3
  exact absurd rfl aq
 case hpr0=>
  intro k cq ar
  rcases znj ar with⟨rfl,rfl⟩|⟨rfl,rfl⟩
  ·trivial
  exact⟨H.aA (gW _),show c.heap.size+2<=S.heap.size by have:=ah.out;have:=ai.out;omega⟩
 simp only[Xy,Xz];iterate 11 refine qY ?_
 refine j9 rfl rfl (fun w' an a3 bh=>?_) (fun cr ac=>?_)
 ·refine zP.call [I6 n] rfl func149 rfl rfl rfl ?_;refine(ao w').mono ?_;rintro e ce ⟨rfl,K⟩;subst K;exact⟨_,rfl,an,rfl,rfl,trivial⟩
 obtain rfl:cr=I6 (l:Int):=ac;refine Uq ?_;refine j9 rfl rfl (fun w' an a3 bh=>?_) (fun cr ac=>?_)
 ·refine zP.call [O B ba C,I6 (l:Int)] rfl func189 rfl rfl rfl ?_;have ab:zb blE (c.heap.size+2) w' (O B ba C) f.bl/\c.heap.size+2<=w'.heap.size:=a3;have M:=zir B C f.bl l b5 c3 (c.heap.size+2) w' (Rx ag.out ab.1) ab.2
  rw[ag.out]at M;refine M.mono ?_;rintro e ce ⟨bs,a7,rfl,di,N,ck⟩;refine⟨_,rfl,(af _).2 (((af _).1 an).trans (Out.grown ck (fun D X=>Hm (ap D X)))),ck,⟨bs,a7,rfl⟩,di,fun x bk a7 e=>?_⟩
  cases e;exact N x rfl
 obtain⟨bb,bd,rfl⟩:=ac;refine Uq ?_;iterate 2 refine qY ?_
 refine zaj fun be b2 bh=>?_
 have am:z3 blE (c.heap.size+2) be (O bb l bd) (jt f.bl l)/\∀x bk a7,O bb l bd= O (Xa x) bk a7->∃bg,be.heap[x.block]? =Xa (Xk bg blE.ty (0,0)):=bh 12;have b0:Xo (Out d (d+1) S be):=(af _).1 b2;clear bh c9 b8 b2 c6 ao;have ak:Xo (zb fvE (c.heap.size+2) be (O (Xa ⟨G,0,Xb⟩) A a6) R):=u.out.out b0 (fun D j=>by simp[Value.ownBlock]at j;omega)
 refine qg (E:=fvE) rfl (.tmp 37) (.tmp 36) rfl (c.heap.size+2) _ R ak G i rfl ⟨n,bb,l,bd⟩ ?t1 ⟨G,i*2,Xb⟩ ?t2 rfl (Xi #[I6 n,O bb l bd]) ?t3 rfl ?_
 case t1=>rw[bo.out,a5.out];exact a1
 case t2=>rfl
 case t3=>rfl
 intro bf aw y cd;have bw:G≠a4:=fun e=>u.ne b1 Dc G rfl e.symm
 have dc:c.heap.size+2<=G:=(u.lt G rfl).1;have ch:Xo (Box bf a4 [O (Xa ⟨G,0,Xb⟩) A a6,I6 a]):=(b1.box.out b0 Wm).grown y (fun e=>bw e.symm)
 have bq:Xo (Box bf (w.heap.size+1) [eS,I6 0]):=(d9.out.out b0 (Hm s.out)).grown y (Hm s.out)
 have d1:Xo (zc w bf):=dD<|zd (Out.bK d0 (Hm s.out) b0) y (Hm s.out)
 have cx:Xo (qo 0 (c.heap.size+2) bf (O (Xa ⟨G,0,Xb⟩) A a6) (fs.set i ⟨n,jt f.bl l⟩)):=dD<|by
  refine⟨aw.cap,R.set i ⟨n,bb,l,bd⟩,aw.new.stays,by simp[bo.out],fun ae x da q Z=>?_⟩
  by_cases e:ae=i
  ·subst e;rw[sF (by rw[bo.out,a5.out];exact a1)]at q
   rw[sF (Rx a5.out a1)]at Z
   cases q;cases Z;refine⟨rfl,(am.1.grown y (fun x q db=>?_)).stays⟩
   subst q;obtain⟨bg,h⟩:=am.2 x _ _ rfl;obtain⟨dv,a8⟩:=ak.obj (g:=G) rfl;rw[db,a8]at h;simp only[Option.some.injEq,Obj.cells.injEq]at h;exact QC h.2.1.symm
  rw[sN (fun X=>e X.symm)]at q Z
  obtain⟨cc,ay⟩:=d5.out ae x da q Z;have cn:=(ay.aA r).out b0 (fun D j=>by
   have h:D≠d:=fun bu=>by
    subst bu
    cases N:(O B ba C).ownBlock with
    | none=>
     have a8:=b4 N;have dw:=((ay.aA r).lt D j).2;omega
    | some cj=>
     have:=ap cj N;subst this;exact d6 ae i x _ e q bn cj j N
   omega)
  exact⟨cc,(cn.grown y (fun D j bu=>by cases bu;exact ak.apart cn (Ne.symm QC) G rfl j)).new.stays⟩
 clear aw y cd am;obtain⟨dx,dy⟩:=ch.k2;obtain⟨cu,cv⟩:=bq.k2;have cw:=bq.f;have b6:a4≠w.heap.size+1:=by have:=ai.out;have:=s.out;omega
 have c7:¬w.heap.size+1=a4:=fun e=>b6 e.symm
 go_wp2;refine bodyPost_ret (v:= Xm #[Xi #[O (Xa ⟨G,0,Xb⟩) A a6,I6 a],I6 0]) (by simp[results,Tryz.results153,go_sem, *]) rfl ⟨_,rfl,?_,?_⟩
 ·have cy:=cx.less (A0:=0) (A1:=w.heap.size+2) (nR _) (Hm s.out)
  exact((cy.out (Out.setCell _ _ _ (p:=⟨w.heap.size+1,0,Xb⟩) (nZ _) Sm _)).out (Out.setCell _ _ _ (p:=⟨w.heap.size+1,1,Xb⟩) (nZ _) Sm _)).less (nR _) Wm
 exact Below.setCell (Below.setCell d1 (p:=⟨w.heap.size+1,0,Xb⟩) Sm _) (p:=⟨w.heap.size+1,1,Xb⟩) Sm _
theorem zeT {fs:List Fl} {m:Nat}:jI fs m=(Zp fs (m:Int)).map fun(b:Nat)=>(b:Int):=zlc fs m
theorem zjm (v fs) (d k x:Int) (w:Xn) (f:z7 w v fs):
  Xp prog 226 #[Xi #[v,I6 d],I6 k,I6 x] w fun e w'=>∃b,e= Xl (Xm #[Xi #[b,I6 (zkm fs d k x)],I6 (zjn fs d k x),I6 (Zh fs d k x)])/\qo 0 w.heap.size w' b (zh5 fs d k x)/\zc w w':=by
 have L:∀W,zc w W->Xp prog 188 #[Xi #[v,I6 d],I6 k] W fun e w'=>e= Xl (I6 (zm6 fs d k))/\zc W w':=fun W P=>zcp v fs d k W (f.aA P)
 have b7:∀W,zc w W->Xp prog 54 #[Xi #[v,I6 d]] W fun e w'=>∃b,e= Xl (Xi #[b,I6 d])/\z4 (W.heap.size+2) w' b fs/\zc W w'/\W.heap.size+2<=w'.heap.size:=fun W P=>JJ v fs d W (f.aA P)
 have ck:=dD f;obtain⟨g,c2,rfl,c,a⟩:=f.rows;have ca:=dD a;clear f a;obtain⟨D,Z⟩:=kA fs.length;rw[Z.out]at L b7 c ck⊢;obtain⟨c,a⟩:=kB ((w.alloc (Xk #[O g D c2,I6 d] 41)).alloc (Xk #[eS,I6 0] 41));have G:=gD2 a
 have ce:=x2a a
 have bz:=x2b a
 have ah:Xo (_=c):=a;clear a;have a9:∀z:Int,z≠0->(∀W,zc w W->Xp prog 188 #[Xi #[O g D c2,I6 d],I6 k] W fun e w'=>e= Xl (I6 z)/\zc W w')->Xp prog 226 #[Xi #[O g D c2,I6 d],I6 k,I6 x] w fun e w'=>∃b,e= Xl (Xm #[Xi #[b,I6 0],I6 0,I6 z])/\qo 0 w.heap.size w' b []/\zc w w':=fun z a L=>by
  have c:(z != 0)=Xc:=Si a
  clear b7
  go_enter func226,ntmps226
  go_wp2_with fail;rw[ah.out];refine(L _ G).mono ?_;rintro e N ⟨rfl,u⟩;have V:=dD (G.trans u);have X:=bz.aA u;obtain⟨cf,cg⟩:=X.k2;have ch:=X.f;clear u L;go_wp2;refine bodyPost_ret (v:= Xm #[Xi #[eS,I6 0],I6 0,I6 z]) (by simp[results,Tryz.results226,go_sem, *]) rfl ⟨_,rfl,qo.nil _ _ _,?_⟩
  exact Below.setCell (Below.setCell V (p:=⟨w.heap.size+1,0,Xb⟩) Sm _) (p:=⟨w.heap.size+1,1,Xb⟩) Sm _
 rcases zoq fs d k x with⟨M,I,a1,a2,a3⟩|⟨M,c,I,a1,a2,a3⟩|⟨M,j,t,rfl,z,h,I,a1,a2,a3⟩|⟨M,j,t,C,b,rfl,z,rfl,ap,a,f,I,a1,a2,a3⟩|⟨M,j,t,C,rfl,z,rfl,ap,aq,I,a1,a2,a3⟩|⟨M,j,t,C,b,cp,rfl,z,rfl,ap,aq,I,a1,a2,a3⟩
 ·rw[I,a1,a2,a3];rw[zjS M]at L;exact a9 _ M L
 ·rw[I,a1,a2,a3];rw[zg6 M c]at L;exact a9 _ Dc L
 ·rw[I,a1,a2,a3];rw[zb4 M z]at L;have a4:j<D:=by rw[<-Z.out];exact(gS.1 z).1
  have ao:(j:Int)< (D:Int):=Wm
  obtain⟨a8,y,bm,bn,a5,c⟩:=ca.out j t z;subst y;have s:=dD c;clear c a5 a9;obtain⟨K,g⟩:=kA t.bl.length;have bp:=dD z;clear z;rw[g.out]at s;have an:=fun W=>zau h W
  rw[g.out]at an;clear I a1 a2 a3 b7 M h
  go_enter func226,ntmps226
  go_wp2_with fail;rw[ah.out];refine(L _ G).mono ?_;rintro e N ⟨rfl,u⟩;have V:=dD (G.trans u);have b5:=(ce.aA u).c 0 rfl;obtain⟨bs,ak⟩:=s.out N V.out;have X:=bz.aA u;obtain⟨cf,cg⟩:=X.k2;have ch:=X.f;clear u L
  go_wp2_with (go_at_call 27;refine(an _).mono ?_;rintro e w' ⟨rfl,B⟩;rw[B];clear B w')
  refine bodyPost_ret (v:= Xm #[Xi #[eS,I6 0],I6 0,I6 9]) (by simp[results,Tryz.results226,go_sem, *]) rfl ⟨_,rfl,qo.nil _ _ _,?_⟩
  exact Below.setCell (Below.setCell V (p:=⟨w.heap.size+1,0,Xb⟩) Sm _) (p:=⟨w.heap.size+1,1,Xb⟩) Sm _
 ·rw[I,a1,a2,a3];rw[zb4 M z]at L;have a4:j<D:=by rw[<-Z.out];exact(gS.1 z).1
  have ao:(j:Int)< (D:Int):=Wm
  obtain⟨a8,y,bm,bn,a5,c⟩:=ca.out j t z;subst y;have s:=dD c;clear c a5 a9;obtain⟨K,g⟩:=kA t.bl.length;have bp:=dD z;clear z;rw[g.out]at s;have b8:C<K:=by rw[<-g.out];exact(gS.1 ap).1
  have c4:(C:Int)< (K:Int):=Wm
  have an:=fun W=>Zd (m:=(C:Int)) (n:=(K:Int)) Wm Wm W
  have bv:=dD ap;have h:(b == -1)=Xd:=by simp;omega
  clear a f;clear I a1 a2 a3 M ap
  go_enter func226,ntmps226
  go_wp2_with fail;rw[ah.out];refine(L _ G).mono ?_;rintro e N ⟨rfl,u⟩;have V:=dD (G.trans u);have aj:=dD (ce.aA u);have X:=dD (bz.aA u);obtain⟨b5,b9⟩:=aj.k2;obtain⟨bs,ak⟩:=s.out N V.out;clear u L
  go_wp2_with (go_at_call 27;refine(an _).mono ?_;rintro e w' ⟨rfl,B⟩;rw[B];clear B w')
  refine(b7 _ V).mono ?_;rintro e ai ⟨cm,rfl,ax,al,bb⟩;have F:Xo (w.heap.size+2<=N.heap.size):=X.lt;obtain⟨bo,a6,T,aw,ba⟩:=ax;obtain⟨U,av⟩:∃U,bo[j]? =Xa U:=⟨_,gE (by rw[T,Z.out];exact a4)⟩
  obtain⟨Y,ac,rfl⟩:=a6.aJ (by rw[T,Z.out];omega)
  rw[T,Z.out]at a6⊢;obtain⟨b4,ab⟩:=aw j U t av bp.out;obtain⟨b0,c8,c9,az⟩:=U;obtain⟨r,c7,ay⟩:=ab.aJ (by rw[g.out];omega)
  rw[g.out]at ay;have c6:O c8 c9 az= O (Xa ⟨r,0,Xb⟩) K c7:=ay;cases c6;have be:=dD av;have bf:Xo (b0=t.size):=b4;have bq:=dD a6;have cb:=dD T;have cc:=dD aw;have cd:=dD ba;have bx:Xo (zb blE (N.heap.size+2) ai (O (Xa ⟨r,0,Xb⟩) K az) t.bl):=ab;have bu:=dD (V.trans al);have ag:=dD bb;have Q:=dD al;clear al bb b7 b5 b9 bs ak a6 T aw ba b4 ab ay av an;go_upto_region 7 with fail;obtain⟨aa,q⟩:=kB ai.heap.size;obtain⟨S,l⟩:=kB (ai.alloc (Xk #[O (Xa ⟨Y,0,Xb⟩) D ac,I6 d] 41));have f:=gA l
  have b2:Xo (zl S aa 41 [O (Xa ⟨Y,0,Xb⟩) D ac,I6 d]):=dD<|by rw[<-l];exact zl.aE _ _ _ q.symm
  have br:=dD ((aj.aA Q).aA f);have bg:=dD ((X.aA Q).aA f);have b6:Xo (N.heap.size+2<=aa):=show _<=_ by rw[<-q];exact ag.out
  have bw:=dD b2.box.lt;have bd:=dD (bu.trans f);have a7:=dD (bq.aA f);have R:=dD (bx.aA f);rw[l];rw[q];clear l q;have af:Xo (∀W,zc S W->W.cell? ⟨Y,j*2+1,Xb⟩=Xa (O (Xa ⟨r,0,Xb⟩) K az)):=show∀W,_ from fun W P=>by
   obtain⟨bh,bi,i,a⟩:=(a7.aA P).at.rows;obtain⟨a8,h,c⟩:=a j _ be.out;cases i;cases h;have:=c _ (zc.refl _) 1 _ rfl;rw[qO,Xv,zA]at this;exact this
  have ae:Xo (∀W,zc S W->W.cell? ⟨r,C,Xb⟩=Xa (I6 b)):=dD<|fun W P=>by
   obtain⟨bh,bi,i,a⟩:=(R.aA P).at.bB;obtain⟨a8,h,c⟩:=a C _ bv.out;cases i;cases h;have:=c _ (zc.refl _);rw[Xv,zA]at this;exact this
  have c5:=b2.box.c 0 rfl;have ak:=af.out S (zc.refl _);have c3:=ae.out S (zc.refl _);have A:=dD<|(z4.aA ⟨bo,bq,cb,cc,cd⟩ f).new
  have cq:=b2.box.c 1 rfl;obtain⟨cf,cg⟩:=bg.k2;have ch:=bg.f;have ar:aa≠w.heap.size+1:=by have:=b6.out;have:=F.out;omega
  have bk:¬w.heap.size+1=aa:=fun e=>ar e.symm
  have au:r≠w.heap.size+1:=by have:=(R.lt r rfl).1;have:=F.out;omega
  have bl:¬w.heap.size+1=r:=fun e=>au e.symm
  go_wp2
  go_region
  all_goals go_wp2
  all_goals
   refine bodyPost_ret (v:= Xm #[Xi #[O (Xa ⟨Y,0,Xb⟩) D ac,I6 d],I6 b,I6 0]) (by simp[results,Tryz.results226,go_sem, *]) rfl ⟨_,rfl,?_,?_⟩
   ·have ci:=A.less (A0:=0) (A1:=w.heap.size+2) (nR _) (Hm F.out)
    exact(((ci.out (Out.setCell _ _ _ (p:=⟨w.heap.size+1,0,Xb⟩) (nZ _) Sm _)).out (Out.setCell _ _ _ (p:=⟨w.heap.size+1,1,Xb⟩) (nZ _) Sm _)).less (nR _) Wm).aA (gW _)
   exact(Below.setCell (Below.setCell bd (p:=⟨w.heap.size+1,0,Xb⟩) Sm _) (p:=⟨w.heap.size+1,1,Xb⟩) Sm _).drew
 ·rw[I,a1,a2,a3];rw[zb4 M z]at L;have a4:j<D:=by rw[<-Z.out];exact(gS.1 z).1
  have ao:(j:Int)< (D:Int):=Wm
  obtain⟨a8,y,bm,bn,a5,c⟩:=ca.out j t z;subst y;have s:=dD c;clear c a5 a9;obtain⟨K,g⟩:=kA t.bl.length;have bp:=dD z;clear z;rw[g.out]at s;have b8:C<K:=by rw[<-g.out];exact(gS.1 ap).1
  have c4:(C:Int)< (K:Int):=Wm
  have an:=fun W=>Zd (m:=(C:Int)) (n:=(K:Int)) Wm Wm W
  have bv:=dD ap;obtain⟨H,bj⟩:∃H:Nat,d=(H:Int):=⟨d.toNat,by have:=((zY fs d).1 M).1;omega⟩
  subst bj;have A:H<=80:=by have:=((zY fs (H:Int)).1 M).1;omega
  have b3:∀W,zc w W->Xp prog 239 #[Xi #[O (Xa a8) D c2,I6 (H:Int)]] W fun e w'=>∃b,e= Xl b/\zb blE (W.heap.size+1) w' b (jI fs H)/\zc W w':=fun W P=>zjW _ fs H A W (ck.aA P)
  rw[zeT,aq]at b3;clear A aq;simp only[Yp]at b3;clear I a1 a2 a3 M ap
  go_enter func226,ntmps226
  go_wp2_with fail;rw[ah.out];refine(L _ G).mono ?_;rintro e N ⟨rfl,u⟩;have V:=dD (G.trans u);have aj:=dD (ce.aA u);have X:=dD (bz.aA u);obtain⟨b5,b9⟩:=aj.k2;obtain⟨bs,ak⟩:=s.out N V.out;clear u L
  go_wp2_with (go_at_call 27;refine(an _).mono ?_;rintro e w' ⟨rfl,B⟩;rw[B];clear B w')
  refine(b7 _ V).mono ?_;rintro e ai ⟨cm,rfl,ax,al,bb⟩;have F:Xo (w.heap.size+2<=N.heap.size):=X.lt;obtain⟨bo,a6,T,aw,ba⟩:=ax;obtain⟨U,av⟩:∃U,bo[j]? =Xa U:=⟨_,gE (by rw[T,Z.out];exact a4)⟩
  obtain⟨Y,ac,rfl⟩:=a6.aJ (by rw[T,Z.out];omega)
  rw[T,Z.out]at a6⊢;obtain⟨b4,ab⟩:=aw j U t av bp.out;obtain⟨b0,c8,c9,az⟩:=U;obtain⟨r,c7,ay⟩:=ab.aJ (by rw[g.out];omega)
  rw[g.out]at ay;have c6:O c8 c9 az= O (Xa ⟨r,0,Xb⟩) K c7:=ay;cases c6;have be:=dD av;have bf:Xo (b0=t.size):=b4;have bq:=dD a6;have cb:=dD T;have cc:=dD aw;have cd:=dD ba;have bx:Xo (zb blE (N.heap.size+2) ai (O (Xa ⟨r,0,Xb⟩) K az) t.bl):=ab;have bu:=dD (V.trans al);have ag:=dD bb;have Q:=dD al;clear al bb b7 b5 b9 bs ak a6 T aw ba b4 ab ay av an;go_upto_region 7 with fail;obtain⟨aa,q⟩:=kB ai.heap.size;obtain⟨S,l⟩:=kB (ai.alloc (Xk #[O (Xa ⟨Y,0,Xb⟩) D ac,I6 (H:Int)] 41));have f:=gA l
  have b2:Xo (zl S aa 41 [O (Xa ⟨Y,0,Xb⟩) D ac,I6 (H:Int)]):=dD<|by rw[<-l];exact zl.aE _ _ _ q.symm
  have br:=dD ((aj.aA Q).aA f);have bg:=dD ((X.aA Q).aA f);have b6:Xo (N.heap.size+2<=aa):=show _<=_ by rw[<-q];exact ag.out
  have bw:=dD b2.box.lt;have bd:=dD (bu.trans f);have a7:=dD (bq.aA f);have R:=dD (bx.aA f);rw[l];rw[q];clear l q;have af:Xo (∀W,zc S W->W.cell? ⟨Y,j*2+1,Xb⟩=Xa (O (Xa ⟨r,0,Xb⟩) K az)):=show∀W,_ from fun W P=>by
   obtain⟨bh,bi,i,a⟩:=(a7.aA P).at.rows;obtain⟨a8,h,c⟩:=a j _ be.out;cases i;cases h;have:=c _ (zc.refl _) 1 _ rfl;rw[qO,Xv,zA]at this;exact this
  have ae:Xo (∀W,zc S W->W.cell? ⟨r,C,Xb⟩=Xa (I6 (-1))):=dD<|fun W P=>by
   obtain⟨bh,bi,i,a⟩:=(R.aA P).at.bB;obtain⟨a8,h,c⟩:=a C _ bv.out;cases i;cases h;have:=c _ (zc.refl _);rw[Xv,zA]at this;exact this
  have c5:=b2.box.c 0 rfl;have ak:=af.out S (zc.refl _);have c3:=ae.out S (zc.refl _);obtain⟨b5,b9⟩:=br.k2;go_wp2_with fail;refine(b3 _ bd).mono ?_;rintro e cl ⟨co,rfl,bt,am⟩;obtain⟨c1,cn,rfl⟩:=bt.form;have cj:=dD (bd.trans am);have c1:=dD (bg.aA am);clear bt am b3 b5 b9 c5 ak c3;obtain⟨cf,cg⟩:=c1.k2;have ch:=c1.f;simp only[List.length_nil];go_wp2;refine bodyPost_ret (v:= Xm #[Xi #[eS,I6 0],I6 0,I6 10]) (by simp[results,Tryz.results226,go_sem, *]) rfl ⟨_,rfl,qo.nil _ _ _,?_⟩
  exact Below.setCell (Below.setCell cj (p:=⟨w.heap.size+1,0,Xb⟩) Sm _) (p:=⟨w.heap.size+1,1,Xb⟩) Sm _
 rw[I,a1,a2,a3];rw[zb4 M z]at L;have a4:j<D:=by rw[<-Z.out];exact(gS.1 z).1
 have ao:(j:Int)< (D:Int):=Wm
 obtain⟨a8,y,bm,bn,a5,c⟩:=ca.out j t z;subst y;have s:=dD c;clear c a5 a9;obtain⟨K,g⟩:=kA t.bl.length;have bp:=dD z;clear z;rw[g.out]at s;have b8:C<K:=by rw[<-g.out];exact(gS.1 ap).1
 have c4:(C:Int)< (K:Int):=Wm
 have an:=fun W=>Zd (m:=(C:Int)) (n:=(K:Int)) Wm Wm W
 have bv:=dD ap;obtain⟨H,bj⟩:∃H:Nat,d=(H:Int):=⟨d.toNat,by have:=((zY fs d).1 M).1;omega⟩
 subst bj;have A:H<=80:=by have:=((zY fs (H:Int)).1 M).1;omega
 have b3:∀W,zc w W->Xp prog 239 #[Xi #[O (Xa a8) D c2,I6 (H:Int)]] W fun e w'=>∃b,e= Xl b/\zb blE (W.heap.size+1) w' b (jI fs H)/\zc W w':=fun W P=>zjW _ fs H A W (ck.aA P)
 rw[zeT,aq]at b3;clear A aq;rw[mP]at b3;obtain⟨A,d⟩:=kA ((b:Int) ::(cp.map fun(b:Nat)=>(b:Int)))
 rw[d.out]at b3;have z:Xo (A[0]? =Xa (b:Int)):=dD<|by rw[<-d.out];rfl
 have y:Xo (0<A.length):=dD<|by rw[<-d.out];simp
 clear I a1 a2 a3 M ap
 go_enter func226,ntmps226
 go_wp2_with fail;rw[ah.out];refine(L _ G).mono ?_;rintro e N ⟨rfl,u⟩;have V:=dD (G.trans u);have aj:=dD (ce.aA u);have X:=dD (bz.aA u);obtain⟨b5,b9⟩:=aj.k2;obtain⟨bs,ak⟩:=s.out N V.out;clear u L
 go_wp2_with (go_at_call 27;refine(an _).mono ?_;rintro e w' ⟨rfl,B⟩;rw[B];clear B w')
 refine(b7 _ V).mono ?_;rintro e ai ⟨cm,rfl,ax,al,bb⟩;have F:Xo (w.heap.size+2<=N.heap.size):=X.lt;obtain⟨bo,a6,T,aw,ba⟩:=ax;obtain⟨U,av⟩:∃U,bo[j]? =Xa U:=⟨_,gE (by rw[T,Z.out];exact a4)⟩
 obtain⟨Y,ac,rfl⟩:=a6.aJ (by rw[T,Z.out];omega)
 rw[T,Z.out]at a6⊢;obtain⟨b4,ab⟩:=aw j U t av bp.out;obtain⟨b0,c8,c9,az⟩:=U;obtain⟨r,c7,ay⟩:=ab.aJ (by rw[g.out];omega)
 rw[g.out]at ay;have c6:O c8 c9 az= O (Xa ⟨r,0,Xb⟩) K c7:=ay;cases c6;have be:=dD av;have bf:Xo (b0=t.size):=b4;have bq:=dD a6;have cb:=dD T;have cc:=dD aw;have cd:=dD ba;have bx:Xo (zb blE (N.heap.size+2) ai (O (Xa ⟨r,0,Xb⟩) K az) t.bl):=ab;have bu:=dD (V.trans al);have ag:=dD bb;have Q:=dD al;clear al bb b7 b5 b9 bs ak a6 T aw ba b4 ab ay av an;go_upto_region 7 with fail;obtain⟨aa,q⟩:=kB ai.heap.size;obtain⟨S,l⟩:=kB (ai.alloc (Xk #[O (Xa ⟨Y,0,Xb⟩) D ac,I6 (H:Int)] 41));have f:=gA l
 have b2:Xo (zl S aa 41 [O (Xa ⟨Y,0,Xb⟩) D ac,I6 (H:Int)]):=dD<|by rw[<-l];exact zl.aE _ _ _ q.symm
 have br:=dD ((aj.aA Q).aA f);have bg:=dD ((X.aA Q).aA f);have b6:Xo (N.heap.size+2<=aa):=show _<=_ by rw[<-q];exact ag.out
 have bw:=dD b2.box.lt;have bd:=dD (bu.trans f);have a7:=dD (bq.aA f);have R:=dD (bx.aA f);rw[l];rw[q];clear l q;have af:Xo (∀W,zc S W->W.cell? ⟨Y,j*2+1,Xb⟩=Xa (O (Xa ⟨r,0,Xb⟩) K az)):=show∀W,_ from fun W P=>by
  obtain⟨bh,bi,i,a⟩:=(a7.aA P).at.rows;obtain⟨a8,h,c⟩:=a j _ be.out;cases i;cases h;have:=c _ (zc.refl _) 1 _ rfl;rw[qO,Xv,zA]at this;exact this
 have ae:Xo (∀W,zc S W->W.cell? ⟨r,C,Xb⟩=Xa (I6 (-1))):=dD<|fun W P=>by
  obtain⟨bh,bi,i,a⟩:=(R.aA P).at.bB;obtain⟨a8,h,c⟩:=a C _ bv.out;cases i;cases h;have:=c _ (zc.refl _);rw[Xv,zA]at this;exact this
 have c5:=b2.box.c 0 rfl;have ak:=af.out S (zc.refl _);have c3:=ae.out S (zc.refl _);obtain⟨b5,b9⟩:=br.k2;go_wp2_with fail;refine(b3 _ bd).mono ?_;rintro e cl ⟨co,rfl,bt,am⟩;obtain⟨d,cn,rfl⟩:=bt.aJ y.out;have Q:cl.cell? ⟨d,0,Xb⟩=Xa (I6 (b:Int)):=by
  obtain⟨bh,bi,i,a⟩:=bt.at.bB;obtain⟨a8,h,c⟩:=a 0 _ z.out;cases i;cases h;have:=c _ (zc.refl _);rw[Xv,zA]at this;exact this
 have cj:=dD (bd.trans am);have z:=dD am;have l:=dD (R.aA am);have u:=dD (a7.aA am);have B:=dD (b2.aA am);have c1:=dD (bg.aA am);have d:=(R.lt r rfl).1;obtain⟨q,d⟩:=kA A.length;have s:0<q:=Ry d.out y.out
 have s:(0:Int)< (q:Int):=Wm
 have s:((q:Int) == 0)=Xd:=by simp;omega
 rw[d.out];clear bt am b3 b5 b9 c5 ak c3
 go_wp2_with (refine qg (E:=blE) rfl (.tmp 55) (.tmp 54) rfl (N.heap.size+2) _ t.bl l r C rfl (b:Int) ?t1 ⟨r,C,Xb⟩ rfl ?t2 (I6 (b:Int)) rfl rfl ?_)
 case t1=>rw[g.out];exact b8
 case t2=>show _=Addr.mk r (C*1) Xb;rw[Nat.mul_one]
 intro y s d _;have A:=dD s;have L:Xo (Box y aa [O (Xa ⟨Y,0,Xb⟩) D ac,I6 (H:Int)]):=B.box.grown d (fun e=>l.ne B Dc r rfl e)
 have B:Xo (Box y (w.heap.size+1) [eS,I6 0]):=c1.grown d (Hm F.out)
 have P:Xo (zc w y):=dD<|zd cj d (Hm F.out)
 have M:Xo (qo 0 (N.heap.size+2) y (O (Xa ⟨Y,0,Xb⟩) D ac) (fs.set j ⟨t.size,t.bl.set C (b:Int)⟩)):=dD<|by
  have t:=u.grown d (fun R q G=>by cases G;exact u.apart l (Ne.symm QC) r q rfl)
  refine⟨t.cap,bo,t.new.stays,by simp[cb.out],fun K U N t l=>?_⟩
  by_cases e:K=j
  ·subst e;rw[sF (Rx Z.out a4)]at l
   rw[be.out]at t;cases t;cases l;exact⟨bf,A.new.stays⟩
  rw[sN (fun u=>e u.symm)]at l
  obtain⟨b4,ab⟩:=cc.out K U N t l;have l:=ab.aA (f.trans z);exact⟨b4,(l.grown d (fun R q G=>by cases G;exact cd j K _ U (fun u=>e u.symm) be t r rfl q)).new.stays⟩
 have c3:y.cell? ⟨r,C,Xb⟩=Xa (I6 (b:Int)):=by
  obtain⟨bh,bi,i,a⟩:=s.at.bB;obtain⟨a8,h,c⟩:=a C (b:Int) (by rw[sF (Rx g.out b8)])
  cases i;cases h;have:=c _ (zc.refl _);rw[Xv,zA]at this;exact this
 clear s d Q;obtain⟨c5,cq⟩:=L.k2;obtain⟨cf,cg⟩:=B.k2;have ch:=B.f;have ar:aa≠w.heap.size+1:=by have:=b6.out;have:=F.out;omega
 have bk:¬w.heap.size+1=aa:=fun e=>ar e.symm
 have au:r≠w.heap.size+1:=Hm F.out
 have bl:¬w.heap.size+1=r:=fun e=>au e.symm
 go_wp2
 go_region
 all_goals go_wp2
 all_goals
  refine bodyPost_ret (v:= Xm #[Xi #[O (Xa ⟨Y,0,Xb⟩) D ac,I6 (H:Int)],I6 (b:Int),I6 0]) (by simp[results,Tryz.results226,go_sem, *]) rfl ⟨_,rfl,?_,?_⟩
  ·have ci:=M.less (A0:=0) (A1:=w.heap.size+2) (nR _) (Hm F.out)
   exact(((ci.out (Out.setCell _ _ _ (p:=⟨w.heap.size+1,0,Xb⟩) (nZ _) Sm _)).out (Out.setCell _ _ _ (p:=⟨w.heap.size+1,1,Xb⟩) (nZ _) Sm _)).less (nR _) Wm).aA (gW _)
  exact(Below.setCell (Below.setCell P (p:=⟨w.heap.size+1,0,Xb⟩) Sm _) (p:=⟨w.heap.size+1,1,Xb⟩) Sm _).drew
variable{X:Nat->Prop}
section
variable{w0 w w1 w2:Xn} {p:Nat} {V:MaV} {m:Ma}
theorem ChW.setFl (h:ChW w0 X p w V m) {b:Sli} {fl:List Fl} {c:Int} (d:zc w w1) (g:w.heap.size<=B) (f:qo 0 B w1 (b.x) fl) (e:w1.grownBy w2 (Xa p)) (a:zl w2 p 88 (chL { V with fl:=b } { m with fl:=fl,cnt:=c })):zaJ w0 X p w V { m with fl:=fl,cnt:=c } w2:=
 h.fieldC (V':={ V with fl:=b }) (m':={ m with fl:=fl,cnt:=c }) d e rfl rfl rfl rfl rfl rfl a (fun W _ a r=>⟨r.sl,r.sb,r.sq,r.db,r.dq,(f.out ⟨a.os,a.tape,a.output,a.size,fun k d e=>a.block k d (fun e=>Hm (h.drt k e))⟩).bQ⟩)
theorem ChW.bT (h:ChW w0 X p w V m) {d q:Sli} {a:List (List Int)} {b:List (Int × List Int)} (e:zc w w1) (i:w.heap.size<=B) (g:zO B w1 (Xi #[d.x,q.x]) a b) (f:w1.grownBy w2 (Xa p)) (c:zl w2 p 88 (chL { V with db:=d,dq:=q } { m with db:=a,dq:=b })):zaJ w0 X p w V { m with db:=a,dq:=b } w2:=
 h.fieldC (V':={ V with db:=d,dq:=q }) (m':={ m with db:=a,dq:=b }) e f rfl rfl rfl rfl rfl rfl c (fun W _ b r=>by
  have k:=(g.aN (fun k a=>Hm (h.drt k a)) b).rows
  exact⟨r.sl,r.sb,r.sq,k.1,k.2,r.fl⟩)
end
def wrM (m:Ma) (pg:List Int) (file idx:Int):Ma:=
 if Zh m.fl m.cnt file idx=0 then{ m with fl:=zh5 m.fl m.cnt file idx,cnt:=zkm m.fl m.cnt file idx,db:=qt m.db m.dq (zjn m.fl m.cnt file idx),dq:=qr m.db m.dq (zjn m.fl m.cnt file idx) pg }else m
theorem JZ {w:Xn} {p:Nat} (a:ChW w0 X p w V m) (pg:List Int) (hp:pg.length=8) (file idx:Int):
  Xp prog 194 #[Xj (Xa ⟨p,0,Xb⟩),Xi (pgc pg).toArray,I6 file,I6 idx] w fun e w'=>e= Xl (Xh (decide (Zh m.fl m.cnt file idx=0)))/\zaJ w0 X p w V (wrM m pg file idx) w':=by
 have t:=dD a;obtain⟨E,c⟩:=kA (Zh m.fl m.cnt file idx);obtain⟨C,q⟩:=kA (zkm m.fl m.cnt file idx);obtain⟨B,f⟩:=kA (zjn m.fl m.cnt file idx);have z:Xo (∀W,zc w W->Xp prog 226 #[Xi #[V.fl.x,I6 m.cnt],I6 file,I6 idx] W fun e w'=>∃b:Sli,e= Xl (Xm #[Xi #[b.x,I6 C],I6 B,I6 E])/\qo 0 W.heap.size w' (b.x) (zh5 m.fl m.cnt file idx)/\zc W w'):=show∀W,_ from fun W D=>by
  rw[<-c.out,<-q.out,<-f.out];refine(zjm _ m.fl m.cnt file idx W (a.at.aA D).fl).mono ?_;rintro e w' ⟨b,rfl,A,G⟩;obtain⟨d,H,rfl,_⟩:=z7.rows A.bQ;exact⟨⟨d,_,H⟩,rfl,A,G⟩
 have s:Xo (E=0->wrM m pg file idx={({ m with fl:=zh5 m.fl m.cnt file idx,cnt:=C }:Ma)with db:=qt m.db m.dq B,dq:=qr m.db m.dq B pg }):=dD<|fun a=>by
  unfold wrM;rw[kE (c.trans a),q.out,f.out]
 have v:Xo (E≠0->wrM m pg file idx=m):=dD<|fun a=>by
  unfold wrM;rw[kF (fun e=>a (c.symm.trans e))]
 rw[c.out];obtain⟨R,c⟩:=kA (decide (E=0));rw[c.out];have F:p<w.heap.size:=a.aM p (.inl rfl);obtain⟨N,x⟩:=kA (wrM m pg file idx);rw[x.out]at s v⊢;obtain⟨g,h,i,j,k,l,n,r,d⟩:=zba pg hp;have u:=dD d;have y:pgc pg=[U8 g,U8 h,U8 i,U8 j,U8 k,U8 l,U8 n,U8 r]:=Rr d
 rw[y];clear a hp d y;obtain⟨b,f⟩:=kA w.heap.size;obtain⟨K,a⟩:=kB (w.alloc (Xk #[U8 g,U8 h,U8 i,U8 j,U8 k,U8 l,U8 n,U8 r] 91));have d:=gA a
 have L:=xP a f
 have y:=dD a;clear a;rw[f.out]at F
 go_enter func194,ntmps194
 go_upto_region 1 with fail;rw[y.out,f.out];have f:=(t.box.box.aA d).c 7 rfl;have y:=(t.box.box.aA d).c 8 rfl;have a:=z.out K d.out;go_wp2_with fail;refine a.mono ?_;clear a f y;rintro e F ⟨y,rfl,A,z⟩;have M:=dD A;have f:=dD z;clear A z;go_upto_region 2 with fail;obtain⟨H,q⟩:=kA F.heap.size;obtain⟨a,a⟩:=kB (F.alloc (Xk #[y.x,I6 C] 41));have A:=gA a
 have H:=xP a q
 rw[a,q.out];clear a
 by_cases a:E=0
 rotate_left
 ·have q:(E != 0)=Xc:=by simp[a]
  have F:=dD<|c.symm.trans (decide_eq_false a);have x:=dD<|v.out a;clear a;go_wp2;go_ret;exact⟨Rr F.out,by rw[x.out];exact zaJ.refl t (d.trans (f.trans A))⟩
 have q:(E != 0)=Xd:=by simp[a]
 have F:=dD<|c.symm.trans (decide_eq_true a);have x:=dD<|s.out a;clear a;have c:=dD (d.trans (f.trans A));obtain⟨P,Q⟩:=H.k2;have a:=dD (t.box.aA c)
 go_upto_region 5 with(refine qK rfl 41 (.tmp 30) (.tmp 27) rfl p 7 rfl (Xi #[y.x,I6 C]) rfl [y.x,I6 C] rfl a (by simp[chL]) Kr (by simp[Value.oneCell']) ?_)
 intro s v a _;have N:Xo (Box s b [U8 g,U8 h,U8 i,U8 j,U8 k,U8 l,U8 n,U8 r]):=dD<|(L.aA (f.trans A)).grown a Wm
 obtain⟨f,K,y,L,H⟩:=t.setFl c (bS d) (M.aA A) a v;have Z:=dD K;have E:=dD y;have a0:=dD L;have Y:=dD H;have T:Xo (∀W,zc s W->Xp prog 185 #[Xi #[f.db.x,f.dq.x],I6 B,Xi #[U8 g,U8 h,U8 i,U8 j,U8 k,U8 l,U8 n,U8 r]] W fun e w'=>∃d q:Sli,e= Xl (Xm #[Xi #[d.x,q.x],I6 (zg m.db.length m.dq B)])/\zO W.heap.size w' (Xi #[d.x,q.x]) (qt m.db m.dq B) (qr m.db m.dq B pg)/\zc W w'):=show∀W,_ from fun W D=>by
  have c:=zc7 (Xi #[f.db.x,f.dq.x]) m.db m.dq B pg (Rr u.out) W ⟨_,_,rfl,(y.at.aA D).db,(y.at.aA D).dq⟩
  rw[show pgc pg=[U8 g,U8 h,U8 i,U8 j,U8 k,U8 l,U8 n,U8 r] by rw[u.out];rfl]at c
  refine c.mono ?_;rintro e w' ⟨c,rfl,c,G⟩;obtain⟨d,q,rfl,_,_⟩:=c.form;exact⟨d,q,rfl,c,G⟩
 have c:p<s.heap.size:=y.aM p (.inl rfl);clear v a y L H K P Q;try simp only[Ym]
 go_upto_region 5 with fail;obtain⟨S,a⟩:=kA (zg m.db.length m.dq B);rw[a.out]at T;obtain⟨a,c⟩:=Wq fun u=>Box u b [U8 g,U8 h,U8 i,U8 j,U8 k,U8 l,U8 n,U8 r]
 have t:=(c _).2 (N.aA (gW _))
 have A:zc s s.drew:=show Below _ _ _ from(bR _ _).drew
 have H:=fun y:zq a=>((c _).1 y.holds).c 0 rfl
 have K:=fun y:zq a=>((c _).1 y.holds).c 1 rfl
 have L:=fun y:zq a=>((c _).1 y.holds).c 2 rfl
 have M:=fun y:zq a=>((c _).1 y.holds).c 3 rfl
 have N:=fun y:zq a=>((c _).1 y.holds).c 4 rfl
 have P:=fun y:zq a=>((c _).1 y.holds).c 5 rfl
 have Q:=fun y:zq a=>((c _).1 y.holds).c 6 rfl
 have R:=fun y:zq a=>((c _).1 y.holds).c 7 rfl
 have G:Nonempty (zq a):=⟨⟨_,t⟩⟩;refine qw (I:=a) 16 [(5,fun v=>v= Xi #[f.db.x,f.dq.x]),(8,fun v=>∃d q:Sli,v= Xm #[Xi #[d.x,q.x],I6 S]),(15,fun _=>True)] (fun u=>zc s u) t A zW Kr rfl rfl Dc (Sc ⟨_,rfl⟩ ⟨_,ZH,ZH,rfl⟩ ⟨undef,trivial⟩) Kr ?_
 simp only[Xy,Xz];iterate 2 refine zy ?_
 refine qG (.tmp 33) ⟨p,0,Xb⟩ rfl rfl rfl rfl ?_;refine Uq ?_;iterate 2 refine zy ?_
 refine zV rfl rfl (fun _ u=>zc s u) (fun w' b a=>?_) (fun U D=>?_)
 ·refine QO 38 (.tmp 36) rfl p 5 rfl [f.db.x,f.dq.x] ((E.box.box.aA a).mid 5 (fun W v y=>by
   match W,y with
   | 0,y=>exact y
   | 1,y=>exact y)) underlying38 rfl Kr ⟨b,rfl,a⟩
 cases D;refine Uq ?_;iterate 2 refine zy ?_
 refine zV rfl rfl (fun v u=>∃(d q:Sli) (y:Xn),v= Xm #[Xi #[d.x,q.x],I6 S]/\zc s y/\zc y u/\zO y.heap.size u (Xi #[d.x,q.x]) (qt m.db m.dq B) (qr m.db m.dq B pg)) (fun w' b a=>?_) (fun U D=>?_)
 ·refine zP.call [Xi #[f.db.x,f.dq.x],I6 B,Xi #[U8 g,U8 h,U8 i,U8 j,U8 k,U8 l,U8 n,U8 r]] rfl func185 rfl rfl rfl ?_;refine(T w' a).mono ?_;rintro e f ⟨d,q,rfl,f,z⟩;exact⟨_,rfl,(c _).2 (((c _).1 b).aA z),⟨d,q,rfl⟩,d,q,w',rfl,a,z,f⟩
 obtain⟨d,q,rfl⟩:=D;refine Uq ?_;iterate 3 refine zy ?_
 refine qG (.tmp 32) ⟨p,0,Xb⟩ rfl rfl rfl rfl ?_;refine Uq ?_;iterate 2 refine zy ?_
 refine zV rfl rfl (fun _ u=>zaJ w0 X p w V {({ m with fl:=zh5 m.fl m.cnt file idx,cnt:=C }:Ma)with db:=qt m.db m.dq B,dq:=qr m.db m.dq B pg } u) (fun w' b a=>?_) (fun U D=>?_)
 ·obtain⟨f,g,y,h,i,j,k⟩:=a;have a:f=d/\g=q:=by
   obtain⟨l,l,l⟩:=d;obtain⟨d,d,d⟩:=f;obtain⟨d,d,d⟩:=q;obtain⟨d,d,d⟩:=g;simp only[Value.tuple.injEq,Array.mk.injEq,List.cons.injEq,Value.agg.injEq,vJ,and_true]at h;obtain⟨⟨rfl,rfl,rfl⟩,rfl,rfl,rfl⟩:=h;exact⟨rfl,rfl⟩
  obtain⟨rfl,rfl⟩:=a;have h:=i.trans j;refine jk 38 (.tmp 45) (.tmp 41) rfl p 5 rfl (Xi #[f.x,g.x]) rfl [f.x,g.x] rfl (E.box.aA h) (by simp[chL]) Kr (by simp[Value.oneCell']) ?_
  intro f d a _;exact⟨(c _).2 (((c _).1 b).grown a Wm),trivial,zaJ.step a0 Y Z (E.bT h (bS i) k a d)⟩
 clear D;try simp only[Ym]
 refine jW fun f b a=>?_
 have c:=dD a;clear b a t A H K L M N P Q R G;go_wp2;go_ret;exact⟨Rr F.out,Rx x.out c⟩
end
end Go.Proofs.YtmfckdkcmbncdaaGreat
