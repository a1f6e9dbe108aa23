import Derived.Test.YtacihbmelcegbaaGreatPE5
import Derived.OrdersHeld
namespace Go.Proofs.YtacihbmelcegbaaGreat
open Go.Value renaming slice→O,int→Xe,bool→Xh,agg→Xi,pointer→Xj,tuple→Xm
open Go.IntKind renaming i64→Xf,u8→Xg
open Go.Obj renaming cells→Xk
open Go.Ending renaming returned→Xl
open Go renaming World→Xo,Calls→Xq,Value→Xr
open Go.RowKit renaming Hid→Xp
open Option renaming some→Xa,none→Xb
open Bool renaming true→Xc,false→Xd
open List renaming replicate→Xs
section
open _root_.Nat renaming le_of_ble_eq_true→Xt,le_succ→Yi,sub_self→Yj
open Go.Sem renaming run_pure→Xu,run_bind→Xw
open _root_.List renaming getElem?_append_left→Xv,getElem?_of_mem→Xx,mem_cons_of_mem→Xy,mem_range→Xz,mem_cons_self→Ya,pairwise_iff_getElem→Yb,getElem?_map→Yc,ext_getElem?→Yd,getElem?_cons_succ→Ye,set_append_right→Yg,getElem?_modify→Yh,mem_map→Yk
open Go.Act renaming put→Yf
set_option maxRecDepth 100000
set_option maxHeartbeats 4000000
variable{Q:Exit->Act->Xo->Prop} {V:MaV} {W w0:Xo} {b fi ix j:Nat} {l:List Ar} {m:Ma} {o:Oper} {ops:Array Oper} {vs:List Xr} {z:Int}
open Go.Proofs.Tryz
open Go.RowKit
theorem zdw {l:List On} (y:On) (h:j<l.length):splice (zC l) (j*6) (onv y)=zC (l.set j y):=Jv (enc:=onv) (k:=6) y rfl l j (fun _ _=>rfl) h
theorem ZN {l:List On} {e:On} (h:l[j]? =Xa e) (i:Nat) (u:Xr) (hu:(onv e)[i]? =Xa u):(zC l)[j*6+i]? =Xa u:=qE (enc:=onv) (k:=6) l j e (fun _ _=>rfl) h i u hu
theorem jQ (f:Nat->On):(zC (tab f)).length=384:=by rw[ziU,Qd]
theorem zc5 {rest:List Oper} {op:Oper} {a:Act} {w:Xo} (hgd:op.guard=Xb) (p x:Operand) (ho:op.op= .store 67 p x) (b k:Nat) (hk:k<64) (hp:a.eval p= Xj (Xa ⟨b,k*6,Xb⟩)) (y:On) (hx:a.eval x= Xi (onv y).toArray)
  {f:Nat->On} (hb:Box w b (zC (tab f)))
  (h:∀w',Box w' b (zC (tab (upd f k y)))->w.grownBy w' (Xa b)->w'.heap.size=w.heap.size->wpList prog ops Q rest (a.put op.dst undef) w'):wpList prog ops Q (op :: rest) a w:=by
 refine zf8 hgd 67 p x ho b (k*6) hp (onv y) hx hb (by rw[jQ];show _+6<=_;omega) zoz (zjK y) fun w' h1 h2 h3=>h w' ?_ h2 h3
 rw[zdw y (by rw[Qd];exact hk),zgd]at h1
 exact h1
theorem Box.onCell {w:Xo} {k:Nat} {f:Nat->On} (h:Box w b (zC (tab f))) (hk:k<64) (i:Nat) (u:Xr) (y:On) (hy:(onv (f k)).set i u=onv y) (hi:i<6):Box (w.setCell ⟨b,k*6+i,Xb⟩ u) b (zC (tab (upd f k y))):=by
 have h1:=h.set (k*6+i) u;have:(zC (tab f)).set (k*6+i) u=zC (tab (upd f k y)):=by
  rw[<-zgd,<-zdw y (by rw[Qd];exact hk),<-hy]
  have hl:(zC (tab f)).length=384:=jQ f
  apply Yd
  intro j;unfold splice;have e6:((onv (f k)).set i u).length=6:=by simp[onv]
  rw[e6]
  by_cases h1:j<k*6
  ·rw[sN (by omega),Xv (by simp;omega),List.getElem?_take_of_lt h1]
  have hl2:((zC (tab f)).take (k*6)).length=k*6:=by simp;omega
  rw[aR (by omega),hl2]
  by_cases h2:j<k*6+6
  ·rw[Xv (by rw[e6];omega)]
   have hc:∀i',i'<6->(zC (tab f))[k*6+i']? =(onv (f k))[i']?:=fun i' hi'=>by
    obtain⟨v,hv⟩:∃v,(onv (f k))[i']? =Xa v:=⟨_,gE (by simpa [onv]using hi')⟩
    rw[hv];exact ZN (Q5 hk) i' v hv
   by_cases e:j=k*6+i
   ·subst e;rw[sF (by omega),show k*6+i - k*6=i by omega,sF (by simpa [onv]using hi)]
   rw[sN (fun h=>e h.symm),sN (by omega),<-hc _ (by omega),show k*6+(j - k*6)=j by omega]
  rw[sN (by omega),aR (by rw[e6];omega),e6,List.getElem?_drop]
  congr 1
  omega
 rw[this]at h1;exact h1
theorem zfx {cs:List Xr} {o k:Nat} (hl:vs.length=k) (h:∀(i:Nat) u,vs[i]? =Xa u->cs[o+i]? =Xa u):cs.toArray.extract o (o+k)=vs.toArray:=by
 apply Array.ext_getElem?
 intro j;rw[Array.getElem?_extract]
 by_cases hj:j<k
 ·obtain⟨u,hu⟩:∃u,vs[j]? =Xa u:=⟨_,gE (by omega)⟩
  have h1:=h j u hu;have h2:=(gS.1 h1).1;rw[kE (by simp;omega)]
  simp[h1,hu]
 rw[kF (by omega)]
 simp;omega
theorem zlm {w:Xo} {f:Nat->On} (i:Nat) (hi:i<64):(Instr.index 68 (Xi (zC (tab f)).toArray) (I6 (i:Int))).run prog w= .ok (Xi (onv (f i)).toArray) w:=by
 have ha:(isAgg 67).run prog w= .ok Xc w:=by
  unfold isAgg;rw[Xw,run_underlying underlying67 w];rfl
 have hs:(Go.sizeOf 67).run prog w= .ok 6 w:=by
  obtain⟨i0,h1,h2⟩:∃i0,Tryz.prog.info? 67=Xa i0/\i0.size=6:=by
   have:=zoz
   cases hq:Tryz.prog.info? 67 with
   | none=>rw[hq]at this;cases this
   | some i0=>rw[hq]at this;exact⟨i0,rfl,by simpa using this⟩
  simp[Go.sizeOf,typeInfo,h1,h2]
 have hlt:(0:Int)<=(i:Int)/\(i:Int)< ((64:Nat):Int):=by omega
 have hx:(zC (tab f)).toArray.extract (i*6) (i*6+6)=(onv (f i)).toArray:=zfx rfl fun j u hu=>ZN (Q5 hi) j u hu
 simp only[Instr.index,asIntOf,Xw,Xu,rA,run_underlying underlying68];rw[kE hlt];simp only[Xw,hs,rA,part,ha,if_true,tN,Xu,hx]
theorem zmU {rest:List Oper} {a:Act} {w:Xo} (hgd:o.guard=Xb) (x ix:Operand) (ho:o.op= .index 68 x ix) (f:Nat->On) (hx:a.eval x= Xi (zC (tab f)).toArray) (i:Nat) (hix:a.eval ix=I6 (i:Int)) (hi:i<64)
  (h:wpList prog ops Q rest (a.put o.dst (Xi (onv (f i)).toArray)) w):wpList prog ops Q (o :: rest) a w:=by
 refine wpList_plain hgd fun K hK=>?_
 unfold Oper.wp execOp;simp only[ho,hx,hix,Xw,Xu,rA,zlm i hi];exact hK _ _ h
theorem zdG {rest:List Oper} {a:Act} {w:Xo} (hgd:o.guard=Xb) (x ix:Operand) (ho:o.op= .index 68 x ix) (f:Nat->On) (hx:a.eval x= Xi (zC (tab f)).toArray) (i:Nat) (hix:a.eval ix=I6 (i:Int)) (hi:i<64) {v:Xr} (hv: Xi (onv (f i)).toArray=v)
  (h:wpList prog ops Q rest (a.put o.dst v) w):wpList prog ops Q (o :: rest) a w:=zmU hgd x ix ho f hx i hix hi (by rw[hv];exact h)
theorem zjm {rest:List Oper} {a:Act} {w:Xo} (hgd:o.guard=Xb) (x:Operand) (ho:o.op= .load 67 x) (b k:Nat) (hk:k<64) (hx:a.eval x= Xj (Xa ⟨b,k*6,Xb⟩)) {f:Nat->On} (hb:Box w b (zC (tab f)))
  (h:wpList prog ops Q rest (a.put o.dst (Xi (onv (f k)).toArray)) w):wpList prog ops Q (o :: rest) a w:=
 wpList_load_mid hgd 67 x ho b (k*6) hx (onv (f k)) _ (hb.mid _ fun j u hu=>ZN (Q5 hk) j u hu) underlying67 rfl zoz h
theorem zc6 {rest:List Oper} {a:Act} {w:Xo} (hgd:o.guard=Xb) (x:Operand) (ho:o.op= .load 67 x) (b k:Nat) (hk:k<64) (hx:a.eval x= Xj (Xa ⟨b,k*6,Xb⟩)) {f:Nat->On} (hb:Box w b (zC (tab f))) {v:Xr} (hv: Xi (onv (f k)).toArray=v)
  (h:wpList prog ops Q rest (a.put o.dst v) w):wpList prog ops Q (o :: rest) a w:=zjm hgd x ho b k hk hx hb (by rw[hv];exact h)
theorem zn5:(Tryz.prog.info? 68).map (·.zero)=Xa (Xa (Xi (zC (tab fun _=>on0)).toArray)):=by kernel_rfl
theorem zbV (w:Xo):(zeroValue 68).run prog w= .ok (Xi (zC (tab fun _=>on0)).toArray) w:=by
 have h:=zn5
 cases hq:Tryz.prog.info? 68 with
 | none=>simp[hq]at h
 | some i=>
  simp[hq]at h
  simp[zeroValue,typeInfo,hq,h]
def znO (f:Nat->On):Nat->Ar:=fun n=>JS n (f n)
def zhn (l:List Ar) (i:Nat) (a:Ar) (n:Nat):Nat->On:=fun j=>if a.fr<=(j:Int)/\(j:Int)< (n:Int)then qp a j else zO (l.take i) j
theorem ZT.take:∀{l:List Ar} {p:Option Ar},ZT p l->∀i,ZT p (l.take i)
 | [],_,_,i=>by simp[ZT]
 | a :: l,p,h,0=>by simp[ZT]
 | a :: l,p,h,i+1=>⟨h.1,h.2.1,h.2.2.take i⟩
theorem ZT.free (h:ZT Xb l) {i:Nat} {a:Ar} (ha:l[i]? =Xa a) (hj:a.fr<=(j:Int)):zO (l.take i) j=on0:=by
 refine zas fun x hx=>zcH ?_
 have h1:=h.take (i+1);rw[jB ha]at h1;obtain⟨c1,c2,c3⟩:=Jo.1 h1
 cases hl:Jd Xb (l.take i)with
 | none=>
  unfold Jd at hl
  cases hq:l.take i with
  | nil=>rw[hq]at hx;cases hx
  | cons y ys=>rw[hq]at hl;simp[List.getLast?_cons]at hl
 | some y=>
  have q:=(c3 y hl).1;have hy:jA y:=c1.all y (by
   unfold Jd at hl
   split at hl
   ·rename_i b hb
    cases hl;exact List.mem_of_getLast? hb
   cases hl)
  unfold jA at hy
  rcases zd3 _ Xb c1 x hx y hl with e|e
  ·rw[e];omega
  omega
theorem zjW {i:Nat} {a:Ar} {n:Nat} (hn:(n:Int)=a.fr):zhn l i a n=zO (l.take i):=by
 funext j
 unfold zhn;rw[kF (by omega)]
def znA (l:List Ar):Prop:=(∀a∈l,jA a)/\∀(i:Nat) a,l[i]? =Xa a->∀j:Nat,a.fr<=(j:Int)->zO (l.take i) j=on0
theorem ZT.lies (h:ZT Xb l):znA l:=⟨h.all,fun _ _ ha _ hj=>h.free ha hj⟩
theorem zlP {b a:Ar} (hb:jA b) (ha:jA a) (hf:b.tz<=a.fr):znA [b,a]:=by
 refine⟨fun x hx=>?_,fun i x hx j hj=>?_⟩
 ·simp at hx
  rcases hx with rfl|rfl
  ·exact hb
  exact ha
 match i with
 | 0=>rfl
 | 1=>
  simp at hx
  subst hx
  show zO [b] j=on0
  rw[zar (.inr (by omega))]
  rfl
 | k+2=>simp at hx
theorem zlQ {a:Ar} (ha:jA a):znA [a]:=by
 refine⟨fun x hx=>?_,fun i x hx j hj=>?_⟩
 ·simp at hx
  subst hx;exact ha
 match i with
 | 0=>rfl
 | k+1=>simp at hx
theorem zjX {i:Nat} {a:Ar} {n:Nat} (hn:a.fr<=(n:Int)):upd (zhn l i a n) n (qp a n)=zhn l i a (n+1):=by
 funext j
 unfold upd zhn
 by_cases e:j=n
 ·subst e;rw[kE rfl,kE (by omega)]
 rw[kF e]
 by_cases h:a.fr<=(j:Int)/\(j:Int)< (n:Int)
 ·rw[kE h,kE (by omega)]
 rw[kF h,kF (by omega)]
theorem zlJ {i:Nat} {a:Ar} {n:Nat} (h:znA l) (ha:l[i]? =Xa a) (hn:(n:Int)=a.tz):zhn l i a n=zO (l.take (i+1)):=by
 funext j
 unfold zhn;rw[jB ha,Ja]
 ·by_cases h1:a.fr<=(j:Int)/\(j:Int)< (n:Int)
  ·rw[kE h1,kE (qd.2 (by omega))]
  rw[kF h1,kF (fun h2=>h1 (by have:=qd.1 h2;omega))]
 by_cases h1:a.fr<=(j:Int)
 ·exact .inl (h.2 i a ha j h1)
 exact .inr (zcH (by omega))
theorem zmV {α:Type} (f:Nat->α) (k:Nat) (x y:α):upd (upd f k x) k y=upd f k y:=by
 funext j
 unfold upd
 by_cases e:j=k
 ·rw[kE e,kE e]
 rw[kF e,kF e,kF e]
theorem ZH (v:Xr) (l:List Ar) (w:Xo) (hv:zm arE w v l) (hok:znA l):
  Xq prog 20 #[v] w fun e w'=>e= Xl (Xi (zC (tab (zO l))).toArray)/\zc w w':=by
 have hbig:=hv.short;obtain⟨a,c,rfl,hrow⟩:=hv.ars;have HR:Xp (zbn w a l):=hrow;have HOK:Xp (znA l):=hok;clear hrow hv hok;have hz:=zbV;obtain⟨Z0,HZ0⟩:=kA (zC (tab fun _=>on0))
 rw[HZ0.out]at hz;have HZL:Xp (Z0.length=384):=dD<|by rw[<-HZ0.out,jQ]
 obtain⟨C,HC⟩:=kA (zC (tab (zO l)));rw[HC.out];obtain⟨n,HN⟩:=kA l.length;rw[HN.out]at hbig⊢;obtain⟨W0,hW0⟩:=kB ((w.alloc (Xk Z0.toArray 68)).alloc (Xk Z0.toArray 68));have HG0:=gD2 hW0
 have Y0:Xp (Box W0 w.heap.size Z0):=dD<|by rw[<-hW0];exact(Box.top _ _ _ (by simp)).alloc _
 have L0:Xp (Box W0 (w.heap.size+1) (zC (tab (zO (l.take 0))))):=dD<|by rw[<-hW0,List.take_zero,show zO ([]:List Ar)=fun _=>on0 from rfl,HZ0.out];exact Box.top _ _ _ (by simp)
 have HW0:Xp (_=W0):=hW0;clear hW0
 go_enter func20,ntmps20
 go_upto_region 2 with fail;rw[HW0.out];clear hz;go_wp2
 go_loopg [9] n (fun gg s9 wr=>∃kk:Nat,kk<=n/\n - kk<=gg/\s9=I6 kk/\Xp (zc w wr)/\Xp (Box wr w.heap.size Z0)/\Xp (Box wr (w.heap.size+1) (zC (tab (zO (l.take kk))))))
 case atStart=>exact⟨0,nZ _,by omega,rfl,HG0,Y0,L0⟩
 obtain⟨kk,hkk,hg,rfl,BW,YW,LW⟩:=hrel
 by_cases hlt:kk<n
 ·have hltz:=kC hlt
  obtain⟨q,HQ⟩:∃q,Xp (l[kk]? =Xa q):=⟨_,gE (by rw[HN.out];exact hlt)⟩
  obtain⟨ad,rfl,hl⟩:=HR.out kk q HQ.out;obtain⟨d0,d1,d2,d3,d4,d5,d6⟩:=hl wr BW.out;have HQK:Xp (jA q):=HOK.1 q (mG HQ);have hqb:0<=q.fr/\q.fr<q.tz/\q.tz<=64/\0<=q.base/\q.base<=12:=by
   have:=HQK.out;unfold jA at this
   rcases Int.lt_or_le q.file 0 with h|h
   ·omega
   omega
  obtain⟨hq1,hq2,hq3,hq4,hq5⟩:=hqb;obtain⟨p,HP⟩:=kA wr.heap.size;have HLP:Xp (w.heap.size+1<p):=dD<|by rw[<-HP.out];exact LW.lt
  clear hl;go_upto_region 5 with fail;obtain⟨W1,hW1⟩:=kB (wr.alloc (Xk #[I6 q.fr,I6 q.tz,Xh q.rd,Xh q.wr,Xh q.sh,I6 q.file,I6 q.base] 91));have G1:=gT hW1 BW
  have Y1:=yA hW1 YW
  obtain⟨f0,hf0⟩:∃f0:Nat,(f0:Int)=q.fr:=⟨q.fr.toNat,by omega⟩
  have L1:Xp (Box W1 (w.heap.size+1) (zC (tab (zhn l kk q f0)))):=dD<|by rw[<-hW1,zjW hf0];exact LW.alloc _
  have P1:=xP hW1 HP
  rw[hW1,HP.out];clear hW1 d0 d1 d2 d3 d4 d5 d6;have p0:=P1.c 0 rfl;go_wp2
  go_loopg [6] (q.tz.toNat - f0) (fun g2 s6 wr2=>∃k2:Nat,f0<=k2/\(k2:Int)<=q.tz/\q.tz.toNat - k2<=g2/\s6=I6 k2/\Xp (zc w wr2)/\Xp (Box wr2 w.heap.size Z0)/\Xp (Box wr2 (w.heap.size+1) (zC (tab (zhn l kk q k2))))/\Xp (Box wr2 p [I6 q.fr,I6 q.tz,Xh q.rd,Xh q.wr,Xh q.sh,I6 q.file,I6 q.base]))
  case atStart=>exact⟨f0,nR _,by omega,by omega,by rw[hf0],G1,Y1,L1,P1⟩
  obtain⟨k2,hk2,hk2',hg2,rfl,BW2,YW2,LW2,PW2⟩:=hrel;clear p0;have p1:=PW2.c 1 rfl
  by_cases hlt2:(k2:Int)<q.tz
  ·have hi64:k2<64:=by omega
   have hi64z:(k2:Int)<64:=by omega
   have HST:Xp (upd (zhn l kk q k2) k2 (qp q k2)=zhn l kk q (k2+1)):=zjX (l:=l) (i:=kk) (a:=q) (n:=k2) (by omega)
   have p2:=PW2.c 2 rfl;have p3:=PW2.c 3 rfl;have p4:=PW2.c 4 rfl;have p5:=PW2.c 5 rfl
   go_wp2_with (refine zc5 rfl (.tmp 31) (.tmp 30) rfl (w.heap.size+1) k2 hi64 rfl ⟨Xc,q.rd,q.wr,q.sh,q.file,0⟩ rfl LW2.out ?_)
   intro W3 b3 g3 s3;have L3:Xp (Box W3 (w.heap.size+1) (zC (tab (upd (zhn l kk q k2) k2 ⟨Xc,q.rd,q.wr,q.sh,q.file,0⟩)))):=b3;have G3:Xp (zc w W3):=ze BW2 g3 (by simp)
   have Y3:Xp (Box W3 w.heap.size Z0):=YW2.beside g3 (by intro g hg;cases hg;simp)
   have P3:Xp (Box W3 p [I6 q.fr,I6 q.tz,Xh q.rd,Xh q.wr,Xh q.sh,I6 q.file,I6 q.base]):=PW2.beside g3 (by intro g hg;cases hg;have:=HLP.out;omega)
   clear b3 g3 s3 p1 p2 p3 p4 p5;have p5:=P3.c 5 rfl
   by_cases hfile:0<=q.file
   ·have HONE:Xp (qp q k2=⟨Xc,q.rd,q.wr,q.sh,q.file,q.base+(k2:Int) - q.fr⟩):=dD<|by
     unfold qp;rw[kE hfile]
     congr 1
     omega
    have p0:=P3.c 0 rfl;have p6:=P3.c 6 rfl;have l5:=L3.c (k2*6+5) (ZN (Q5 hi64) 5 (I6 0) (by unfold upd;rw[kE rfl];rfl))
    have lf:=L3.f;go_upto_region 7 with fail;obtain⟨W4,hW4⟩:=kB (W3.setCell ⟨w.heap.size+1,k2*6+5,Xb⟩ (I6 (q.base+(k2:Int) - q.fr)));have L4:Xp (Box W4 (w.heap.size+1) (zC (tab (zhn l kk q (k2+1))))):=dD<|by
     rw[<-hW4];have:=L3.onCell hi64 5 (I6 (q.base+(k2:Int) - q.fr)) (qp q k2) (by rw[HONE.out];unfold upd;rw[kE rfl];rfl) (by omega)
     rw[zmV,HST.out]at this;exact this
    have G4:Xp (zc w W4):=dD<|by rw[<-hW4];exact zz G3 (by simp) _
    have Y4:Xp (Box W4 w.heap.size Z0):=dD<|by rw[<-hW4];exact Y3.other (by simp) _
    have P4:Xp (Box W4 p [I6 q.fr,I6 q.tz,Xh q.rd,Xh q.wr,Xh q.sh,I6 q.file,I6 q.base]):=dD<|by rw[<-hW4];exact P3.other (by have:=HLP.out;simp;omega) _
    rw[hW4];clear hW4 l5 lf p0 p5 p6;go_wp2
    go_roundg (q.tz.toNat -(k2+1))
    case measure=>omega
    exact⟨k2+1,by omega,by omega,by omega,by go_num,G4,Y4,L4,P4⟩
   have HONE:Xp (qp q k2=⟨Xc,q.rd,q.wr,q.sh,q.file,0⟩):=dD<|by
    unfold qp;rw[kF hfile]
   have L4:Xp (Box W3 (w.heap.size+1) (zC (tab (zhn l kk q (k2+1))))):=dD<|by rw[<-HST.out,HONE.out];exact L3.out
   go_wp2
   go_roundg (q.tz.toNat -(k2+1))
   case measure=>omega
   exact⟨k2+1,by omega,by omega,by omega,by go_num,G3,Y3,L4,P3⟩
  have hke:(k2:Int)=q.tz:=by omega
  have LE:Xp (Box wr (w.heap.size+1) (zC (tab (zO (l.take (kk+1)))))):=dD<|by rw[<-zlJ HOK.out HQ.out hke];exact LW2.out
  go_wp2
  go_roundg (n -(kk+1))
  case measure=>omega
  exact⟨kk+1,by omega,by omega,by go_num,BW2,YW2,LE⟩
 have hltz:=kD hlt
 have:kk=n:=by omega
 subst this;have LE:Xp (Box wr (w.heap.size+1) C):=dD<|by rw[<-HC.out];have:=LW.out;rw[<-HN.out,List.take_length]at this;exact this
 have HFL:Xp (C.length=384):=dD<|by rw[<-HC.out,jQ]
 have HFO:Xp (∀v∈C,v.oneCell'=Xc):=dD<|by rw[<-HC.out];exact JF _
 go_wp2_with (first | refine zR rfl 68 (.tmp 3) rfl (w.heap.size+1) rfl LE underlying68 rfl (by rw[HFL.out];exact zoA) ?_ | refine zK rfl 68 (.tmp 2) (.tmp 46) rfl w.heap.size rfl C rfl YW (by rw[HFL.out,HZL.out]) (by rw[HZL.out];exact zoA) HFO.out ?_)
 intro W3 b3 g3 s3;have G3:Xp (zc w W3):=dD<|ze BW g3 (by simp)
 have B3:Xp (Box W3 w.heap.size C):=b3;clear b3 g3 s3;go_wp2;refine bodyPost_ret (zZ rfl _ rfl B3 underlying68 rfl (by rw[HFL.out];exact zoA)) rfl ⟨rfl,G3⟩
theorem zlt {f:Nat->On} {k:Nat} (h:(f k).is=Xc):znO f k=⟨k,(k:Int)+1,(f k).rd,(f k).wr,(f k).sh,(f k).file,(f k).page⟩:=by
 unfold znO JS;rw[kE h]
theorem znV (x y:On):zlx ⟨y.is,y.rd,y.wr,y.sh,y.file,if 0<=x.file then y.page+1 else y.page⟩ x=goJ x y:=by
 unfold zlx goJ;have hd:∀x y:Int,(x == y)=decide (x=y):=fun x y=>rfl
 simp only[hd]
theorem zbd (f:Nat->On) (w:Xo) (hg:zf2 f):
  Xq prog 145 #[Xi (zC (tab f)).toArray] w fun e w'=>(∃v,e= Xl v/\zb arE (w.heap.size+1) w' v (Zk f))/\zc w w':=by
 have HGD:Xp (zf2 f):=hg;clear hg;have HCL:Xp ((zC (tab f)).length=384):=jQ _;obtain⟨W0,hW0⟩:=kB (w.alloc (Xk (zC (tab f)).toArray 68));have HG0:=gA hW0
 have X0:=xA hW0
 have HS0:=sA hW0
 have HW0:Xp (_=W0):=hW0;clear hW0
 go_enter func145,ntmps145
 go_upto_region 1 with fail;rw[HW0.out]
 go_wp2_with (refine zR rfl 68 (.tmp 1) rfl w.heap.size rfl X0 underlying68 rfl (by rw[HCL.out];exact zoA) ?_)
 go_loopg [3,9] 64 (fun gg s3 s9 wr=>∃(kk:Nat) (acc:List Ar) (xa:Option Addr) (xc:Nat),kk<=64/\64 - kk<=gg/\s9=I6 kk/\s3= O xa acc.length xc/\Xp (zc W0 wr)/\Xp (zb arE (w.heap.size+1) wr (O xa acc.length xc) acc)/\Xp (J f kk acc))
 case atStart=>exact⟨0,[],Xb,0,nZ _,by omega,rfl,rfl,zc.refl _,zb.nil _ _ _,J.zero f⟩
 obtain⟨kk,acc,xa,xc,hkk,hgg,rfl,rfl,BW,OW,JW⟩:=hrel
 by_cases hlt:kk<64
 ·have hltz:(kk:Int)<64:=by omega
  have HLEN:Xp (acc.length<=kk):=JW.len;have XW:=dD (X0.grew BW);obtain⟨p,HP⟩:=kA wr.heap.size;have HPW:Xp (wr.heap.size<=p):=show _<=_ by rw[HP.out];exact nR _
  cases hs:(f kk).is with
  | false=>
   have HIV:Xp (Value.agg (onv (f kk)).toArray= Xi #[Xh Xd,Xh (f kk).rd,Xh (f kk).wr,Xh (f kk).sh,I6 (f kk).file,I6 (f kk).page]):=dD<|by rw[<-hs];rfl
   have J2:Xp (J f (kk+1) acc):=JW.skip ((HGD kk hlt).1 hs);clear hs
   go_wp2_with (refine zdG rfl (.tmp 8) (.tmp 9) rfl f rfl kk rfl hlt HIV.out ?_)
   go_roundg (64 -(kk+1))
   case measure=>omega
   exact⟨kk+1,acc,xa,xc,by omega,by omega,by go_num,rfl,BW.trans (za _ _),OW.grew (za _ _),J2⟩
  | true=>
   have HS:Xp ((f kk).is=Xc):=hs;have HPF:Xp (JS kk (f kk)=⟨kk,(kk:Int)+1,(f kk).rd,(f kk).wr,(f kk).sh,(f kk).file,(f kk).page⟩):=zlt hs;have HNEW:Xp ((∀b,acc.getLast? =Xa b->goB (JS kk (f kk)) b=Xd)->J f (kk+1) (acc++ [JS kk (f kk)])):=fun h=>JW.new HGD hlt HS h
   have HEXT:Xp (∀i b,acc=i++ [b]->goB (JS kk (f kk)) b=Xc->J f (kk+1) (i++ [{ b with tz:=(kk:Int)+1 }])):=fun i b h1 h2=>by
    have:=JW.out;rw[h1]at this;exact this.ext HGD hlt HS h2
   have HIV:Xp (Value.agg (onv (f kk)).toArray= Xi #[Xh Xc,Xh (f kk).rd,Xh (f kk).wr,Xh (f kk).sh,I6 (f kk).file,I6 (f kk).page]):=dD<|by rw[<-hs];rfl
   clear hs;obtain⟨x,HX⟩:=kA (f kk);rw[HX.out]at HIV;have HIV2:Xp (Value.agg (onv (f kk)).toArray= Xi #[Xh Xc,Xh x.rd,Xh x.wr,Xh x.sh,I6 x.file,I6 x.page]):=dD<|by rw[HX.out];exact HIV.out
   go_upto_region 5 with(refine zdG rfl (.tmp 8) (.tmp 9) rfl f rfl kk rfl hlt HIV2.out ?_)
   obtain⟨W1,hW1⟩:=kB (wr.alloc (Xk #[Xh Xc,Xh x.rd,Xh x.wr,Xh x.sh,I6 x.file,I6 x.page] 67));have G1:=gT hW1 BW
   have O1:Xp (zb arE (w.heap.size+1) W1 (O xa acc.length xc) acc):=dD<|by rw[<-hW1];exact OW.grew (za _ _)
   have P1:=xP hW1 HP
   have X1:=yA hW1 XW
   rw[hW1,HP.out];clear hW1;have p0:=P1.c 0 rfl
   cases kk with
   | zero=>
    have HNIL:Xp (acc=[]):=JW.first;have J2:Xp (J f (0+1) (acc++ [⟨((0:Nat):Int),((0:Nat):Int)+1,x.rd,x.wr,x.sh,x.file,x.page⟩])):=show J _ _ _ by
     have:=HNEW.out (fun b hb=>by rw[HNIL.out]at hb;cases hb)
     rw[HPF.out,HX.out]at this;exact this
    go_upto_region 14 with fail;clear p0;have HSZ:Xp (w.heap.size+1<=W1.heap.size):=dD<|by rw[<-HS0.out];exact bS G1.out
    have p1:=P1.c 1 rfl;have p2:=P1.c 2 rfl;have p3:=P1.c 3 rfl;have p4:=P1.c 4 rfl;have p5:=P1.c 5 rfl
    go_wp2_with (at_builtin;refine zw (E:=arE) rfl (.tmp 41) (.tmp 56) rfl (w.heap.size+1) _ acc rfl (O1.grew (za _ _)) _ [⟨((0:Nat):Int),((0:Nat):Int)+1,x.rd,x.wr,x.sh,x.file,x.page⟩] rfl (jK arE W1 ⟨((0:Nat):Int),((0:Nat):Int)+1,x.rd,x.wr,x.sh,x.file,x.page⟩ _ _ rfl (by show 40<=_;omega)) ?qb ?qc ?_)
    case qb=>
     show(acc.length+1)*40<=_
     have:=HLEN.out;omega
    case qc=>first | exact HSZ.out | exact nT HSZ (Yi _) | (have:=HSZ.out;omega) | (simp;have:=HSZ.out;omega)
    intro vn Wn own grn;obtain⟨xan,xcn,rfl⟩:=own.form;have On':Xp (zb arE (w.heap.size+1) Wn (.slice xan (acc++ [(⟨((0:Nat):Int),((0:Nat):Int)+1,x.rd,x.wr,x.sh,x.file,x.page⟩:Ar)]).length xcn) (acc++ [⟨((0:Nat):Int),((0:Nat):Int)+1,x.rd,x.wr,x.sh,x.file,x.page⟩])):=own;have Gn:Xp (zc W0 Wn):=show zc _ _ from zU (G1.trans (za _ _)) grn (fun g hg=>by
     have h1:=(O1.lt g hg).1;rw[HS0.out];exact h1)
    have Xn:=dD (X0.grew Gn);clear own grn p1 p2 p3 p4 p5;go_wp2
    go_roundg (64 -(0+1))
    case measure=>omega
    exact⟨0+1,acc++ [(⟨((0:Nat):Int),((0:Nat):Int)+1,x.rd,x.wr,x.sh,x.file,x.page⟩:Ar)],xan,xcn,by omega,by omega,by go_num,rfl,Gn,On',J2⟩
   | succ j=>
    have hj64:j<64:=by omega
    have hj64z:(j:Int)<64:=by omega
    have hjz:(0:Int)< ((j+1:Nat):Int):=by omega
    have hj1:((j+1:Nat):Int) - 1=(j:Int):=by omega
    have HGO:=JW.go HS.out;obtain⟨y,HY⟩:=kA (f j);have hyp:0<=y.page/\y.page<=12:=by
     rw[<-HY.out];have h1:=HGD.out j hj64
     cases hq:(f j).is with
     | false=>rw[h1.1 hq];exact⟨by decide,by decide⟩
     | true=>
      have h2:=h1.2 hq;unfold jA JS at h2;rw[kE hq]at h2;simp only at h2
      rcases Int.lt_or_le (f j).file 0 with h|h
      ·omega
      omega
    obtain⟨hy0,hy1⟩:=hyp;have HYV:Xp (Value.agg (onv (f j)).toArray= Xi #[Xh y.is,Xh y.rd,Xh y.wr,Xh y.sh,I6 y.file,I6 y.page]):=dD<|by rw[HY.out];rfl
    have HGJ:=znV x y;rw[HX.out,HY.out]at HGO;have HGO':Xp _:=HGO;obtain⟨p7,HP7⟩:=kA W1.heap.size;have HPP:Xp (p<p7):=dD<|by rw[<-HP7.out];exact P1.lt
    go_upto_region 9 with(refine zc6 rfl (.tmp 20) rfl w.heap.size j hj64 rfl X1 HYV.out ?_)
    clear p0;obtain⟨W2,hW2⟩:=kB (W1.alloc (Xk #[Xh y.is,Xh y.rd,Xh y.wr,Xh y.sh,I6 y.file,I6 y.page] 67));have G2:=gT hW2 G1
    have O2:Xp (zb arE (w.heap.size+1) W2 (O xa acc.length xc) acc):=dD<|by rw[<-hW2];exact O1.grew (za _ _)
    have P2:=yA hW2 P1
    have Y2:=xPT hW2 HP7
    rw[hW2,HP7.out];clear hW2;have p4:=P2.c 4 rfl
    by_cases hfile:0<=x.file
    ·rw[kE hfile]at HGJ;have HQ:=fun W=>znP y.is Xc y.rd x.rd y.wr x.wr y.sh x.sh y.file x.file (y.page+1) x.page W
     have HXT:Xp ((⟨Xc,x.rd,x.wr,x.sh,x.file,x.page⟩:On)=x):=dD<|by
      have h:=HS.out;rw[HX.out]at h;rw[<-h]
     rw[HXT.out,HGJ]at HQ;obtain⟨R,HR⟩:=kA (goJ x y);rw[HR.out]at HQ HGO';have y5:=Y2.box.c 5 rfl;have yf:=Y2.box.f;go_upto_region 11 with fail;obtain⟨W3,hW3⟩:=kB (W2.setCell ⟨p7,5,Xb⟩ (I6 (y.page+1)));have HW0P:Xp (W0.heap.size<=p7):=dD<|by have h1:=HPP.out;have h2:=bS BW.out;have h3:=HPW.out;omega
     have G3:Xp (zc W0 W3):=dD<|by rw[<-hW3];exact zz G2 HW0P.out _
     have O3:Xp (zb arE (w.heap.size+1) W3 (O xa acc.length xc) acc):=dD<|by rw[<-hW3];exact O2.setOther (fun g hg=>O2.ne Y2 (by decide) g hg) _
     have P3:Xp (Box W3 p [Xh Xc,Xh x.rd,Xh x.wr,Xh x.sh,I6 x.file,I6 x.page]):=dD<|by rw[<-hW3];exact P2.other (by have:=HPP.out;simp;omega) _
     have Y3:Xp (Box W3 p7 [Xh y.is,Xh y.rd,Xh y.wr,Xh y.sh,I6 y.file,I6 (y.page+1)]):=dD<|by rw[<-hW3];exact Y2.box.set 5 _
     rw[hW3];clear hW3 y5 yf p4
     cases R with
     | true=>
      obtain⟨b,hlast,hgb⟩:=HGO'.1 rfl;have hacc:=zgg hlast;obtain⟨ini,hini⟩:=kB acc.dropLast;rw[hini]at hacc;have HACC:Xp (acc=ini++ [b]):=hacc;have J2:Xp (J f (j+1+1) (ini++ [{ b with tz:=((j+1:Nat):Int)+1 }])):=HEXT.out ini b hacc (by rw[HX.out];exact hgb)
      obtain⟨m,HM⟩:=kA ini.length;have HAL:Xp (acc.length=m+1):=dD<|by rw[HACC.out,<-HM.out];simp
      have HBI:Xp (acc[m]? =Xa b):=dD<|by rw[HACC.out,<-HM.out];simp
      obtain⟨g,xc',hxe⟩:=O3.formS (by rw[HAL.out];omega)
      cases hxe;have hmm:((m+1:Nat):Int) - 1=(m:Int):=by omega
      have hm0:(0:Int)<=(m:Int):=by omega
      have hmlt:(m:Int)< ((m+1:Nat):Int):=by omega
      have hmk:m+1<=64:=by have:=HLEN.out;rw[HAL.out]at this;omega
      clear hlast hgb hacc hini;rw[HAL.out]at O3⊢;have HSET:Xp (acc.set m { b with tz:=((j+1:Nat):Int)+1 }=ini++ [{ b with tz:=((j+1:Nat):Int)+1 }]):=dD<|by rw[HACC.out,Yg _ _ (by rw[HM.out];exact nR _),HM,Yj];rfl
      go_wp2_with (first | refine zR rfl 67 (.tmp 7) rfl p7 rfl Y3 underlying67 rfl zoz ?_ | refine zR rfl 67 (.tmp 5) rfl p rfl P3 underlying67 rfl zoz ?_ | refine zB (E:=arE) rfl (.tmp 40) (.tmp 38) 3 rfl (w.heap.size+1) (O (Xa ⟨g,0,Xb⟩) (m+1) xc) acc O3 g m 1 rfl b { b with tz:=((j+1:Nat):Int)+1 } HBI.out [I6 (((j+1:Nat):Int)+1)] (by kernel_rfl) rfl (Xt rfl) (by intro u hu;simp at hu;subst hu;rfl) _ rfl (by simp;rfl) _ rfl rfl ?_)
      intro W4 ow4 gr4 sz4;have HBG:=O3.lt g rfl;have G4:Xp (zc W0 W4):=dD<|ze G3 gr4 (by rw[HS0.out];exact HBG.1)
      have HL4:Xp ((ini++ [({ b with tz:=((j+1:Nat):Int)+1 }:Ar)]).length=m+1):=dD<|by simp[HM.out]
      have O4:Xp (zb arE (w.heap.size+1) W4 (.slice (Xa ⟨g,0,Xb⟩) (ini++ [({ b with tz:=((j+1:Nat):Int)+1 }:Ar)]).length xc) (ini++ [{ b with tz:=((j+1:Nat):Int)+1 }])):=dD<|by rw[HL4.out,<-HSET.out];exact ow4
      clear ow4 gr4 sz4;rw[<-HL4.out];go_wp2
      go_roundg (64 -(j+1+1))
      case measure=>omega
      exact⟨j+1+1,ini++ [({ b with tz:=((j+1:Nat):Int)+1 }:Ar)],Xa ⟨g,0,Xb⟩,xc,by omega,by omega,by go_num,rfl,G4,O4,J2⟩
     | false=>
      have J2:Xp (J f (j+1+1) (acc++ [⟨((j+1:Nat)),(((j+1:Nat)):Int)+1,x.rd,x.wr,x.sh,x.file,x.page⟩])):=dD<|by
       have:=HNEW.out (fun b hb=>by rw[HX.out];exact HGO'.2 rfl b hb)
       rw[HPF.out,HX.out]at this;exact this
      go_upto_region 14 with(first | refine zR rfl 67 (.tmp 7) rfl p7 rfl Y3 underlying67 rfl zoz ?_ | refine zR rfl 67 (.tmp 5) rfl p rfl P3 underlying67 rfl zoz ?_)
      have HSZ:Xp (w.heap.size+1<=W3.heap.size):=dD<|by rw[<-HS0.out];exact bS G3.out
      have p1:=P3.c 1 rfl;have p2:=P3.c 2 rfl;have p3:=P3.c 3 rfl;have p4:=P3.c 4 rfl;have p5:=P3.c 5 rfl
      go_wp2_with (at_builtin;refine zw (E:=arE) rfl (.tmp 41) (.tmp 56) rfl (w.heap.size+1) _ acc rfl (O3.grew (za _ _)) _ [⟨((j+1:Nat):Int),((j+1:Nat):Int)+1,x.rd,x.wr,x.sh,x.file,x.page⟩] rfl (jK arE W3 ⟨((j+1:Nat):Int),((j+1:Nat):Int)+1,x.rd,x.wr,x.sh,x.file,x.page⟩ _ _ rfl (by show 40<=_;omega)) ?qb ?qc ?_)
      case qb=>
       show(acc.length+1)*40<=_
       have:=HLEN.out;omega
      case qc=>first | exact HSZ.out | exact nT HSZ (Yi _) | (have:=HSZ.out;omega) | (simp;have:=HSZ.out;omega)
      intro vn Wn own grn;obtain⟨xan,xcn,rfl⟩:=own.form;have On':Xp (zb arE (w.heap.size+1) Wn (.slice xan (acc++ [(⟨((j+1:Nat):Int),((j+1:Nat):Int)+1,x.rd,x.wr,x.sh,x.file,x.page⟩:Ar)]).length xcn) (acc++ [⟨((j+1:Nat):Int),((j+1:Nat):Int)+1,x.rd,x.wr,x.sh,x.file,x.page⟩])):=own;have Gn:Xp (zc W0 Wn):=show zc _ _ from zU (G3.trans (za _ _)) grn (fun g hg=>by
       have h1:=(O3.lt g hg).1;rw[HS0.out];exact h1)
      have Xn:=dD (X0.grew Gn);clear own grn p1 p2 p3 p4 p5;go_wp2
      go_roundg (64 -((j+1)+1))
      case measure=>omega
      exact⟨(j+1)+1,acc++ [(⟨((j+1:Nat):Int),((j+1:Nat):Int)+1,x.rd,x.wr,x.sh,x.file,x.page⟩:Ar)],xan,xcn,by omega,by omega,by go_num,rfl,Gn,On',J2⟩
    rw[kF hfile]at HGJ;have HQ:=fun W=>znP y.is Xc y.rd x.rd y.wr x.wr y.sh x.sh y.file x.file y.page x.page W
    have HXT:Xp ((⟨Xc,x.rd,x.wr,x.sh,x.file,x.page⟩:On)=x):=dD<|by
     have h:=HS.out;rw[HX.out]at h;rw[<-h]
    rw[HXT.out,HGJ]at HQ;obtain⟨R,HR⟩:=kA (goJ x y);rw[HR.out]at HQ HGO';go_upto_region 11 with fail;clear p4;have G3:Xp (zc W0 W2):=G2;have O3:Xp (zb arE (w.heap.size+1) W2 (O xa acc.length xc) acc):=O2;have P3:Xp (Box W2 p [Xh Xc,Xh x.rd,Xh x.wr,Xh x.sh,I6 x.file,I6 x.page]):=P2;have Y3:Xp (Box W2 p7 [Xh y.is,Xh y.rd,Xh y.wr,Xh y.sh,I6 y.file,I6 y.page]):=Y2.box;obtain⟨W3,hW3⟩:=kB W2;rw[hW3]at G3 O3 P3 Y3⊢;clear hW3
    cases R with
    | true=>
     obtain⟨b,hlast,hgb⟩:=HGO'.1 rfl;have hacc:=zgg hlast;obtain⟨ini,hini⟩:=kB acc.dropLast;rw[hini]at hacc;have HACC:Xp (acc=ini++ [b]):=hacc;have J2:Xp (J f (j+1+1) (ini++ [{ b with tz:=((j+1:Nat):Int)+1 }])):=HEXT.out ini b hacc (by rw[HX.out];exact hgb)
     obtain⟨m,HM⟩:=kA ini.length;have HAL:Xp (acc.length=m+1):=dD<|by rw[HACC.out,<-HM.out];simp
     have HBI:Xp (acc[m]? =Xa b):=dD<|by rw[HACC.out,<-HM.out];simp
     obtain⟨g,xc',hxe⟩:=O3.formS (by rw[HAL.out];omega)
     cases hxe;have hmm:((m+1:Nat):Int) - 1=(m:Int):=by omega
     have hm0:(0:Int)<=(m:Int):=by omega
     have hmlt:(m:Int)< ((m+1:Nat):Int):=by omega
     have hmk:m+1<=64:=by have:=HLEN.out;rw[HAL.out]at this;omega
     clear hlast hgb hacc hini;rw[HAL.out]at O3⊢;have HSET:Xp (acc.set m { b with tz:=((j+1:Nat):Int)+1 }=ini++ [{ b with tz:=((j+1:Nat):Int)+1 }]):=dD<|by rw[HACC.out,Yg _ _ (by rw[HM.out];exact nR _),HM,Yj];rfl
     go_wp2_with (first | refine zR rfl 67 (.tmp 7) rfl p7 rfl Y3 underlying67 rfl zoz ?_ | refine zR rfl 67 (.tmp 5) rfl p rfl P3 underlying67 rfl zoz ?_ | refine zB (E:=arE) rfl (.tmp 40) (.tmp 38) 3 rfl (w.heap.size+1) (O (Xa ⟨g,0,Xb⟩) (m+1) xc) acc O3 g m 1 rfl b { b with tz:=((j+1:Nat):Int)+1 } HBI.out [I6 (((j+1:Nat):Int)+1)] (by kernel_rfl) rfl (Xt rfl) (by intro u hu;simp at hu;subst hu;rfl) _ rfl (by simp;rfl) _ rfl rfl ?_)
     intro W4 ow4 gr4 sz4;have HBG:=O3.lt g rfl;have G4:Xp (zc W0 W4):=dD<|ze G3 gr4 (by rw[HS0.out];exact HBG.1)
     have HL4:Xp ((ini++ [({ b with tz:=((j+1:Nat):Int)+1 }:Ar)]).length=m+1):=dD<|by simp[HM.out]
     have O4:Xp (zb arE (w.heap.size+1) W4 (.slice (Xa ⟨g,0,Xb⟩) (ini++ [({ b with tz:=((j+1:Nat):Int)+1 }:Ar)]).length xc) (ini++ [{ b with tz:=((j+1:Nat):Int)+1 }])):=dD<|by rw[HL4.out,<-HSET.out];exact ow4
     clear ow4 gr4 sz4;rw[<-HL4.out];go_wp2
     go_roundg (64 -(j+1+1))
     case measure=>omega
     exact⟨j+1+1,ini++ [({ b with tz:=((j+1:Nat):Int)+1 }:Ar)],Xa ⟨g,0,Xb⟩,xc,by omega,by omega,by go_num,rfl,G4,O4,J2⟩
    | false=>
     have J2:Xp (J f (j+1+1) (acc++ [⟨((j+1:Nat)),(((j+1:Nat)):Int)+1,x.rd,x.wr,x.sh,x.file,x.page⟩])):=dD<|by
      have:=HNEW.out (fun b hb=>by rw[HX.out];exact HGO'.2 rfl b hb)
      rw[HPF.out,HX.out]at this;exact this
     go_upto_region 14 with(first | refine zR rfl 67 (.tmp 7) rfl p7 rfl Y3 underlying67 rfl zoz ?_ | refine zR rfl 67 (.tmp 5) rfl p rfl P3 underlying67 rfl zoz ?_)
     have HSZ:Xp (w.heap.size+1<=W3.heap.size):=dD<|by rw[<-HS0.out];exact bS G3.out
     have p1:=P3.c 1 rfl;have p2:=P3.c 2 rfl;have p3:=P3.c 3 rfl;have p4:=P3.c 4 rfl;have p5:=P3.c 5 rfl
     go_wp2_with (at_builtin;refine zw (E:=arE) rfl (.tmp 41) (.tmp 56) rfl (w.heap.size+1) _ acc rfl (O3.grew (za _ _)) _ [⟨((j+1:Nat):Int),((j+1:Nat):Int)+1,x.rd,x.wr,x.sh,x.file,x.page⟩] rfl (jK arE W3 ⟨((j+1:Nat):Int),((j+1:Nat):Int)+1,x.rd,x.wr,x.sh,x.file,x.page⟩ _ _ rfl (by show 40<=_;omega)) ?qb ?qc ?_)
     case qb=>
      show(acc.length+1)*40<=_
      have:=HLEN.out;omega
     case qc=>first | exact HSZ.out | exact nT HSZ (Yi _) | (have:=HSZ.out;omega) | (simp;have:=HSZ.out;omega)
     intro vn Wn own grn;obtain⟨xan,xcn,rfl⟩:=own.form;have On':Xp (zb arE (w.heap.size+1) Wn (.slice xan (acc++ [(⟨((j+1:Nat):Int),((j+1:Nat):Int)+1,x.rd,x.wr,x.sh,x.file,x.page⟩:Ar)]).length xcn) (acc++ [⟨((j+1:Nat):Int),((j+1:Nat):Int)+1,x.rd,x.wr,x.sh,x.file,x.page⟩])):=own;have Gn:Xp (zc W0 Wn):=show zc _ _ from zU (G3.trans (za _ _)) grn (fun g hg=>by
      have h1:=(O3.lt g hg).1;rw[HS0.out];exact h1)
     have Xn:=dD (X0.grew Gn);clear own grn p1 p2 p3 p4 p5;go_wp2
     go_roundg (64 -((j+1)+1))
     case measure=>omega
     exact⟨(j+1)+1,acc++ [(⟨((j+1:Nat):Int),((j+1:Nat):Int)+1,x.rd,x.wr,x.sh,x.file,x.page⟩:Ar)],xan,xcn,by omega,by omega,by go_num,rfl,Gn,On',J2⟩
 have hltz:¬(kk:Int)<64:=by omega
 have:kk=64:=by omega
 subst this;have HE:Xp (acc=Zk f):=JW.all HGD.out;have OE:Xp (zb arE (w.heap.size+1) wr (O xa acc.length xc) (Zk f)):=show zb _ _ _ _ _ by rw[<-HE.out];exact OW.out
 have GE:=dD (HG0.trans BW);go_wp2;go_ret;exact⟨⟨_,rfl,OE⟩,GE⟩
theorem zh3 (f:Nat->On) (w:Xo) (hg:zf2 f):
  Xq prog 129 #[Xi (zC (tab f)).toArray] w fun e w'=>(∃u,e= Xl (Xm #[u,I6 (zf0 f).2])/\zb arE w.heap.size w' u (zf0 f).1)/\zc w w':=by
 have HA:Xp (∀W,Xq prog 145 #[Xi (zC (tab f)).toArray] W fun e w'=>(∃v,e= Xl v/\zb arE (W.heap.size+1) w' v (Zk f))/\zc W w'):=fun W=>zbd f W hg
 have HFW:Xp (¬16< (Zk f).length->zf0 f=(Zk f,0)):=fun h=>by unfold zf0;rw[kF h]
 have HFM:Xp (16< (Zk f).length->zf0 f=([],4)):=fun h=>by unfold zf0;rw[kE h]
 have HJS:Xp ((Zk f).length<=64):=(zcg hg).len;clear hg;obtain⟨FW,HFE⟩:=kA (zf0 f);simp only[HFE.out]at HFW HFM⊢;obtain⟨JL,HJL⟩:=kA (Zk f);simp only[HJL.out]at HFW HFM HJS HA;have HCL:Xp ((zC (tab f)).length=384):=jQ _
 generalize zC (tab f)=C at HA HCL⊢
 obtain⟨W0,hW0⟩:=kB (w.alloc (Xk C.toArray 68));have HG0:=gA hW0
 have X0:=xA hW0
 have HW0:Xp (_=W0):=hW0;clear hW0
 go_enter func129,ntmps129
 go_upto_region 1 with fail;rw[HW0.out]
 go_wp2_with (refine zR rfl 68 (.tmp 1) rfl w.heap.size rfl X0 underlying68 rfl (by rw[HCL.out];exact zoA) ?_)
 refine(HA W0).mono ?_;rintro e W5 ⟨⟨u,rfl,ow5⟩,g5⟩;obtain⟨xa,xc,rfl⟩:=ow5.form;have G5:=dD (HG0.trans g5);have O5:Xp (zb arE w.heap.size W5 (O xa JL.length xc) JL):=ow5.base (nT (bS HG0) (Yi _));clear g5 ow5;obtain⟨m,HM⟩:=kA JL.length;rw[HM.out]at HFW HFM HJS O5⊢;have hm64:m<=64:=HJS.out
 by_cases hmany:16<m
 ·have hmz:=kC hmany
  have HR:Xp (FW=([],4)):=HFM.out hmany;go_wp2;refine bodyPost_ret (results_tmp2 rfl _ _ _) rfl ?_;rw[HR.out];exact⟨⟨_,rfl,zb.nil _ _ _⟩,G5⟩
 have hmz:=kD hmany
 have HR:Xp (FW=(JL,0)):=HFW.out hmany;go_wp2;refine bodyPost_ret (results_tmp2 rfl _ _ _) rfl ?_;rw[HR.out];exact⟨⟨_,rfl,O5⟩,G5⟩
theorem zle {b a:Ar} (hb:jA b) (ha:jA a):zf2 (zO [b,a]):=fun k _=>⟨zdS,fun h1=>by
 obtain⟨i,c,h2,h3,h4⟩:=Qm h1;rw[h4];have:c=b\/c=a:=by simpa using mG h2
 rcases this with e|e <;> subst e
 ·exact Jz hb h3
 exact Jz ha h3⟩
theorem zmY {w:Xo} {ad:Addr} {n c:Nat} {b q:Ar} (h:zm arE w (O (Xa ad) n c) l) (hb:l[j]? =Xa b) (hq:l[j+1]? =Xa q):zm arE w (O (Xa (ad.add (j*7))) 2 (c - j)) [b,q]:=by
 obtain⟨⟨a',c',h1,h2,h3⟩,h4⟩:=h;cases h1;refine⟨⟨Xa (ad.add (j*7)),c - j,rfl,fun h=>(by cases h),fun x hx k u hu=>?_⟩,by show 2*40<=_;omega⟩
 cases hx;rw[zX];refine h3 ad rfl (j*7+k) u ?_;have hu':(arv b++arv q)[k]? =Xa u:=by simpa [arE]using hu
 by_cases hk:k<7
 ·rw[Xv (by simpa [arv]using hk)]at hu'
  exact qE (enc:=arv) (k:=7) l j b (fun _ _=>rfl) hb k u hu'
 rw[aR (by simp[arv];omega)]at hu'
 have:=qE (enc:=arv) (k:=7) l (j+1) q (fun _ _=>rfl) hq (k - 7) u (by simpa [arv]using hu')
 rw[show(j+1)*7+(k - 7)=j*7+k by omega]at this
 exact this
theorem zh0 {w:Xo} {ad:Addr} {n c:Nat} (hj:j+2<=c):(Instr.sliceAt 58 (O (Xa ad) n c) (Xa (I6 (j:Int))) (Xa (I6 ((j:Int)+1+1))) Xb).run prog w= .ok (O (Xa (ad.add (j*7))) 2 (c - j)) w:=by
 have hs:(Go.sizeOf 91).run prog w= .ok 7 w:=by
  obtain⟨i0,h1,h2⟩:∃i0,Tryz.prog.info? 91=Xa i0/\i0.size=7:=by
   have:=zox
   cases hq:Tryz.prog.info? 91 with
   | none=>rw[hq]at this;cases this
   | some i0=>rw[hq]at this;exact⟨i0,rfl,by simpa using this⟩
  simp[Go.sizeOf,typeInfo,h1,h2]
 have h1:(0:Int)<=(j:Int)+1+1/\(j:Int)+1+1<=(c:Int):=by omega
 have h2:((j:Int)+1+1).toNat=j+2:=by omega
 have h3:(0:Int)<=(j:Int)/\(j:Int)<=((j+2:Nat):Int):=by omega
 have h4:¬c=j:=by omega
 simp only[Instr.sliceAt,Instr.slice,Instr.sliceBounds,Instr.sliceBound,asIntOf,Xw,Xu,rA,run_underlying underlying58];rw[kE h1];simp only[Xu,rA,h2];rw[kE h3];simp only[Xu,rA,hs,tN,kF h4,Option.map_some]
 congr 2
 omega
theorem zcZ (v:Xr) (l:List Ar) (w:Xo) (hv:zm arE w v l) (hcap:Cap v):
  Xq prog 94 #[v] w fun e w'=>e= Xl (Xi #[I6 (wrL l).1,I6 (wrL l).2])/\zc w w':=by
 have hbig:=hv.short;obtain⟨a,c,rfl,hrow⟩:=hv.ars;have HR':Xp (zbn w a l):=hrow;have hwa:Xp (∀(q:Ar) W,Xq prog 128 #[Xi #[I6 q.fr,I6 q.tz,Xh q.rd,Xh q.wr,Xh q.sh,I6 q.file,I6 q.base]] W fun e w'=>e= Xl (I6 (arW q))/\zc W w'):=fun q W=>QS q W
 have HV:Xp (zm arE w (O a l.length c) l):=hv;have hcp:l.length<=c:=hcap;have h1:Xp (∀(b q:Ar) v W,zm arE W v [b,q]->jA b->jA q->b.tz<=q.fr->Xq prog 20 #[v] W fun e w'=>e= Xl (Xi (zC (tab (zO [b,q]))).toArray)/\zc W w'):=fun b q v W hv hb hq hf=>ZH v [b,q] W hv (zlP hb hq hf)
 have h2:Xp (∀(b q:Ar) W,jA b->jA q->b.tz<=q.fr->Xq prog 145 #[Xi (zC (tab (zO [b,q]))).toArray] W fun e w'=>(∃xa xc,e= Xl (.slice xa (Zk (zO [b,q])).length xc))/\zc W w'):=fun b q W hb hq hf=>(zbd (zO [b,q]) W (zle hb hq)).mono (by
  rintro e w' ⟨⟨v,rfl,ow⟩,g⟩;obtain⟨xa,xc,rfl⟩:=ow.form;exact⟨⟨xa,xc,rfl⟩,g⟩)
 clear hrow hv hcap;have HST:Xp (¬16<l.length->Ju (j5 l 0) (l.drop 0) 0=wrL l):=zeD;have HMA:Xp (16<l.length->wrL l=(4,0)):=fun h=>by unfold wrL;rw[kE h]
 have HEND:Xp (∀r,Ju (j5 l l.length) (l.drop l.length) l.length=r->r=(0,0)):=fun r=>zjf
 obtain⟨n,HN⟩:=kA l.length;rw[HN.out]at hbig hcp HV⊢;have HST':Xp (¬16<n->Ju (j5 l 0) (l.drop 0) 0=wrL l):=dD<|by rw[<-HN.out];exact HST.out
 have HMA':Xp (16<n->wrL l=(4,0)):=dD<|by rw[<-HN.out];exact HMA.out
 have HEND':Xp (∀r,Ju (j5 l n) (l.drop n) n=r->r=(0,0)):=dD<|by rw[<-HN.out];exact HEND.out
 skip
 generalize hA:wrL l=ANS at HST' HMA'⊢
 clear hA;obtain⟨W0,hW0⟩:=kB (w.alloc (Xk #[I6 0,I6 0] 164));have HG0:=gA hW0
 have X0:=xA hW0
 have HW0:Xp (_=W0):=hW0;clear hW0
 by_cases hmany:16<n
 ·have HR:Xp (ANS=(4,0)):=HMA'.out hmany;have hmz:=kC hmany
  go_enter func94,ntmps94
  go_upto_region 1 with fail;rw[HW0.out];have f0:=X0.c 0 rfl;have f1:=X0.c 1 rfl;have ff:=X0.f;have RB:Xp (Box ((W0.setCell ⟨w.heap.size,0,Xb⟩ (I6 4)).setCell ⟨w.heap.size,1,Xb⟩ (I6 0)) w.heap.size [I6 4,I6 0]):=dD<|(X0.set 0 _).set 1 _
  have RG:Xp (zc w ((W0.setCell ⟨w.heap.size,0,Xb⟩ (I6 4)).setCell ⟨w.heap.size,1,Xb⟩ (I6 0))):=dD<|zz (zz HG0 (by simp) _) (by simp) _
  go_wp2;refine bodyPost_ret (zZ (vs:=[I6 4,I6 0]) rfl _ rfl RB underlying164 rfl zoy) rfl ⟨?_,RG⟩;rw[HR.out]
 have hmz:=kD hmany
 have HI:Xp (Ju (j5 l 0) (l.drop 0) 0=ANS):=HST'.out hmany
 go_enter func94,ntmps94
 go_upto_region 1 with fail;rw[HW0.out];go_wp2
 go_loopg [12] n (fun gg s12 wr=>∃kk:Nat,kk<=n/\n - kk<=gg/\s12=I6 kk/\Xp (zc w wr)/\Xp (Box wr w.heap.size [I6 0,I6 0])/\Xp (Ju (j5 l kk) (l.drop kk) kk=ANS)/\Xp (∀(j:Nat) q,j<kk->l[j]? =Xa q->jA q))
 case atStart=>exact⟨0,nZ _,by omega,rfl,HG0,X0,HI,fun j q hj=>absurd hj (nL _)⟩
 obtain⟨kk,hkk,hg,rfl,BW,FW,IW,OW⟩:=hrel
 by_cases hlt:kk<n
 ·have hltz:=kC hlt
  obtain⟨q,HQ⟩:∃q,Xp (l[kk]? =Xa q):=⟨_,gE (by rw[HN.out];exact hlt)⟩
  obtain⟨ad,rfl,hl⟩:=HR'.out kk q HQ.out;obtain⟨d0,d1,d2,d3,d4,d5,d6⟩:=hl wr BW.out;have HL:Xp (w.heap.size<wr.heap.size):=FW.lt;obtain⟨p,HP⟩:=kA wr.heap.size;have HLP:Xp (w.heap.size<p):=show _<_ by rw[<-HP.out];exact HL.out
  clear hl;go_upto_region 6 with fail;obtain⟨W1,hW1⟩:=kB (wr.alloc (Xk #[I6 q.fr,I6 q.tz,Xh q.rd,Xh q.wr,Xh q.sh,I6 q.file,I6 q.base] 91));have G1:=gT hW1 BW
  have F1:=yA hW1 FW
  have P1:=xP hW1 HP
  rw[hW1,HP.out];clear hW1 d0 d1 d2 d3 d4 d5 d6
  go_wp2_with (refine zR rfl 91 (.tmp 4) rfl p rfl P1 underlying91 rfl zox ?_)
  refine(hwa.out q _).mono ?_;rintro e W2 ⟨rfl,g2⟩;have G2:=dD (G1.trans g2);have F2:=dD (F1.grew g2);have P2:=dD (P1.grew g2);clear g2;have hpne:p≠w.heap.size:=by have:=HLP.out;omega
  have hpne':w.heap.size≠p:=by have:=HLP.out;omega
  by_cases hz:arW q=0
  ·have HZ:Xp (arW q=0):=hz;have hzb:(arW q != 0)=Xd:=by simp[hz]
   have HOK:Xp (jA q):=ZD.1 hz;have OW':Xp (∀(j:Nat) x,j<kk+1->l[j]? =Xa x->jA x):=show∀(j:Nat) x,_ from fun j x hj hx=>by
    by_cases e:j=kk
    ·subst e;rw[HQ.out]at hx;cases hx;exact HOK.out
    exact OW j x (by omega) hx
   clear hz;go_upto_region 9 with fail
   generalize arW q=zq
   cases kk with
   | zero=>
    have HNX:Xp (Ju (j5 l 1) (l.drop 1) 1=ANS):=zeB IW HQ HZ.out;have hz0:¬(0:Int)< ((0:Nat):Int):=by decide
    have hz1:decide ((0:Int)< ((0:Nat):Int))=Xd:=by decide
    go_quiet (fail);go_wp2
    go_roundg (n - 1)
    case measure=>omega
    exact⟨1,by omega,by omega,by go_num,G2.trans (show Below _ _ _ from bD (bR _ _) _),F2.grew (show Below _ _ _ from bD (bR _ _) _),HNX,OW'⟩
   | succ j=>
    obtain⟨b,HB⟩:∃b,Xp (l[j]? =Xa b):=⟨_,gE (by rw[HN.out];omega)⟩
    have HBK:Xp (jA b):=OW.out j b (by omega) HB.out
    have hz0:(0:Int)< ((j+1:Nat):Int):=by omega
    have hz1:decide ((0:Int)< ((j+1:Nat):Int))=Xc:=by simp
    have hj1:((j+1:Nat):Int) - 1=(j:Int):=by omega
    have hjn:(j:Int)< (n:Int):=by omega
    obtain⟨ad',had,hl⟩:=HR'.out j b HB.out;obtain rfl:ad=ad':=by cases had;rfl
    by_cases hc:q.fr<b.tz
    ·have HR:Xp (ANS=(2,((j+1:Nat):Int))):=zbA IW HB HQ HZ (.inl hc);have hcd:decide (q.fr<b.tz)=Xc:=by simpa using hc
     obtain⟨e0,e1,e2,e3,e4,e5,e6⟩:=hl W2 G2.out;have p0:=P2.c 0 rfl;clear hl;go_quiet (fail);obtain⟨W3,hW3⟩:=kB (W2.drewN nq);have G3:Xp (zc w W3):=dD<|by rw[<-hW3];exact G2.trans (show Below _ _ _ from bD (bR _ _) _)
     have F3:Xp (Box W3 w.heap.size [I6 0,I6 0]):=dD<|by rw[<-hW3];exact F2.grew (show Below _ _ _ from bD (bR _ _) _)
     rw[hW3];clear hW3 e0 e1 e2 e3 e4 e5 e6 p0;have f0:=F3.c 0 rfl;have f1:=F3.c 1 rfl;have ff:=F3.f;have RB:Xp (Box ((W3.setCell ⟨w.heap.size,0,Xb⟩ (I6 2)).setCell ⟨w.heap.size,1,Xb⟩ (I6 ((j+1:Nat):Int))) w.heap.size [I6 2,I6 ((j+1:Nat):Int)]):=dD<|(F3.set 0 _).set 1 _
     have RG:Xp (zc w ((W3.setCell ⟨w.heap.size,0,Xb⟩ (I6 2)).setCell ⟨w.heap.size,1,Xb⟩ (I6 ((j+1:Nat):Int)))):=dD<|zz (zz G3 (by simp) _) (by simp) _
     go_wp2;refine bodyPost_ret (zZ (vs:=[I6 2,I6 ((j+1:Nat):Int)]) rfl _ rfl RB underlying164 rfl zoy) rfl ⟨?_,RG⟩;rw[HR.out]
    have hcd:decide (q.fr<b.tz)=Xd:=by simpa using hc
    have HC:Xp (¬q.fr<b.tz):=hc;have hx0:=P2.gw 0 rfl
    have hx1:=P2.gw 1 rfl
    have hx2:=P2.gw 2 rfl
    have hx3:=P2.gw 3 rfl
    have hx4:=P2.gw 4 rfl
    have hx5:=P2.gw 5 rfl
    have hx6:=P2.gw 6 rfl
    have hy0:∀y:zn W2,y.world.cell? (ad.add (j*7))=Xa (I6 b.fr):=fun y=>(hl _ (G2.trans y.grew)).1
    have hy1:∀y:zn W2,y.world.cell? { block:=(ad.add (j*7)).block,off:=(ad.add (j*7)).off+1 }=Xa (I6 b.tz):=fun y=>(hl _ (G2.trans y.grew)).2.1
    have hy2:∀y:zn W2,y.world.cell? { block:=(ad.add (j*7)).block,off:=(ad.add (j*7)).off+2 }=Xa (Xh b.rd):=fun y=>(hl _ (G2.trans y.grew)).2.2.1
    have hy3:∀y:zn W2,y.world.cell? { block:=(ad.add (j*7)).block,off:=(ad.add (j*7)).off+3 }=Xa (Xh b.wr):=fun y=>(hl _ (G2.trans y.grew)).2.2.2.1
    have hy4:∀y:zn W2,y.world.cell? { block:=(ad.add (j*7)).block,off:=(ad.add (j*7)).off+4 }=Xa (Xh b.sh):=fun y=>(hl _ (G2.trans y.grew)).2.2.2.2.1
    have hy5:∀y:zn W2,y.world.cell? { block:=(ad.add (j*7)).block,off:=(ad.add (j*7)).off+5 }=Xa (I6 b.file):=fun y=>(hl _ (G2.trans y.grew)).2.2.2.2.2.1
    have hy6:∀y:zn W2,y.world.cell? { block:=(ad.add (j*7)).block,off:=(ad.add (j*7)).off+6 }=Xa (I6 b.base):=fun y=>(hl _ (G2.trans y.grew)).2.2.2.2.2.2
    have hne:Nonempty (zn W2):=⟨⟨_,zc.refl _⟩⟩;have HSL:Xp (∀W,zc w W->zm arE W (O (Xa (ad.add (j*7))) 2 (c - j)) [b,q]):=fun W hW=>zmY (HV.grew hW) HB HQ.out
    have hsl:=fun W=>zh0 (w:=W) (ad:=ad) (n:=n) (c:=c) (j:=j) (by omega)
    obtain⟨M,HM⟩:=kA ((Zk (zO [b,q])).length);have HTG:Xp (decide (M<2)=goB q b):=dD<|by rw[<-HM.out];exact znI HBK HOK (by have:=HC.out;omega)
    have HF2:Xp (b.tz<=q.fr):=dD<|by have:=HC.out;omega
    clear hl;obtain⟨O2,HO2⟩:=kA (zC (tab (zO [b,q])));refine ji [(19,⟨fun v=>v= Xi O2.toArray,fun _ _=>True⟩),(20,⟨fun v=>∃xa xc,v= O xa M xc,fun _ _=>True⟩)] zW (by kernel_rfl) ?_ ?_ ?_
    ·intro x hx
     simp at hx
     rcases hx with rfl|rfl
     ·exact⟨_,rfl⟩
     exact⟨O Xb M 0,Xb,0,rfl⟩
    ·intro x hx
     simp at hx
     rcases hx with rfl|rfl
     ·exact fun _ _ _ _ h=>h
     exact fun _ _ _ _ h=>h
    iterate 19 (refine zd rfl rfl rfl (fun K hK=>?_);go_big_quiet_op;refine hK _ ?_;clear hK)
    refine zE rfl rfl (fun w' hg hF=>?_) (fun v1 hv=>?_)
    ·refine zQ.call [O (Xa (ad.add (j*7))) 2 (c - j)] rfl func20 rfl rfl rfl ?_;refine(h1.out b q _ w' (HSL w' (G2.trans hg)) HBK HOK HF2).mono ?_;rintro e w'' ⟨rfl,hg2⟩;exact⟨_,rfl,hg2,by rw[HO2.out],trivial⟩
    subst hv;simp only[Yf,sB,sS,sZ];refine zE rfl rfl (fun w' hg hF=>?_) (fun v1 hv=>?_)
    ·refine zQ.call [Xi O2.toArray] rfl func145 rfl rfl rfl ?_;rw[<-HO2.out];refine(h2.out b q w' HBK HOK HF2).mono ?_;rintro e w'' ⟨⟨xa,xc,rfl⟩,hg2⟩;exact⟨_,rfl,hg2,⟨xa,xc,by rw[HM.out]⟩,trivial⟩
    obtain⟨xa2,xc2,rfl⟩:=hv;simp only[Yf,sB,sS,sZ];have hmz:decide ((M:Int)<2)=goB q b:=by rw[<-HTG.out];exact decide_eq_decide.2 (by omega)
    iterate 4 (refine zd rfl rfl rfl (fun K hK=>?_);go_big_quiet_op;refine hK _ ?_;clear hK)
    refine z6 fun W3 hg1 hF=>?_
    have G3:=dD (G2.trans hg1);have F3:=dD (F2.grew hg1);clear hmz hsl hg1 hF hx0 hx1 hx2 hx3 hx4 hx5 hx6 hy0 hy1 hy2 hy3 hy4 hy5 hy6 hne
    cases hgb:goB q b with
    | true=>
     have HR:Xp (ANS=(2,((j+1:Nat):Int))):=zbA IW HB HQ HZ (.inr hgb);clear hgb;have f0:=F3.c 0 rfl;have f1:=F3.c 1 rfl;have ff:=F3.f;have RB:Xp (Box ((W3.setCell ⟨w.heap.size,0,Xb⟩ (I6 2)).setCell ⟨w.heap.size,1,Xb⟩ (I6 ((j+1:Nat):Int))) w.heap.size [I6 2,I6 ((j+1:Nat):Int)]):=show Box _ _ _ from(F3.set 0 _).set 1 _
     have RG:Xp (zc w ((W3.setCell ⟨w.heap.size,0,Xb⟩ (I6 2)).setCell ⟨w.heap.size,1,Xb⟩ (I6 ((j+1:Nat):Int)))):=dD<|zz (zz G3 (by simp) _) (by simp) _
     go_wp2;refine bodyPost_ret (zZ (vs:=[I6 2,I6 ((j+1:Nat):Int)]) rfl _ rfl RB underlying164 rfl zoy) rfl ⟨?_,RG⟩;rw[HR.out]
    | false=>
     have HNX:Xp (Ju (j5 l (j+1+1)) (l.drop (j+1+1)) (j+1+1)=ANS):=zg7 IW HB HQ HZ HC hgb;clear hgb;go_wp2
     go_roundg (n -(j+1+1))
     case measure=>omega
     exact⟨j+1+1,by omega,by omega,by go_num,G3,F3,HNX,OW'⟩
  have HR:Xp (ANS=(arW q,(kk:Int))):=zjg IW HQ hz;have hzb:(arW q != 0)=Xc:=by simp[hz]
  clear hz;have f0:=F2.c 0 rfl;have f1:=F2.c 1 rfl;have ff:=F2.f;have RB:Xp (Box ((W2.setCell ⟨w.heap.size,0,Xb⟩ (I6 (arW q))).setCell ⟨w.heap.size,1,Xb⟩ (I6 (kk:Int))) w.heap.size [I6 (arW q),I6 (kk:Int)]):=dD<|(F2.set 0 _).set 1 _
  have RG:Xp (zc w ((W2.setCell ⟨w.heap.size,0,Xb⟩ (I6 (arW q))).setCell ⟨w.heap.size,1,Xb⟩ (I6 (kk:Int)))):=dD<|zz (zz G2 (by simp) _) (by simp) _
  go_wp2;refine bodyPost_ret (zZ (vs:=[I6 (arW q),I6 (kk:Int)]) rfl _ rfl RB underlying164 rfl zoy) rfl ⟨?_,RG⟩;rw[HR.out]
 have hltz:=kD hlt
 have:kk=n:=by omega
 subst this;have HR:Xp (ANS=(0,0)):=HEND'.out _ IW.out;have f0:=FW.c 0 rfl;have f1:=FW.c 1 rfl;have ff:=FW.f;have RB:Xp (Box ((wr.setCell ⟨w.heap.size,0,Xb⟩ (I6 0)).setCell ⟨w.heap.size,1,Xb⟩ (I6 0)) w.heap.size [I6 0,I6 0]):=show Box _ _ _ from(FW.set 0 _).set 1 _
 have RG:Xp (zc w ((wr.setCell ⟨w.heap.size,0,Xb⟩ (I6 0)).setCell ⟨w.heap.size,1,Xb⟩ (I6 0))):=dD<|zz (zz BW (by simp) _) (by simp) _
 go_wp2;refine bodyPost_ret (zZ (vs:=[I6 0,I6 0]) rfl _ rfl RB underlying164 rfl zoy) rfl ⟨?_,RG⟩;rw[HR.out]
end
open _root_.List renaming eq_of_mem_replicate→Xt,take_of_length_le→Xx,contains_eq_mem→Xz,take→Yb,drop→Yc,getElem?_replicate→Yd,map_nil→Ye,getElem?_append_left→Yf,map_toArray→Yg,all_eq_true→Yh,length_eq_one_iff→Yi,mem_append→Yk,contains_iff_mem→Yl,getElem?_range→Ym,mem_singleton→Yo,getElem?_map→Ys
open Go.Act renaming put→Xu
open Go.Sem renaming run_pure→Xv,run_bind→Ya
open Go.Addr renaming add_lit→Xw
open _root_.Array renaming getD_eq_getD_getElem?→Xy
open _root_.Nat renaming sub_self→Yj,lt_irrefl→Yn,lt_of_lt_of_le→Yp
open Go.Region renaming ready→Yq
open _root_.Bool renaming not_eq_true'→Yr
set_option maxRecDepth 100000
set_option maxHeartbeats 4000000
variable{B0 B1 b hi id j kk:Nat} {L:List Int} {Q:Exit->Act->Xo->Prop} {T:List (Nat->En)} {V:MaV} {W w' w0:Xo} {l:List Ar} {m:Ma} {o:Oper} {ops:Array Oper} {t:TypeId} {us vs:List Xr} {vl vt:Sli}
open Go.Proofs.Tryz
section
open Go.RowKit
theorem zQ.allocOnes {a:Act} {w:Xo} {K:Xr->Xo->Prop} (ho:o.op= .alloc 68) (h:K (Xj (Xa ⟨w.heap.size,0,Xb⟩)) (w.alloc (Xk (zC (tab fun _=>on0)).toArray 68))):zQ prog o a w K:=by
 have hz:=zbV w
 generalize zC (tab fun _=>on0)=Z at hz h
 unfold zQ;have:(execOp a.eval o).run prog w= .ok (.value (Xj (Xa ⟨w.heap.size,0,Xb⟩))) (w.alloc (Xk Z.toArray 68)):=by
  simp[execOp,ho,go_sem,hz]
 rw[this];exact h
theorem zQ.oneArea {a:Act} {w:Xo} {K:Xr->Xo->Prop} (x:Operand) (ho:o.op= .buildSlice 58 1 #[(0,x)]) (q:Ar) (hx:a.eval x=arA q) (h:K (O (Xa ⟨w.heap.size,0,Xb⟩) 1 1) (w.alloc (Xk (arv q).toArray 91))):zQ prog o a w K:=by
 unfold zQ;have:(execOp a.eval o).run prog w= .ok (.value (O (Xa ⟨w.heap.size,0,Xb⟩) 1 1)) (w.alloc (Xk (arv q).toArray 91)):=by
  simp only[execOp,ho,Yg,mP,Ye,hx]
  simp[go_sem,arA,arv]
 rw[this];exact h
theorem zQ.val {a:Act} {w:Xo} {K:Xr->Xo->Prop} {v:Xr} (hr:(execOp a.eval o).run prog w= .ok (.value v) w) (h:K v w):zQ prog o a w K:=by
 unfold zQ;rw[hr];exact h
theorem zjA {a:Act} (x:Operand) (ho:o.op= .load 91 x) (b:Nat) (hx:a.eval x= Xj (Xa ⟨b,0,Xb⟩)) {q:Ar} {w:Xo} (hb:Box w b (arv q)):(execOp a.eval o).run prog w= .ok (.value (arA q)) w:=by
 have:=run_loadAt_mid (P:=prog) w b 0 91 (arv q) _ hb.range underlying91 rfl zox;simp only[execOp,ho,hx,Ya,this,rA,Xv];rfl
def zff:List Oper:=[
 { dst := some 23, op := .move (.tmp 0), type := 58, pos := "ref.go:325", after := #[], guard := none },
 { dst := some 24, op := .call { callee := .value (.func 20), args := #[.tmp 23], argTypes := #[58] }, type := 68, pos := "ref.go:325", after := #[{ on := 0, ground := .data }], guard := none },
 { dst := some 25, op := .load 91 (.tmp 3), type := 91, pos := "ref.go:325", after := #[], guard := none },
 { dst := some 26, op := .buildSlice 58 1 #[(0, .tmp 25)], type := 58, pos := "ref.go:325", after := #[{ on := 2, ground := .data }], guard := none },
 { dst := some 27, op := .call { callee := .value (.func 20), args := #[.tmp 26], argTypes := #[58] }, type := 68, pos := "ref.go:325", after := #[{ on := 3, ground := .data }, { on := 1, ground := .chain }], guard := none },
 { dst := some 8, op := .alloc 68, type := 0, pos := "ref.go:325", after := #[], guard := none },
 { dst := some 9, op := .alloc 68, type := 0, pos := "ref.go:325", after := #[], guard := none },
 { dst := none, op := .store 68 (.tmp 8) (.tmp 24), type := 0, pos := "ref.go:325", after := #[{ on := 5, ground := .data }, { on := 1, ground := .data }, { on := 4, ground := .chain }, { on := 0, ground := .phase }, { on := 1, ground := .phase }, { on := 2, ground := .textOnly .lateStores }, { on := 3, ground := .textOnly .lateStores }, { on := 4, ground := .textOnly .lateStoresUnsure }, { on := 5, ground := .phase }, { on := 6, ground := .phase }], guard := none },
 { dst := none, op := .store 68 (.tmp 9) (.tmp 27), type := 0, pos := "ref.go:325", after := #[{ on := 6, ground := .data }, { on := 4, ground := .data }, { on := 7, ground := .chain }, { on := 0, ground := .phase }, { on := 1, ground := .phase }, { on := 2, ground := .phase }, { on := 3, ground := .phase }, { on := 4, ground := .phase }, { on := 5, ground := .phase }, { on := 6, ground := .phase }, { on := 7, ground := .phase }], guard := none }]
theorem zlL:∀l0 l1 l2 l3 l4 l5 l6:Bool,(Yq .any zff.toArray #[l0,l1,l2,l3,l4,l5,l6,Xd,Xd]).isEmpty=Xd\/(l4=Xc/\(l1=Xd\/l3=Xd))\/(l1=Xc/\l0=Xd)\/(l3=Xc/\l2=Xd):=by decide+kernel
theorem zjY:∀l0 l1 l2 l3 l4 l5 l6:Bool,(!((!l1 || l0) &&(!l3 || l2) &&(!l4 || (l1 && l3))) || (Yq .any zff.toArray #[l0,l1,l2,l3,l4,l5,l6,Xd,Xd]).all fun i=>(i == 0 && !l0) || (i == 1 && !l1 && l0) || (i == 2 && !l2) || (i == 3 && !l3 && l2) || (i == 4 && !l4 && l1 && l3) || (i == 5 && !l5) || (i == 6 && !l6) || (i == 7 && l0 && l1 && l2 && l3 && l4 && l5 && l6))=Xc:=by decide+kernel
theorem zlM (l0 l1 l2 l3 l4 l5 l6:Bool) (i:Nat) (c1:l1=Xc->l0=Xc) (c3:l3=Xc->l2=Xc) (c4:l4=Xc->l1=Xc/\l3=Xc) (hi:i∈Yq .any zff.toArray #[l0,l1,l2,l3,l4,l5,l6,Xd,Xd]):(i=0/\l0=Xd)\/(i=1/\l1=Xd/\l0=Xc)\/(i=2/\l2=Xd)\/(i=3/\l3=Xd/\l2=Xc)\/(i=4/\l4=Xd/\l1=Xc/\l3=Xc)\/(i=5/\l5=Xd)\/(i=6/\l6=Xd)\/(i=7/\l0=Xc/\l1=Xc/\l2=Xc/\l3=Xc/\l4=Xc/\l5=Xc/\l6=Xc):=by
 have hc:((!l1 || l0) &&(!l3 || l2) &&(!l4 || (l1 && l3)))=Xc:=by
  cases l0 <;> cases l1 <;> cases l2 <;> cases l3 <;> cases l4 <;> simp at c1 c3 c4⊢
 have hb:=zjY l0 l1 l2 l3 l4 l5 l6;rw[hc,Bool.not_true,Bool.false_or]at hb;have h:=Yh.1 hb i hi
 simpa [and_assoc,or_assoc]using h
structure zhO (W0:Xo) (v:Xr) (q:Ar) (O1 O2 Z0:List Xr) (l0 l1 l2 l3 l4 l5 l6:Bool) (t23 t24 t25 t26 t27 t8 t9:Xr) (W:Xo):Prop where
 g:zc W0 W
 h0:l0=Xc->t23=v
 h1:l1=Xc->t24= Xi O1.toArray
 h2:l2=Xc->t25=arA q
 h3:l3=Xc->zm arE W t26 [q]
 h4:l4=Xc->t27= Xi O2.toArray
 h5:l5=Xc->∃b,t8= Xj (Xa ⟨b,0,Xb⟩)/\Box W b Z0/\W0.heap.size<=b
 h6:l6=Xc->∃b,t9= Xj (Xa ⟨b,0,Xb⟩)/\Box W b Z0/\W0.heap.size<=b
 ne:l5=Xc->l6=Xc->t8≠t9
 c1:l1=Xc->l0=Xc
 c3:l3=Xc->l2=Xc
 c4:l4=Xc->l1=Xc/\l3=Xc
section
variable{W0:Xo} {v:Xr} {q:Ar} {O1 O2 Z0:List Xr} {l0 l1 l2 l3 l4 l5 l6:Bool} {t23 t24 t25 t26 t27 t8 t9:Xr} {W W':Xo}
theorem zhO.grew (h:zhO W0 v q O1 O2 Z0 l0 l1 l2 l3 l4 l5 l6 t23 t24 t25 t26 t27 t8 t9 W) (k:zc W W'):zhO W0 v q O1 O2 Z0 l0 l1 l2 l3 l4 l5 l6 t23 t24 t25 t26 t27 t8 t9 W':=
 ⟨h.g.trans k,h.h0,h.h1,h.h2,fun e=>(h.h3 e).grew k,h.h4,fun e=>by obtain⟨b,x,y,z⟩:=h.h5 e;exact⟨b,x,y.grew k,z⟩,fun e=>by obtain⟨b,x,y,z⟩:=h.h6 e;exact⟨b,x,y.grew k,z⟩,h.ne,h.c1,h.c3,h.c4⟩
def Qg (l0 l1 l2 l3 l4 l5 l6:Bool):Nat:=(!l0).toNat+(!l1).toNat+(!l2).toNat+(!l3).toNat+(!l4).toNat+(!l5).toNat+(!l6).toNat
theorem zij {pa:Nat} (A:Xr->Xr->Xr->Xr->Xr->Xr->Xr->Act)
  (e0:∀x23 x24 x25 x26 x27 x8 x9,(A x23 x24 x25 x26 x27 x8 x9).eval (.tmp 0)=v) (e3:∀x23 x24 x25 x26 x27 x8 x9,(A x23 x24 x25 x26 x27 x8 x9).eval (.tmp 3)= Xj (Xa ⟨pa,0,Xb⟩))
  (e23:∀x23 x24 x25 x26 x27 x8 x9,(A x23 x24 x25 x26 x27 x8 x9).eval (.tmp 23)=x23) (e24:∀x23 x24 x25 x26 x27 x8 x9,(A x23 x24 x25 x26 x27 x8 x9).eval (.tmp 24)=x24) (e25:∀x23 x24 x25 x26 x27 x8 x9,(A x23 x24 x25 x26 x27 x8 x9).eval (.tmp 25)=x25) (e26:∀x23 x24 x25 x26 x27 x8 x9,(A x23 x24 x25 x26 x27 x8 x9).eval (.tmp 26)=x26) (e27:∀x23 x24 x25 x26 x27 x8 x9,(A x23 x24 x25 x26 x27 x8 x9).eval (.tmp 27)=x27) (e8:∀x23 x24 x25 x26 x27 x8 x9,(A x23 x24 x25 x26 x27 x8 x9).eval (.tmp 8)=x8) (e9:∀x23 x24 x25 x26 x27 x8 x9,(A x23 x24 x25 x26 x27 x8 x9).eval (.tmp 9)=x9)
  (p23:∀x23 x24 x25 x26 x27 x8 x9 y,(A x23 x24 x25 x26 x27 x8 x9).put (Xa 23) y=A y x24 x25 x26 x27 x8 x9) (p24:∀x23 x24 x25 x26 x27 x8 x9 y,(A x23 x24 x25 x26 x27 x8 x9).put (Xa 24) y=A x23 y x25 x26 x27 x8 x9) (p25:∀x23 x24 x25 x26 x27 x8 x9 y,(A x23 x24 x25 x26 x27 x8 x9).put (Xa 25) y=A x23 x24 y x26 x27 x8 x9) (p26:∀x23 x24 x25 x26 x27 x8 x9 y,(A x23 x24 x25 x26 x27 x8 x9).put (Xa 26) y=A x23 x24 x25 y x27 x8 x9) (p27:∀x23 x24 x25 x26 x27 x8 x9 y,(A x23 x24 x25 x26 x27 x8 x9).put (Xa 27) y=A x23 x24 x25 x26 y x8 x9) (p8:∀x23 x24 x25 x26 x27 x8 x9 y,(A x23 x24 x25 x26 x27 x8 x9).put (Xa 8) y=A x23 x24 x25 x26 x27 y x9) (p9:∀x23 x24 x25 x26 x27 x8 x9 y,(A x23 x24 x25 x26 x27 x8 x9).put (Xa 9) y=A x23 x24 x25 x26 x27 x8 y)
  (pn:∀x23 x24 x25 x26 x27 x8 x9 y,(A x23 x24 x25 x26 x27 x8 x9).put Xb y=A x23 x24 x25 x26 x27 x8 x9)
  (hv:zm arE W0 v l) (hl:znA l) (ha:jA q) (hb:Box W0 pa (arv q))
  (hQ:∀W b8 b9 x26,b8≠b9->zc W0 W->Box W b8 (zC (tab (zO l)))->Box W b9 (zC (tab (zO [q])))->W0.heap.size<=b8->W0.heap.size<=b9->Q .normal (A v (Xi (zC (tab (zO l))).toArray) (arA q) x26 (Xi (zC (tab (zO [q]))).toArray) (Xj (Xa ⟨b8,0,Xb⟩)) (Xj (Xa ⟨b9,0,Xb⟩))) W)
  (x23 x24 x25 x26 x27 x8 x9:Xr):(Code.region id zff.toArray Xc).wp prog Q (A x23 x24 x25 x26 x27 x8 x9) W0:=by
 have hO1:(zC (tab (zO l))).length=384:=jQ _;have hO2:(zC (tab (zO [q]))).length=384:=jQ _;have hZ:(zC (tab fun _=>on0)).length=384:=jQ _
 have hc1:∀W,zc W0 W->Xq prog 20 #[v] W fun e w'=>e= Xl (Xi (zC (tab (zO l))).toArray)/\zc W w':=fun W hW=>ZH v l W (hv.grew hW) hl
 have hc2:∀W u,zm arE W u [q]->Xq prog 20 #[u] W fun e w'=>e= Xl (Xi (zC (tab (zO [q]))).toArray)/\zc W w':=fun W u hu=>ZH u [q] W hu (zlQ ha)
 have hn1:=JF (tab (zO l));have hn2:=JF (tab (zO [q]));have hal:∀W:Xo,Box (W.alloc (Xk (zC (tab fun _=>on0)).toArray 68)) W.heap.size (zC (tab fun _=>on0)):=fun W=>Box.top _ _ _ rfl
 generalize zC (tab (zO l))=O1 at*
 generalize zC (tab (zO [q]))=O2 at*
 have main:∀(n:Nat) (l0 l1 l2 l3 l4 l5 l6:Bool) (x23 x24 x25 x26 x27 x8 x9:Xr) (W:Xo),Qg l0 l1 l2 l3 l4 l5 l6=n->zhO W0 v q O1 O2 (zC (tab fun _=>on0)) l0 l1 l2 l3 l4 l5 l6 x23 x24 x25 x26 x27 x8 x9 W->wpAnyH prog .any zff.toArray Q (fun _=>True) (n+2) #[l0,l1,l2,l3,l4,l5,l6,Xd,Xd] (A x23 x24 x25 x26 x27 x8 x9) W:=by
  intro n
  induction n with
  | zero=>
   intro l0 l1 l2 l3 l4 l5 l6 x23 x24 x25 x26 x27 x8 x9 W hcnt inv;obtain⟨rfl,rfl,rfl,rfl,rfl,rfl,rfl⟩:l0=Xc/\l1=Xc/\l2=Xc/\l3=Xc/\l4=Xc/\l5=Xc/\l6=Xc:=by
    revert hcnt
    unfold Qg
    cases l0 <;> cases l1 <;> cases l2 <;> cases l3 <;> cases l4 <;> cases l5 <;> cases l6 <;> simp
   obtain⟨b8,rfl,hb8,hs8⟩:=inv.h5 rfl;obtain⟨b9,rfl,hb9,hs9⟩:=inv.h6 rfl;have hne:b8≠b9:=fun e=>inv.ne rfl rfl (by rw[e])
   obtain rfl:=inv.h0 rfl;obtain rfl:=inv.h1 rfl;obtain rfl:=inv.h2 rfl;obtain rfl:=inv.h4 rfl;refine wpAnyH_all (rs:=[7]) (by kernel_rfl) (by simp) ?_
   intro j hj;rw[Yo]at hj;subst hj;refine jZ Xb (fun _ w'=>Box w' b8 O1/\Box w' b9 (zC (tab fun _=>on0))/\zc W0 w') rfl rfl rfl (zQ.storeAll 68 (.tmp 8) (.tmp 24) rfl b8 (e8 ..) O1 (e24 ..) hb8 (by rw[hO1,hZ]) (by rw[hZ];exact zoA) hn1 (fun w' b' g' s'=>⟨b',hb9.grown g' (fun e=>hne e.symm),ze inv.g g' hs8⟩)) ?_
   rintro y W1 ⟨h1,h2,h3⟩;rw[pn];refine⟨trivial,?_⟩;refine wpAnyH_all (rs:=[8]) (by kernel_rfl) (by simp) ?_
   intro j hj;rw[Yo]at hj;subst hj;refine jZ Xb (fun _ w'=>Box w' b8 O1/\Box w' b9 O2/\zc W0 w') rfl rfl rfl (zQ.storeAll 68 (.tmp 9) (.tmp 27) rfl b9 (e9 ..) O2 (e27 ..) h2 (by rw[hO2,hZ]) (by rw[hZ];exact zoA) hn2 (fun w' b' g' s'=>⟨h1.grown g' hne,b',ze h3 g' hs9⟩)) ?_
   rintro y W2 ⟨h4,h5,h6⟩;rw[pn];refine⟨trivial,?_⟩;exact wpAnyH_done (by kernel_rfl) (hQ W2 b8 b9 _ hne h6 h4 h5 hs8 hs9) _
  | succ n ih=>
   intro l0 l1 l2 l3 l4 l5 l6 x23 x24 x25 x26 x27 x8 x9 W hcnt inv;refine⟨fun h0=>?_,fun i hi=>?_⟩
   ·rcases zlL l0 l1 l2 l3 l4 l5 l6 with h|⟨h,h'⟩|⟨h,h'⟩|⟨h,h'⟩
    ·rw[h0]at h;cases h
    ·have:=inv.c4 h
     rcases h' with h' | h'
     ·rw[this.1]at h';cases h'
     rw[this.2]at h';cases h'
    ·rw[inv.c1 h]at h';cases h'
    rw[inv.c3 h]at h';cases h'
   rcases zlM l0 l1 l2 l3 l4 l5 l6 i inv.c1 inv.c3 inv.c4 hi with⟨rfl,rfl⟩|⟨rfl,rfl,rfl⟩|⟨rfl,rfl⟩|⟨rfl,rfl,rfl⟩|⟨rfl,rfl,rfl,rfl⟩|⟨rfl,rfl⟩|⟨rfl,rfl⟩|⟨rfl,rfl,rfl,rfl,rfl,rfl,rfl,rfl⟩
   ·refine jZ (Xa 23) (fun y w'=>y=v/\w'=W) rfl rfl rfl (zQ.val (v:=v) (by rw[<-e0 x23 x24 x25 x26 x27 x8 x9];rfl) ⟨rfl,rfl⟩) ?_
    rintro y w' ⟨rfl,rfl⟩;rw[p23];refine⟨trivial,ih Xc l1 l2 l3 l4 l5 l6 _ _ _ _ _ _ _ _ (by unfold Qg at hcnt⊢;simp at hcnt⊢;omega) ⟨inv.g,fun _=>rfl,inv.h1,inv.h2,inv.h3,inv.h4,inv.h5,inv.h6,inv.ne,fun _=>rfl,inv.c3,inv.c4⟩⟩
   ·refine jZ (Xa 24) (fun y w'=>y= Xi O1.toArray/\zc W w') rfl rfl rfl (zQ.call [v] rfl func20 rfl rfl (by rw[mP,Ye,e23,inv.h0 rfl]) ((hc1 W inv.g).mono (fun e w' h=>⟨_,h.1,rfl,h.2⟩))) ?_
    rintro y w' ⟨rfl,hg⟩;rw[p24];have inv':=inv.grew hg;refine⟨trivial,ih Xc Xc l2 l3 l4 l5 l6 _ _ _ _ _ _ _ _ (by unfold Qg at hcnt⊢;simp at hcnt⊢;omega) ⟨inv'.g,inv'.h0,fun _=>rfl,inv'.h2,inv'.h3,inv'.h4,inv'.h5,inv'.h6,inv'.ne,fun _=>rfl,inv'.c3,fun h=>⟨rfl,(inv'.c4 h).2⟩⟩⟩
   ·refine jZ (Xa 25) (fun y w'=>y=arA q/\w'=W) rfl rfl rfl (zQ.val (v:=arA q) (zjA (.tmp 3) rfl pa (e3 ..) (hb.grew inv.g)) ⟨rfl,rfl⟩) ?_
    rintro y w' ⟨rfl,rfl⟩;rw[p25];refine⟨trivial,ih l0 l1 Xc l3 l4 l5 l6 _ _ _ _ _ _ _ _ (by unfold Qg at hcnt⊢;simp at hcnt⊢;omega) ⟨inv.g,inv.h0,inv.h1,fun _=>rfl,inv.h3,inv.h4,inv.h5,inv.h6,inv.ne,inv.c1,fun _=>rfl,inv.c4⟩⟩
   ·refine jZ (Xa 26) (fun y w'=>zm arE w' y [q]/\zc W w') rfl rfl rfl (zQ.oneArea (.tmp 25) rfl q (by rw[e25,inv.h2 rfl]) ⟨jK arE W q _ _ rfl (by show 40<=_;omega),za _ _⟩) ?_
    rintro y w' ⟨hr,hg⟩;rw[p26];have inv':=inv.grew hg;refine⟨trivial,ih l0 l1 Xc Xc l4 l5 l6 _ _ _ _ _ _ _ _ (by unfold Qg at hcnt⊢;simp at hcnt⊢;omega) ⟨inv'.g,inv'.h0,inv'.h1,inv'.h2,fun _=>hr,inv'.h4,inv'.h5,inv'.h6,inv'.ne,inv'.c1,fun _=>rfl,fun h=>⟨(inv'.c4 h).1,rfl⟩⟩⟩
   ·refine jZ (Xa 27) (fun y w'=>y= Xi O2.toArray/\zc W w') rfl rfl rfl (zQ.call [x26] rfl func20 rfl rfl (by rw[mP,Ye,e26]) ((hc2 W x26 (inv.h3 rfl)).mono (fun e w' h=>⟨_,h.1,rfl,h.2⟩))) ?_
    rintro y w' ⟨rfl,hg⟩;rw[p27];have inv':=inv.grew hg;refine⟨trivial,ih l0 Xc l2 Xc Xc l5 l6 _ _ _ _ _ _ _ _ (by unfold Qg at hcnt⊢;simp at hcnt⊢;omega) ⟨inv'.g,inv'.h0,inv'.h1,inv'.h2,inv'.h3,fun _=>rfl,inv'.h5,inv'.h6,inv'.ne,inv'.c1,inv'.c3,fun _=>⟨rfl,rfl⟩⟩⟩
   ·refine jZ (Xa 8) (fun y w'=>y= Xj (Xa ⟨W.heap.size,0,Xb⟩)/\Box w' W.heap.size (zC (tab fun _=>on0))/\zc W w') rfl rfl rfl (zQ.allocOnes rfl ⟨rfl,hal W,za _ _⟩) ?_
    rintro y w' ⟨rfl,hbx,hg⟩;rw[p8];have inv':=inv.grew hg;refine⟨trivial,ih l0 l1 l2 l3 l4 Xc l6 _ _ _ _ _ _ _ _ (by unfold Qg at hcnt⊢;simp at hcnt⊢;omega) ⟨inv'.g,inv'.h0,inv'.h1,inv'.h2,inv'.h3,inv'.h4,fun _=>⟨_,rfl,hbx,bS inv.g⟩,inv'.h6,fun _ h6=>?_,inv'.c1,inv'.c3,inv'.c4⟩⟩
    obtain⟨b,rfl,h2,_⟩:=inv.h6 h6;intro e;cases e;exact absurd h2.lt (Yn _)
   ·refine jZ (Xa 9) (fun y w'=>y= Xj (Xa ⟨W.heap.size,0,Xb⟩)/\Box w' W.heap.size (zC (tab fun _=>on0))/\zc W w') rfl rfl rfl (zQ.allocOnes rfl ⟨rfl,hal W,za _ _⟩) ?_
    rintro y w' ⟨rfl,hbx,hg⟩;rw[p9];have inv':=inv.grew hg;refine⟨trivial,ih l0 l1 l2 l3 l4 l5 Xc _ _ _ _ _ _ _ _ (by unfold Qg at hcnt⊢;simp at hcnt⊢;omega) ⟨inv'.g,inv'.h0,inv'.h1,inv'.h2,inv'.h3,inv'.h4,inv'.h5,fun _=>⟨_,rfl,hbx,bS inv.g⟩,fun h5 _=>?_,inv'.c1,inv'.c3,inv'.c4⟩⟩
    obtain⟨b,rfl,h2,_⟩:=inv.h5 h5;intro e;cases e;exact absurd h2.lt (Yn _)
   unfold Qg at hcnt
   simp at hcnt
 refine wp_region_held (S:=fun _=>True) zW ?_
 have hd:zc W0 { W0 with drawn:=W0.drawn+1 }:=show Below _ _ _ from Below.drew (bR _ _)
 exact main 7 Xd Xd Xd Xd Xd Xd Xd x23 x24 x25 x26 x27 x8 x9 _ rfl ⟨hd,fun h=>(by cases h),fun h=>(by cases h),fun h=>(by cases h),fun h=>(by cases h),fun h=>(by cases h),fun h=>(by cases h),fun h=>(by cases h),fun h=>(by cases h),fun h=>(by cases h),fun h=>(by cases h),fun h=>(by cases h)⟩
end
def zof (R:List Ar × Int) (w:Xo) (e:Ending) (w':Xo):Prop:=(∃u,e= Xl (Xm #[u,I6 R.2])/\zb arE w.heap.size w' u R.1)/\zc w w'
def zdt (l:List Ar) (a:Ar) (k:Nat):Nat->On:=fun j=>if j<k/\Zf a j=Xc then qp a j else zO l j
theorem zmr (l:List Ar) (a:Ar):zdt l a 0=zO l:=by
 funext j
 unfold zdt;rw[kF (by omega)]
theorem znX (l:List Ar) (a:Ar) (k:Nat):zdt l a k k=zO l k:=by
 unfold zdt;rw[kF (by omega)]
theorem znp {a:Ar} {k:Nat} (h:Zf a k=Xc):upd (zdt l a k) k (qp a k)=zdt l a (k+1):=by
 funext j
 unfold upd zdt
 by_cases e:j=k
 ·subst e;rw[kE rfl,kE ⟨by omega,h⟩]
 rw[kF e]
 by_cases h1:j<k/\Zf a j=Xc
 ·rw[kE h1,kE ⟨by omega,h1.2⟩]
 rw[kF h1,kF (fun h2=>h1 ⟨by omega,h2.2⟩)]
theorem zms {a:Ar} {k:Nat} (h:Zf a k=Xd):zdt l a k=zdt l a (k+1):=by
 funext j
 unfold zdt
 by_cases h1:j<k/\Zf a j=Xc
 ·rw[kE h1,kE ⟨by omega,h1.2⟩]
 rw[kF h1]
 by_cases h2:j<k+1/\Zf a j=Xc
 ·have:j=k:=by
   rcases Nat.lt_or_ge j k with h3|h3
   ·exact absurd ⟨h3,h2.2⟩ h1
   omega
  rw[this,h]at h2
  cases h2.2
 rw[kF h2]
theorem znq (l:List Ar) (a:Ar):tab (zdt l a 64)=tab (zfY l a):=zmW fun k hk=>by
 unfold zdt zfY
 by_cases h:Zf a k=Xc
 ·rw[kE ⟨hk,h⟩,kE h]
 rw[kF (fun h1=>h h1.2),kF h]
theorem zmF (a:Ar) (k:Nat):zO [a] k=if Zf a k=Xc then qp a k else on0:=rfl
theorem zjM (a:Ar) (k:Nat):(zO [a] k).is=Zf a k:=by
 rw[zmF]
 cases h:Zf a k with
 | true=>rfl
 | false=>rfl
theorem znT {a:Ar} {k:Nat} (hk:k<64) (h:Zf a k=Xc) (h':(zO l k).is=Xc):zk7 l a.fr (a.tz - a.fr)=Xc:=zlZ.2 ⟨k,hk,by have:=qd.1 h;omega,h'⟩
theorem zlY {a:Ar} (h:∀k,k<64->Zf a k=Xc->(zO l k).is=Xd):zk7 l a.fr (a.tz - a.fr)=Xd:=znd.2 fun k hk hw=>h k hk (qd.2 (by omega))
theorem zdb (v:Xr) (l:List Ar) (a:Ar) (w:Xo) (hv:zm arE w v l) (hcap:Cap v):
  Xq prog 79 #[v,Xi #[I6 a.fr,I6 a.tz,Xh a.rd,Xh a.wr,Xh a.sh,I6 a.file,I6 a.base]] w (zof (zad l a) w):=by
 have HV:Xp (zm arE w v l):=hv;have HW:Xp (∀W,zc w W->Xq prog 94 #[v] W fun e w'=>e= Xl (Xi #[I6 (wrL l).1,I6 (wrL l).2])/\zc W w'):=fun W hW=>zcZ v l W (HV.grew hW) hcap
 have HWA:Xp (∀W,Xq prog 128 #[Xi #[I6 a.fr,I6 a.tz,Xh a.rd,Xh a.wr,Xh a.sh,I6 a.file,I6 a.base]] W fun e w'=>e= Xl (I6 (arW a))/\zc W w'):=fun W=>QS a W
 clear hv hcap;obtain⟨W0,hW0⟩:=kB (w.alloc (Xk #[I6 a.fr,I6 a.tz,Xh a.rd,Xh a.wr,Xh a.sh,I6 a.file,I6 a.base] 91));have G0:=gA hW0
 have X0:=xA hW0
 have HW0:Xp (_=W0):=hW0;clear hW0
 by_cases hz:(wrL l).1=0
 ·rw[hz]at HW
  generalize(wrL l).2=I at HW
  by_cases hza:arW a=0
  ·rw[hza]at HWA;have HL:Xp (l.length<=16/\ZT Xb l):=jY.1 hz;have HA:Xp (jA a):=ZD.1 hza;have HR0:Xp (zad l a=if zk7 l a.fr (a.tz - a.fr)=Xc then([],6)else zf0 (zfY l a)):=show _=_ by unfold zad;rw[kF (fun h=>h hz),kF (fun h=>h hza)]
   have HFEW:Xp (∀W,Xq prog 129 #[Xi (zC (tab (zdt l a 64))).toArray] W fun e w'=>(∃u,e= Xl (Xm #[u,I6 (zf0 (zfY l a)).2])/\zb arE W.heap.size w' u (zf0 (zfY l a)).1)/\zc W w'):=fun W=>by
    rw[znq];exact zh3 (zfY l a) W (zav HL.2 HA)
   clear hz hza
   go_enter func79,ntmps79
   go_upto_region 1 with fail;rw[HW0.out];go_wp2_with fail;refine(HW W0 G0).mono ?_;rintro e W1 ⟨rfl,g⟩;have G1:=dD (G0.trans g);have X1:=dD (X0.grew g);clear g;obtain⟨pf,HPF⟩:=kA W1.heap.size;go_upto_region 2 with fail;obtain⟨W2,hWf⟩:=kB (W1.alloc (Xk #[I6 0,I6 I] 164));have G2:=gT hWf G1
   have F2:=xP hWf HPF
   have X2:=yA hWf X1
   rw[hWf,HPF.out];clear hWf;have f0:=F2.c 0 rfl
   go_wp2_with (refine zR rfl 91 (.tmp 3) rfl w.heap.size rfl X2 underlying91 rfl zox ?_)
   refine(HWA W2).mono ?_;rintro e W3 ⟨rfl,g⟩;have G3:=dD (G2.trans g);have X3:=dD (X2.grew g);clear g f0;go_upto_region 7 with fail;refine zij (v:=v) (q:=a) (pa:=w.heap.size) (l:=l) (fun x23 x24 x25 x26 x27 x8 x9=>⟨#[_,_,_,_,_,_,_,_,x8,x9,_,_,_,_,_,_,_,_,_,_,_,_,_,x23,x24,x25,x26,x27,_,_,_,_,_,_,_,_,_,_,_,_,_,_,_,_,_,_,_,_,_,_,_,_,_,_,_],[]⟩) (fun _ _ _ _ _ _ _=>rfl) (fun _ _ _ _ _ _ _=>rfl) (fun _ _ _ _ _ _ _=>rfl) (fun _ _ _ _ _ _ _=>rfl) (fun _ _ _ _ _ _ _=>rfl) (fun _ _ _ _ _ _ _=>rfl) (fun _ _ _ _ _ _ _=>rfl) (fun _ _ _ _ _ _ _=>rfl) (fun _ _ _ _ _ _ _=>rfl) (fun _ _ _ _ _ _ _ _=>rfl) (fun _ _ _ _ _ _ _ _=>rfl) (fun _ _ _ _ _ _ _ _=>rfl) (fun _ _ _ _ _ _ _ _=>rfl) (fun _ _ _ _ _ _ _ _=>rfl) (fun _ _ _ _ _ _ _ _=>rfl) (fun _ _ _ _ _ _ _ _=>rfl) (fun _ _ _ _ _ _ _ _=>rfl) (HV.grew G3) HL.2.lies HA X3.out ?_ _ _ _ _ _ _ _
   intro W4 b8 b9 x26 hbne g4 hb8 hb9 hs8 hs9;have G4:=dD (G3.trans g4);have B8:Xp (Box W4 b8 (zC (tab (zdt l a 0)))):=show Box _ _ _ by rw[zmr];exact hb8
   have B9:Xp (Box W4 b9 (zC (tab (zO [a])))):=hb9;have HS8:Xp (w.heap.size<=b8):=nT (bS G3) hs8;have hbne':b9≠b8:=fun e=>hbne e.symm
   have HNE:Xp (b9≠b8):=hbne';clear g4 hb8 hb9 hs8 hs9;go_wp2
   go_loopg [28] 64 (fun gg s28 wr=>∃kk:Nat,kk<=64/\64 - kk<=gg/\s28=I6 kk/\Xp (zc w wr)/\Xp (Box wr b8 (zC (tab (zdt l a kk))))/\Xp (Box wr b9 (zC (tab (zO [a]))))/\Xp (∀j:Nat,j<kk->Zf a j=Xc->(zO l j).is=Xd))
   case atStart=>exact⟨0,nZ _,by omega,rfl,G4,B8,B9,fun j hj=>absurd hj (nL _)⟩
   obtain⟨kk,hkk,hg,rfl,BW,LW,RW,HH⟩:=hrel
   by_cases hlt:kk<64
   ·have hltz:(kk:Int)<64:=by omega
    have d8:=LW.c (kk*6) (ZN (Q5 hlt) 0 (Xh (zO l kk).is) (by rw[znX];rfl))
    have d9:=RW.c (kk*6) (ZN (Q5 hlt) 0 (Xh (Zf a kk)) (by rw[<-zjM];rfl))
    cases hin:Zf a kk with
    | true=>
     cases his:(zO l kk).is with
     | true=>
      have HR:Xp (zad l a=([],6)):=dD<|by rw[HR0.out,znT hlt hin his,kE rfl]
      rw[his]at d8;rw[hin]at d9;clear hin his;go_wp2;refine bodyPost_ret (results_tmp2 rfl _ _ _) rfl ?_;rw[HR.out];exact⟨⟨_,rfl,zb.nil _ _ _⟩,BW⟩
     | false=>
      have HST:Xp (upd (zdt l a kk) kk (qp a kk)=zdt l a (kk+1)):=znp hin;have HON:Xp (zO [a] kk=qp a kk):=show _=_ by rw[zmF,kE hin]
      have HH2:Xp (∀j:Nat,j<kk+1->Zf a j=Xc->(zO l j).is=Xd):=dD<|fun j hj h=>by
       by_cases e:j=kk
       ·rw[e];exact his
       exact HH j (by omega) h
      rw[his]at d8;rw[hin]at d9;clear hin his;have HLV:Xp (Value.agg (onv (zO [a] kk)).toArray= Xi (onv (qp a kk)).toArray):=dD<|by rw[HON.out]
      go_wp2_with (first | refine zc6 rfl (.tmp 47) rfl b9 kk hlt rfl RW HLV.out ?_ | refine zc5 rfl (.tmp 49) (.tmp 48) rfl b8 kk hlt rfl (qp a kk) rfl LW.out ?_)
      intro W5 b5 g5 s5;have L5:Xp (Box W5 b8 (zC (tab (zdt l a (kk+1))))):=dD<|by rw[<-HST.out];exact b5
      have R5:Xp (Box W5 b9 (zC (tab (zO [a])))):=RW.grown g5 HNE.out;have G5:Xp (zc w W5):=ze BW g5 HS8.out;clear b5 g5 s5 d8 d9;go_wp2
      go_roundg (64 -(kk+1))
      case measure=>omega
      exact⟨kk+1,by omega,by omega,by go_num,G5,L5,R5,HH2⟩
    | false=>
     have L5:Xp (Box wr b8 (zC (tab (zdt l a (kk+1))))):=dD<|by rw[<-zms hin];exact LW.out
     have HH2:Xp (∀j:Nat,j<kk+1->Zf a j=Xc->(zO l j).is=Xd):=dD<|fun j hj h=>by
      by_cases e:j=kk
      ·rw[e,hin]at h;cases h
      exact HH j (by omega) h
     rw[hin]at d9;clear hin
     cases his:(zO l kk).is with
     | true=>
      rw[his]at d8;clear his;go_wp2
      go_roundg (64 -(kk+1))
      case measure=>omega
      exact⟨kk+1,by omega,by omega,by go_num,BW,L5,RW,HH2⟩
     | false=>
      rw[his]at d8;clear his;go_wp2
      go_roundg (64 -(kk+1))
      case measure=>omega
      exact⟨kk+1,by omega,by omega,by go_num,BW,L5,RW,HH2⟩
   have hltz:¬(kk:Int)<64:=by omega
   have:kk=64:=by omega
   subst this;have HR:Xp (zad l a=zf0 (zfY l a)):=dD<|by rw[HR0.out,zlY HH.out,kF (by decide)]
   have HCL:Xp ((zC (tab (zdt l a 64))).length=384):=jQ _
   go_wp2_with (refine zR rfl 68 (.tmp 8) rfl b8 rfl LW underlying68 rfl (by rw[HCL.out];exact zoA) ?_)
   refine(HFEW wr).mono ?_;rintro e W6 ⟨⟨u,rfl,ow⟩,g6⟩;have G6:=dD (BW.trans g6);have O6:Xp (zb arE w.heap.size W6 u (zf0 (zfY l a)).1):=ow.base (bS BW);clear g6 ow;go_wp2;refine bodyPost_ret (results_tmp2 rfl _ _ _) rfl ?_;rw[HR.out];exact⟨⟨_,rfl,O6⟩,G6⟩
  have hzb:(arW a != 0)=Xc:=by simp[hza]
  have HR:Xp (zad l a=([],arW a)):=dD<|by unfold zad;rw[kF (fun h=>h hz),kE hza]
  clear hz hza
  generalize arW a=E at*
  go_enter func79,ntmps79
  go_upto_region 1 with fail;rw[HW0.out];go_wp2_with fail;refine(HW W0 G0).mono ?_;rintro e W1 ⟨rfl,g⟩;have G1:=dD (G0.trans g);have X1:=dD (X0.grew g);clear g;obtain⟨pf,HPF⟩:=kA W1.heap.size;go_upto_region 2 with fail;obtain⟨W2,hWf⟩:=kB (W1.alloc (Xk #[I6 0,I6 I] 164));have G2:=gT hWf G1
  have F2:=xP hWf HPF
  have X2:=yA hWf X1
  rw[hWf,HPF.out];clear hWf;have f0:=F2.c 0 rfl
  go_wp2_with (refine zR rfl 91 (.tmp 3) rfl w.heap.size rfl X2 underlying91 rfl zox ?_)
  refine(HWA W2).mono ?_;rintro e W3 ⟨rfl,g⟩;have G3:=dD (G2.trans g);clear g f0;go_wp2;refine bodyPost_ret (results_tmp2 rfl _ _ _) rfl ?_;rw[HR.out];exact⟨⟨_,rfl,zb.nil _ _ _⟩,G3⟩
 have hzb:((wrL l).1 != 0)=Xc:=by simp[hz]
 have HR:Xp (zad l a=([],(wrL l).1)):=dD<|by unfold zad;rw[kE hz]
 clear hz
 generalize(wrL l).2=I at HW
 generalize(wrL l).1=E at*
 go_enter func79,ntmps79
 go_upto_region 1 with fail;rw[HW0.out];go_wp2_with fail;refine(HW W0 G0).mono ?_;rintro e W1 ⟨rfl,g⟩;have G1:=dD (G0.trans g);clear g;obtain⟨pf,HPF⟩:=kA W1.heap.size;go_upto_region 2 with fail;obtain⟨W2,hWf⟩:=kB (W1.alloc (Xk #[I6 E,I6 I] 164));have G2:=gT hWf G1
 have F2:=xP hWf HPF
 rw[hWf,HPF.out];clear hWf;have f0:=F2.c 0 rfl;go_upto_region 3 with fail;go_quiet (fail);obtain⟨Wq,hWq⟩:=kB (W2.drewN nq);have Gq:Xp (zc w Wq):=dD<|by rw[<-hWq];exact G2.trans (show Below _ _ _ from bD (bR _ _) _)
 rw[hWq];clear hWq f0;go_wp2;refine bodyPost_ret (results_tmp2 rfl _ _ _) rfl ?_;rw[HR.out];exact⟨⟨_,rfl,zb.nil _ _ _⟩,Gq⟩
def Frk (w0:Xo) (hi b:Nat) (w:Xo) (vl:Sli) (L:List Int) (m:Ma) (l:List Ar) (w':Xo):Prop:=∃V' m' vt' T',Mk w0 hi w' b vl L V' m' vt' T'/\zr hi w w'/\qV m' T'/\(m'.sp=m.sp++ [⟨Xc,l,qL⟩]/\m'.fl=m.fl/\m'.hand=m.hand/\m'.fs.length=m.fs.length)
theorem j4 {α:Type} {E:Elt α} {w:Xo} {a:Act} {K:Xr->Xo->Prop} (p x:Operand) (t:TypeId) (ho:o.op= .store t p x) (base:Nat) (v:Xr) (l:List α) (hown:zb E base w v l)
  (g i j:Nat) (hg:v.ownBlock=Xa g) (e y:α) (hi:l[i]? =Xa e) (cs:List Xr) (hk:(Tryz.prog.info? t).map (·.size)=Xa cs.length) (hy:E.enc y=splice (E.enc e) j cs) (hj:j+cs.length<=E.k) (h1:∀u∈cs,u.oneCell'=Xc)
  (ad:Addr) (hp:a.eval p= Xj (Xa ad)) (had:ad=⟨g,i*E.k+j,Xb⟩) (vx:Xr) (hx:a.eval x=vx) (hvx:vx.cells=cs.toArray)
  (h:∀w',zb E base w' v (l.set i y)->w.grownBy w' (Xa g)->w'.heap.size=w.heap.size->K undef w'):zQ prog o a w K:=by
 obtain⟨w',h2,h3,h4,h5⟩:=JO p x t ho base v l hown g i j hg e y hi cs hk hy hj h1 ad hp had vx hx hvx;exact zcz h2 (h w' h3 h4 h5)
theorem Mk.entry {w:Xo} {pe:Nat} {cs:List Xr} (h:Mk w0 hi w b vl L V m vt T) (hp:zt w pe 55 cs) (hh:hi<=pe) (hg:w.grownBy w' (Xa pe)):Mk w0 hi w' b vl L V m vt T:=by
 have hne:b≠pe:=fun e=>by
  subst e;have h1:w.heap[b]? =_:=h.box;rw[show w.heap[b]? =_ from hp]at h1
  cases h1
 have r:=h.rows;obtain⟨k1,k2,k3,k4,k5,k6,k7,k8,k9⟩:=r.kept hg hp;exact⟨ze h.gr hg (nT r.bh hh),h.hb,h.box.beside hg (fun k e=>by cases e;exact hne),h.lr,h.lc,h.lb,⟨nT r.hw hg.size,r.bh,k1 (by decide),k2 (.inl (by decide)),r.slh,k3 (.inl (by decide)),r.sbh,r.sq,k4 (.inl (by decide)),r.dbh,k5 (by decide),k6 (by decide) (.inl (by decide)),k7 (by decide),k8 (by decide) (by decide),k9 (by decide),r.ap⟩⟩
theorem zma {w:Xo} (s0:Sp) (h:Mk w0 hi w b vl L V m vt T) (hB:qV m T) (hs:m.sp=[s0]):
  Xq prog 40 #[Xj (Xa ⟨b,0,Xb⟩)] w fun e w'=>(∃v,e= Xl v)/\Frk w0 hi b w vl L m s0.ars w':=by
 have HM:Xp (Mk w0 hi w b vl L V m vt T):=h;have HB:Xp (qV m T):=hB;have HS:Xp (m.sp=[s0]):=hs;obtain⟨f0,rfl⟩:∃f0,T=[f0]:=Yi.1 (by rw[hB.tl,hs];rfl)
 obtain⟨ys,s1,s2,s3⟩:=h.rows.sp;obtain⟨y0,rfl⟩:∃y0,ys=[y0]:=Yi.1 (by rw[s2,hs];rfl)
 obtain⟨gs,cs,hse⟩:=s1.formS (by simp)
 have hse:V.sp.x=(O (Xa ⟨gs,0,Xb⟩) 1 cs):=hse;have HSE:Xp (V.sp.x=(O (Xa ⟨gs,0,Xb⟩) 1 cs)):=hse;have S1:Xp (zb Zh w0.heap.size w (V.sp.x) [y0]):=s1;have S2:Xp ([y0].length=m.sp.length):=s2;have S3:Xp (∀(i:Nat) x s,[y0][i]? =Xa x->m.sp[i]? =Xa s->x.live=s.live/\zb arE w0.heap.size w x.ar.v s.ars/\x.tab=Qf/\s.tb=qL):=show∀i,_ from s3
 have A1:Xp (zb arE w0.heap.size w y0.ar.v s0.ars):=(s3 0 y0 s0 rfl (by rw[hs];rfl)).2.1
 have HWR:Xp ((wrL s0.ars).1=0):=(hB.spok s0 (by rw[hs];simp)).1
 have HON:Xp (∀W,zb arE w0.heap.size W y0.ar.v s0.ars->Xq prog 20 #[y0.ar.x] W fun e w'=>e= Xl (Xi (zC (tab (zO s0.ars))).toArray)/\zc W w'):=dD<|fun W hW=>ZH y0.ar.v s0.ars W hW.at (jY.1 HWR).2.lies
 have hz:=zbV;obtain⟨Z0,HZ0⟩:=kA (zC (tab fun _=>on0))
 rw[HZ0.out]at hz;have HZL:Xp (Z0.length=384):=dD<|by rw[<-HZ0.out,jQ]
 have HPL:Xp ((zC (tab (zO s0.ars))).length=384):=jQ _;have HPO:Xp (∀v∈zC (tab (zO s0.ars)),v.oneCell'=Xc):=JF _;have HCA:Xp (∀k,k<64->(zC (tab (zO s0.ars)))[k*6+3]? =Xa (Xh (zO s0.ars k).sh)):=show∀k,_ from fun k hk=>ZN (Q5 hk) 3 _ rfl
 generalize zC (tab (zO s0.ars))=CO at HON HPL HPO HCA
 clear h hB hs s1 s2 s3 hse
 go_enter func40,ntmps40
 try go_upto_region 0 with fail
 obtain⟨I,HI⟩:∃I:Xo->Prop,Xp (∀u,I u↔(zt u b 95 [vl.x,V.f.x,I6 m.hand,V.s.x,V.sb.x,V.sq.x,V.db.x,V.dq.x,V.fl.x,I6 m.cnt,V.ca.x,V.sp.x,vt.x]/\zb Zh w0.heap.size u (O (Xa ⟨gs,0,Xb⟩) 1 cs) [y0])):=⟨fun u=>(zt u b 95 [vl.x,V.f.x,I6 m.hand,V.s.x,V.sb.x,V.sq.x,V.db.x,V.dq.x,V.fl.x,I6 m.cnt,V.ca.x,V.sp.x,vt.x]/\zb Zh w0.heap.size u (O (Xa ⟨gs,0,Xb⟩) 1 cs) [y0]),fun _=>Iff.rfl⟩
 have hI0:I w.drew:=(HI _).2 ⟨HM.box.grew (gW _),by rw[<-HSE.out];exact S1.grew (gW _)⟩
 have hx11:∀y:zj I,y.world.cell? ⟨b,11,Xb⟩=Xa (O (Xa ⟨gs,0,Xb⟩) 1 cs):=fun y=>by
  have:=((HI _).1 y.holds).1.box.c 11 rfl;rw[HSE.out]at this;exact this
 have hy1:∀y:zj I,y.world.cell? ⟨gs,1,Xb⟩=Xa (y0.ar.x):=fun y=>by
  have:=((HI _).1 y.holds).2.one (i:=0) (x:=y0) rfl 1 _ rfl;rw[zX,Xw]at this;exact this
 have hne:Nonempty (zj I):=⟨⟨_,hI0⟩⟩;refine zG (I:=I) 20 [(15,fun v=>∃g,v= O (Xa ⟨g,0,Xb⟩) 1 1),(16,fun v=>∃g c,v= O (Xa ⟨g,0,Xb⟩) 2 c)] (fun u=>zc w u) hI0 (gW _) zW (by kernel_rfl) rfl rfl (by decide) ?hS (by kernel_rfl) ?_
 case hS=>
  intro x hx;simp only[mC,nM,or_false]at hx
  rcases hx with rfl|rfl
  ·exact⟨_,0,rfl⟩
  exact⟨_,0,0,rfl⟩
 simp only[Yb,Yc];iterate 2 (refine zg rfl rfl rfl (fun K hK=>?_);go_big_quiet_op;refine hK _ ?_;clear hK)
 refine zI (.tmp 6) ⟨b,0,Xb⟩ rfl rfl rfl rfl ?_;simp only[Xu,sB,sS,sZ];iterate 4 (refine zg rfl rfl rfl (fun K hK=>?_);go_big_quiet_op;refine hK _ ?_;clear hK)
 refine zI (.tmp 11) ⟨b,0,Xb⟩ rfl rfl rfl rfl ?_;simp only[Xu,sB,sS,sZ];iterate 7 (refine zg rfl rfl rfl (fun K hK=>?_);go_big_quiet_op;refine hK _ ?_;clear hK)
 refine zH rfl rfl (fun v u=>zc w u/\zm Zh u v [⟨Xc,y0.ar,zy,zy,zy,zy,zy,zy,zy,zy⟩]) (fun w' hI' hF'=>?_) (fun v1 hv=>?_)
 ·obtain⟨i1,i2⟩:=(HI _).1 hI';refine zQ.step (v:= O (Xa ⟨w'.heap.size,0,Xb⟩) 1 1) (w':=w'.alloc (Xk #[Xh Xc,y0.ar.x,eS,eS,eS,eS,eS,eS,eS,eS] 63)) (by clear hx11 hy1;simp only[execOp];go_simp) ⟨(HI _).2 ⟨i1.grew (za _ _),i2.grew (za _ _)⟩,⟨_,rfl⟩,hF'.trans (za _ _),jK Zh w' ⟨Xc,y0.ar,zy,zy,zy,zy,zy,zy,zy,zy⟩ _ _ rfl (by decide)⟩
 obtain⟨g15,rfl⟩:=hv;simp only[Xu,sB,sS,sZ];refine zH rfl rfl (fun v u=>∃w1,zc w w1/\w1.grownBy u (Xa gs)/\zb Zh w0.heap.size u v [y0,⟨Xc,y0.ar,zy,zy,zy,zy,zy,zy,zy,zy⟩]) (fun w' hI' hF'=>?_) (fun v1 hv=>?_)
 ·obtain⟨i1,i2⟩:=(HI _).1 hI';obtain⟨k1,k2⟩:=hF';obtain⟨v',w2,hrun,ho,hgr,hk⟩:=qn (E:=Zh) (w:=w') 39 i2 (O (Xa ⟨g15,0,Xb⟩) 1 1) [⟨Xc,y0.ar,zy,zy,zy,zy,zy,zy,zy,zy⟩] k2 (by show(1+1)*224<=_;omega) (nT (bS HM.gr) (bS k1))
  obtain⟨g',c',rfl⟩:=ho.formS (by simp)
  refine zQ.step (v:= O (Xa ⟨g',0,Xb⟩) 2 c') (w':=w2) ?_ ⟨(HI _).2 ⟨zt.row i2 hgr i1 (by decide),hk _ [y0] (nR _) i2⟩,⟨_,_,rfl⟩,w',k1,hgr,ho⟩
  clear hx11 hy1;simp only[execOp,resolve,invoke,builtin,pure_bind,Ya,Xv,Yg,mP,Ye];exact Eq.trans (congrArg (fun r=>Result.andThen r (fun a w'=>Result.ok (Next.value a) w')) hrun) rfl
 obtain⟨g4,c4,rfl⟩:=hv;simp only[Xu,sB,sS,sZ];refine zI (.tmp 5) ⟨b,0,Xb⟩ rfl rfl rfl rfl ?_;simp only[Xu,sB,sS,sZ];iterate 2 (refine zg rfl rfl rfl (fun K hK=>?_);go_big_quiet_op;refine hK _ ?_;clear hK)
 refine qj fun W4 hI4 hF4=>?_
 obtain⟨w1,gw,gr4,ow4⟩:=hF4;have B4:Xp (zt W4 b 95 [vl.x,V.f.x,I6 m.hand,V.s.x,V.sb.x,V.sq.x,V.db.x,V.dq.x,V.fl.x,I6 m.cnt,V.ca.x,V.sp.x,vt.x]):=((HI _).1 hI4).1;have gr4':w1.grownBy W4 (V.sp.x).ownBlock:=by rw[HSE.out];exact gr4
 have R4:Xp (MkR w0.heap.size hi W4 { V with sp:=⟨Xa ⟨g4,0,Xb⟩,2,c4⟩ } { m with sp:=m.sp++ [⟨Xc,s0.ars,qL⟩] } vt [f0]):=(HM.rows.grew gw).addSp (S1.grew gw) S2 (fun i x s hx hs=>by
  obtain⟨a1,a2,a3⟩:=S3.out i x s hx hs;exact⟨a1,a2.grew gw,a3⟩) gr4' ⟨Xa ⟨g4,0,Xb⟩,2,c4⟩ y0.ar (A1.grew gw) ow4
 have G4:Xp (zc w0 W4):=zc.row (S1.grew gw) gr4' (HM.gr.trans gw);have K4:Xp (zr hi w W4):=(zr.grew gw).trans (zr.row (S1.grew gw) gr4' (fun p hl=>hl.2.2.2.2.2.2.1 rfl))
 have A4:Xp (zb arE w0.heap.size W4 y0.ar.v s0.ars):=dD<|by
  obtain⟨ds,hc⟩:=(S1.grew gw).obj (g:=gs) (by rw[HSE.out];rfl)
  exact(A1.grew gw).kind gr4 hc (by decide)
 have O4:Xp (zb Zh w0.heap.size W4 (O (Xa ⟨g4,0,Xb⟩) 2 c4) [y0,⟨Xc,y0.ar,zy,zy,zy,zy,zy,zy,zy,zy⟩]):=ow4;clear gw gr4 gr4' ow4 hI4 hI0 hx11 hy1 hne;have x11:=B4.box.c 11 rfl;rw[HSE.out]at x11;have xf:=B4.box.f;go_upto_region 1 with fail;clear x11 xf;obtain⟨W5,hW5⟩:=kB (W4.setCell ⟨b,11,Xb⟩ (O (Xa ⟨g4,0,Xb⟩) 2 c4));have hg5:W4.grownBy W5 (Xa b):=by rw[<-hW5];exact jc _ _ _ _
 have M5:Xp (Mk w0 hi W5 b vl L { V with sp:=⟨Xa ⟨g4,0,Xb⟩,2,c4⟩ } { m with sp:=m.sp++ [⟨Xc,s0.ars,qL⟩] } vt [f0]):=dD<|⟨ze G4 hg5 HM.hb,HM.hb,by rw[<-hW5];exact B4.set 11 _,HM.lr,HM.lc,HM.lb,R4.var hg5 B4 hg5.size (.inl rfl)⟩
 have K5:Xp (zr hi w W5):=K4.trans (zr.kind hg5 B4 (fun _ hl=>absurd rfl hl.1))
 have A5:Xp (zb arE w0.heap.size W5 y0.ar.v s0.ars):=A4.kind hg5 B4 (by decide)
 have O5:Xp (zb Zh w0.heap.size W5 (O (Xa ⟨g4,0,Xb⟩) 2 c4) [y0,⟨Xc,y0.ar,zy,zy,zy,zy,zy,zy,zy,zy⟩]):=O4.kind hg5 B4 (by decide)
 rw[hW5];clear hW5 hg5;have HML:Xp (w0.heap.size<=b/\zm byE w0 (vl.x) L/\vl.n<=vl.c/\∀z∈L,0<=z/\z<256):=dD<|⟨HM.hb,HM.lr,HM.lc,HM.lb⟩
 have x11:W5.cell? ⟨b,11,Xb⟩=Xa (O (Xa ⟨g4,0,Xb⟩) 2 c4):=M5.box.box.c 11 rfl;have y1:W5.cell? ⟨g4,1,Xb⟩=Xa (y0.ar.x):=by
  have:=O5.one (i:=0) (x:=y0) rfl 1 _ rfl;rw[zX,Xw]at this;exact this
 have hon:=HON.out W5 A5.out;go_wp2_with fail;refine hon.mono ?_;clear hon x11 y1;rintro e W6 ⟨rfl,g6⟩;obtain⟨po,HPO2⟩:=kA W6.heap.size;have M6:=dD (M5.grew g6);have K6:=dD (K5.trans (zr.grew g6));clear g6
 go_upto_region 2 with(refine qO rfl 68 (.tmp 2) (.tmp 33) rfl W6.heap.size rfl CO rfl (zt.top W6 Z0 68 rfl) (by rw[HPL.out,HZL.out]) (by rw[HZL.out];exact zoA) HPO.out ?_)
 intro W7 b7 g7 s7;have g67:zc W6 W7:=ze (za _ _) g7 (nR _);have M7:=dD (M6.grew g67);have K7:=dD (K6.trans (zr.grew g67));rw[HPO2.out]at b7⊢;have P7:Xp (zt W7 po 68 CO):=b7;clear b7 g7 s7 g67 hz;try simp only[Xu]
 have x12:=M7.box.box.c 12 rfl;have HSZ5:Xp (w0.heap.size<=W7.heap.size):=dD<|bS M7.gr
 go_wp2_with (at_builtin;refine zw (E:=Qw) rfl (.tmp 38) (.tmp 40) rfl w0.heap.size _ [f0] rfl (M7.rows.tt.grew (za _ _)) _ [fun _=>en0] rfl (jK Qw W7 (fun _=>en0) _ _ rfl (by decide)) ?qb ?qc ?_)
 case qb=>
  show(1+1)*1536<=_
  omega
 case qc=>exact nT HSZ5 (bS (za _ _))
 intro v8 W8 ow8 gr8;obtain⟨gt,ct,rfl⟩:=ow8.formS (by simp)
 have ow8':zb Qw w0.heap.size W8 (O (Xa ⟨gt,0,Xb⟩) 2 ct) ([f0]++ [fun _=>en0]):=ow8
 obtain⟨WX,hWX⟩:=kB (W7.alloc (Xk (Qw.enc (fun _=>en0)).toArray 56))
 have gX:=gP hWX
 have gr8':WX.grownBy W8 (vt.x).ownBlock:=by rw[<-hWX];exact gr8
 clear gr8 hWX ow8;have M7X:=M7.grew gX;have B8:Xp (zt W8 b 95 [vl.x,V.f.x,I6 m.hand,V.s.x,V.sb.x,V.sq.x,V.db.x,V.dq.x,V.fl.x,I6 m.cnt,V.ca.x,O (Xa ⟨g4,0,Xb⟩) 2 c4,vt.x]):=zt.row M7X.rows.tt gr8' M7X.box (by decide)
 have R8:Xp (MkR w0.heap.size hi W8 { V with sp:=⟨Xa ⟨g4,0,Xb⟩,2,c4⟩ } { m with sp:=m.sp++ [⟨Xc,s0.ars,qL⟩] } ⟨Xa ⟨gt,0,Xb⟩,2,ct⟩ ([f0]++ [fun _=>en0])):=M7X.rows.addT gr8' ⟨Xa ⟨gt,0,Xb⟩,2,ct⟩ ow8'
 have G8:Xp (zc w0 W8):=zc.row M7X.rows.tt gr8' M7X.gr;have K8:Xp (zr hi w W8):=(K7.trans (zr.grew gX)).trans (zr.row M7X.rows.tt gr8' (fun p hl=>hl.2.2.2.2.2.2.2.1 rfl))
 have P8:Xp (zt W8 po 68 CO):=zt.row M7X.rows.tt gr8' (P7.grew gX) (by decide)
 clear gr8' ow8' gX x12;have x12:=B8.box.c 12 rfl;have xf:=B8.box.f;go_upto_region 3 with fail;clear x12 xf;obtain⟨W9,hW9⟩:=kB (W8.setCell ⟨b,12,Xb⟩ (O (Xa ⟨gt,0,Xb⟩) 2 ct));have hg9:W8.grownBy W9 (Xa b):=by rw[<-hW9];exact jc _ _ _ _
 obtain⟨vt9,HVT⟩:∃vt9:Sli,Xp (vt9=⟨Xa ⟨gt,0,Xb⟩,2,ct⟩):=⟨_,rfl⟩;obtain⟨V9,HV9⟩:∃V9:MaV,Xp (V9={ V with sp:=⟨Xa ⟨g4,0,Xb⟩,2,c4⟩ }):=⟨_,rfl⟩;obtain⟨m9,HM9⟩:∃m9:Ma,Xp (m9={ m with sp:=m.sp++ [⟨Xc,s0.ars,qL⟩] }):=⟨_,rfl⟩;have M9:Xp (Mk w0 hi W9 b vl L V9 m9 vt9 [f0,fun _=>en0]):=dD<|by
  rw[HVT.out,HV9.out,HM9.out];exact⟨ze G8 hg9 HML.1,HML.1,by rw[<-hW9];exact B8.set 12 _,HML.2.1,HML.2.2.1,HML.2.2.2,R8.var hg9 B8 hg9.size (.inl rfl)⟩
 have K9:Xp (zr hi w W9):=K8.trans (zr.kind hg9 B8 (fun _ hl=>absurd rfl hl.1))
 have P9:Xp (zt W9 po 68 CO):=P8.beside hg9 (fun g e=>by
  cases e;intro e;have h1:W8.heap[po]? =_:=P8.out;rw[e,show W8.heap[b]? =_ from B8.out]at h1
  cases h1)
 have HB9:Xp (qV m9 [f0,fun _=>en0]):=dD<|by
  rw[HM9.out];exact HB.space HWR (by rw[HS.out];simp)
 have HS9:Xp (m9.sp=[s0,⟨Xc,s0.ars,qL⟩]/\m9.fl=m.fl/\m9.hand=m.hand/\m9.fs.length=m.fs.length):=dD<|by
  rw[HM9.out];exact⟨by show m.sp++_=_;rw[HS.out];rfl,rfl,rfl,rfl⟩
 have HTV:Xp (vt9.x= O (Xa ⟨gt,0,Xb⟩) 2 ct):=dD<|by rw[HVT.out]
 rw[hW9];clear hW9 hg9;have x12:W9.cell? ⟨b,12,Xb⟩=Xa (O (Xa ⟨gt,0,Xb⟩) 2 ct):=by rw[<-HTV.out];exact M9.box.box.c 12 rfl
 have hrg:W9.rangeAt gt 0 (jp (tab f0)):=fun j v hj=>by
  have hr:=M9.rows.tt;(first|rw[HTV.out]at hr|rw[show O _ _ _=_ from HTV.out]at hr);have:=hr.one (i:=0) (x:=f0) rfl j v hj;rw[zX,Xw]at this
  simpa using this
 go_wp2_with (refine wpList_load_mid rfl 56 (.tmp 48) rfl gt 0 rfl (jp (tab f0)) _ hrg underlying56 rfl (by rw[za5,Qd];exact zoE) ?_)
 clear hrg x12;have HIX:Xp (∀{ops:Array Oper} {rest:List Oper} {o:Oper} {a:Act} {w:Xo} {Q:Exit->Act->Xo->Prop} (_:o.guard=Xb) (x ix:Operand) (_:o.op= .index 56 x ix) (_:a.eval x= Xi (jp (tab f0)).toArray) (i:Nat) (_:a.eval ix=I6 (i:Int)) (_:i<64) {e:En} (_:f0 i=e)
  (_:wpList prog ops Q rest (a.put o.dst (Xi #[I6 e.kind,I6 e.n,Xh e.wr])) w),wpList prog ops Q (o :: rest) a w):=fun h1 x ix h2 h3 i h4 h5 _ h6 h7=>zjn h1 x ix h2 (tab f0) h3 i h4 h5 (by rw[Q5 h5,h6]) h7
 generalize jp (tab f0)=CF at HIX⊢
 go_wp2
 go_loopg [50] 64 (fun gg s50 wr=>∃(kk:Nat) (m':Ma) (T':List (Nat->En)) (fA fB:Nat->En),kk<=64/\64 - kk<=gg/\s50=I6 kk/\Xp (Mk w0 hi wr b vl L V9 m' vt9 T')/\Xp (zr hi w wr)/\Xp (qV m' T')/\Xp (m'.sp=[s0,⟨Xc,s0.ars,qL⟩]/\m'.fl=m.fl/\m'.hand=m.hand/\m'.fs.length=m.fs.length)/\Xp (T'[0]? =Xa fA/\T'[1]? =Xa fB/\(∀j,kk<=j->fA j=f0 j/\fB j=en0))/\Xp (zt wr po 68 CO))
 case atStart=>exact⟨0,m9,_,f0,fun _=>en0,nZ _,by omega,rfl,M9,K9,HB9,HS9,(show _/\_ from⟨rfl,rfl,fun _ _=>⟨rfl,rfl⟩⟩),P9⟩
 obtain⟨kk,m',T',fA,fB,hkk,hgg,rfl,MW,KW,BW,SW,TW,PW⟩:=hrel
 by_cases hlt:kk<64
 ·have hltz:(kk:Int)<64:=by omega
  obtain⟨ek,en,ew,HE⟩:∃ek en ew,Xp (f0 kk=⟨ek,en,ew⟩):=⟨_,_,_,rfl⟩;have HAK:Xp (fA kk=⟨ek,en,ew⟩):=dD<|by rw[(TW.2.2 kk (nR _)).1];exact HE.out
  have HBK:Xp (fB kk=en0):=(TW.2.2 kk (nR _)).2;have HNX:Xp (∀e',(((T'.set 0 (qr fA kk e')).set 1 (qr fB kk e'))[0]? =Xa (qr fA kk e')/\((T'.set 0 (qr fA kk e')).set 1 (qr fB kk e'))[1]? =Xa (qr fB kk e')/\(∀j,kk+1<=j->qr fA kk e' j=f0 j/\qr fB kk e' j=en0))):=show∀e',_ from fun e'=>by
   have hA:=(gS.1 TW.1).1;have hB:=(gS.1 TW.2.1).1;refine⟨?_,?_,fun j hj=>?_⟩
   ·rw[sN (by decide)]
    exact sF hA
   ·exact sF (by simpa using hB)
   unfold qr;rw[kF (by omega),kF (by omega)]
   exact TW.2.2 j (by omega)
  have hent:=BW.entry0 (s0:=s0) (by rw[SW.1];rfl) TW.1 hlt
  rw[HAK.out]at hent
  go_upto_region 6 with(refine HIX rfl (.tmp 49) (.tmp 50) rfl rfl kk rfl hlt HE.out ?_)
  obtain⟨pe,HPE⟩:=kA wr.heap.size;obtain⟨W1,hW1⟩:=kB (wr.alloc (Xk #[I6 ek,I6 en,Xh ew] 55));have g1:=gP hW1
  have E1:=xPT hW1 HPE
  have M1:=dD (MW.grew g1);have K1:=dD (KW.trans (zr.grew g1));have P1:=dD (PW.grew g1);have HEL:Xp (hi<=pe/\w.heap.size<=pe):=show _/\_ by rw[<-HPE.out];exact⟨MW.rows.hw,KW.2⟩
  rw[hW1,HPE.out];clear hW1 g1;have e0:=E1.box.c 0 rfl
  rcases hent with hE|⟨k,fr,h1,h2,h3⟩|⟨k,z,h1,h2,h3,h4,h5⟩
  ·cases hE;have hk1:((0:Int) == 1)=Xd:=by decide
   have hk2:((0:Int) == 2)=Xd:=by decide
   go_upto_region 12 with fail;obtain⟨I,HI⟩:∃I:Xo->Prop,Xp (∀u,I u↔(u.cell? ⟨b,12,Xb⟩=Xa (O (Xa ⟨gt,0,Xb⟩) 2 ct)/\zt u pe 55 [I6 0,I6 0,Xh Xd]/\zt u po 68 CO)):=⟨fun u=>(u.cell? ⟨b,12,Xb⟩=Xa (O (Xa ⟨gt,0,Xb⟩) 2 ct)/\zt u pe 55 [I6 0,I6 0,Xh Xd]/\zt u po 68 CO),fun _=>Iff.rfl⟩
   have HIM:Xp (∀u m' T',Mk w0 hi u b vl L V9 m' vt9 T'->u.cell? ⟨b,12,Xb⟩=Xa (O (Xa ⟨gt,0,Xb⟩) 2 ct)):=dD<|fun u m' T' hm=>by
    have:=hm.box.box.c 12 rfl;(first|rw[HTV.out]at this|rw[show O _ _ _=_ from HTV.out]at this);exact this
   have hI0:I W1.drew:=(HI _).2 ⟨HIM _ _ _ (M1.grew (gW _)),E1.grew (gW _),P1.grew (gW _)⟩
   have hF0:Mk w0 hi W1.drew b vl L V9 m' vt9 T'/\zr hi w W1.drew:=⟨M1.grew (gW _),K1.trans (zr.grew (gW _))⟩
   have ht:∀y:zj I,y.world.cell? ⟨b,12,Xb⟩=Xa (O (Xa ⟨gt,0,Xb⟩) 2 ct):=fun y=>((HI _).1 y.holds).1
   have he0:∀y:zj I,y.world.cell? ⟨pe,0,Xb⟩=Xa (I6 0):=fun y=>((HI _).1 y.holds).2.1.box.c 0 rfl
   have he1:∀y:zj I,y.world.cell? ⟨pe,1,Xb⟩=Xa (I6 0):=fun y=>((HI _).1 y.holds).2.1.box.c 1 rfl
   have he2:∀y:zj I,y.world.cell? ⟨pe,2,Xb⟩=Xa (Xh Xd):=fun y=>((HI _).1 y.holds).2.1.box.c 2 rfl
   have hne:Nonempty (zj I):=⟨⟨_,hI0⟩⟩;refine zG (I:=I) 17 [(14,fun _=>True)] (fun u=>Mk w0 hi u b vl L V9 m' vt9 T'/\zr hi w u) hI0 hF0 zW (by kernel_rfl) rfl rfl (by decide) ?hS (by kernel_rfl) ?_
   case hS=>
    intro x hx;simp only[mC,nM,or_false]at hx;subst hx;exact⟨undef,trivial⟩
   simp only[Yb,Yc];iterate 1 (refine zg rfl rfl rfl (fun K hK=>?_);go_big_quiet_op;refine hK _ ?_;clear hK)
   refine zI (.tmp 91) ⟨b,0,Xb⟩ rfl rfl rfl rfl ?_;simp only[Xu,sB,sS,sZ];iterate 4 (refine zg rfl rfl rfl (fun K hK=>?_);go_big_quiet_op;refine hK _ ?_;clear hK)
   refine zI (.tmp 96) ⟨b,0,Xb⟩ rfl rfl rfl rfl ?_;simp only[Xu,sB,sS,sZ];iterate 7 (refine zg rfl rfl rfl (fun K hK=>?_);go_big_quiet_op;refine hK _ ?_;clear hK)
   refine zH rfl rfl (fun _ u=>Mk w0 hi u b vl L V9 m' vt9 (T'.set 0 (qr fA kk ⟨0,0,Xd⟩))/\zr hi w u) (fun w' hI' hF'=>?_) (fun v1 hv=>?_)
   ·obtain⟨i1,i2,i3⟩:=(HI _).1 hI';obtain⟨k1,k2⟩:=hF';have hr:=k1.rows.tt;(first|rw[HTV.out]at hr|rw[show O _ _ _=_ from HTV.out]at hr);refine j4 (E:=Qw) (.tmp 104) (.tmp 101) 55 rfl w0.heap.size (O (Xa ⟨gt,0,Xb⟩) 2 ct) T' hr gt 0 (kk*3) rfl fA (qr fA kk ⟨0,0,Xd⟩) TW.1 (env ⟨0,0,Xd⟩) (by kernel_rfl) (jx fA hlt _) (by show kk*3+3<=192;omega) (enE.one _) _ rfl (by first | rfl | simp) (Xi (env ⟨0,0,Xd⟩).toArray) rfl rfl (fun w2 ow gr sz=>?_)
    rw[<-HTV.out]at ow;have hM:=k1.setT (by (first|rw[HTV.out]|rw[show O _ _ _=_ from HTV.out]);rfl) gr sz ow
    exact⟨(HI _).2 ⟨HIM _ _ _ hM.1,hM.2.1 _ _ _ i2 Qo,hM.2.1 _ _ _ i3 Zi⟩,trivial,hM.1,k2.trans hM.2⟩
   try simp only[Xu]
   iterate 2 (refine zg rfl rfl rfl (fun K hK=>?_);go_big_quiet_op;refine hK _ ?_;clear hK)
   refine qj fun W8 hI8 hF8=>?_
   have M8:Xp (Mk w0 hi W8 b vl L V9 m' vt9 (T'.set 0 (qr fA kk ⟨0,0,Xd⟩))):=hF8.1;have K8:Xp (zr hi w W8):=hF8.2;have P8:Xp (zt W8 po 68 CO):=((HI _).1 hI8).2.2;clear hF8 hI8 hI0 hF0 ht he0 he1 he2 hne;have R8:Xp (zb Qw w0.heap.size W8 (O (Xa ⟨gt,0,Xb⟩) 2 ct) (T'.set 0 (qr fA kk ⟨0,0,Xd⟩))):=show zb _ _ _ _ _ by rw[<-HTV.out];exact M8.rows.tt
   refine zB (E:=Qw) rfl (.tmp 106) (.tmp 102) 55 rfl w0.heap.size _ _ R8 gt 1 (kk*3) rfl fB (qr fB kk ⟨0,0,Xd⟩) (by rw[sN (by decide)];exact TW.2.1) (env ⟨0,0,Xd⟩) (by kernel_rfl) (jx fB hlt _) (by show kk*3+3<=192;omega) (enE.one _) _ rfl (by first | rfl | simp) (Xi (env ⟨0,0,Xd⟩).toArray) rfl rfl ?_
   intro W9 ow9 gr9 sz9;rw[<-HTV.out]at ow9;have hM9:=M8.setT (by (first|rw[HTV.out]|rw[show O _ _ _=_ from HTV.out]);rfl) gr9 sz9 ow9
   have M9:Xp (Mk w0 hi W9 b vl L V9 m' vt9 ((T'.set 0 (qr fA kk ⟨0,0,Xd⟩)).set 1 (qr fB kk ⟨0,0,Xd⟩))):=hM9.1;have K9:Xp (zr hi w W9):=K8.trans hM9.2;have P9:Xp (zt W9 po 68 CO):=hM9.2.1 _ _ _ P8 Zi;have B9:Xp (qV m' ((T'.set 0 (qr fA kk ⟨0,0,Xd⟩)).set 1 (qr fB kk ⟨0,0,Xd⟩))):=(show qV _ _ by
    have:=zko TW.1 TW.2.1 HAK HBK.out;rw[show(⟨0,0,Xd⟩:En)=en0 from rfl,this]
    exact BW)
   clear hM9 ow9 gr9 sz9;go_wp2
   go_roundg (64 -(kk+1))
   case measure=>omega
   exact⟨kk+1,m',_,_,_,by omega,by omega,by go_num,M9,K9,B9,(show _/\_ from SW.out),HNX _,P9⟩
  ·dsimp only at h1 h2;subst h1;subst h2;have HK:Xp (m'.fs[k]? =Xa fr):=h3;obtain⟨hr0,hr1⟩:=BW.refs h3;obtain⟨nf,HNF⟩:=kA m'.fs.length;have hkn:k<nf:=by rw[<-HNF.out];exact(gS.1 h3).1
   have hkz:(k:Int)< (nf:Int):=by omega
   clear h3;have hk1:((1:Int) == 1)=Xc:=by decide
   have hk2:((1:Int) == 2)=Xd:=by decide
   obtain⟨g,cf,heq⟩:=M1.rows.fs.formS (by rw[HNF.out];omega)
   rw[HNF.out]at heq;have HEQ:Xp (V9.f.x= O (Xa ⟨g,0,Xb⟩) nf cf):=heq;have hrw:=M1.rows.fs;(first|rw[HEQ.out]at hrw|rw[show O _ _ _=_ from HEQ.out]at hrw);have HRW:Xp (zb Qj w0.heap.size W1 (O (Xa ⟨g,0,Xb⟩) nf cf) m'.fs):=hrw;clear hrw heq;go_upto_region 7 with fail;clear e0;obtain⟨I,HI⟩:∃I:Xo->Prop,Xp (∀u,I u↔zc W1 u):=⟨fun u=>zc W1 u,fun _=>Iff.rfl⟩
   have hI0:I W1.drew:=(HI _).2 (gW _)
   have hx1:∀y:zj I,y.world.cell? ⟨b,1,Xb⟩=Xa (O (Xa ⟨g,0,Xb⟩) nf cf):=fun y=>by rw[<-HEQ.out];exact(M1.box.box.grew ((HI _).1 y.holds)).c 1 rfl
   have he1:∀y:zj I,y.world.cell? ⟨pe,1,Xb⟩=Xa (I6 (k:Int)):=fun y=>(E1.box.grew ((HI _).1 y.holds)).c 1 rfl
   have hd8:∀y:zj I,y.world.cell? ⟨g,k*13+8,Xb⟩=Xa (I6 fr.r):=fun y=>by
    have:=(HRW.grew ((HI _).1 y.holds)).one HK 8 _ rfl;rw[zX,Xw,zA]at this;exact this
   have hne:Nonempty (zj I):=⟨⟨_,hI0⟩⟩;refine ZV (I:=I) 14 [] hI0 zW (by kernel_rfl) rfl rfl (by decide) (by simp) (by kernel_rfl) ?_
   simp only[Yb,Yc];iterate 1 (refine qG rfl rfl rfl (fun K hK=>?_);go_big_quiet_op;refine hK _ ?_;clear hK)
   refine zcf (.tmp 57) ⟨b,0,Xb⟩ rfl rfl rfl rfl ?_;simp only[Xu,sB,sS,sZ];iterate 12 (refine qG rfl rfl rfl (fun K hK=>?_);go_big_quiet_op;refine hK _ ?_;clear hK)
   refine zbE fun W2 hI2 hF=>?_
   have g2:=(HI _).1 hI2;have M2:=dD (M1.grew g2);have K2:=dD (K1.trans (zr.grew g2));have E2:=dD (E1.grew g2);have P2:=dD (P1.grew g2);have R2:=dD (HRW.grew g2);clear g2 hI2 hF hx1 he1 hd8 hne hI0;have xf:=R2.unfrozen rfl;have d8:W2.cell? ⟨g,k*13+8,Xb⟩=Xa (I6 fr.r):=by
    have:=R2.one HK 8 _ rfl;rw[zX,Xw,zA]at this;exact this
   go_upto_region 8 with fail;clear d8 xf;obtain⟨ow3,gr3,sz3⟩:=R2.cell (k:=k) (o:=8) rfl HK (y:={ fr with r:=fr.r+1 }) (u:=I6 (fr.r+1)) rfl (by decide)
   obtain⟨W3,hW3⟩:=kB (W2.setCell ⟨g,k*13+8,Xb⟩ (I6 (fr.r+1)));have e3:W2.setCell ⟨g,k*Qj.k+8,Xb⟩ (I6 (fr.r+1))=W3:=hW3;rw[e3]at ow3 gr3 sz3;rw[hW3];rw[<-HEQ.out]at ow3;have hM3:=M2.setF (by (first|rw[HEQ.out]|rw[show O _ _ _=_ from HEQ.out]);rfl) gr3 sz3 ow3 (M2.rows.ap.2.inc BW HK)
   have M3:Xp (Mk w0 hi W3 b vl L V9 { m' with fs:=m'.fs.set k { fr with r:=fr.r+1 } } vt9 T'):=hM3.1;have K3:Xp (zr hi w W3):=K2.trans hM3.2;have E3:Xp (zt W3 pe 55 [I6 1,I6 (k:Int),Xh ew]):=hM3.2.1 _ _ _ E2 Qo;have P3:Xp (zt W3 po 68 CO):=hM3.2.1 _ _ _ P2 Zi;clear e3 hW3 ow3 gr3 sz3 hM3;have HBF:Xp (∀e',e'=(if(zO s0.ars kk).sh=Xc then(⟨1,(k:Int),ew⟩:En)else⟨1,(k:Int),Xd⟩)->qV { m' with fs:=m'.fs.set k { fr with r:=fr.r+1 } } ((T'.set 0 (qr fA kk e')).set 1 (qr fB kk e'))):=show∀e',_ from fun e' he=>BW.forkP (s0:=s0) (s1:=⟨Xc,s0.ars,qL⟩) (by rw[SW.1];rfl) (by rw[SW.1];rfl) rfl TW.1 TW.2.1 hlt HBK HK (by rw[HAK.out]) (by rw[HAK.out]) (by rw[HAK.out];exact he)
   have o3:=P3.box.c _ (HCA kk hlt);have e0:=E3.box.c 0 rfl
   cases hsh:(zO s0.ars kk).sh with
   | true=>
    rw[hsh]at o3 HBF;clear hsh;go_upto_region 10 with fail;clear o3;go_upto_region 12 with fail;obtain⟨I,HI⟩:∃I:Xo->Prop,Xp (∀u,I u↔(u.cell? ⟨b,12,Xb⟩=Xa (O (Xa ⟨gt,0,Xb⟩) 2 ct)/\zt u pe 55 [I6 1,I6 (k:Int),Xh ew]/\zt u po 68 CO)):=⟨fun u=>(u.cell? ⟨b,12,Xb⟩=Xa (O (Xa ⟨gt,0,Xb⟩) 2 ct)/\zt u pe 55 [I6 1,I6 (k:Int),Xh ew]/\zt u po 68 CO),fun _=>Iff.rfl⟩
    have HIM:Xp (∀u m' T',Mk w0 hi u b vl L V9 m' vt9 T'->u.cell? ⟨b,12,Xb⟩=Xa (O (Xa ⟨gt,0,Xb⟩) 2 ct)):=dD<|fun u m' T' hm=>by
     have:=hm.box.box.c 12 rfl;(first|rw[HTV.out]at this|rw[show O _ _ _=_ from HTV.out]at this);exact this
    have hI0:I W3.drew:=(HI _).2 ⟨HIM _ _ _ (M3.grew (gW _)),E3.grew (gW _),P3.grew (gW _)⟩
    have hF0:Mk w0 hi W3.drew b vl L V9 { m' with fs:=m'.fs.set k { fr with r:=fr.r+1 } } vt9 T'/\zr hi w W3.drew:=⟨M3.grew (gW _),K3.trans (zr.grew (gW _))⟩
    have ht:∀y:zj I,y.world.cell? ⟨b,12,Xb⟩=Xa (O (Xa ⟨gt,0,Xb⟩) 2 ct):=fun y=>((HI _).1 y.holds).1
    have he0:∀y:zj I,y.world.cell? ⟨pe,0,Xb⟩=Xa (I6 1):=fun y=>((HI _).1 y.holds).2.1.box.c 0 rfl
    have he1:∀y:zj I,y.world.cell? ⟨pe,1,Xb⟩=Xa (I6 (k:Int)):=fun y=>((HI _).1 y.holds).2.1.box.c 1 rfl
    have he2:∀y:zj I,y.world.cell? ⟨pe,2,Xb⟩=Xa (Xh ew):=fun y=>((HI _).1 y.holds).2.1.box.c 2 rfl
    have hne:Nonempty (zj I):=⟨⟨_,hI0⟩⟩;refine zG (I:=I) 17 [(14,fun _=>True)] (fun u=>Mk w0 hi u b vl L V9 { m' with fs:=m'.fs.set k { fr with r:=fr.r+1 } } vt9 T'/\zr hi w u) hI0 hF0 zW (by kernel_rfl) rfl rfl (by decide) ?hS (by kernel_rfl) ?_
    case hS=>
     intro x hx;simp only[mC,nM,or_false]at hx;subst hx;exact⟨undef,trivial⟩
    simp only[Yb,Yc];iterate 1 (refine zg rfl rfl rfl (fun K hK=>?_);go_big_quiet_op;refine hK _ ?_;clear hK)
    refine zI (.tmp 91) ⟨b,0,Xb⟩ rfl rfl rfl rfl ?_;simp only[Xu,sB,sS,sZ];iterate 4 (refine zg rfl rfl rfl (fun K hK=>?_);go_big_quiet_op;refine hK _ ?_;clear hK)
    refine zI (.tmp 96) ⟨b,0,Xb⟩ rfl rfl rfl rfl ?_;simp only[Xu,sB,sS,sZ];iterate 7 (refine zg rfl rfl rfl (fun K hK=>?_);go_big_quiet_op;refine hK _ ?_;clear hK)
    refine zH rfl rfl (fun _ u=>Mk w0 hi u b vl L V9 { m' with fs:=m'.fs.set k { fr with r:=fr.r+1 } } vt9 (T'.set 0 (qr fA kk ⟨1,(k:Int),ew⟩))/\zr hi w u) (fun w' hI' hF'=>?_) (fun v1 hv=>?_)
    ·obtain⟨i1,i2,i3⟩:=(HI _).1 hI';obtain⟨k1,k2⟩:=hF';have hr:=k1.rows.tt;(first|rw[HTV.out]at hr|rw[show O _ _ _=_ from HTV.out]at hr);refine j4 (E:=Qw) (.tmp 104) (.tmp 101) 55 rfl w0.heap.size (O (Xa ⟨gt,0,Xb⟩) 2 ct) T' hr gt 0 (kk*3) rfl fA (qr fA kk ⟨1,(k:Int),ew⟩) TW.1 (env ⟨1,(k:Int),ew⟩) (by kernel_rfl) (jx fA hlt _) (by show kk*3+3<=192;omega) (enE.one _) _ rfl (by first | rfl | simp) (Xi (env ⟨1,(k:Int),ew⟩).toArray) rfl rfl (fun w2 ow gr sz=>?_)
     rw[<-HTV.out]at ow;have hM:=k1.setT (by (first|rw[HTV.out]|rw[show O _ _ _=_ from HTV.out]);rfl) gr sz ow
     exact⟨(HI _).2 ⟨HIM _ _ _ hM.1,hM.2.1 _ _ _ i2 Qo,hM.2.1 _ _ _ i3 Zi⟩,trivial,hM.1,k2.trans hM.2⟩
    try simp only[Xu]
    iterate 2 (refine zg rfl rfl rfl (fun K hK=>?_);go_big_quiet_op;refine hK _ ?_;clear hK)
    refine qj fun W8 hI8 hF8=>?_
    have M8:Xp (Mk w0 hi W8 b vl L V9 { m' with fs:=m'.fs.set k { fr with r:=fr.r+1 } } vt9 (T'.set 0 (qr fA kk ⟨1,(k:Int),ew⟩))):=hF8.1;have K8:Xp (zr hi w W8):=hF8.2;have P8:Xp (zt W8 po 68 CO):=((HI _).1 hI8).2.2;clear hF8 hI8 hI0 hF0 ht he0 he1 he2 hne;have R8:Xp (zb Qw w0.heap.size W8 (O (Xa ⟨gt,0,Xb⟩) 2 ct) (T'.set 0 (qr fA kk ⟨1,(k:Int),ew⟩))):=show zb _ _ _ _ _ by rw[<-HTV.out];exact M8.rows.tt
    refine zB (E:=Qw) rfl (.tmp 106) (.tmp 102) 55 rfl w0.heap.size _ _ R8 gt 1 (kk*3) rfl fB (qr fB kk ⟨1,(k:Int),ew⟩) (by rw[sN (by decide)];exact TW.2.1) (env ⟨1,(k:Int),ew⟩) (by kernel_rfl) (jx fB hlt _) (by show kk*3+3<=192;omega) (enE.one _) _ rfl (by first | rfl | simp) (Xi (env ⟨1,(k:Int),ew⟩).toArray) rfl rfl ?_
    intro W9 ow9 gr9 sz9;rw[<-HTV.out]at ow9;have hM9:=M8.setT (by (first|rw[HTV.out]|rw[show O _ _ _=_ from HTV.out]);rfl) gr9 sz9 ow9
    have M9:Xp (Mk w0 hi W9 b vl L V9 { m' with fs:=m'.fs.set k { fr with r:=fr.r+1 } } vt9 ((T'.set 0 (qr fA kk ⟨1,(k:Int),ew⟩)).set 1 (qr fB kk ⟨1,(k:Int),ew⟩))):=hM9.1;have K9:Xp (zr hi w W9):=K8.trans hM9.2;have P9:Xp (zt W9 po 68 CO):=hM9.2.1 _ _ _ P8 Zi;have B9:Xp (qV { m' with fs:=m'.fs.set k { fr with r:=fr.r+1 } } ((T'.set 0 (qr fA kk ⟨1,(k:Int),ew⟩)).set 1 (qr fB kk ⟨1,(k:Int),ew⟩))):=(show qV _ _ from HBF.out _ (kE rfl).symm)
    clear hM9 ow9 gr9 sz9;go_wp2
    go_roundg (64 -(kk+1))
    case measure=>omega
    exact⟨kk+1,{ m' with fs:=m'.fs.set k { fr with r:=fr.r+1 } },_,_,_,by omega,by omega,by go_num,M9,K9,B9,(show _/\_ from⟨SW.1,SW.2.1,SW.2.2.1,List.length_set.trans SW.2.2.2⟩),HNX _,P9⟩
   | false=>
    rw[hsh]at o3 HBF;clear hsh;have e2:=E3.box.c 2 rfl;have xf:=E3.box.f;go_upto_region 10 with fail;clear o3 e0 e2 xf;obtain⟨W4,hW4⟩:=kB (W3.setCell ⟨pe,2,Xb⟩ (Xh Xd));have hg4:W3.grownBy W4 (Xa pe):=by rw[<-hW4];exact jc _ _ _ _
    have E4:Xp (zt W4 pe 55 [I6 1,I6 (k:Int),Xh Xd]):=dD<|by rw[<-hW4];exact E3.set 2 _
    have M4:Xp (Mk w0 hi W4 b vl L V9 { m' with fs:=m'.fs.set k { fr with r:=fr.r+1 } } vt9 T'):=M3.entry E3 HEL.1 hg4;have K4:Xp (zr hi w W4):=K3.own hg4 HEL.2;have P4:Xp (zt W4 po 68 CO):=P3.beside hg4 (fun g e=>by
     cases e;intro e;have h1:W3.heap[po]? =_:=P3.out;rw[e,show W3.heap[pe]? =_ from E3.out]at h1
     cases h1)
    rw[hW4];clear hW4 hg4;have e0:=E4.box.c 0 rfl;go_upto_region 12 with fail;obtain⟨I,HI⟩:∃I:Xo->Prop,Xp (∀u,I u↔(u.cell? ⟨b,12,Xb⟩=Xa (O (Xa ⟨gt,0,Xb⟩) 2 ct)/\zt u pe 55 [I6 1,I6 (k:Int),Xh Xd]/\zt u po 68 CO)):=⟨fun u=>(u.cell? ⟨b,12,Xb⟩=Xa (O (Xa ⟨gt,0,Xb⟩) 2 ct)/\zt u pe 55 [I6 1,I6 (k:Int),Xh Xd]/\zt u po 68 CO),fun _=>Iff.rfl⟩
    have HIM:Xp (∀u m' T',Mk w0 hi u b vl L V9 m' vt9 T'->u.cell? ⟨b,12,Xb⟩=Xa (O (Xa ⟨gt,0,Xb⟩) 2 ct)):=dD<|fun u m' T' hm=>by
     have:=hm.box.box.c 12 rfl;(first|rw[HTV.out]at this|rw[show O _ _ _=_ from HTV.out]at this);exact this
    have hI0:I W4.drew:=(HI _).2 ⟨HIM _ _ _ (M4.grew (gW _)),E4.grew (gW _),P4.grew (gW _)⟩
    have hF0:Mk w0 hi W4.drew b vl L V9 { m' with fs:=m'.fs.set k { fr with r:=fr.r+1 } } vt9 T'/\zr hi w W4.drew:=⟨M4.grew (gW _),K4.trans (zr.grew (gW _))⟩
    have ht:∀y:zj I,y.world.cell? ⟨b,12,Xb⟩=Xa (O (Xa ⟨gt,0,Xb⟩) 2 ct):=fun y=>((HI _).1 y.holds).1
    have he0:∀y:zj I,y.world.cell? ⟨pe,0,Xb⟩=Xa (I6 1):=fun y=>((HI _).1 y.holds).2.1.box.c 0 rfl
    have he1:∀y:zj I,y.world.cell? ⟨pe,1,Xb⟩=Xa (I6 (k:Int)):=fun y=>((HI _).1 y.holds).2.1.box.c 1 rfl
    have he2:∀y:zj I,y.world.cell? ⟨pe,2,Xb⟩=Xa (Xh Xd):=fun y=>((HI _).1 y.holds).2.1.box.c 2 rfl
    have hne:Nonempty (zj I):=⟨⟨_,hI0⟩⟩;refine zG (I:=I) 17 [(14,fun _=>True)] (fun u=>Mk w0 hi u b vl L V9 { m' with fs:=m'.fs.set k { fr with r:=fr.r+1 } } vt9 T'/\zr hi w u) hI0 hF0 zW (by kernel_rfl) rfl rfl (by decide) ?hS (by kernel_rfl) ?_
    case hS=>
     intro x hx;simp only[mC,nM,or_false]at hx;subst hx;exact⟨undef,trivial⟩
    simp only[Yb,Yc];iterate 1 (refine zg rfl rfl rfl (fun K hK=>?_);go_big_quiet_op;refine hK _ ?_;clear hK)
    refine zI (.tmp 91) ⟨b,0,Xb⟩ rfl rfl rfl rfl ?_;simp only[Xu,sB,sS,sZ];iterate 4 (refine zg rfl rfl rfl (fun K hK=>?_);go_big_quiet_op;refine hK _ ?_;clear hK)
    refine zI (.tmp 96) ⟨b,0,Xb⟩ rfl rfl rfl rfl ?_;simp only[Xu,sB,sS,sZ];iterate 7 (refine zg rfl rfl rfl (fun K hK=>?_);go_big_quiet_op;refine hK _ ?_;clear hK)
    refine zH rfl rfl (fun _ u=>Mk w0 hi u b vl L V9 { m' with fs:=m'.fs.set k { fr with r:=fr.r+1 } } vt9 (T'.set 0 (qr fA kk ⟨1,(k:Int),Xd⟩))/\zr hi w u) (fun w' hI' hF'=>?_) (fun v1 hv=>?_)
    ·obtain⟨i1,i2,i3⟩:=(HI _).1 hI';obtain⟨k1,k2⟩:=hF';have hr:=k1.rows.tt;(first|rw[HTV.out]at hr|rw[show O _ _ _=_ from HTV.out]at hr);refine j4 (E:=Qw) (.tmp 104) (.tmp 101) 55 rfl w0.heap.size (O (Xa ⟨gt,0,Xb⟩) 2 ct) T' hr gt 0 (kk*3) rfl fA (qr fA kk ⟨1,(k:Int),Xd⟩) TW.1 (env ⟨1,(k:Int),Xd⟩) (by kernel_rfl) (jx fA hlt _) (by show kk*3+3<=192;omega) (enE.one _) _ rfl (by first | rfl | simp) (Xi (env ⟨1,(k:Int),Xd⟩).toArray) rfl rfl (fun w2 ow gr sz=>?_)
     rw[<-HTV.out]at ow;have hM:=k1.setT (by (first|rw[HTV.out]|rw[show O _ _ _=_ from HTV.out]);rfl) gr sz ow
     exact⟨(HI _).2 ⟨HIM _ _ _ hM.1,hM.2.1 _ _ _ i2 Qo,hM.2.1 _ _ _ i3 Zi⟩,trivial,hM.1,k2.trans hM.2⟩
    try simp only[Xu]
    iterate 2 (refine zg rfl rfl rfl (fun K hK=>?_);go_big_quiet_op;refine hK _ ?_;clear hK)
    refine qj fun W8 hI8 hF8=>?_
    have M8:Xp (Mk w0 hi W8 b vl L V9 { m' with fs:=m'.fs.set k { fr with r:=fr.r+1 } } vt9 (T'.set 0 (qr fA kk ⟨1,(k:Int),Xd⟩))):=hF8.1;have K8:Xp (zr hi w W8):=hF8.2;have P8:Xp (zt W8 po 68 CO):=((HI _).1 hI8).2.2;clear hF8 hI8 hI0 hF0 ht he0 he1 he2 hne;have R8:Xp (zb Qw w0.heap.size W8 (O (Xa ⟨gt,0,Xb⟩) 2 ct) (T'.set 0 (qr fA kk ⟨1,(k:Int),Xd⟩))):=show zb _ _ _ _ _ by rw[<-HTV.out];exact M8.rows.tt
    refine zB (E:=Qw) rfl (.tmp 106) (.tmp 102) 55 rfl w0.heap.size _ _ R8 gt 1 (kk*3) rfl fB (qr fB kk ⟨1,(k:Int),Xd⟩) (by rw[sN (by decide)];exact TW.2.1) (env ⟨1,(k:Int),Xd⟩) (by kernel_rfl) (jx fB hlt _) (by show kk*3+3<=192;omega) (enE.one _) _ rfl (by first | rfl | simp) (Xi (env ⟨1,(k:Int),Xd⟩).toArray) rfl rfl ?_
    intro W9 ow9 gr9 sz9;rw[<-HTV.out]at ow9;have hM9:=M8.setT (by (first|rw[HTV.out]|rw[show O _ _ _=_ from HTV.out]);rfl) gr9 sz9 ow9
    have M9:Xp (Mk w0 hi W9 b vl L V9 { m' with fs:=m'.fs.set k { fr with r:=fr.r+1 } } vt9 ((T'.set 0 (qr fA kk ⟨1,(k:Int),Xd⟩)).set 1 (qr fB kk ⟨1,(k:Int),Xd⟩))):=hM9.1;have K9:Xp (zr hi w W9):=K8.trans hM9.2;have P9:Xp (zt W9 po 68 CO):=hM9.2.1 _ _ _ P8 Zi;have B9:Xp (qV { m' with fs:=m'.fs.set k { fr with r:=fr.r+1 } } ((T'.set 0 (qr fA kk ⟨1,(k:Int),Xd⟩)).set 1 (qr fB kk ⟨1,(k:Int),Xd⟩))):=(show qV _ _ from HBF.out _ (kF (by decide)).symm)
    clear hM9 ow9 gr9 sz9;go_wp2
    go_roundg (64 -(kk+1))
    case measure=>omega
    exact⟨kk+1,{ m' with fs:=m'.fs.set k { fr with r:=fr.r+1 } },_,_,_,by omega,by omega,by go_num,M9,K9,B9,(show _/\_ from⟨SW.1,SW.2.1,SW.2.2.1,List.length_set.trans SW.2.2.2⟩),HNX _,P9⟩
  dsimp only at h1 h2;subst h1;subst h2;have HK:Xp (m'.sl[k]? =Xa z):=h3;obtain⟨nf,HNF⟩:=kA m'.sl.length;have hkn:k<nf:=by rw[<-HNF.out];exact(gS.1 h3).1
  have hkz:(k:Int)< (nf:Int):=by omega
  clear h3;have hk1:((2:Int) == 1)=Xd:=by decide
  have hk2:((2:Int) == 2)=Xc:=by decide
  obtain⟨g,cf,heq⟩:=M1.rows.sl.formS (by rw[HNF.out];omega)
  rw[HNF.out]at heq;have HEQ:Xp (V9.s.x= O (Xa ⟨g,0,Xb⟩) nf cf):=heq;have hrw:=M1.rows.sl;(first|rw[HEQ.out]at hrw|rw[show O _ _ _=_ from HEQ.out]at hrw);have HRW:Xp (zb slE w0.heap.size W1 (O (Xa ⟨g,0,Xb⟩) nf cf) m'.sl):=hrw;clear hrw heq;go_upto_region 11 with fail;clear e0;obtain⟨I,HI⟩:∃I:Xo->Prop,Xp (∀u,I u↔zc W1 u):=⟨fun u=>zc W1 u,fun _=>Iff.rfl⟩
  have hI0:I W1.drew:=(HI _).2 (gW _)
  have hx1:∀y:zj I,y.world.cell? ⟨b,3,Xb⟩=Xa (O (Xa ⟨g,0,Xb⟩) nf cf):=fun y=>by rw[<-HEQ.out];exact(M1.box.box.grew ((HI _).1 y.holds)).c 3 rfl
  have he1:∀y:zj I,y.world.cell? ⟨pe,1,Xb⟩=Xa (I6 (k:Int)):=fun y=>(E1.box.grew ((HI _).1 y.holds)).c 1 rfl
  have hd8:∀y:zj I,y.world.cell? ⟨g,k,Xb⟩=Xa (I6 z):=fun y=>by
   have:=(HRW.grew ((HI _).1 y.holds)).one HK 0 _ rfl;rw[zX,Xw,zA]at this
   simpa [slE,Nat.mul_one]using this
  have hne:Nonempty (zj I):=⟨⟨_,hI0⟩⟩;refine ZV (I:=I) 11 [] hI0 zW (by kernel_rfl) rfl rfl (by decide) (by simp) (by kernel_rfl) ?_
  simp only[Yb,Yc];iterate 1 (refine qG rfl rfl rfl (fun K hK=>?_);go_big_quiet_op;refine hK _ ?_;clear hK)
  refine zcf (.tmp 80) ⟨b,0,Xb⟩ rfl rfl rfl rfl ?_;simp only[Xu,sB,sS,sZ];iterate 9 (refine qG rfl rfl rfl (fun K hK=>?_);go_big_quiet_op;refine hK _ ?_;clear hK)
  refine zbE fun W2 hI2 hF=>?_
  have g2:=(HI _).1 hI2;have M2:=dD (M1.grew g2);have K2:=dD (K1.trans (zr.grew g2));have E2:=dD (E1.grew g2);have P2:=dD (P1.grew g2);have R2:=dD (HRW.grew g2);clear g2 hI2 hF hx1 he1 hd8 hne hI0;have xf:=R2.unfrozen rfl;have d8:W2.cell? ⟨g,k,Xb⟩=Xa (I6 z):=by
   have:=R2.one HK 0 _ rfl;rw[zX,Xw,zA]at this
   simpa [slE,Nat.mul_one]using this
  go_upto_region 12 with fail;clear d8 xf;obtain⟨ow3,gr3,sz3⟩:=R2.cell (k:=k) (o:=0) rfl HK (y:=z+1) (u:=I6 (z+1)) rfl (by decide)
  obtain⟨W3,hW3⟩:=kB (W2.setCell ⟨g,k,Xb⟩ (I6 (z+1)));have e3:W2.setCell ⟨g,k*slE.k+0,Xb⟩ (I6 (z+1))=W3:=by rw[<-hW3];simp[slE]
  rw[e3]at ow3 gr3 sz3;rw[hW3];rw[<-HEQ.out]at ow3;have hM3:=M2.setS (by (first|rw[HEQ.out]|rw[show O _ _ _=_ from HEQ.out]);rfl) gr3 sz3 ow3
  have M3:Xp (Mk w0 hi W3 b vl L V9 { m' with sl:=m'.sl.set k (z+1) } vt9 T'):=hM3.1;have K3:Xp (zr hi w W3):=K2.trans hM3.2;have E3:Xp (zt W3 pe 55 [I6 2,I6 (k:Int),Xh ew]):=hM3.2.1 _ _ _ E2 Qo;have P3:Xp (zt W3 po 68 CO):=hM3.2.1 _ _ _ P2 Zi;clear e3 hW3 ow3 gr3 sz3 hM3;obtain⟨I,HI⟩:∃I:Xo->Prop,Xp (∀u,I u↔(u.cell? ⟨b,12,Xb⟩=Xa (O (Xa ⟨gt,0,Xb⟩) 2 ct)/\zt u pe 55 [I6 2,I6 (k:Int),Xh ew]/\zt u po 68 CO)):=⟨fun u=>(u.cell? ⟨b,12,Xb⟩=Xa (O (Xa ⟨gt,0,Xb⟩) 2 ct)/\zt u pe 55 [I6 2,I6 (k:Int),Xh ew]/\zt u po 68 CO),fun _=>Iff.rfl⟩
  have HIM:Xp (∀u m' T',Mk w0 hi u b vl L V9 m' vt9 T'->u.cell? ⟨b,12,Xb⟩=Xa (O (Xa ⟨gt,0,Xb⟩) 2 ct)):=dD<|fun u m' T' hm=>by
   have:=hm.box.box.c 12 rfl;(first|rw[HTV.out]at this|rw[show O _ _ _=_ from HTV.out]at this);exact this
  have hI0:I W3.drew:=(HI _).2 ⟨HIM _ _ _ (M3.grew (gW _)),E3.grew (gW _),P3.grew (gW _)⟩
  have hF0:Mk w0 hi W3.drew b vl L V9 { m' with sl:=m'.sl.set k (z+1) } vt9 T'/\zr hi w W3.drew:=⟨M3.grew (gW _),K3.trans (zr.grew (gW _))⟩
  have ht:∀y:zj I,y.world.cell? ⟨b,12,Xb⟩=Xa (O (Xa ⟨gt,0,Xb⟩) 2 ct):=fun y=>((HI _).1 y.holds).1
  have he0:∀y:zj I,y.world.cell? ⟨pe,0,Xb⟩=Xa (I6 2):=fun y=>((HI _).1 y.holds).2.1.box.c 0 rfl
  have he1:∀y:zj I,y.world.cell? ⟨pe,1,Xb⟩=Xa (I6 (k:Int)):=fun y=>((HI _).1 y.holds).2.1.box.c 1 rfl
  have he2:∀y:zj I,y.world.cell? ⟨pe,2,Xb⟩=Xa (Xh ew):=fun y=>((HI _).1 y.holds).2.1.box.c 2 rfl
  have hne:Nonempty (zj I):=⟨⟨_,hI0⟩⟩;refine zG (I:=I) 17 [(14,fun _=>True)] (fun u=>Mk w0 hi u b vl L V9 { m' with sl:=m'.sl.set k (z+1) } vt9 T'/\zr hi w u) hI0 hF0 zW (by kernel_rfl) rfl rfl (by decide) ?hS (by kernel_rfl) ?_
  case hS=>
   intro x hx;simp only[mC,nM,or_false]at hx;subst hx;exact⟨undef,trivial⟩
  simp only[Yb,Yc];iterate 1 (refine zg rfl rfl rfl (fun K hK=>?_);go_big_quiet_op;refine hK _ ?_;clear hK)
  refine zI (.tmp 91) ⟨b,0,Xb⟩ rfl rfl rfl rfl ?_;simp only[Xu,sB,sS,sZ];iterate 4 (refine zg rfl rfl rfl (fun K hK=>?_);go_big_quiet_op;refine hK _ ?_;clear hK)
  refine zI (.tmp 96) ⟨b,0,Xb⟩ rfl rfl rfl rfl ?_;simp only[Xu,sB,sS,sZ];iterate 7 (refine zg rfl rfl rfl (fun K hK=>?_);go_big_quiet_op;refine hK _ ?_;clear hK)
  refine zH rfl rfl (fun _ u=>Mk w0 hi u b vl L V9 { m' with sl:=m'.sl.set k (z+1) } vt9 (T'.set 0 (qr fA kk ⟨2,(k:Int),ew⟩))/\zr hi w u) (fun w' hI' hF'=>?_) (fun v1 hv=>?_)
  ·obtain⟨i1,i2,i3⟩:=(HI _).1 hI';obtain⟨k1,k2⟩:=hF';have hr:=k1.rows.tt;(first|rw[HTV.out]at hr|rw[show O _ _ _=_ from HTV.out]at hr);refine j4 (E:=Qw) (.tmp 104) (.tmp 101) 55 rfl w0.heap.size (O (Xa ⟨gt,0,Xb⟩) 2 ct) T' hr gt 0 (kk*3) rfl fA (qr fA kk ⟨2,(k:Int),ew⟩) TW.1 (env ⟨2,(k:Int),ew⟩) (by kernel_rfl) (jx fA hlt _) (by show kk*3+3<=192;omega) (enE.one _) _ rfl (by first | rfl | simp) (Xi (env ⟨2,(k:Int),ew⟩).toArray) rfl rfl (fun w2 ow gr sz=>?_)
   rw[<-HTV.out]at ow;have hM:=k1.setT (by (first|rw[HTV.out]|rw[show O _ _ _=_ from HTV.out]);rfl) gr sz ow
   exact⟨(HI _).2 ⟨HIM _ _ _ hM.1,hM.2.1 _ _ _ i2 Qo,hM.2.1 _ _ _ i3 Zi⟩,trivial,hM.1,k2.trans hM.2⟩
  try simp only[Xu]
  iterate 2 (refine zg rfl rfl rfl (fun K hK=>?_);go_big_quiet_op;refine hK _ ?_;clear hK)
  refine qj fun W8 hI8 hF8=>?_
  have M8:Xp (Mk w0 hi W8 b vl L V9 { m' with sl:=m'.sl.set k (z+1) } vt9 (T'.set 0 (qr fA kk ⟨2,(k:Int),ew⟩))):=hF8.1;have K8:Xp (zr hi w W8):=hF8.2;have P8:Xp (zt W8 po 68 CO):=((HI _).1 hI8).2.2;clear hF8 hI8 hI0 hF0 ht he0 he1 he2 hne;have R8:Xp (zb Qw w0.heap.size W8 (O (Xa ⟨gt,0,Xb⟩) 2 ct) (T'.set 0 (qr fA kk ⟨2,(k:Int),ew⟩))):=show zb _ _ _ _ _ by rw[<-HTV.out];exact M8.rows.tt
  refine zB (E:=Qw) rfl (.tmp 106) (.tmp 102) 55 rfl w0.heap.size _ _ R8 gt 1 (kk*3) rfl fB (qr fB kk ⟨2,(k:Int),ew⟩) (by rw[sN (by decide)];exact TW.2.1) (env ⟨2,(k:Int),ew⟩) (by kernel_rfl) (jx fB hlt _) (by show kk*3+3<=192;omega) (enE.one _) _ rfl (by first | rfl | simp) (Xi (env ⟨2,(k:Int),ew⟩).toArray) rfl rfl ?_
  intro W9 ow9 gr9 sz9;rw[<-HTV.out]at ow9;have hM9:=M8.setT (by (first|rw[HTV.out]|rw[show O _ _ _=_ from HTV.out]);rfl) gr9 sz9 ow9
  have M9:Xp (Mk w0 hi W9 b vl L V9 { m' with sl:=m'.sl.set k (z+1) } vt9 ((T'.set 0 (qr fA kk ⟨2,(k:Int),ew⟩)).set 1 (qr fB kk ⟨2,(k:Int),ew⟩))):=hM9.1;have K9:Xp (zr hi w W9):=K8.trans hM9.2;have P9:Xp (zt W9 po 68 CO):=hM9.2.1 _ _ _ P8 Zi;have B9:Xp (qV { m' with sl:=m'.sl.set k (z+1) } ((T'.set 0 (qr fA kk ⟨2,(k:Int),ew⟩)).set 1 (qr fB kk ⟨2,(k:Int),ew⟩))):=(show qV _ _ by
   have:=BW.forkS (s0:=s0) (s1:=⟨Xc,s0.ars,qL⟩) (by rw[SW.1];rfl) (by rw[SW.1];rfl) rfl TW.1 TW.2.1 hlt HBK HK (by rw[HAK.out]) (by rw[HAK.out])
   rw[HAK.out]at this;exact this)
  clear hM9 ow9 gr9 sz9;go_wp2
  go_roundg (64 -(kk+1))
  case measure=>omega
  exact⟨kk+1,{ m' with sl:=m'.sl.set k (z+1) },_,_,_,by omega,by omega,by go_num,M9,K9,B9,(show _/\_ from⟨SW.1,SW.2.1,SW.2.2.1,SW.2.2.2⟩),HNX _,P9⟩
 have hltz:¬(kk:Int)<64:=by omega
 have HE:Xp (Frk w0 hi b w vl L m s0.ars wr):=dD<|⟨V9,m',vt9,T',MW,KW,BW,by rw[SW.1,HS.out];rfl,SW.2⟩
 go_wp2
 (first | go_end0 | ((try simp only[Exit.inBlock,Exit.then]);refine bodyPost_ret (results_none rfl _ _ _) rfl ?_))
 first | exact HE.out | exact⟨⟨_,rfl⟩,HE⟩
theorem zeF {I:Xo->Prop} {P:Program} {J:Act->Xo->Prop} {a:Act} {w:Xo} {L l r:List Oper} (T:Nat) (S:List (Nat × zcL)) (hI:I w.drew) (hJ0:J a w.drew) (hJq:∀(j:Nat) o,L.toArray[j]? =Xa o->S.lookup j=Xb->∀a v w,(execOp a.eval o).run P w= .ok (.value v) w->J a w->J (a.put o.dst v) w) (hJs:∀(j:Nat) o s,L.toArray[j]? =Xa o->S.lookup j=Xa s->∀a w K,J a w->I w->zQ P o a w K->zQ P o a w fun v w'=>K v w'/\J (a.put o.dst v) w') (hJu:∀(j:Nat) o,L.toArray[j]? =Xa o->∀a w,J a w->J (a.put o.dst undef) w) (hm:P.follows .mixedOrders=Xc) (hB:Qh L.toArray T=Xc) (hl:L.take T=l) (hr:L.drop T=r) (hT:T<=L.length)
  (hS:∀x∈S,∃v,x.2.pv v) (hp:∀k s j t,S.lookup k=Xa s->S.lookup j=Xa t->j≠k->anc L.toArray 9 j k=Xd->∀v w w',t.step w w'->s.post v w->s.post v w') (hpre:∀j t k s,S.lookup j=Xa t->S.lookup k=Xa s->j≠k->∀w w',s.step w w'->t.pre w->t.pre w') (hpr0:∀k t,S.lookup k=Xa t->t.pre w.drew)
  (h:zbx I P L.toArray (fun k=>S.lookup k) (fun a w=>J a w->wpList P L.toArray Q r a w) l 0 (fun _ _=>True) a):(Code.region id L.toArray Xc).wp P Q a w:=by
 refine zmT (J:=J) T hI hJ0 hm hB hl hr hT ?_ ?_ ?_ ?_ ?_ ?_ ?_ hJu h
 ·intro k s o hk _ d hd;obtain⟨t,_,rfl⟩:=J6 hk;cases hd
 ·intro k s hk;obtain⟨t,h1,rfl⟩:=J6 hk;obtain⟨x,hx,rfl,_⟩:=QG h1;exact hS x hx
 ·intro k s j t hk hj hne ha _ v;obtain⟨s,h1,rfl⟩:=J6 hk;obtain⟨t,h2,rfl⟩:=J6 hj;exact hp k s j t h1 h2 hne ha v
 ·intro j t k s hj hk hne;obtain⟨s,h1,rfl⟩:=J6 hk;obtain⟨t,h2,rfl⟩:=J6 hj;exact hpre j t k s h2 h1 hne
 ·intro k t hk;obtain⟨t,h1,rfl⟩:=J6 hk;exact hpr0 k t h1
 ·intro j o ho hs;exact hJq j o ho (by simpa using hs)
 intro j o s ho hs;obtain⟨t,h1,_⟩:=J6 hs;exact hJs j o t ho h1
theorem zQ.know {P:Program} {a:Act} {w:Xo} {K:Xr->Xo->Prop} {J:Act->Xo->Prop} (h:zQ P o a w K) (hk:∀n w',(execOp a.eval o).run P w= .ok n w'->(∃v,n= .value v/\J (a.put o.dst v) w')\/(n= .skip/\J (a.put o.dst undef) w')):zQ P o a w fun v w'=>K v w'/\J (a.put o.dst v) w':=by
 unfold zQ at h⊢
 generalize(execOp a.eval o).run P w=r at h hk⊢
 cases r with
 | ok n w'=>
  rcases hk n w' rfl with⟨v,rfl,hv⟩|⟨rfl,hv⟩
  ·exact⟨h,hv⟩
  exact⟨h,hv⟩
 | halt x w'=>exact h
def JT (ss:List Nat) (a:Act) (w:Xo):Prop:=(∀s∈ss,∀x n c,a.tmps.getD s undef= O (Xa x) n c->x.block<w.heap.size)/\∀s∈ss,∀t∈ss,s≠t->∀x n c y n' c',a.tmps.getD s undef= O (Xa x) n c->a.tmps.getD t undef= O (Xa y) n' c'->x.block≠y.block
theorem ZB {a:Act} {d:Option Nat} {v:Xr} {s:Nat}:(a.put d v).tmps.getD s undef=a.tmps.getD s undef\/(d=Xa s/\(a.put d v).tmps.getD s undef=v):=by
 cases d with
 | none=>exact .inl rfl
 | some k=>
  by_cases e:k=s
  ·subst e
   by_cases hk:k<a.tmps.size
   ·refine .inr ⟨rfl,?_⟩
    show(a.tmps.setIfInBounds k v).getD k undef=v
    rw[Xy,Array.getElem?_setIfInBounds_self_of_lt hk];rfl
   refine .inl ?_
   show(a.tmps.setIfInBounds k v).getD k undef=_
   rw[Array.setIfInBounds_eq_of_size_le (by omega)]
  refine .inl ?_
  show(a.tmps.setIfInBounds k v).getD s undef=_
  rw[Xy,Array.getElem?_setIfInBounds_ne e,<-Xy]
theorem JT.other {ss:List Nat} {a:Act} {w:Xo} {d:Option Nat} {v:Xr} (h:JT ss a w) (hd:∀s∈ss,d≠Xa s) (hw:w.heap.size<=w'.heap.size):JT ss (a.put d v) w':=by
 have key:∀s∈ss,(a.put d v).tmps.getD s undef=a.tmps.getD s undef:=fun s hs=>(ZB (a:=a) (d:=d) (v:=v) (s:=s)).resolve_right fun e=>hd s hs e.1
 refine⟨fun s hs x n c he=>?_,fun s hs t ht hst x n c y n' c' he1 he2=>?_⟩
 ·rw[key s hs]at he;exact Yp (h.1 s hs x n c he) hw
 rw[key s hs]at he1;rw[key t ht]at he2;exact h.2 s hs t ht hst x n c y n' c' he1 he2
theorem JT.new {ss:List Nat} {a:Act} {w:Xo} {d:Option Nat} {n0 c0:Nat} (h:JT ss a w) (hw:w.heap.size<w'.heap.size):JT ss (a.put d (O (Xa ⟨w.heap.size,0,Xb⟩) n0 c0)) w':=by
 have key:∀s∈ss,∀x n c,(a.put d (O (Xa ⟨w.heap.size,0,Xb⟩) n0 c0)).tmps.getD s undef= O (Xa x) n c->(a.tmps.getD s undef= O (Xa x) n c/\x.block<w.heap.size)\/(d=Xa s/\x.block=w.heap.size):=fun s hs x n c he=>by
  rcases ZB (a:=a) (d:=d) (v:= O (Xa ⟨w.heap.size,0,Xb⟩) n0 c0) (s:=s)with e|⟨e1,e2⟩
  ·rw[e]at he;exact .inl ⟨he,h.1 s hs x n c he⟩
  rw[e2]at he;cases he;exact .inr ⟨e1,rfl⟩
 refine⟨fun s hs x n c he=>?_,fun s hs t ht hst x n c y n' c' he1 he2=>?_⟩
 ·rcases key s hs x n c he with h1|h1 <;> omega
 rcases key s hs x n c he1 with⟨h1,h1'⟩|⟨h1,h1'⟩ <;> rcases key t ht y n' c' he2 with⟨h2,h2'⟩|⟨h2,h2'⟩
 ·exact h.2 s hs t ht hst x n c y n' c' h1 h2
 ·omega
 ·omega
 rw[h1]at h2;cases h2;exact absurd rfl hst
theorem JT.undef {ss:List Nat} {a:Act} {w:Xo} {d:Option Nat} (h:JT ss a w):JT ss (a.put d Go.undef) w:=by
 have key:∀s∈ss,∀x n c,(a.put d Go.undef).tmps.getD s Go.undef= O (Xa x) n c->a.tmps.getD s Go.undef= O (Xa x) n c:=fun s hs x n c he=>by
  rcases ZB (a:=a) (d:=d) (v:=Go.undef) (s:=s)with e|⟨e1,e2⟩
  ·rw[e]at he;exact he
  rw[e2]at he;cases he
 exact⟨fun s hs x n c he=>h.1 s hs x n c (key s hs x n c he),fun s hs t ht hst x n c y n' c' he1 he2=>h.2 s hs t ht hst x n c y n' c' (key s hs _ _ _ he1) (key t ht _ _ _ he2)⟩
theorem zlN {P:Program} {w:Xo} {e:TypeId} {i:TypeInfo} {z:Xr} (hu:P.underlying t=Xa (.slice e)) (hi:P.info? e=Xa i) (hz:i.zero=Xa z) (x:Xr) (hx:x=undef\/∃n:Nat,x=I6 n/\n*i.bytes<=140737488355328/\n<=1000) {v:Xr} (h:(Instr.makeSlice t x x).run P w= .ok v w'):∃l c,v= O (Xa ⟨w.heap.size,0,Xb⟩) l c/\w.heap.size<w'.heap.size:=by
 rcases hx with rfl|⟨n,rfl,hn,hn2⟩
 ·exfalso
  simp[Instr.makeSlice,run_underlying hu,asInt,asIntOf,undef]at h
 have hb:((i.bytes:Int)*(n:Int))<=281474976710656:=by
  rw[<-Int.natCast_mul,Nat.mul_comm];omega
 have hrun:=run_make (P:=P) w t e i z hu hi hz .i64 .i64 n n (by omega) (Int.le_refl _) hb (by omega)
 rw[hrun]at h;cases h;exact⟨_,_,rfl,by simp⟩
def JB (nf ns nb:Nat) (a:Act) (w:Xo):Prop:=(a.tmps.getD 0 undef=I6 nf/\a.tmps.getD 1 undef=I6 ns/\a.tmps.getD 2 undef=I6 nb)/\(∀s∈[32,35,37,40],a.tmps.getD s undef=undef\/∃n:Nat,a.tmps.getD s undef=I6 n/\n<=80)/\JT [38,41] a w
section
variable{nf ns nb:Nat} {a:Act} {w w':Xo}
theorem JB.other {d:Option Nat} {v:Xr} (h:JB nf ns nb a w) (hd:∀s∈[0,1,2,32,35,37,40,38,41],d≠Xa s) (hw:w.heap.size<=w'.heap.size):JB nf ns nb (a.put d v) w':=by
 have key:∀s∈[0,1,2,32,35,37,40,38,41],(a.put d v).tmps.getD s undef=a.tmps.getD s undef:=fun s hs=>(ZB (a:=a) (d:=d) (v:=v) (s:=s)).resolve_right fun e=>hd s hs e.1
 refine⟨⟨by rw[key 0 (by simp)];exact h.1.1,by rw[key 1 (by simp)];exact h.1.2.1,by rw[key 2 (by simp)];exact h.1.2.2⟩,fun s hs=>?_,h.2.2.other (fun s hs=>hd s (by simp at hs⊢;omega)) hw⟩
 rw[key s (by simp at hs⊢;omega)]
 exact h.2.1 s hs
theorem JB.num {s:Nat} {n:Nat} (h:JB nf ns nb a w) (hs:s∈[32,35,37,40]) (hn:n<=80):JB nf ns nb (a.put (Xa s) (I6 n)) w:=by
 have key:∀t,t≠s->(a.put (Xa s) (I6 n)).tmps.getD t undef=a.tmps.getD t undef:=fun t ht=>(ZB (a:=a) (d:=some s) (v:=I6 n) (s:=t)).resolve_right fun e=>ht (by simpa using e.1.symm)
 have hs0:s≠0/\s≠1/\s≠2/\s≠38/\s≠41:=by simp at hs;omega
 refine⟨⟨by rw[key 0 (by omega)];exact h.1.1,by rw[key 1 (by omega)];exact h.1.2.1,by rw[key 2 (by omega)];exact h.1.2.2⟩,fun t ht=>?_,h.2.2.other (fun t ht e=>by simp only[Option.some.injEq]at e;subst e;simp only[mC,nM,or_false]at ht;omega) (nR _)⟩
 rcases ZB (a:=a) (d:=some s) (v:=I6 n) (s:=t)with e|⟨_,e⟩
 ·rw[e];exact h.2.1 t ht
 exact .inr ⟨n,e,hn⟩
theorem JB.new {d:Option Nat} {n0 c0:Nat} (h:JB nf ns nb a w) (hd:∀s∈[0,1,2,32,35,37,40],d≠Xa s) (hw:w.heap.size<w'.heap.size):JB nf ns nb (a.put d (O (Xa ⟨w.heap.size,0,Xb⟩) n0 c0)) w':=by
 have key:∀s∈[0,1,2,32,35,37,40],(a.put d (O (Xa ⟨w.heap.size,0,Xb⟩) n0 c0)).tmps.getD s undef=a.tmps.getD s undef:=fun s hs=>(ZB (a:=a) (d:=d) (s:=s)).resolve_right fun e=>hd s hs e.1
 refine⟨⟨by rw[key 0 (by simp)];exact h.1.1,by rw[key 1 (by simp)];exact h.1.2.1,by rw[key 2 (by simp)];exact h.1.2.2⟩,fun s hs=>?_,h.2.2.new hw⟩
 rw[key s (by simp at hs⊢;omega)]
 exact h.2.1 s hs
def okQ (o:Oper):Bool:=
 match o.dst with
 | none=>Xc
 | some d=>!([0,1,2,32,35,37,40,38,41].contains d) || (match o.op with | .move (.tmp x)=>[(32,0),(35,1),(37,1),(40,2)].contains (d,x) | _=>Xd)
theorem JB.quiet {v:Xr} (h:JB nf ns nb a w) (ho:okQ o=Xc) (hf:nf<=80) (hs:ns<=80) (hb:nb<=80) (hr:(execOp a.eval o).run prog w= .ok (.value v) w):JB nf ns nb (a.put o.dst v) w:=by
 unfold okQ at ho
 cases hd:o.dst with
 | none=>exact h.other (fun s _ e=>by cases e) (nR _)
 | some d=>
  rw[hd]at ho;simp only[Bool.or_eq_true]at ho
  rcases ho with ho|ho
  ·refine h.other (fun s hs e=>?_) (nR _)
   cases e;simp only[Yr,Xz,decide_eq_false_iff_not]at ho;exact ho hs
  cases hop:o.op with
  | move x=>
   rw[hop]at ho
   cases x with
   | tmp x=>
    simp only[Xz,decide_eq_true_eq]at ho;have hv:v=a.tmps.getD x undef:=by
     simp only[execOp,hop,Xv,Result.ok.injEq,Next.value.injEq,and_true]at hr;exact hr.symm
    simp only[mC,pJ,nM,or_false]at ho
    rcases ho with⟨rfl,rfl⟩|⟨rfl,rfl⟩|⟨rfl,rfl⟩|⟨rfl,rfl⟩
    ·rw[hv,h.1.1];exact h.num (by simp) hf
    ·rw[hv,h.1.2.1];exact h.num (by simp) hs
    ·rw[hv,h.1.2.1];exact h.num (by simp) hs
    rw[hv,h.1.2.2];exact h.num (by simp) hb
   | _=>simp at ho
  | _=>rw[hop]at ho;simp at ho
theorem JB.undef {d:Option Nat} (h:JB nf ns nb a w) (hd:∀s∈[0,1,2],d≠Xa s):JB nf ns nb (a.put d Go.undef) w:=by
 have key:∀s∈[0,1,2],(a.put d Go.undef).tmps.getD s Go.undef=a.tmps.getD s Go.undef:=fun s hs=>(ZB (a:=a) (d:=d) (s:=s)).resolve_right fun e=>hd s hs e.1
 refine⟨⟨by rw[key 0 (by simp)];exact h.1.1,by rw[key 1 (by simp)];exact h.1.2.1,by rw[key 2 (by simp)];exact h.1.2.2⟩,fun s hs=>?_,h.2.2.undef⟩
 rcases ZB (a:=a) (d:=d) (v:=Go.undef) (s:=s)with e|⟨_,e⟩
 ·rw[e];exact h.2.1 s hs
 exact .inl e
theorem JB.make {K:Xr->Xo->Prop} (h:JB nf ns nb a w) (t e:TypeId) (i:TypeInfo) (z:Xr) (s:Nat) (hop:o.op= .makeSlice t (.tmp s) (.tmp s)) (hs:s∈[32,35,37,40]) (hu:Tryz.prog.underlying t=Xa (.slice e)) (hi:Tryz.prog.info? e=Xa i) (hz:i.zero=Xa z) (hb:i.bytes<=1000) (hd:∀s∈[0,1,2,32,35,37,40],o.dst≠Xa s) (hk:zQ prog o a w K):zQ prog o a w fun v w'=>K v w'/\JB nf ns nb (a.put o.dst v) w':=by
 refine hk.know fun n w' hr=>?_
 left;simp only[execOp,hop,Ya]at hr
 cases hm:(Instr.makeSlice t (a.eval (.tmp s)) (a.eval (.tmp s))).run prog w with
 | halt x w1=>rw[hm]at hr;cases hr
 | ok v w1=>
  rw[hm]at hr;simp only[rA,Xv,Result.ok.injEq]at hr;obtain⟨rfl,rfl⟩:=hr;obtain⟨l,c,rfl,hlt⟩:=zlN hu hi hz _ (by
   rcases h.2.1 s hs with e|⟨n,e,hn⟩
   ·exact .inl e
   refine .inr ⟨n,e,?_,by omega⟩
   have:n*i.bytes<=80*1000:=Nat.mul_le_mul hn hb
   omega) hm
  exact⟨_,rfl,h.new hd hlt⟩
end
def okL (L:List Oper) (Sx:List Nat):Bool:=L.zipIdx.all fun p=>Sx.contains p.2 || okQ p.1
theorem zly {L:List Oper} {Sx:List Nat} (h:okL L Sx=Xc) (hj:L.toArray[j]? =Xa o) (hn:j∉Sx):okQ o=Xc:=by
 unfold okL at h;have hm:(o,j)∈L.zipIdx:=by
  rw[List.mem_iff_getElem?];exact⟨j,by rw[List.getElem?_zipIdx];simp at hj;simp[hj]⟩
 have:=Yh.1 h _ hm;simp only[Bool.or_eq_true,Xz,decide_eq_true_eq]at this;exact this.resolve_left hn
def okD (L:List Oper):Bool:=L.all fun o=>match o.dst with | none=>Xc | some d=>!([0,1,2].contains d)
theorem zlz {L:List Oper} (h:okD L=Xc) (hj:L.toArray[j]? =Xa o):∀s∈[0,1,2],o.dst≠Xa s:=fun s hs e=>by
 unfold okD at h;have:=Yh.1 h o (by simp at hj;exact mG hj)
 rw[e]at this;simp only[Yr,Xz,decide_eq_false_iff_not]at this;exact this hs
theorem zik {α:Type} {A B C D:α} (h:List.lookup j [(2,A),(5,B),(7,C),(10,D)]=Xb):j∉ [2,5,7,10]:=fun hm=>by
 simp only[mC,nM,or_false]at hm
 rcases hm with rfl|rfl|rfl|rfl <;> simp[List.lookup_cons]at h
theorem zeU {α:Type} (E:Elt α) {a:Act} (w:Xo) (n:Nat) (hn:n*E.bytes<=140737488355328) {l:Operand} (ho:o.op= .makeSlice E.st l l:=by rfl) (hl:a.eval l=I6 n:=by rfl):
  ∃C,(execOp a.eval o).run prog w= .ok (.value (O (Xa ⟨w.heap.size,0,Xb⟩) n n)) (w.alloc (Xk C E.ty))/\zb E w.heap.size (w.alloc (Xk C E.ty)) (O (Xa ⟨w.heap.size,0,Xb⟩) n n) (Xs n E.zero):=by
 obtain⟨i0,hi,hz0,hz1,hz2⟩:=info_parts E.info;have h2:n*1<=n*E.bytes:=Nat.mul_le_mul_left _ (nT E.pos E.few);have hb:((E.bytes:Int)*(n:Int))<=140737488355328:=by
  obtain⟨B,hB⟩:=kB (n*E.bytes);rw[hB]at hn;rw[<-Int.natCast_mul,Nat.mul_comm,hB];omega
 have hrun:=run_make (P:=prog) w E.st E.ty i0 _ E.und hi hz0 .i64 .i64 n n (by omega) (Int.le_refl _) (by rw[hz2];exact Int.le_trans hb (by omega)) (by omega)
 rw[hz1,tN]at hrun;refine⟨madeCells E.zv.cells (n*E.k),by simp only[execOp,ho,hl,Ya,hrun,Result.andThen,Xv],⟨⟨?_,.inr ⟨w.heap.size,n,madeCells E.zv.cells (n*E.k),by rw[lR],nR _,?_,?_,?_,?_,?_⟩⟩,by rw[lR];exact hn⟩⟩
 ·rw[js E]
 ·show(w.heap.push _)[w.heap.size]? =_
  simp
 ·rw[lR];exact nR _
 ·exact qC (by omega)
 ·rw[size_madeCells]
 rw[lR,Xx (by simp[madeCells]),zho E]
theorem zcW {a:Act} (w:Xo) (n:Nat) (hn:n<=80) {l:Operand} (ho:o.op= .makeSlice 31 l l:=by rfl) (hl:a.eval l=I6 n:=by rfl):
  ∃C,(execOp a.eval o).run prog w= .ok (.value (O (Xa ⟨w.heap.size,0,Xb⟩) n n)) (w.alloc (Xk C 44))/\zi w.heap.size (w.alloc (Xk C 44)) (O (Xa ⟨w.heap.size,0,Xb⟩) n n) (Xs n zx):=by
 obtain⟨i0,hi,hz0,hz1,hz2⟩:=info_parts zop;have hrun:=run_make (P:=prog) w 31 44 i0 _ underlying31 hi hz0 .i64 .i64 n n (by omega) (Int.le_refl _) (by rw[hz2];omega) (by omega)
 rw[hz1,tN]at hrun;refine⟨madeCells #[U8 0,U8 0,U8 0,U8 0,U8 0,U8 0,U8 0,U8 0] (n*8),by simp only[execOp,ho,hl,Ya,hrun,Result.andThen,Xv,Value.cells],⟨⟨?_,.inr ⟨w.heap.size,n,madeCells #[U8 0,U8 0,U8 0,U8 0,U8 0,U8 0,U8 0,U8 0] (n*8),by rw[lR],nR _,?_,?_,?_,?_,?_⟩⟩,fun p hp=>by rw[Xt hp];rfl,by rw[lR];omega⟩⟩
 ·rw[qI (k:=8) _ (fun a ha=>by rw[Xt ha];rfl)]
 ·show(w.heap.push _)[w.heap.size]? =_
  simp
 ·rw[lR];exact nR _
 ·exact qC (by omega)
 ·rw[size_madeCells]
 rw[lR]
 show(madeCells #[U8 0,U8 0,U8 0,U8 0,U8 0,U8 0,U8 0,U8 0] (n*8)).toList.take (n*8)=_
 rw[Xx (by simp[madeCells]),zdi]
theorem zaH {α:Type} (E:Elt α) {a:Act} {K:Xr->Xo->Prop} (w:Xo) (n:Nat) (hn:n*E.bytes<=140737488355328) (l:Operand) (ho:o.op= .makeSlice E.st l l) (hl:a.eval l=I6 n) (h:∀C,zb E w.heap.size (w.alloc (Xk C E.ty)) (O (Xa ⟨w.heap.size,0,Xb⟩) n n) (Xs n E.zero)->K (O (Xa ⟨w.heap.size,0,Xb⟩) n n) (w.alloc (Xk C E.ty))):zQ prog o a w K:=by
 obtain⟨C,hr,h1⟩:=zeU E w n hn ho hl;exact zQ.step hr (h C h1)
theorem Jm {a:Act} {K:Xr->Xo->Prop} (w:Xo) (n:Nat) (hn:n<=80) (l:Operand) (ho:o.op= .makeSlice 31 l l) (hl:a.eval l=I6 n) (h:∀C,zi w.heap.size (w.alloc (Xk C 44)) (O (Xa ⟨w.heap.size,0,Xb⟩) n n) (Xs n zx)->K (O (Xa ⟨w.heap.size,0,Xb⟩) n n) (w.alloc (Xk C 44))):zQ prog o a w K:=by
 obtain⟨C,hr,h1⟩:=zcW w n hn ho hl;exact zQ.step hr (h C h1)
theorem zeE {rest:List Oper} {op:Oper} {a:Act} {w:Xo} (hgd:op.guard=Xb) (ty:TypeId) (p x:Operand) (ho:op.op= .store ty p x) (b o:Nat) (hp:a.eval p= Xj (Xa ⟨b,o,Xb⟩)) (vs:List Xr) (hx:a.eval x= Xi vs.toArray)
  {cs:List Xr} {t:TypeId} (hb:zt w b t cs) (hl:o+vs.length<=cs.length) (hi:(Tryz.prog.info? ty).map (·.size)=Xa vs.length) (h1:∀v∈vs,v.oneCell'=Xc)
  (h:∀w',zt w' b t (splice cs o vs)->w.grownBy w' (Xa b)->w'.heap.size=w.heap.size->wpList prog ops Q rest (a.put op.dst undef) w'):wpList prog ops Q (op :: rest) a w:=by
 refine wpList_store_mid hgd ty p x ho b o vs.toArray hp hx ?_ ?_ (all_oneCell_toArray h1) ?_
 ·intro j hj;have:=hb.box.there (o+j) (by simp at hj;omega)
  rw[zA]at this;exact this
 ·simpa using hi
 exact h _ (hb.part hl) (zT b vs o w).1 (zT b vs o w).2
theorem zlI {w:Xo} {gf gl gsb gdb nf ns nb:Nat} (gr:zc w W) (hb:w.heap.size<=b) (box:zt W b 95 [vl.x,O (Xa ⟨gf,0,Xb⟩) nf nf,I6 0,O (Xa ⟨gl,0,Xb⟩) ns ns,O (Xa ⟨gsb,0,Xb⟩) ns ns,eS,O (Xa ⟨gdb,0,Xb⟩) nb nb,eS,eS,I6 (nb:Int),eS,eS,eS]) (lr:zm byE w (vl.x) L) (lc:vl.n<=vl.c) (lb:∀z∈L,0<=z/\z<256)
  (o1:zb Qj w.heap.size W (O (Xa ⟨gf,0,Xb⟩) nf nf) (Xs nf fr0)) (o2:zb slE w.heap.size W (O (Xa ⟨gl,0,Xb⟩) ns ns) (Xs ns 0)) (o3:zi w.heap.size W (O (Xa ⟨gsb,0,Xb⟩) ns ns) (Xs ns zx)) (o4:zi w.heap.size W (O (Xa ⟨gdb,0,Xb⟩) nb nb) (Xs nb zx)) (hap:gsb≠gdb):
  Mk w W.heap.size W b vl L ⟨⟨Xa ⟨gf,0,Xb⟩,nf,nf⟩,⟨Xa ⟨gl,0,Xb⟩,ns,ns⟩,⟨Xa ⟨gsb,0,Xb⟩,ns,ns⟩,zy,⟨Xa ⟨gdb,0,Xb⟩,nb,nb⟩,zy,zy,zy,zy⟩ ⟨Xs nf fr0,0,Xs ns 0,Xs ns zx,[],Xs nb zx,[],[],nb,[],[]⟩ zy []:=by
 have hp:∀{v:Xr} {ps:List (List Int)},zi w.heap.size W v ps->∀g,v.ownBlock=Xa g->g<W.heap.size:=fun h g hg=>by
  obtain⟨_,cs,h2⟩:=ZZ h hg;exact(aS.1 h2).1
 refine⟨gr,hb,box,lr,lc,lb,⟨nR _,bS gr,o1,o2,fun g hg=>(o2.lt g hg).2,o3,hp o3,⟨rfl,rfl⟩,o4,hp o4,⟨World.ownsRow_nil _ _ _ _,by simp,by simp⟩,⟨[],zb.nil _ _ _,rfl,fun i x f hx=>by cases hx⟩,zb.nil _ _ _,⟨[],zb.nil _ _ _,rfl,fun i x s hx=>by cases hx⟩,zb.nil _ _ _,⟨fun g hg e=>?_,zcN.free (fun f hf _=>by rw[Xt hf];rfl) (fun f hf=>by rw[Xt hf];rfl)⟩⟩⟩
 simp only[Value.ownBlock,Option.some.injEq]at hg e;exact hap (hg.trans e.symm)
def zfZ (n k:Nat):List Fr:=Xs k frF++Xs (n - k) fr0
theorem zkh (n:Nat):zfZ n 0=Xs n fr0:=by simp[zfZ]
theorem zl6 (n:Nat):zfZ n n=Xs n frF:=by simp[zfZ]
theorem znj (n k:Nat):zcO (zfZ n k):=fun f hf _=>by
 unfold zfZ at hf
 rcases Yk.1 hf with e|e
 ·rw[Xt e];rfl
 rw[Xt e];rfl
theorem zbY (n:Nat):∀f∈Xs n frF,f.r=0:=fun f hf=>by rw[Xt hf];rfl
theorem zki (n k:Nat):∀f∈zfZ n k,f.r=0:=fun f hf=>by
 unfold zfZ at hf
 rcases Yk.1 hf with e|e
 ·rw[Xt e];rfl
 rw[Xt e];rfl
theorem zkj {n k:Nat} (h:k<n):(zfZ n k)[k]? =Xa fr0:=by
 unfold zfZ;rw[aR (by simp),lR,Yj,Yd,kE (by omega)]
theorem zl5 {n k:Nat} (h:k<n):(zfZ n k).set k frF=zfZ n (k+1):=by
 unfold zfZ;rw[List.set_append_right _ _ (by simp),lR,Yj]
 obtain⟨j,hj⟩:∃j,n - k=j+1:=⟨n - k - 1,by omega⟩
 rw[hj,show n -(k+1)=j by omega,List.replicate_succ,sZ,List.replicate_succ',List.append_assoc]
 rfl
theorem zcY {w:Xo} {base:Nat} {v:Xr} {qs:List (Int × List Int)} (ty:TypeId) (h:zp base w v qs) (g:Nat) (q:Int × List Int) (h8:q.2.length=8) (hv:jz w ⟨g,0,Xb⟩ (ptc q)) (hl:qs.length<=1000) (hbase:base<=w.heap.size):
  ∃v' w',(Builtin.append_ #[32,32] ty #[v,O (Xa ⟨g,0,Xb⟩) 1 1]).run prog w= .ok v' w'/\zp base w' v' (qs++ [q])/\w.grownBy w' v.ownBlock:=by
 obtain⟨i0,hi,hz0,hz1,hz2⟩:=info_parts zoq;obtain⟨v',w',hr,ho,hg,_⟩:=run_append_own (P:=prog) w base 32 ty 100 i0 _ 9 16 underlying32 hi hz0 hz1 hz2 rfl (by decide) v qs.length _ h.1 ⟨g,0,Xb⟩ 1 1 (ptc q) (by rw[zaS,h8]) hv (zb1 _) (qC (by omega)) (by omega) hbase
 refine⟨v',w',hr,⟨?_,fun x hx=>?_,by simp;omega⟩,hg⟩
 ·rw[lA,List.flatMap_append]
  simpa using ho
 rcases Yk.1 hx with hx|hx
 ·exact h.2.1 x hx
 simp only[mC,nM,or_false]at hx;rw[hx];exact h8
section
variable{base hi:Nat} {w w':Xo} {V:MaV} {m:Ma} {vt:Sli} {T:List (Nat->En)}
theorem J3 {v:Xr} {qs:List (Int × List Int)} (h:zp base w v qs) {g:Nat} (hg:v.ownBlock=Xa g):base<=g/\∃cs,w.heap[g]? =Xa (Xk cs 100 (0,0)):=by
 rcases h.1.2 with⟨rfl,_⟩|⟨k,cap,cur,rfl,h2,h3,_⟩
 ·cases hg
 simp only[Value.ownBlock,Option.some.injEq]at hg;subst hg;exact⟨h2,cur,h3⟩
theorem MkR.addDq (h:MkR base hi w V m vt T) (hg:w.grownBy w' (V.dq.x).ownBlock) (s:Sli) {qs:List (Int × List Int)} (hno:∀f∈m.fs,f.r=0) (ho:zp base w' (s.x) qs):MkR base hi w' { V with dq:=s } { m with dq:=qs } vt T:=by
 cases hob:(V.dq.x).ownBlock with
 | none=>
  rw[hob]at hg;have h':=h.grew (qt hg);exact⟨h'.hw,h'.bh,h'.fs,h'.sl,h'.slh,h'.sb,h'.sbh,h'.sq,h'.db,h'.dbh,ho,h'.fl,h'.ca,h'.sp,h'.tt,⟨h'.ap.1,h'.ap.2.bare hno rfl⟩⟩
 | some g=>
  rw[hob]at hg;obtain⟨_,cs,hc⟩:=J3 h.dq hob;obtain⟨k1,k2,k3,k4,k5,k6,k7,k8,k9⟩:=h.kept hg hc;exact⟨nT h.hw hg.size,h.bh,k1 (by decide),k2 (.inl (by decide)),h.slh,k3 (.inl (by decide)),h.sbh,h.sq,k4 (.inl (by decide)),h.dbh,ho,k6 (by decide) (.inl (by decide)),k7 (by decide),k8 (by decide) (by decide),k9 (by decide),⟨h.ap.1,h.ap.2.bare hno rfl⟩⟩
theorem MkR.addFl {xs:List FlV} (h:MkR base hi w V m vt T) (f1:zb fvE base w (V.fl.x) xs) (f2:xs.length=m.fl.length) (f3:∀(i:Nat) x f,xs[i]? =Xa x->m.fl[i]? =Xa f->x.size=f.size/\zb blE hi w x.v f.bl)
  (hg:w.grownBy w' (V.fl.x).ownBlock) (s:Sli) {x:FlV} {f:Fl} (hno:∀f∈m.fs,f.r=0) (hx:x.size=f.size) (hb:zb blE hi w x.v f.bl) (ho:zb fvE base w' (s.x) (xs++ [x])):MkR base hi w' { V with fl:=s } { m with fl:=m.fl++ [f] } vt T:=by
 have fin:(∀{y:FlV} {q:Fl},zb blE hi w y.v q.bl->zb blE hi w' y.v q.bl)->∃ys:List FlV,zb fvE base w' (s.x) ys/\ys.length=(m.fl++ [f]).length/\∀(i:Nat) y q,ys[i]? =Xa y->(m.fl++ [f])[i]? =Xa q->y.size=q.size/\zb blE hi w' y.v q.bl:=fun k=>by
  refine⟨_,ho,by simp[f2],fun i y q hy hq=>?_⟩
  rcases Nat.lt_or_ge i xs.length with hi|hi
  ·rw[Yf hi]at hy;rw[Yf (by omega)]at hq
   obtain⟨a1,a2⟩:=f3 i y q hy hq;exact⟨a1,k a2⟩
  rw[aR hi]at hy;rw[aR (by omega),<-f2]at hq
  have hi0:i - xs.length=0:=by
   have:=(gS.1 hy).1
   simp at this
   omega
  rw[hi0]at hy hq;cases hy;cases hq;exact⟨hx,k hb⟩
 cases hob:(V.fl.x).ownBlock with
 | none=>
  rw[hob]at hg;have k:=qt hg;have h':=h.grew k;exact⟨h'.hw,h'.bh,h'.fs,h'.sl,h'.slh,h'.sb,h'.sbh,h'.sq,h'.db,h'.dbh,h'.dq,fin (fun h=>h.grew k),h'.ca,h'.sp,h'.tt,⟨h'.ap.1,h'.ap.2.bare hno rfl⟩⟩
 | some g=>
  rw[hob]at hg;obtain⟨cs,hc⟩:=f1.obj hob;obtain⟨k1,k2,k3,k4,k5,k6,k7,k8,k9⟩:=h.kept hg hc;exact⟨nT h.hw hg.size,h.bh,k1 (by decide),k2 (.inl (by decide)),h.slh,k3 (.inl (by decide)),h.sbh,h.sq,k4 (.inl (by decide)),h.dbh,k5 (by decide),fin (fun h=>h.kind hg hc (by decide)),k7 (by decide),k8 (by decide) (by decide),k9 (by decide),⟨h.ap.1,h.ap.2.bare hno rfl⟩⟩
end
section
variable{base hi S0:Nat} {w w':Xo} {V:MaV} {m:Ma} {vt:Sli} {T:List (Nat->En)}
def FlB (base hi S0:Nat) (w:Xo) (V:MaV) (m:Ma):Prop:=∃xs:List FlV,zb fvE base w (V.fl.x) xs/\xs.length=m.fl.length/\∀(i:Nat) x f,xs[i]? =Xa x->m.fl[i]? =Xa f->(x.size=f.size/\zb blE hi w x.v f.bl)/\∀g,x.v.ownBlock=Xa g->g<S0
theorem MkR.flB (h:MkR base hi w V m vt T):FlB base hi w.heap.size w V m:=by
 obtain⟨xs,h1,h2,h3⟩:=h.fl;exact⟨xs,h1,h2,fun i x f hx hf=>⟨h3 i x f hx hf,fun g hg=>((h3 i x f hx hf).2.lt g hg).2⟩⟩
theorem FlB.grew (h:FlB base hi S0 w V m) (k:zc w w'):FlB base hi S0 w' V m:=by
 obtain⟨xs,h1,h2,h3⟩:=h;refine⟨xs,h1.grew k,h2,fun i x f hx hf=>?_⟩
 obtain⟨⟨a1,a2⟩,a3⟩:=h3 i x f hx hf;exact⟨⟨a1,a2.grew k⟩,a3⟩
theorem FlB.kind (h:FlB base hi S0 w V m) {g:Nat} {cs:Array Xr} (hg:w.grownBy w' (Xa g)) (ho:w.heap[g]? =Xa (Xk cs t (0,0))) (h1:t≠84\/(V.fl.x).ownBlock≠Xa g) (h2:t≠3\/S0<=g):FlB base hi S0 w' V m:=by
 obtain⟨xs,k1,k2,k3⟩:=h;refine⟨xs,?_,k2,fun i x f hx hf=>?_⟩
 ·rcases h1 with h1|h1
  ·exact k1.kind hg ho h1
  exact k1.grown hg fun k hk e=>by cases e;exact h1 hk
 obtain⟨⟨a1,a2⟩,a3⟩:=k3 i x f hx hf;refine⟨⟨a1,?_⟩,a3⟩
 rcases h2 with h2|h2
 ·exact a2.kind hg ho h2
 exact a2.grown hg fun k hk e=>by cases e;have:=a3 _ hk;omega
theorem MkR.fileVar (h:MkR base hi w V m vt T) {g:Nat} {cs:Array Xr} (hg:w.grownBy w' (Xa g)) (ho:w.heap[g]? =Xa (Xk cs 84 (0,0))) (hn:(V.fl.x).ownBlock≠Xa g):MkR base hi w' V m vt T:=by
 obtain⟨k1,k2,k3,k4,k5,k6,k7,k8,k9⟩:=h.kept hg ho;obtain⟨xs,q1,q2,q3⟩:=h.flB.kind hg ho (.inr hn) (.inl (by decide))
 exact⟨nT h.hw hg.size,h.bh,k1 (by decide),k2 (.inl (by decide)),h.slh,k3 (.inl (by decide)),h.sbh,h.sq,k4 (.inl (by decide)),h.dbh,k5 (by decide),⟨xs,q1,q2,fun i x f hx hf=>(q3 i x f hx hf).1⟩,k7 (by decide),k8 (by decide) (by decide),k9 (by decide),h.ap⟩
theorem MkR.ints (h:MkR base hi w V m vt T) (hs:FlB base hi S0 w V m) {g:Nat} {cs:Array Xr} (hg:w.grownBy w' (Xa g)) (ho:w.heap[g]? =Xa (Xk cs 3 (0,0))) (hb:S0<=g) (hh:hi<=g):MkR base hi w' V m vt T:=by
 obtain⟨k1,k2,k3,k4,k5,k6,k7,k8,k9⟩:=h.kept hg ho;obtain⟨xs,q1,q2,q3⟩:=hs.kind hg ho (.inl (by decide)) (.inr hb)
 exact⟨nT h.hw hg.size,h.bh,k1 (by decide),k2 (.inr hh),h.slh,k3 (.inl (by decide)),h.sbh,h.sq,k4 (.inl (by decide)),h.dbh,k5 (by decide),⟨xs,q1,q2,fun i x f hx hf=>(q3 i x f hx hf).1⟩,k7 (by decide),k8 (by decide) (by decide),k9 (by decide),h.ap⟩
end
section
variable{w0 w w':Xo} {hi b:Nat} {vl:Sli} {L:List Int} {V:MaV} {m:Ma} {vt:Sli} {T:List (Nat->En)}
theorem Mk.setDb (h:Mk w0 hi w b vl L V m vt T) {g:Nat} (hv:(V.db.x).ownBlock=Xa g) (hg:w.grownBy w' (Xa g)) (hs:w'.heap.size=w.heap.size) {ls:List (List Int)} (hno:∀f∈m.fs,f.r=0) (ho:zi w0.heap.size w' (V.db.x) ls):Mk w0 hi w' b vl L V { m with db:=ls } vt T/\zr hi w w':=by
 obtain⟨h1,cs,h2⟩:=ZZ h.rows.db hv;refine⟨⟨ze h.gr hg h1,h.hb,h.box.beside hg (fun k e=>?_),h.lr,h.lc,h.lb,h.rows.setDb h2 hv hg hs hno ho⟩,zr.kind hg h2 (fun p hl=>?_)⟩
 ·cases e;intro e;subst e;have h3:w.heap[b]? =_:=h.box;rw[h2]at h3;cases h3
 have:=hl.2.2.2.2.2.2.2.2 rfl;have:=h.rows.dbh g hv;omega
end
theorem zeO {w:Xo} (h:Mk w0 hi w b vl L V m vt T) (hB:qV m T) (h4:m.sp.length<4):
  Xq prog 41 #[Xj (Xa ⟨b,0,Xb⟩)] w fun e w'=>(∃v,e= Xl v)/\Spc w0 hi b w L m T w':=by
 have HM:Xp (Mk w0 hi w b vl L V m vt T):=h;have HB:Xp (qV m T):=hB;have H4:Xp (m.sp.length<4):=h4;have hpk:=qA 4 h;obtain⟨fln,HFN⟩:=kA V.fl.n;have HFM:Xp (m.fl.length=fln):=show _=_ by rw[<-HFN.out];exact h.rows.at.ns.2.2.2.2.2.2.1.symm
 have hfl5:fln<=5:=by
  rw[<-HFM.out];obtain⟨⟨a1,a2,a3⟩,a4,a5⟩:=(qi m.fl m.cnt).1 hB.st;omega
 have HWB:Xp (w0.heap.size<=w.heap.size):=dD<|bS h.gr
 clear h hB h4
 go_enter func41,ntmps41
 go_wp2_with fail;refine hpk.mono ?_;clear hpk;rintro e W1 ⟨vl1,L1,y,rfl,mk1,gr1,sz1,y0,y1,yn,ll⟩;obtain⟨c,rfl⟩:∃c:Nat,y=(c:Int):=⟨y.toNat,by omega⟩
 have hc4:c<4:=by rcases y1 with h | h <;> omega
 have HC0:Xp (L=[]->c=0):=dD<|fun e=>by have:=yn e;omega
 have M1:Xp (Mk w0 hi W1 b vl1 L1 V m vt T):=mk1;have K1:Xp (zr hi w W1):=HM.keeps gr1;have SB1:Xp (SpB w0.heap.size w.heap.size W1 V m):=HM.rows.spB.pick HM gr1;have LL1:Xp (ZP L L1):=ll;clear mk1 gr1 sz1 y0 y1 yn ll;go_wp2
 go_loopg [2,11] c (fun gg s2 s11 wr=>∃(kk ln:Nat) (l:List Ar) (xa:Option Addr) (xc:Nat) (vl':Sli) (L':List Int),kk<=c/\c - kk<=gg/\s11=I6 kk/\s2=(O xa ln xc)/\Xp (Mk w0 hi wr b vl' L' V m vt T)/\Xp (ZP L L')/\Xp (zr hi w wr)/\Xp (SpB w0.heap.size w.heap.size wr V m)/\Xp (zb arE w0.heap.size wr (O xa ln xc) l)/\Xp (jF m.fl.length l/\(wrL l).1=0/\j7 l 64<=4*kk)/\Xp (kk=0->l=[]))
 case atStart=>exact⟨0,0,[],Xb,0,vl1,L1,nZ _,by omega,rfl,rfl,M1,LL1,K1,SB1,zb.nil _ _ _,(show _/\_ from⟨zgG _,rfl,by decide⟩),(fun _=>rfl)⟩
 obtain⟨kk,ln,l,xa,xc,vl2,L2,hkk,hgg,rfl,rfl,M2,LL2,K2,SB2,O2,FI2,Z2⟩:=hrel
 by_cases hlt:kk<c
 ·have hltz:=kC hlt
  have HLC:Xp (L≠[]):=dD<|fun e=>by have:=HC0.out e;omega
  go_upto_region 3 with fail;obtain⟨I,HI⟩:∃I:Xo->Prop,Xp (∀u,I u↔(MkE w0 hi b w L V m vt T u/\SpB w0.heap.size w.heap.size u V m/\zb arE w0.heap.size u (O xa ln xc) l)):=⟨fun u=>(MkE w0 hi b w L V m vt T u/\SpB w0.heap.size w.heap.size u V m/\zb arE w0.heap.size u (O xa ln xc) l),fun _=>Iff.rfl⟩
  have hI0:I wr.drew:=(HI _).2 ⟨⟨vl2,L2,M2.grew (gW _),LL2,K2.trans (zr.grew (gW _))⟩,SB2.grew (gW _),O2.grew (gW _)⟩
  have hx8:∀y:zj I,y.world.cell? ⟨b,8,Xb⟩=Xa (O V.fl.a fln V.fl.c):=fun y=>by
   obtain⟨⟨_,_,mk,_,_⟩,_⟩:=(HI _).1 y.holds;have:=mk.box.box.c 8 rfl;(try simp only[Sli.x]at this);rw[HFN.out]at this;exact this
  have hne:Nonempty (zj I):=⟨⟨_,hI0⟩⟩;have HPK:Xp (∀(N:Int) w',0<N->I w'->Xq prog 36 #[Xj (Xa ⟨b,0,Xb⟩),I6 N] w' fun e w''=>∃x:Int,e= Xl (I6 x)/\0<=x/\x<N/\I w''/\zr hi w' w''):=dD<|fun N w' hN hI'=>by
   obtain⟨⟨vl',L',mk',ll',kp'⟩,sb',ow'⟩:=(HI _).1 hI';refine(qA N mk').mono ?_;rintro e w'' ⟨vl3,L3,x,rfl,mk3,gr3,_,q0,q1,_,ll3⟩;exact⟨x,rfl,q0,by omega,(HI _).2 ⟨⟨vl3,L3,mk3,ll'.trans ll3,kp'.trans (mk'.keeps gr3)⟩,sb'.pick mk' gr3,ow'.pick mk' gr3⟩,mk'.keeps gr3⟩
  refine qP (I:=I) 21 [(1,⟨fun v=>∃x:Int,v=I6 x/\0<=x/\x<12,fun _ _=>True,fun p q=>zr hi p q,fun _=>True⟩),(3,⟨fun v=>∃x:Int,v=I6 x/\0<=x/\x<4,fun _ _=>True,fun p q=>zr hi p q,fun _=>True⟩),(6,⟨fun v=>∃x:Int,v=I6 x/\0<=x/\x<3,fun _ _=>True,fun p q=>zr hi p q,fun _=>True⟩),(17,⟨fun v=>∃x:Int,v=I6 x/\0<=x/\x< (fln:Int)+1,fun _ _=>True,fun p q=>zr hi p q,fun _=>True⟩),(20,⟨fun v=>∃g,v= Xj (Xa ⟨g,0,Xb⟩),fun v u=>∃g,v= Xj (Xa ⟨g,0,Xb⟩)/\zt u g 91 [I6 0,I6 0,Xh Xd,Xh Xd,Xh Xd,I6 0,I6 0]/\w.heap.size<=g/\∀k,(O xa ln xc).ownBlock=Xa k->k<g,fun p q=>zc p q,fun _=>True⟩)] hI0 zW (by kernel_rfl) rfl rfl (by decide) ?hS ?hp ?hpre ?hpr0 ?_
  case hS=>
   intro x hx;simp only[mC,nM,or_false]at hx
   rcases hx with rfl|rfl|rfl|rfl|rfl
   ·exact⟨_,0,rfl,by omega,by omega⟩
   ·exact⟨_,0,rfl,by omega,by omega⟩
   ·exact⟨_,0,rfl,by omega,by omega⟩
   ·exact⟨_,0,rfl,by omega,by omega⟩
   exact⟨_,0,rfl⟩
  case hp=>
   intro k s j t hk hj hjk hanc v p q hst hpo;have hk':=zS hk;have hj':=zS hj;clear hk hj;simp only[mC,pJ,nM,or_false]at hk' hj'
   rcases hk' with⟨rfl,rfl⟩|⟨rfl,rfl⟩|⟨rfl,rfl⟩|⟨rfl,rfl⟩|⟨rfl,rfl⟩
   ·trivial
   ·trivial
   ·trivial
   ·trivial
   obtain⟨g,hg1,hg2,hg3⟩:=hpo
   rcases hj' with⟨rfl,rfl⟩|⟨rfl,rfl⟩|⟨rfl,rfl⟩|⟨rfl,rfl⟩|⟨rfl,rfl⟩
   ·exact⟨g,hg1,hst.1 _ _ _ hg2 QI,hg3⟩
   ·exact⟨g,hg1,hst.1 _ _ _ hg2 QI,hg3⟩
   ·exact⟨g,hg1,hst.1 _ _ _ hg2 QI,hg3⟩
   ·exact⟨g,hg1,hst.1 _ _ _ hg2 QI,hg3⟩
   exact absurd rfl hjk
  case hpre=>
   intro j t k s hj hk hjk p q hst hpr;have hj':=zS hj;clear hk hj;simp only[mC,pJ,nM,or_false]at hj'
   rcases hj' with⟨rfl,rfl⟩|⟨rfl,rfl⟩|⟨rfl,rfl⟩|⟨rfl,rfl⟩|⟨rfl,rfl⟩ <;> trivial
  case hpr0=>
   intro k t hk;have hk':=zS hk;clear hk;simp only[mC,pJ,nM,or_false]at hk'
   rcases hk' with⟨rfl,rfl⟩|⟨rfl,rfl⟩|⟨rfl,rfl⟩|⟨rfl,rfl⟩|⟨rfl,rfl⟩ <;> trivial
  simp only[Yb,Yc];iterate 1 (refine zk rfl rfl rfl (fun K hK=>?_);go_big_quiet_op;refine hK _ ?_;clear hK)
  refine zP rfl rfl (fun w' hI' hpr hF=>?_) (fun v1 hv=>?_)
  ·refine zQ.call [Xj (Xa ⟨b,0,Xb⟩),I6 12] rfl func36 rfl rfl rfl ?_;refine(HPK 12 w' (by omega) hI').mono ?_
   rintro e w'' ⟨x,rfl,q0,q1,q2,q3⟩;exact⟨_,rfl,q2,q3,⟨x,rfl,q0,q1⟩,trivial⟩
  obtain⟨f1,rfl,f1a,f1b⟩:=hv;simp only[Xu,sB,sS,sZ];iterate 1 (refine zk rfl rfl rfl (fun K hK=>?_);go_big_quiet_op;refine hK _ ?_;clear hK)
  refine zP rfl rfl (fun w' hI' hpr hF=>?_) (fun v1 hv=>?_)
  ·refine zQ.call [Xj (Xa ⟨b,0,Xb⟩),I6 4] rfl func36 rfl rfl rfl ?_;refine(HPK 4 w' (by omega) hI').mono ?_
   rintro e w'' ⟨x,rfl,q0,q1,q2,q3⟩;exact⟨_,rfl,q2,q3,⟨x,rfl,q0,q1⟩,trivial⟩
  obtain⟨f3,rfl,f3a,f3b⟩:=hv;simp only[Xu,sB,sS,sZ];iterate 2 (refine zk rfl rfl rfl (fun K hK=>?_);go_big_quiet_op;refine hK _ ?_;clear hK)
  refine zP rfl rfl (fun w' hI' hpr hF=>?_) (fun v1 hv=>?_)
  ·refine zQ.call [Xj (Xa ⟨b,0,Xb⟩),I6 3] rfl func36 rfl rfl rfl ?_;refine(HPK 3 w' (by omega) hI').mono ?_
   rintro e w'' ⟨x,rfl,q0,q1,q2,q3⟩;exact⟨_,rfl,q2,q3,⟨x,rfl,q0,q1⟩,trivial⟩
  obtain⟨f6,rfl,f6a,f6b⟩:=hv;simp only[Xu,sB,sS,sZ];iterate 3 (refine zk rfl rfl rfl (fun K hK=>?_);go_big_quiet_op;refine hK _ ?_;clear hK)
  refine jM (.tmp 22) ⟨b,0,Xb⟩ rfl rfl rfl rfl ?_;simp only[Xu,sB,sS,sZ];iterate 6 (refine zk rfl rfl rfl (fun K hK=>?_);go_big_quiet_op;refine hK _ ?_;clear hK)
  refine zP rfl rfl (fun w' hI' hpr hF=>?_) (fun v1 hv=>?_)
  ·refine zQ.call [Xj (Xa ⟨b,0,Xb⟩),I6 ((fln:Int)+1)] rfl func36 rfl rfl rfl ?_;refine(HPK ((fln:Int)+1) w' (by omega) hI').mono ?_
   rintro e w'' ⟨x,rfl,q0,q1,q2,q3⟩;exact⟨_,rfl,q2,q3,⟨x,rfl,q0,q1⟩,trivial⟩
  obtain⟨f17,rfl,f17a,f17b⟩:=hv;simp only[Xu,sB,sS,sZ];iterate 2 (refine zk rfl rfl rfl (fun K hK=>?_);go_big_quiet_op;refine hK _ ?_;clear hK)
  refine zP rfl rfl (fun w' hI' hpr hF=>?_) (fun v1 hv=>?_)
  ·obtain⟨⟨vl',L',mk',ll',kp'⟩,sb',ow'⟩:=(HI _).1 hI';refine zQ.step (v:= Xj (Xa ⟨w'.heap.size,0,Xb⟩)) (w':=w'.alloc (Xk #[I6 0,I6 0,Xh Xd,Xh Xd,Xh Xd,I6 0,I6 0] 91)) (by clear hx8;simp only[execOp];go_simp) ⟨(HI _).2 ⟨⟨vl',L',mk'.grew (za _ _),ll',kp'.trans (zr.grew (za _ _))⟩,sb'.grew (za _ _),ow'.grew (za _ _)⟩,za _ _,⟨_,rfl⟩,_,rfl,zt.top _ [I6 0,I6 0,Xh Xd,Xh Xd,Xh Xd,I6 0,I6 0] _ rfl,kp'.2,fun k hk=>(ow'.lt k hk).2⟩
  obtain⟨pa,rfl⟩:=hv;simp only[Xu,sB,sS,sZ];refine jS fun W3 hI3 hF=>?_
  obtain⟨g',hg1,hg2,hg3,hg4⟩:=hF 20;simp only[Value.pointer.injEq,Option.some.injEq,Addr.mk.injEq,and_true]at hg1;subst hg1;obtain⟨⟨vl3,L3,mk3,ll3,kp3⟩,sb3,ow3⟩:=(HI _).1 hI3;have M3:Xp (Mk w0 hi W3 b vl3 L3 V m vt T):=mk3;have LL3:Xp (ZP L L3):=ll3;have K3:Xp (zr hi w W3):=kp3;have SB3:Xp (SpB w0.heap.size w.heap.size W3 V m):=sb3;have O3:Xp (zb arE w0.heap.size W3 (O xa ln xc) l):=ow3;have P3:Xp (zt W3 pa 91 [I6 0,I6 0,Xh Xd,Xh Xd,Xh Xd,I6 0,I6 0]):=hg2;have HPA:Xp (w.heap.size<=pa):=hg3;have HPO:Xp (∀k,(O xa ln xc).ownBlock=Xa k->k<pa):=hg4;have HPB:Xp (w0.heap.size<=pa):=show _<=_ from nT HWB hg3
  clear hg2 hg3 hg4 mk3 ll3 kp3 sb3 ow3 hF hI3 hx8 hne hI0;obtain⟨rd,HRD⟩:=kA (decide ((0:Int)<f3));obtain⟨wr',HWR⟩:∃wr',Xp (decide ((0:Int)<f6)=wr'):=⟨_,rfl⟩;rw[HRD.out,HWR.out];obtain⟨file,hfile⟩:=kB (f17 - 1);have hfn:file< (fln:Int):=by omega
  have hf0:-1<=file:=by omega
  rw[hfile];refine qO rfl 91 (.tmp 3) (.tmp 32) rfl pa rfl [I6 f1,I6 0,Xh rd,Xh wr',Xh Xd,I6 file,I6 0] rfl P3 rfl zox (arE.one ⟨f1,0,rd,wr',Xd,file,0⟩) ?_;intro W4 hb4 hg4 _;have hM4:=M3.area SB3 hg4 P3 HPA HPB.out;have M4:Xp (Mk w0 hi W4 b vl3 L3 V m vt T):=hM4.1;have SB4:Xp (SpB w0.heap.size w.heap.size W4 V m):=hM4.2;have K4:Xp (zr hi w W4):=K3.own hg4 HPA.out;have O4:Xp (zb arE w0.heap.size W4 (O xa ln xc) l):=O3.grown hg4 (fun g hg e=>by cases e;have:=HPO.out _ hg;omega)
  have P4:Xp (zt W4 pa 91 [I6 f1,I6 0,Xh rd,Xh wr',Xh Xd,I6 file,I6 0]):=hb4;clear hM4 hb4 hg4 f17a f17b hfile;go_upto_region 4 with fail;simp only[Xu];obtain⟨I,HI⟩:∃I:Xo->Prop,Xp (∀u,I u↔(MkE w0 hi b w L V m vt T u/\SpB w0.heap.size w.heap.size u V m/\zb arE w0.heap.size u (O xa ln xc) l/\zt u pa 91 [I6 f1,I6 0,Xh rd,Xh wr',Xh Xd,I6 file,I6 0])):=⟨fun u=>(MkE w0 hi b w L V m vt T u/\SpB w0.heap.size w.heap.size u V m/\zb arE w0.heap.size u (O xa ln xc) l/\zt u pa 91 [I6 f1,I6 0,Xh rd,Xh wr',Xh Xd,I6 file,I6 0]),fun _=>Iff.rfl⟩
  have hI0:I W4.drew:=(HI _).2 ⟨⟨vl3,L3,M4.grew (gW _),LL3,K4.trans (zr.grew (gW _))⟩,SB4.grew (gW _),O4.grew (gW _),P4.grew (gW _)⟩
  have hp0:∀y:zj I,y.world.cell? ⟨pa,0,Xb⟩=Xa (I6 f1):=fun y=>((HI _).1 y.holds).2.2.2.box.c 0 rfl
  have hne:Nonempty (zj I):=⟨⟨_,hI0⟩⟩;refine qP (I:=I) 7 [(4,⟨fun v=>∃x:Int,v=I6 x/\0<=x/\x<4,fun _ _=>True,fun _ _=>True,fun _=>True⟩)] hI0 zW (by kernel_rfl) rfl rfl (by decide) ?hS ?hp ?hpre ?hpr0 ?_
  case hS=>
   intro x hx;simp only[mC,nM,or_false]at hx;subst hx;exact⟨_,0,rfl,by omega,by omega⟩
  case hp=>
   intro k s j t hk hj hjk hanc v p q hst hpo;have hk':=zS hk;simp only[mC,pJ,nM,or_false]at hk';obtain⟨rfl,rfl⟩:=hk';trivial
  case hpre=>
   intro j t k s hj hk hjk p q hst hpr;have hj':=zS hj;simp only[mC,pJ,nM,or_false]at hj';obtain⟨rfl,rfl⟩:=hj';trivial
  case hpr0=>
   intro k t hk;have hk':=zS hk;simp only[mC,pJ,nM,or_false]at hk';obtain⟨rfl,rfl⟩:=hk';trivial
  simp only[Yb,Yc];iterate 4 (refine zk rfl rfl rfl (fun K hK=>?_);go_big_quiet_op;refine hK _ ?_;clear hK)
  refine zP rfl rfl (fun w' hI' hpr hF=>?_) (fun v1 hv=>?_)
  ·obtain⟨⟨vl',L',mk',ll',kp'⟩,sb',ow',pb'⟩:=(HI _).1 hI';refine zQ.call [Xj (Xa ⟨b,0,Xb⟩),I6 4] rfl func36 rfl rfl rfl ?_;refine(qA 4 mk').mono ?_;rintro e w'' ⟨vl5,L5,x,rfl,mk5,gr5,_,q0,q1,_,ll5⟩;exact⟨_,rfl,(HI _).2 ⟨⟨vl5,L5,mk5,ll'.trans ll5,kp'.trans (mk'.keeps gr5)⟩,sb'.pick mk' gr5,ow'.pick mk' gr5,(mk'.keeps gr5).1 _ _ _ pb' QI⟩,trivial,⟨x,rfl,q0,by omega⟩,trivial⟩
  obtain⟨f4,rfl,f4a,f4b⟩:=hv;simp only[Xu,sB,sS,sZ];iterate 2 (refine zk rfl rfl rfl (fun K hK=>?_);go_big_quiet_op;refine hK _ ?_;clear hK)
  refine jS fun W5 hI5 hF=>?_
  obtain⟨⟨vl5,L5,mk5,ll5,kp5⟩,sb5,ow5,pb5⟩:=(HI _).1 hI5;have M5:Xp (Mk w0 hi W5 b vl5 L5 V m vt T):=mk5;have LL5:Xp (ZP L L5):=ll5;have K5:Xp (zr hi w W5):=kp5;have SB5:Xp (SpB w0.heap.size w.heap.size W5 V m):=sb5;have O5:Xp (zb arE w0.heap.size W5 (O xa ln xc) l):=ow5;have P5:Xp (zt W5 pa 91 [I6 f1,I6 0,Xh rd,Xh wr',Xh Xd,I6 file,I6 0]):=pb5;clear mk5 ll5 kp5 sb5 ow5 pb5 hF hI5 hp0 hne hI0;obtain⟨to_,HTO⟩:=kA (f1+1+f4);have HT4:Xp ((to_ - f1).toNat<=4):=show _<=_ by rw[<-HTO.out];omega
  have xp:=P5.box.c 1 rfl;have xf:=P5.box.f;rw[HTO.out];go_upto_region 5 with fail;clear xp xf;obtain⟨W6,hW6⟩:=kB (W5.setCell ⟨pa,1,Xb⟩ (I6 to_));have hg6:W5.grownBy W6 (Xa pa):=by rw[<-hW6];exact jc _ _ _ _
  have P6:Xp (zt W6 pa 91 [I6 f1,I6 to_,Xh rd,Xh wr',Xh Xd,I6 file,I6 0]):=dD<|by rw[<-hW6];exact P5.set 1 _
  have hM6:=M5.area SB5 hg6 P5 HPA HPB.out;have M6:Xp (Mk w0 hi W6 b vl5 L5 V m vt T):=hM6.1;have SB6:Xp (SpB w0.heap.size w.heap.size W6 V m):=hM6.2;have K6:Xp (zr hi w W6):=K5.own hg6 HPA.out;have O6:Xp (zb arE w0.heap.size W6 (O xa ln xc) l):=O5.grown hg6 (fun g hg e=>by cases e;have:=HPO.out _ hg;omega)
  rw[hW6];clear hW6 hg6 hM6;have p5:=P6.box.c 5 rfl
  by_cases hfz:0<=file
  ·have hfd:decide ((0:Int)<=file)=Xc:=by simpa using hfz
   have hpk1:=qA 2 M6.out;go_wp2_with fail;refine hpk1.mono ?_;clear hpk1 p5;rintro e W7 ⟨vl7,L7,z7,rfl,mk7,gr7,_,_,_,_,ll7⟩;have M7:Xp (Mk w0 hi W7 b vl7 L7 V m vt T):=mk7;have SB7:Xp (SpB w0.heap.size w.heap.size W7 V m):=SB6.pick M6 gr7;have K7:=dD (K6.trans (M6.keeps gr7));have O7:Xp (zb arE w0.heap.size W7 (O xa ln xc) l):=O6.pick M6 gr7;have P7:Xp (zt W7 pa 91 [I6 f1,I6 to_,Xh rd,Xh wr',Xh Xd,I6 file,I6 0]):=(M6.keeps gr7).1 _ _ _ P6 QI;have LL7:=dD (LL5.trans ll7);clear mk7 gr7 ll7;have hpk2:=qA 4 M7.out;go_wp2_with fail;refine hpk2.mono ?_;clear hpk2;rintro e W9 ⟨vl9,L9,z9,rfl,mk9,gr9,_,z9a,z9b,_,ll9⟩;have M9:Xp (Mk w0 hi W9 b vl9 L9 V m vt T):=mk9;have SB9:Xp (SpB w0.heap.size w.heap.size W9 V m):=SB7.pick M7 gr9;have K9:=dD (K7.trans (M7.keeps gr9));have OA:Xp (zb arE w0.heap.size W9 (O xa ln xc) l):=O7.pick M7 gr9;have P9:Xp (zt W9 pa 91 [I6 f1,I6 to_,Xh rd,Xh wr',Xh Xd,I6 file,I6 0]):=(M7.keeps gr9).1 _ _ _ P7 QI;have LL9:=dD (LL7.trans ll9);clear mk9 gr9 ll9;obtain⟨sh,HSH⟩:=kA (z7 == 1);try rw[HSH.out]
   have xp:=P9.box.c 4 rfl;have xq:=P9.box.c 6 rfl;have xf:=P9.box.f;go_upto_region 7 with fail;try rw[HSH.out]
   clear xp xq xf;obtain⟨WA,hWA⟩:=kB ((W9.setCell ⟨pa,4,Xb⟩ (Xh sh)).setCell ⟨pa,6,Xb⟩ (I6 z9));have hgA:W9.grownBy WA (Xa pa):=by rw[<-hWA];exact jE (jc _ _ _ _) (jc _ _ _ _)
   have PA:Xp (zt WA pa 91 [I6 f1,I6 to_,Xh rd,Xh wr',Xh sh,I6 file,I6 z9]):=dD<|by rw[<-hWA];exact(P9.set 4 _).set 6 _
   have hMA:=M9.area SB9 hgA P9 HPA HPB.out;have MA:Xp (Mk w0 hi WA b vl9 L9 V m vt T):=hMA.1;have SBA:Xp (SpB w0.heap.size w.heap.size WA V m):=hMA.2;have KA:Xp (zr hi w WA):=K9.own hgA HPA.out;have OB:Xp (zb arE w0.heap.size WA (O xa ln xc) l):=OA.grown hgA (fun g hg e=>by cases e;have:=HPO.out _ hg;omega)
   rw[hWA];clear hWA hgA hMA;obtain⟨p0,p1,p2,p3,p4,p5,p6⟩:=PA.box.c7;have hmp:=zdb (O xa ln xc) l ⟨f1,to_,rd,wr',sh,file,z9⟩ WA OB.at OB.cap;have HR:Xp ((zad l ⟨f1,to_,rd,wr',sh,file,z9⟩).2=0->jF m.fl.length (zad l ⟨f1,to_,rd,wr',sh,file,z9⟩).1/\(wrL (zad l ⟨f1,to_,rd,wr',sh,file,z9⟩).1).1=0/\j7 (zad l ⟨f1,to_,rd,wr',sh,file,z9⟩).1 64<=4*(kk+1)):=dD<|fun he=>⟨zcw FI2.1 (by show file<_;rw[HFM.out];exact hfn) he,zmH he,by have h1:=zhK he;have h2:=HT4.out;have h3:=FI2.2.2;dsimp only at h1;omega⟩
   go_wp2_with fail;refine hmp.mono ?_;clear hmp p0 p1 p2 p3 p4 p5 p6;rintro e W8 ⟨⟨u,rfl,ow8⟩,g8⟩;obtain⟨ua,uc,rfl⟩:=ow8.form
   generalize zad l ⟨f1,to_,rd,wr',sh,file,z9⟩=R at HR ow8⊢
   obtain⟨R1,R2⟩:=R;dsimp only at HR ow8⊢;have M8:=dD (MA.grew g8);have SB8:=dD (SBA.grew g8);have K8:=dD (KA.trans (zr.grew g8));have O8:=dD (OB.grew g8);have O9:Xp (zb arE w0.heap.size W8 (O ua R1.length uc) R1):=ow8.base (nT HWB KA.2);clear g8 ow8;obtain⟨n9,HN9⟩:=kA R1.length;rw[HN9.out]at O9⊢
   by_cases he:R2=0
   ·have hee:(R2 == 0)=Xc:=by simp[he]
    have HR2:Xp (jF m.fl.length R1/\(wrL R1).1=0/\j7 R1 64<=4*(kk+1)):=dD<|HR.out he
    clear he;go_wp2
    go_roundg (c -(kk+1))
    case measure=>omega
    exact⟨kk+1,n9,R1,ua,uc,vl9,L9,by omega,by omega,by go_num,rfl,M8,LL9,K8,SB8,O9,HR2,(fun h=>by omega)⟩
   have hee:(R2 == 0)=Xd:=by simp[he]
   clear he;go_wp2
   go_roundg (c -(kk+1))
   case measure=>omega
   exact⟨kk+1,ln,l,xa,xc,vl9,L9,by omega,by omega,by go_num,rfl,M8,LL9,K8,SB8,O8,(show _/\_ from⟨FI2.1,FI2.2.1,by have:=FI2.2.2;omega⟩),(fun h=>by omega)⟩
  have hfd:decide ((0:Int)<=file)=Xd:=by simpa using hfz
  go_upto_region 7 with fail;clear p5;obtain⟨p0,p1,p2,p3,p4,p5,p6⟩:=P6.box.c7;have hmp:=zdb (O xa ln xc) l ⟨f1,to_,rd,wr',Xd,file,0⟩ W6 O6.at O6.cap;have HR:Xp ((zad l ⟨f1,to_,rd,wr',Xd,file,0⟩).2=0->jF m.fl.length (zad l ⟨f1,to_,rd,wr',Xd,file,0⟩).1/\(wrL (zad l ⟨f1,to_,rd,wr',Xd,file,0⟩).1).1=0/\j7 (zad l ⟨f1,to_,rd,wr',Xd,file,0⟩).1 64<=4*(kk+1)):=dD<|fun he=>⟨zcw FI2.1 (by show file<_;rw[HFM.out];exact hfn) he,zmH he,by have h1:=zhK he;have h2:=HT4.out;have h3:=FI2.2.2;dsimp only at h1;omega⟩
  go_wp2_with fail;refine hmp.mono ?_;clear hmp p0 p1 p2 p3 p4 p5 p6;rintro e W8 ⟨⟨u,rfl,ow8⟩,g8⟩;obtain⟨ua,uc,rfl⟩:=ow8.form
  generalize zad l ⟨f1,to_,rd,wr',Xd,file,0⟩=R at HR ow8⊢
  obtain⟨R1,R2⟩:=R;dsimp only at HR ow8⊢;have M8:=dD (M6.grew g8);have SB8:=dD (SB6.grew g8);have K8:=dD (K6.trans (zr.grew g8));have O8:=dD (O6.grew g8);have O9:Xp (zb arE w0.heap.size W8 (O ua R1.length uc) R1):=ow8.base (nT HWB K6.2);clear g8 ow8;obtain⟨n9,HN9⟩:=kA R1.length;rw[HN9.out]at O9⊢
  by_cases he:R2=0
  ·have hee:(R2 == 0)=Xc:=by simp[he]
   have HR2:Xp (jF m.fl.length R1/\(wrL R1).1=0/\j7 R1 64<=4*(kk+1)):=dD<|HR.out he
   clear he;go_wp2
   go_roundg (c -(kk+1))
   case measure=>omega
   exact⟨kk+1,n9,R1,ua,uc,vl5,L5,by omega,by omega,by go_num,rfl,M8,LL5,K8,SB8,O9,HR2,(fun h=>by omega)⟩
  have hee:(R2 == 0)=Xd:=by simp[he]
  clear he;go_wp2
  go_roundg (c -(kk+1))
  case measure=>omega
  exact⟨kk+1,ln,l,xa,xc,vl5,L5,by omega,by omega,by go_num,rfl,M8,LL5,K8,SB8,O8,(show _/\_ from⟨FI2.1,FI2.2.1,by have:=FI2.2.2;omega⟩),(fun h=>by omega)⟩
 have hltz:=kD hlt
 have HL0:Xp (L=[]->l=[]):=dD<|fun e=>Z2.out (by have:=HC0.out e;omega)
 obtain⟨ys,s1,s2,s3⟩:=M2.rows.sp;have S1:Xp (zb Zh w0.heap.size wr (V.sp.x) ys):=s1;have S2:Xp (ys.length=m.sp.length):=s2;have S3:Xp (∀(i:Nat) x s,ys[i]? =Xa x->m.sp[i]? =Xa s->x.live=s.live/\zb arE w0.heap.size wr x.ar.v s.ars/\x.tab=Qf/\s.tb=qL):=show∀i,_ from s3
 clear s1 s2 s3;obtain⟨ps,HPS⟩:=kA m.sp.length;have hps4:ps<4:=by rw[<-HPS.out];exact H4.out
 have x11:=M2.box.box.c 11 rfl;have HSZ:Xp (w0.heap.size<=wr.heap.size):=dD<|bS M2.gr
 go_wp2_with (at_builtin;refine zw (E:=Zh) rfl (.tmp 65) (.tmp 68) rfl w0.heap.size _ ys rfl (S1.grew (za _ _)) _ [⟨Xc,⟨xa,ln,xc⟩,zy,zy,zy,zy,zy,zy,zy,zy⟩] rfl (jK Zh wr ⟨Xc,⟨xa,ln,xc⟩,zy,zy,zy,zy,zy,zy,zy,zy⟩ _ _ rfl (by decide)) ?qb ?qc ?_)
 case qb=>
  rw[S2.out,HPS.out]
  show(ps+1)*224<=_
  omega
 case qc=>have:=HSZ.out;omega
 intro v4 W4 ow4 gr4;obtain⟨a4,c4,rfl⟩:=ow4.form;obtain⟨N,hN⟩:=kB ((ys++ [(⟨Xc,⟨xa,ln,xc⟩,zy,zy,zy,zy,zy,zy,zy,zy⟩:SpV)]).length);have hNp:(N:Int) - 1=(ps:Int):=by
  have:N=ps+1:=by rw[<-hN,lA,S2.out,HPS.out];rfl
  omega
 rw[hN]at ow4⊢;clear hN;obtain⟨WX,hWX⟩:=kB (wr.alloc (Xk #[Xh Xc,O xa ln xc,eS,eS,eS,eS,eS,eS,eS,eS] 63));have gX:=gP hWX
 rw[hWX]at gr4;clear hWX;have hbx:zt W4 b 95 [vl2.x,V.f.x,I6 m.hand,V.s.x,V.sb.x,V.sq.x,V.db.x,V.dq.x,V.fl.x,I6 m.cnt,V.ca.x,V.sp.x,vt.x]:=zt.row (S1.grew gX) gr4 (M2.box.grew gX) (by decide)
 have R4:Xp (MkR w0.heap.size hi W4 { V with sp:=⟨a4,N,c4⟩ } { m with sp:=m.sp++ [⟨Xc,l,qL⟩] } vt T):=(M2.rows.grew gX).addSp (S1.grew gX) S2 (fun i x s hx hs=>by
  obtain⟨a1,a2,a3⟩:=S3.out i x s hx hs;exact⟨a1,a2.grew gX,a3⟩) gr4 ⟨a4,N,c4⟩ ⟨xa,ln,xc⟩ (O2.grew gX) ow4
 have G4:Xp (zc w0 W4):=zc.row (S1.grew gX) gr4 (M2.gr.trans gX);have K4:Xp (zr hi w W4):=(K2.trans (zr.grew gX)).trans (zr.row (S1.grew gX) gr4 (fun p hl=>hl.2.2.2.2.2.2.1 rfl))
 have OL4:Xp (zb arE w0.heap.size W4 (O xa ln xc) l):=dD<|by
  cases hob:(V.sp.x).ownBlock with
  | none=>
   rw[hob]at gr4;exact(O2.grew gX).grew (qt gr4)
  | some g=>
   obtain⟨cs,hc⟩:=(S1.grew gX).obj hob;rw[hob]at gr4;exact(O2.grew gX).kind gr4 hc (by decide)
 have BX4:Xp (zt W4 b 95 [vl2.x,V.f.x,I6 m.hand,V.s.x,V.sb.x,V.sq.x,V.db.x,V.dq.x,V.fl.x,I6 m.cnt,V.ca.x,V.sp.x,vt.x]):=hbx;have ML:Xp (w0.heap.size<=b/\zm byE w0 (vl2.x) L2/\vl2.n<=vl2.c/\∀z∈L2,0<=z/\z<256):=show _/\_ from⟨M2.hb,M2.lr,M2.lc,M2.lb⟩
 clear hbx ow4 gr4 gX x11;have x11:=BX4.box.c 11 rfl;have xf:=BX4.box.f;go_upto_region 12 with fail;clear x11 xf;obtain⟨W5,hW5⟩:=kB (W4.setCell ⟨b,11,Xb⟩ (O a4 N c4));have hg5:W4.grownBy W5 (Xa b):=by rw[<-hW5];exact jc _ _ _ _
 have M5:Xp (Mk w0 hi W5 b vl2 L2 { V with sp:=⟨a4,N,c4⟩ } { m with sp:=m.sp++ [⟨Xc,l,qL⟩] } vt T):=dD<|⟨ze G4 hg5 ML.1,ML.1,by rw[<-hW5];exact BX4.set 11 _,ML.2.1,ML.2.2.1,ML.2.2.2,R4.var hg5 BX4 hg5.size (.inl rfl)⟩
 have K5:Xp (zr hi w W5):=K4.trans (zr.kind hg5 BX4 (fun _ hl=>absurd rfl hl.1))
 have OL5:Xp (zb arE w0.heap.size W5 (O xa ln xc) l):=OL4.kind hg5 BX4 (by decide)
 rw[hW5];clear hW5 hg5;obtain⟨tn,HTN⟩:=kA T.length;have HTQ:Xp (tn=ps):=dD<|by rw[<-HTN.out,HB.tl,HPS.out]
 have x12:=M5.box.box.c 12 rfl;have HSZ5:Xp (w0.heap.size<=W5.heap.size):=dD<|bS M5.gr
 go_wp2_with (at_builtin;refine zw (E:=Qw) rfl (.tmp 77) (.tmp 79) rfl w0.heap.size _ T rfl (M5.rows.tt.grew (za _ _)) _ [fun _=>en0] rfl (jK Qw W5 (fun _=>en0) _ _ rfl (by decide)) ?qb ?qc ?_)
 case qb=>
  rw[HTN.out]
  show(tn+1)*1536<=_
  have:=HTQ.out;omega
 case qc=>exact nT HSZ5 (bS (za _ _))
 intro v6 W6 ow6 gr6;obtain⟨a6,c6,rfl⟩:=ow6.form;obtain⟨N6,hN6⟩:=kB ((T++ [fun _=>en0]).length)
 rw[hN6]at ow6⊢;obtain⟨WX,hWX⟩:=kB (W5.alloc (Xk (Qw.enc (fun _=>en0)).toArray 56))
 have gX:=gP hWX
 have gr6':WX.grownBy W6 (vt.x).ownBlock:=by rw[<-hWX];exact gr6
 clear gr6 hWX hN6;have M5X:=M5.grew gX;have B6:Xp (zt W6 b 95 [vl2.x,V.f.x,I6 m.hand,V.s.x,V.sb.x,V.sq.x,V.db.x,V.dq.x,V.fl.x,I6 m.cnt,V.ca.x,O a4 N c4,vt.x]):=zt.row M5X.rows.tt gr6' M5X.box (by decide)
 have R6:Xp (MkR w0.heap.size hi W6 { V with sp:=⟨a4,N,c4⟩ } { m with sp:=m.sp++ [⟨Xc,l,qL⟩] } ⟨a6,N6,c6⟩ (T++ [fun _=>en0])):=M5X.rows.addT gr6' ⟨a6,N6,c6⟩ ow6
 have G6:Xp (zc w0 W6):=zc.row M5X.rows.tt gr6' M5X.gr;have K6:Xp (zr hi w W6):=(K5.trans (zr.grew gX)).trans (zr.row M5X.rows.tt gr6' (fun p hl=>hl.2.2.2.2.2.2.2.1 rfl))
 have OL6:Xp (zb arE w0.heap.size W6 (O xa ln xc) l):=dD<|by
  cases hob:(vt.x).ownBlock with
  | none=>
   rw[hob]at gr6';exact(OL5.grew gX).grew (qt gr6')
  | some g=>
   obtain⟨cs,hc⟩:=M5X.rows.tt.obj hob;rw[hob]at gr6';exact(OL5.grew gX).kind gr6' hc (by decide)
 clear gr6' ow6 gX x12;have x12:=B6.box.c 12 rfl;have xf:=B6.box.f;go_upto_region 13 with fail;clear x12 xf;obtain⟨W7,hW7⟩:=kB (W6.setCell ⟨b,12,Xb⟩ (O a6 N6 c6));have hg7:W6.grownBy W7 (Xa b):=by rw[<-hW7];exact jc _ _ _ _
 have M7:Xp (Mk w0 hi W7 b vl2 L2 { V with sp:=⟨a4,N,c4⟩ } { m with sp:=m.sp++ [⟨Xc,l,qL⟩] } ⟨a6,N6,c6⟩ (T++ [fun _=>en0])):=dD<|⟨ze G6 hg7 ML.1,ML.1,by rw[<-hW7];exact B6.set 12 _,ML.2.1,ML.2.2.1,ML.2.2.2,R6.var hg7 B6 hg7.size (.inl rfl)⟩
 have K7:Xp (zr hi w W7):=K6.trans (zr.kind hg7 B6 (fun _ hl=>absurd rfl hl.1))
 have OL7:Xp (zb arE w0.heap.size W7 (O xa ln xc) l):=OL6.kind hg7 B6 (by decide)
 rw[hW7];clear hW7 hg7;obtain⟨vt7,HVT⟩:∃vt7:Sli,Xp (vt7=⟨a6,N6,c6⟩):=⟨_,rfl⟩;rw[<-HVT.out]at M7;have HB7:Xp (qV { m with sp:=m.sp++ [⟨Xc,l,qL⟩] } (T++ [fun _=>en0])):=HB.space FI2.2.1 H4.out
 have x11:=M7.box.box.c 11 rfl;have hon:=ZH (O xa ln xc) l W7 OL7.at (jY.1 FI2.2.1).2.lies;go_wp2_with fail;refine hon.mono ?_;clear hon x11;rintro e W8 ⟨rfl,g8⟩;have M8:=dD (M7.grew g8)
 have K8:=dD (K7.trans (zr.grew g8));clear g8;have HIX:Xp (∀{ops:Array Oper} {rest:List Oper} {o:Oper} {a:Act} {w:Xo} {Q:Exit->Act->Xo->Prop} (_:o.guard=Xb) (x ix:Operand) (_:o.op= .index 68 x ix) (_:a.eval x= Xi (zC (tab (zO l))).toArray) (i:Nat) (_:a.eval ix=I6 (i:Int)) (_:i<64) {v:Xr} (_: Xi (onv (zO l i)).toArray=v)
  (_:wpList prog ops Q rest (a.put o.dst v) w),wpList prog ops Q (o :: rest) a w):=fun h1 x ix h2 h3 i h4 h5 _ h6 h7=>zdG h1 x ix h2 (zO l) h3 i h4 h5 h6 h7
 generalize zC (tab (zO l))=C at HIX⊢
 have HSP:Xp (({ m with sp:=m.sp++ [⟨Xc,l,qL⟩] }:Ma).sp[ps]? =Xa ⟨Xc,l,qL⟩):=dD<|by
  show(m.sp++ [(⟨Xc,l,qL⟩:Sp)])[ps]? =_
  rw[aR (by rw[HPS.out];exact nR _),HPS,Yj]
  rfl
 have HTP:Xp ((T++ [fun _=>en0])[ps]? =Xa (fun _=>en0)):=dD<|by
  rw[aR (by rw[HTN.out,HTQ.out];exact nR _),HTN,HTQ,Yj]
  rfl
 go_wp2
 go_loopg [92] 64 (fun gg s92 wr=>∃(kk:Nat) (vl':Sli) (L':List Int) (V':MaV) (m':Ma) (T':List (Nat->En)) (fT:Nat->En),kk<=64/\64 - kk<=gg/\s92=I6 kk/\Xp (Mk w0 hi wr b vl' L' V' m' vt7 T')/\Xp (ZP L L')/\Xp (zr hi w wr)/\Xp (qV m' T')/\Xp (m'.sp=m.sp++ [⟨Xc,l,qL⟩]/\m'.fl=m.fl/\m'.hand=m.hand/\m'.fs.length=m.fs.length)/\Xp (T'[ps]? =Xa fT/\∀j,kk<=j->fT j=en0)/\Xp (L=[]->m'={ m with sp:=m.sp++ [⟨Xc,l,qL⟩] }/\T'=(T++ [fun _=>en0])))
 case atStart=>exact⟨0,vl2,L2,_,_,_,fun _=>en0,nZ _,by omega,rfl,M8,LL2,K8,HB7,(show _/\_ from⟨rfl,rfl,rfl,rfl⟩),(show _/\_ from⟨HTP,fun _ _=>rfl⟩),(fun _=>⟨rfl,rfl⟩)⟩
 obtain⟨k2,vlA,LA,VA,mA,TA,fT,hk2,hg2,rfl,MA,LLA,KA,BA,SA,TAt,EA⟩:=hrel
 by_cases hlt2:k2<64
 ·have hltz2:(k2:Int)<64:=by omega
  obtain⟨xx,HXX⟩:=kA (zO l k2);obtain⟨xis,xrd,xwr,xsh,xfi,xpg⟩:=xx;have HIV:Xp (Value.agg (onv (zO l k2)).toArray= Xi #[Xh xis,Xh xrd,Xh xwr,Xh xsh,I6 xfi,I6 xpg]):=dD<|by rw[HXX.out];rfl
  cases xis with
  | false=>
   go_wp2_with (refine HIX rfl (.tmp 91) (.tmp 92) rfl rfl k2 rfl hlt2 HIV.out ?_)
   go_roundg (64 -(k2+1))
   case measure=>omega
   exact⟨k2+1,vlA,LA,VA,mA,TA,fT,by omega,by omega,by go_num,MA.grew (za _ _),LLA,KA.trans (zr.grew (za _ _)),BA,SA,(show _/\_ from⟨TAt.1,fun j hj=>TAt.2 j (by omega)⟩),EA⟩
  | true=>
   have HLX:Xp (L≠[]):=dD<|fun e=>by
    have h1:=HXX.out;rw[HL0.out e]at h1;cases h1
   go_upto_region 17 with(refine HIX rfl (.tmp 91) (.tmp 92) rfl rfl k2 rfl hlt2 HIV.out ?_)
   obtain⟨px,HPX⟩:=kA wr.heap.size;obtain⟨W9,hW9⟩:=kB (wr.alloc (Xk #[Xh Xc,Xh xrd,Xh xwr,Xh xsh,I6 xfi,I6 xpg] 67));have g9:=gP hW9
   have X9:=xP hW9 HPX
   rw[hW9,HPX.out];have M9:=dD (MA.grew g9);have K9:=dD (KA.trans (zr.grew g9));clear hW9 g9;have c0:=X9.c 0 rfl;have c1:=X9.c 1 rfl;have c2:=X9.c 2 rfl;have c3:=X9.c 3 rfl;have c4:=X9.c 4 rfl;have c5:=X9.c 5 rfl;have hen:=zkz ps k2 ⟨Xc,l,qL⟩ fT ⟨Xc,xrd,xwr,xsh,xfi,xpg⟩ M9 BA (by rw[SA.1];exact HSP) TAt.1 hlt2 (TAt.2 k2 (nR _)) HXX rfl (by rw[SA.2.1];exact FI2.1)
   go_wp2_with fail;refine hen.mono ?_;clear hen c0 c1 c2 c3 c4 c5;rintro e WB ⟨⟨v,rfl⟩,vlB,LB,VB,mB,TB,kB1,kB2,kB3,kB4,⟨kB5,kB6,kB7,kB8⟩,kB9,_⟩;obtain⟨fB,hfB⟩:∃fB,TB[ps]? =Xa fB/\∀j,k2+1<=j->fB j=en0:=by
    rcases kB9 with rfl|⟨e,rfl⟩
    ·exact⟨fT,TAt.1,fun j hj=>TAt.2 j (by omega)⟩
    refine⟨qr fT k2 e,sF (gS.1 TAt.1).1,fun j hj=>?_⟩
    unfold qr;rw[kF (by omega)]
    exact TAt.2 j (by omega)
   have MB:Xp (Mk w0 hi WB b vlB LB VB mB vt7 TB):=kB1;have LLB:=dD (LLA.trans kB2);have KB:=dD (K9.trans kB3);have BB:Xp (qV mB TB):=kB4;have SB:Xp (mB.sp=m.sp++ [⟨Xc,l,qL⟩]/\mB.fl=m.fl/\mB.hand=m.hand/\mB.fs.length=m.fs.length):=show _/\_ from⟨kB5.trans SA.1,kB6.trans SA.2.1,kB7.trans SA.2.2.1,kB8.trans SA.2.2.2⟩
   have FB:Xp (TB[ps]? =Xa fB/\∀j,k2+1<=j->fB j=en0):=hfB;clear kB1 kB2 kB3 kB4 kB5 kB6 kB7 kB8 kB9 hfB;go_wp2
   go_roundg (64 -(k2+1))
   case measure=>omega
   exact⟨k2+1,vlB,LB,VB,mB,TB,fB,by omega,by omega,by go_num,MB,LLB,KB,BB,SB,FB,(fun h=>absurd h HLX)⟩
 have hltz2:¬(k2:Int)<64:=by omega
 have HE:Xp (Spc w0 hi b w L m T wr):=dD<|⟨vlA,LA,VA,mA,vt7,TA,l,MA,LLA,KA,BA,SA,⟨FI2.1,by have:=FI2.2.2;omega⟩,fun e=>by
  obtain⟨e1,e2⟩:=EA.out e;rw[HL0.out e]at e1;exact⟨e1,e2⟩⟩
 go_wp2
 (first | go_end0 | ((try simp only[Exit.inBlock,Exit.then]);refine bodyPost_ret (results_none rfl _ _ _) rfl ?_))
 first | exact HE.out | exact⟨⟨_,rfl⟩,HE⟩
theorem zgj {a:Act} (x:Operand) (ho:o.op= .load 56 x) (b off:Nat) (hx:a.eval x= Xj (Xa ⟨b,off,Xb⟩)) {w:Xo} (hb:w.rangeAt b off vs) (hl:vs.length=192):(execOp a.eval o).run prog w= .ok (.value (Xi vs.toArray)) w:=by
 have:=run_loadAt_mid (P:=prog) w b off 56 vs _ hb underlying56 rfl (by rw[hl];exact zoE)
 simp only[execOp,ho,hx,Ya,this,rA,Xv]
theorem zb.range {α:Type} {E:Elt α} {base g n c:Nat} {w:Xo} {l:List α} (h:zb E base w (O (Xa ⟨g,0,Xb⟩) n c) l) {i:Nat} {x:α} (hx:l[i]? =Xa x):w.rangeAt g (i*E.k) (E.enc x):=fun j v hj=>by
 have:=h.one hx j v hj;rw[zX,Xw,zA]at this;exact this
structure MkT (base hi ht k:Nat) (w:Xo) (V:MaV) (m:Ma) (vt:Sli) (T:List (Nat->En)):Prop where
 fs:zb Qj base w (V.f.x) m.fs
 sl:zb slE base w (V.s.x) m.sl
 slh:∀g,(V.s.x).ownBlock=Xa g->g<hi
 sb:zi base w (V.sb.x) m.sb
 sq:V.sq=zy/\m.sq=[]
 db:zi base w (V.db.x) m.db
 dq:zp base w (V.dq.x) m.dq
 fl:∃xs:List FlV,zb fvE base w (V.fl.x) xs/\xs.length=m.fl.length/\∀(i:Nat) x f,xs[i]? =Xa x->m.fl[i]? =Xa f->x.size=f.size/\zb blE hi w x.v f.bl
 ca:zb qJ base w (V.ca.x) m.ca
 sp:∃xs:List SpV,zb Zh base w (V.sp.x) xs/\xs.length=m.sp.length/\∀(i:Nat) x s f,xs[i]? =Xa x->m.sp[i]? =Xa s->T[i]? =Xa f->x.live=s.live/\zb arE base w x.ar.v s.ars/\(i<k->ZS 0 ht w x.tab (jV f))/\(k<=i->x.tab=Qf)
 tt:zb Qw base w (vt.x) T
 ap:(∀g,(V.sb.x).ownBlock=Xa g->(V.db.x).ownBlock≠Xa g)/\zcN m
 lo:∀g,(V.f.x).ownBlock=Xa g\/(V.s.x).ownBlock=Xa g\/(V.fl.x).ownBlock=Xa g\/(V.ca.x).ownBlock=Xa g\/(V.sp.x).ownBlock=Xa g->g<ht
 hts:ht<=w.heap.size
section
variable{base hi ht k:Nat} {w w':Xo} {V:MaV} {m:Ma} {vt:Sli} {T:List (Nat->En)}
theorem MkR.start (h:MkR base hi w V m vt T) (ht:Nat) (hht:w.heap.size=ht):MkT base hi ht 0 w V m vt T:=by
 have hlo:∀g,(V.f.x).ownBlock=Xa g\/(V.s.x).ownBlock=Xa g\/(V.fl.x).ownBlock=Xa g\/(V.ca.x).ownBlock=Xa g\/(V.sp.x).ownBlock=Xa g->g<ht:=fun g hg=>by
  obtain⟨_,f1,_⟩:=h.fl;obtain⟨_,s1,_⟩:=h.sp
  rcases hg with hg|hg|hg|hg|hg
  ·have:=(h.fs.lt g hg).2;omega
  ·have:=(h.sl.lt g hg).2;omega
  ·have:=(f1.lt g hg).2;omega
  ·have:=(h.ca.lt g hg).2;omega
  have:=(s1.lt g hg).2;omega
 obtain⟨xs,s1,s2,s3⟩:=h.sp;exact⟨h.fs,h.sl,h.slh,h.sb,h.sq,h.db,h.dq,h.fl,h.ca,⟨xs,s1,s2,fun i x s f hx hs _=>⟨(s3 i x s hx hs).1,(s3 i x s hx hs).2.1,fun e=>absurd e (nL _),fun _=>(s3 i x s hx hs).2.2.1⟩⟩,h.tt,h.ap,hlo,Nat.le_of_eq hht.symm⟩
theorem MkT.grew (h:MkT base hi ht k w V m vt T) (g:zc w w'):MkT base hi ht k w' V m vt T:=by
 obtain⟨xs,f1,f2,f3⟩:=h.fl;obtain⟨ys,s1,s2,s3⟩:=h.sp;exact⟨h.fs.grew g,h.sl.grew g,h.slh,h.sb.grew g,h.sq,h.db.grew g,h.dq.grew g,⟨xs,f1.grew g,f2,fun i x f hx hf=>⟨(f3 i x f hx hf).1,(f3 i x f hx hf).2.grew g⟩⟩,h.ca.grew g,⟨ys,s1.grew g,s2,fun i x s f hx hs hT=>⟨(s3 i x s f hx hs hT).1,(s3 i x s f hx hs hT).2.1.grew g,fun e=>((s3 i x s f hx hs hT).2.2.1 e).grew g,(s3 i x s f hx hs hT).2.2.2⟩⟩,h.tt.grew g,h.ap,h.lo,nT h.hts (bS g)⟩
theorem MkT.table (h:MkT base hi ht k w V m vt T) {ys:List SpV} (s2:ys.length=m.sp.length) (s3:∀(i:Nat) x s f,ys[i]? =Xa x->m.sp[i]? =Xa s->T[i]? =Xa f->x.live=s.live/\zb arE base w x.ar.v s.ars/\(i<k->ZS 0 ht w x.tab (jV f))/\(k<=i->x.tab=Qf)) {g:Nat} {cs:Array Xr} (ho:w.heap[g]? =Xa (Xk cs 63 (0,0))) (hlt:g<ht) (hg:w.grownBy w' (Xa g)) {x y:SpV} {f:Nat->En} (hx:ys[k]? =Xa x) (hf:T[k]? =Xa f) (hy:y.live=x.live/\y.ar=x.ar) (hT:ZS 0 ht w' y.tab (jV f)) (hr:zb Zh base w' (V.sp.x) (ys.set k y)):MkT base hi ht (k+1) w' V m vt T:=by
 obtain⟨xs,f1,f2,f3⟩:=h.fl;have hout:Out 0 ht w w':=Out.grown hg (fun g' e=>by cases e;exact⟨nZ _,hlt⟩)
 refine⟨h.fs.kind hg ho (by decide),h.sl.kind hg ho (by decide),h.slh,⟨qB h.sb.1 hg ho (by decide),h.sb.2⟩,h.sq,⟨qB h.db.1 hg ho (by decide),h.db.2⟩,⟨qB h.dq.1 hg ho (by decide),h.dq.2⟩,⟨xs,f1.kind hg ho (by decide),f2,fun i x f hx hf=>⟨(f3 i x f hx hf).1,(f3 i x f hx hf).2.kind hg ho (by decide)⟩⟩,h.ca.kind hg ho (by decide),⟨ys.set k y,hr,by rw[List.length_set];exact s2,fun i z s f' hz hs hf'=>?_⟩,h.tt.kind hg ho (by decide),h.ap,h.lo,nT h.hts hg.size⟩
 by_cases e:i=k
 ·subst e;rw[sF (gS.1 hx).1]at hz;cases hz;rw[hf]at hf';cases hf';obtain⟨a1,a2,_⟩:=s3 i x s f hx hs hf;exact⟨hy.1.trans a1,by rw[hy.2];exact a2.kind hg ho (by decide),fun _=>hT,fun e=>by omega⟩
 rw[sN (fun h=>e h.symm)]at hz
 obtain⟨a1,a2,a3,a4⟩:=s3 i z s f' hz hs hf';exact⟨a1,a2.kind hg ho (by decide),fun e'=>(a3 (by omega)).out hout,fun e'=>a4 (by omega)⟩
theorem MkT.mach (h:MkT base hi ht m.sp.length w V m vt T) (hl:T.length=m.sp.length) (hd:Int):zN w V (jO m T hd):=by
 obtain⟨xs,f1,f2,f3⟩:=h.fl;obtain⟨ys,s1,s2,s3⟩:=h.sp;obtain⟨q1,q2⟩:=h.sq;refine⟨h.fs.at,h.sl.at,h.sb.at,?_,h.db.at,h.dq.at,⟨f1.cap,xs,f1.at.s0,f2,fun i x f hx hf=>⟨(f3 i x f hx hf).1,(f3 i x f hx hf).2.at.s0⟩⟩,h.ca.at,⟨ys,s1.at,by simp[jO,hl,s2],fun i x s hx hs=>?_⟩⟩
 ·show qH w (V.sq.x) m.sq
  rw[q1,q2];exact⟨⟨Xb,0,rfl,fun _=>rfl,fun x hx=>by cases hx⟩,by simp,by simp⟩
 have hs':(List.zipWith (fun s f=>({ s with tb:=jV f }:Sp)) m.sp T)[i]? =Xa s:=hs
 rw[List.getElem?_zipWith]at hs';have hi:i<m.sp.length:=by rw[<-s2];exact(gS.1 hx).1
 rw[gE hi,gE (show i<T.length by omega)]at hs'
 simp only[Option.some.injEq]at hs';obtain⟨a1,a2,a3,_⟩:=s3 i x _ _ hx (gE hi) (gE (show i<T.length by omega))
 subst hs';exact⟨a1,a2.at,a2.cap,(a3 hi).now⟩
end
structure zla (w0 w:Xo) (b:Nat) (vl:Sli) (L:List Int) (cs:List Xr):Prop where
 gr:zc w0 w
 hb:w0.heap.size<=b
 box:zt w b 95 (vl.x :: cs)
 lr:zm byE w0 (vl.x) L
 lc:vl.n<=vl.c
 lb:∀z∈L,0<=z/\z<256
theorem Mk.nums {w:Xo} (h:Mk w0 hi w b vl L V m vt T):zla w0 w b vl L [V.f.x,I6 m.hand,V.s.x,V.sb.x,V.sq.x,V.db.x,V.dq.x,V.fl.x,I6 m.cnt,V.ca.x,V.sp.x,vt.x]:=⟨h.gr,h.hb,h.box,h.lr,h.lc,h.lb⟩
theorem zlr {w:Xo} {cs:List Xr} (n:Int) (h:zla w0 w b vl L cs):
  Xq prog 36 #[Xj (Xa ⟨b,0,Xb⟩),I6 n] w fun e w'=>∃vl' L' x,e= Xl (I6 x)/\zla w0 w' b vl' L' cs/\w.grownBy w' (Xa b)/\w'.heap.size=w.heap.size/\0<=x/\(x=0\/x<n)/\(L=[]->x=0)/\ZP L L':=by
 have HM:Xp (zla w0 w b vl L cs):=h;have hbx:=h.box.box;have x0:=hbx.c 0 rfl;have xf:=hbx.f;have hln:=h.lr.n;clear hbx;obtain⟨⟨la,ln,lc⟩,hvl⟩:∃s:Sli,vl=s:=⟨_,rfl⟩;subst hvl;dsimp only[Sli.x]at x0 hln HM;clear h
 by_cases h0:ln=0
 ·subst h0;clear hln
  go_enter func36,ntmps36
  go_wp2;go_ret;exact⟨_,L,0,rfl,HM,World.grownBy.rfl' _ _,rfl,Int.le_refl _,.inl rfl,fun _=>rfl,ZP.refl L⟩
 have h0e:((ln:Int) == 0)=Xd:=by simp;omega
 have h0f:(ln == 0)=Xd:=by simp[h0]
 by_cases h1:n<1
 ·clear h0 hln
  go_enter func36,ntmps36
  go_wp2;go_ret;exact⟨_,L,0,rfl,HM,World.grownBy.rfl' _ _,rfl,Int.le_refl _,.inl rfl,fun _=>rfl,ZP.refl L⟩
 obtain⟨z,L',rfl⟩:∃z L',L=z :: L':=by
  cases L with
  | nil=>simp at hln;omega
  | cons z L'=>exact⟨z,L',rfl⟩
 have hz:=HM.lb z (by simp)
 obtain⟨hz0,hz1⟩:=hz;obtain⟨ad,rfl,hl⟩:=HM.lr.rowsAt 0 z rfl;have d0:w.cell? ad=Xa (U8 z):=by
  have:=hl w HM.gr 0 _ rfl;rw[zX]at this
  simpa [byE,Addr.add]using this
 obtain⟨k,rfl⟩:∃k,ln=k+1:=⟨ln - 1,by omega⟩
 have hcap:k+1<=lc:=HM.lc;have hrun:=zhb (w:=w) (ad:=ad) (n:=k) (c:=lc);clear h0 hl;have hlt:(0:Int)< ((k+1:Nat):Int):=by omega
 obtain⟨ad',had⟩:∃ad',(if lc=1 then ad else ad.add 1)=ad':=⟨_,rfl⟩;rw[had]at hrun;have HL':Xp (zm byE w0 (O (Xa ad') k (lc - 1)) L'):=dD<|by
  obtain⟨⟨xa,xc,q1,q2,q3⟩,q4⟩:=HM.lr;dsimp only[Sli.x]at q1;cases q1;have q5:=q3 ad rfl;refine⟨⟨Xa ad',lc - 1,rfl,fun h=>(by cases h),fun y hy=>?_⟩,?_⟩
  ·cases hy
   by_cases hc:lc=1
   ·have:L'=[]:=by
     have:L'.length=0:=by omega
     exact eN this
    subst this;intro j u hj
    simp at hj
   rw[kF hc]at had;subst had;intro j u hj;rw[zX,Nat.add_comm 1 j];exact q5 (j+1) u (by simpa [byE]using hj)
  have:byE.bytes=1:=rfl;rw[this]at q4⊢
  simp at q4⊢
  omega
 have HBX:Xp (zt (w.setCell ⟨b,0,Xb⟩ (O (Xa ad') k (lc - 1))) b 95 (O (Xa ad') k (lc - 1) :: cs)):=HM.box.set 0 _;have HGR:Xp (w.grownBy (w.setCell ⟨b,0,Xb⟩ (O (Xa ad') k (lc - 1))) (Xa b)):=⟨rfl,rfl,rfl,by simp[World.setCell],fun j _ hj=>Below.heap_setCell _ _ _ _ (fun e=>hj (by rw[e]))⟩
 have HSZ:Xp ((w.setCell ⟨b,0,Xb⟩ (O (Xa ad') k (lc - 1))).heap.size=w.heap.size):=dD<|by simp[World.setCell]
 have HMK:Xp (zla w0 (w.setCell ⟨b,0,Xb⟩ (O (Xa ad') k (lc - 1))) b ⟨Xa ad',k,lc - 1⟩ L' cs):=show zla _ _ _ _ _ _ from
  ⟨ze HM.gr HGR HM.hb,HM.hb,HBX,HL',(show k<=lc - 1 by omega),fun y hy=>HM.lb y (by simp[hy])⟩
 have HX:Xp (0<=z % n/\z % n<n):=dD<|⟨Int.emod_nonneg _ (by omega),Int.emod_lt_of_pos _ (by omega)⟩
 clear hln hcap had
 go_enter func36,ntmps36
 go_wp2;go_ret;exact⟨_,L',z % n,rfl,HMK,HGR,HSZ,HX.1,.inr HX.2,fun h=>(by cases h)⟩
theorem zjs {w:Xo} {t:List (List En)} (h:ZS B0 B1 w us t):∃t0 t1 t2 t3 t4 t5 t6 t7:Sli,us=[t0.v,t1.v,t2.v,t3.v,t4.v,t5.v,t6.v,t7.v]:=by
 have key:∀i v,us[i]? =Xa v->∃s:Sli,v=s.v:=fun i v hv=>by
  obtain⟨y,hy⟩:∃y,t[i]? =Xa y:=⟨_,gE (by rw[h.tlen,<-h.len];exact(gS.1 hv).1)⟩
  obtain⟨⟨a,c,e,_⟩,_⟩:=(h.row i v y hv hy).now;exact⟨⟨a,y.length,c⟩,e⟩
 obtain⟨v0,v1,v2,v3,v4,v5,v6,v7,rfl⟩:=zkF h.len;obtain⟨s0,rfl⟩:=key 0 v0 rfl;obtain⟨s1,rfl⟩:=key 1 v1 rfl;obtain⟨s2,rfl⟩:=key 2 v2 rfl;obtain⟨s3,rfl⟩:=key 3 v3 rfl;obtain⟨s4,rfl⟩:=key 4 v4 rfl;obtain⟨s5,rfl⟩:=key 5 v5 rfl;obtain⟨s6,rfl⟩:=key 6 v6 rfl;obtain⟨s7,rfl⟩:=key 7 v7 rfl;exact⟨s0,s1,s2,s3,s4,s5,s6,s7,rfl⟩
theorem zb.outb {α:Type} {E:Elt α} {base:Nat} {w:Xo} {v:Xr} {l:List α} (h:zb E base w v l) (k:Out b (b+1) w w') (hne:∀g,v.ownBlock=Xa g->g≠b):zb E base w' v l:=by
 refine⟨⟨h.1.1,?_⟩,h.2⟩
 rcases h.1.2 with h1|⟨g,cap,cur,rfl,h2,h3,h4⟩
 ·exact .inl h1
 exact .inr ⟨g,cap,cur,rfl,h2,by rw[k.block g (aS.1 h3).1 (by have:=hne g rfl;omega)];exact h3,h4⟩
theorem zt.outb {p:Nat} {w:Xo} {cs:List Xr} (h:zt w p t cs) (k:Out b (b+1) w w') (hne:p≠b):zt w' p t cs:=by
 have hl:=h.box.lt;have h0:w.heap[p]? =_:=h
 show w'.heap[p]? =_
 rw[k.block p hl (by omega)]
 exact h0
structure FC (w:Xo) (hi b:Nat) (u:Xo) (vl:Sli) (L:List Int) (V:MaV) (m:Ma) (pf:Nat) (sz:Int) (bs:Sli) (bl:List Int):Prop where
 mm:Mk w hi u b vl L V m zy []
 hp:hi<=pf
 fb:FlB w.heap.size hi pf u V m
 fn:∀g,(V.fl.x).ownBlock=Xa g->g<pf
 box:zt u pf 84 [I6 sz,bs.x]
 row:zb blE (pf+1) u (bs.x) bl
section
variable{w u u':Xo} {hi b pf:Nat} {vl vl' bs:Sli} {L L':List Int} {V V':MaV} {m m':Ma} {sz:Int} {bl:List Int}
theorem FC.grew (h:FC w hi b u vl L V m pf sz bs bl) (k:zc u u'):FC w hi b u' vl L V m pf sz bs bl:=⟨h.mm.grew k,h.hp,h.fb.grew k,h.fn,h.box.grew k,h.row.grew k⟩
theorem FlB.as (h:FlB w.heap.size hi pf u V m) (hV:V'.fl=V.fl) (hm:m'.fl=m.fl):FlB w.heap.size hi pf u V' m':=by
 unfold FlB at h⊢;rw[hV,hm];exact h
theorem zt.kind {g p:Nat} {t':TypeId} {cs:List Xr} {ds:Array Xr} (h:zt u p t cs) (hg:u.grownBy u' (Xa g)) (ho:u.heap[g]? =Xa (Xk ds t' (0,0))) (ht:t'≠t):zt u' p t cs:=h.beside hg (fun k e=>by
 cases e;intro e;subst e;have h3:u.heap[p]? =_:=h;rw[ho]at h3;cases h3;exact ht rfl)
theorem FC.kind (h:FC w hi b u vl L V m pf sz bs bl) {g:Nat} {cs:Array Xr} (hg:u.grownBy u' (Xa g)) (ho:u.heap[g]? =Xa (Xk cs t (0,0))) (ht:t≠84) (ht2:t≠3) (mk':Mk w hi u' b vl' L' V' m' zy []) (hV:V'.fl=V.fl) (hm:m'.fl=m.fl):FC w hi b u' vl' L' V' m' pf sz bs bl:=
 ⟨mk',h.hp,(h.fb.kind hg ho (.inl ht) (.inl ht2)).as hV hm,by rw[hV];exact h.fn,h.box.kind hg ho ht,h.row.kind hg ho ht2⟩
theorem FC.pick (h:FC w hi b u vl L V m pf sz bs bl) (hg:u.grownBy u' (Xa b)) (mk':Mk w hi u' b vl' L' V m zy []):FC w hi b u' vl' L' V m pf sz bs bl:=h.kind hg h.mm.box (by decide) (by decide) mk' rfl rfl
theorem FC.fresh (h:FC w hi b u vl L V m pf sz bs bl) {g:Nat} {cs:Array Xr} (hg:u.grownBy u' (Xa g)) (ho:u.heap[g]? =Xa (Xk cs 84 (0,0))) (hl:pf<g):FC w hi b u' vl L V m pf sz bs bl:=by
 have hn:(V.fl.x).ownBlock≠Xa g:=fun e=>by have:=h.fn g e;omega
 have hw:w.heap.size<=g:=by have:=h.mm.rows.bh;have:=h.hp;omega
 exact⟨⟨ze h.mm.gr hg hw,h.mm.hb,h.mm.box.kind hg ho (by decide),h.mm.lr,h.mm.lc,h.mm.lb,h.mm.rows.fileVar hg ho hn⟩,h.hp,h.fb.kind hg ho (.inr hn) (.inl (by decide)),h.fn,h.box.beside hg (fun k e=>by cases e;omega),h.row.kind hg ho (by decide)⟩
theorem zlu (w:Xo) (x:FlV):zb fvE w.heap.size (w.alloc (Xk (fvE.enc x).toArray 84)) (O (Xa ⟨w.heap.size,0,Xb⟩) 1 1) [x]:=by
 refine⟨⟨rfl,.inr ⟨w.heap.size,1,(fvE.enc x).toArray,rfl,nR _,?_,nR _,qC (by omega),rfl,?_⟩⟩,by show 1*32<=_;omega⟩
 ·show(w.heap.push _)[w.heap.size]? =_
  simp;rfl
 simp[fvE,flv]
theorem FC.addB (h:FC w hi b u vl L V m pf sz bs bl) (hg:u.grownBy u' (bs.x).ownBlock) (s:Sli) {bl':List Int} (ho:zb blE (pf+1) u' (s.x) bl'):
  zt u' pf 84 [I6 sz,bs.x]/\(∀p t cs,t≠3->t≠84->zt u p t cs->zt (u'.setCell ⟨pf,1,Xb⟩ (s.x)) p t cs)/\FC w hi b (u'.setCell ⟨pf,1,Xb⟩ (s.x)) vl L V m pf sz s bl':=by
 have key:Mk w hi u' b vl L V m zy []/\FlB w.heap.size hi pf u' V m/\zt u' pf 84 [I6 sz,bs.x]/\(∀p t cs,t≠3->zt u p t cs->zt u' p t cs):=by
  cases hob:(bs.x).ownBlock with
  | none=>
   rw[hob]at hg;have k:=qt hg;exact⟨h.mm.grew k,h.fb.grew k,h.box.grew k,fun p t cs _ hb=>hb.grew k⟩
  | some g=>
   rw[hob]at hg;obtain⟨cs,hc⟩:=h.row.obj hob;have hl:=(h.row.lt g hob).1;have hw:w.heap.size<=g:=by have:=h.mm.rows.bh;have:=h.hp;omega
   exact⟨⟨ze h.mm.gr hg hw,h.mm.hb,h.mm.box.kind hg hc (by decide),h.mm.lr,h.mm.lc,h.mm.lb,h.mm.rows.ints h.fb hg hc (by omega) (by have:=h.hp;omega)⟩,h.fb.kind hg hc (.inl (by decide)) (.inr (by omega)),h.box.kind hg hc (by decide),fun p t ds ht hb=>hb.kind hg hc (fun e=>ht e.symm)⟩
 obtain⟨k1,k2,k3,k4⟩:=key;have hg2:=jc u' pf 1 (s.x);have hn:(V.fl.x).ownBlock≠Xa pf:=fun e=>by have:=h.fn pf e;omega
 have hw:w.heap.size<=pf:=by have:=h.mm.rows.bh;have:=h.hp;omega
 refine⟨k3,fun p t cs h1 h2 h3=>(k4 p t cs h1 h3).kind hg2 k3 (fun e=>h2 e.symm),⟨⟨ze k1.gr hg2 hw,k1.hb,k1.box.kind hg2 k3 (by decide),k1.lr,k1.lc,k1.lb,k1.rows.fileVar hg2 k3 hn⟩,h.hp,k2.kind hg2 k3 (.inr hn) (.inl (by decide)),h.fn,k3.set 1 _,ho.kind hg2 k3 (by decide)⟩⟩
def FCE (w:Xo) (hi b:Nat) (L0:List Int) (V:MaV) (m:Ma) (pf:Nat) (sz:Int) (bs:Sli) (bl:List Int) (u:Xo):Prop:=∃vl L,FC w hi b u vl L V m pf sz bs bl/\ZP L0 L
end
theorem MkT.other {base ht k:Nat} {w:Xo} (h:MkT base hi ht k w V m vt T) {g:Nat} {cs:Array Xr} (hg:w.grownBy w' (Xa g)) (ho:w.heap[g]? =Xa (Xk cs t (0,0))) (hlt:g<ht) (h1:t=95\/t=41):MkT base hi ht k w' V m vt T:=by
 have hne:t≠53/\t≠3/\t≠44/\t≠100/\t≠84/\t≠120/\t≠63/\t≠91/\t≠56:=by rcases h1 with rfl | rfl <;> decide
 obtain⟨a1,a2,a3,a4,a5,a6,a7,a8,a9⟩:=hne;obtain⟨xs,f1,f2,f3⟩:=h.fl;obtain⟨ys,s1,s2,s3⟩:=h.sp;have hout:Out 0 ht w w':=Out.grown hg (fun g' e=>by cases e;exact⟨nZ _,hlt⟩)
 exact⟨h.fs.kind hg ho a1,h.sl.kind hg ho a2,h.slh,⟨qB h.sb.1 hg ho a3,h.sb.2⟩,h.sq,⟨qB h.db.1 hg ho a3,h.db.2⟩,⟨qB h.dq.1 hg ho a4,h.dq.2⟩,⟨xs,f1.kind hg ho a5,f2,fun i x f hx hf=>⟨(f3 i x f hx hf).1,(f3 i x f hx hf).2.kind hg ho a2⟩⟩,h.ca.kind hg ho a6,⟨ys,s1.kind hg ho a7,s2,fun i x s f hx hs hT=>⟨(s3 i x s f hx hs hT).1,(s3 i x s f hx hs hT).2.1.kind hg ho a8,fun e=>((s3 i x s f hx hs hT).2.2.1 e).out hout,(s3 i x s f hx hs hT).2.2.2⟩⟩,h.tt.kind hg ho a9,h.ap,h.lo,nT h.hts hg.size⟩
theorem zdY {p:Nat}:Loc hi p 41:=⟨by decide,by decide,by decide,by decide,by decide,by decide,by decide,by decide,fun h=>absurd h (by decide)⟩
theorem zoM:(Tryz.prog.info? 41).map (·.size)=Xa 11:=by kernel_rfl
def zfa (nf ns nb k:Nat):Ma:=⟨Xs nf frF,0,Xs ns 0,Xs ns zx,[],Xs nb zx,[],[],nb,[],Xs k ⟨Xc,[],qL⟩⟩
structure zk5 (w:Xo) (nf ns nb:Nat) (L:List Int) (w':Xo) (V:MaV) (m:Ma) (T:List (Nat->En)) (hd:Int) (hi ht:Nat) (vt:Sli):Prop where
 gr:zc w w'
 rows:MkT w.heap.size hi ht m.sp.length w' V m vt T
 inv:qV m T
 hand:0<=hd/\hd<max (m.fs.length:Int) 1
 fin:∀s∈m.sp,jF m.fl.length s.ars/\j7 s.ars 64<=12
 fl2:m.fl.length<=2/\∀f∈m.fl,f.size<40
 sp:1<=m.sp.length/\m.sp.length<=2
 fsl:m.fs.length=nf
 new:L=[]->m=zfa nf ns nb 1/\T=[fun _=>en0]/\hd=0
theorem zld (v:Xr) (fs:List Fl) (cnt b:Int) (w:Xo) (hv:qh w v fs):
  Xq prog 38 #[Xi #[v,I6 cnt],I6 b] w fun e w'=>e= Xl (Xh (zV fs b))/\zc w w':=by
 obtain⟨a,c,rfl,hbig,hrow⟩:=hv.rows;have HR:Xp (Qv w a fs):=hrow;clear hrow hv;obtain⟨n,HN⟩:=kA fs.length;rw[HN.out]at hbig⊢;obtain⟨ANS,HANS⟩:=kA (zV fs b);rw[HANS.out];obtain⟨W0,hW0⟩:=kB (w.alloc (Xk #[O a n c,I6 cnt] 37));have HG0:=gA hW0
 have HW0:Xp (_=W0):=hW0;clear hW0
 go_enter func38,ntmps38
 go_wp2;rw[HW0.out]
 go_loopg [12] n (fun gg s12 wr=>∃kk:Nat,kk<=n/\n - kk<=gg/\s12=I6 kk/\Xp (zc w wr)/\Xp (∀(j:Nat) (q:Fl),j<kk->fs[j]? =Xa q->q.bl.contains b=Xd))
 case atStart=>exact⟨0,nZ _,by omega,rfl,HG0,fun j q hj=>absurd hj (nL _)⟩
 obtain⟨kk,hkk,hg,rfl,BW,A⟩:=hrel
 by_cases hlt:kk<n
 ·have hltz:=kC hlt
  obtain⟨q,HQ⟩:∃q,Xp (fs[kk]? =Xa q):=⟨_,gE (by rw[HN.out];exact hlt)⟩
  obtain⟨ad,rfl,xa,xc,hra,hl⟩:=HR.out kk q HQ.out;obtain⟨d0,d1⟩:=hl wr BW.out;have hqbig:=hra.short;obtain⟨a',c',heq,hnum⟩:=hra.nums;cases heq;have HRA:Xp (zab w xa q.bl):=hnum;clear hl hra hnum;obtain⟨nb,HNB⟩:=kA q.bl.length;rw[HNB.out]at d1 hqbig;obtain⟨W2,hW2⟩:=kB (wr.alloc (Xk #[I6 q.size,O xa nb xc] 84));have G2:=gT hW2 BW
  have HW2:Xp (_=W2):=hW2;clear hW2;go_wp2;rw[HW2.out]
  go_loopg [19] nb (fun g2 s19 wr2=>∃k2:Nat,k2<=nb/\nb - k2<=g2/\s19=I6 k2/\Xp (zc w wr2)/\Xp (∀(j:Nat) z,j<k2->q.bl[j]? =Xa z->¬z=b))
  case atStart=>exact⟨0,nZ _,by omega,rfl,G2,fun j z hj=>absurd hj (nL _)⟩
  obtain⟨k2,hk2,hg2,rfl,BW2,A2⟩:=hrel;clear d0 d1
  by_cases hlt2:k2<nb
  ·have hltz2:=kC hlt2
   obtain⟨z,HZ⟩:∃z,Xp (q.bl[k2]? =Xa z):=⟨_,gE (by rw[HNB.out];exact hlt2)⟩
   obtain⟨ad2,rfl,hl2⟩:=HRA.out k2 z HZ.out;have d2:=hl2 _ BW2.out;clear hl2
   by_cases hz:z=b
   ·have hzb:(z == b)=Xc:=by simpa using hz
    have HF:Xp (ANS=Xc):=dD<|by
     rw[<-HANS.out];unfold zV;exact znw HQ (Yl.2 (hz ▸ mG HZ))
    clear hz;go_wp2;go_ret;exact⟨by rw[HF.out];rfl,BW2⟩
   have hzb:(z == b)=Xd:=by simpa using hz
   have HA2:Xp (∀(j:Nat) z,j<k2+1->q.bl[j]? =Xa z->¬z=b):=dD<|fun j z' hj hz'=>by
    by_cases e:j=k2
    ·subst e;rw[HZ.out]at hz';cases hz';exact hz
    exact A2 j z' (by omega) hz'
   clear hz;go_wp2
   go_roundg (nb -(k2+1))
   case measure=>omega
   exact⟨k2+1,by omega,by omega,by go_num,BW2,HA2⟩
  have hltz2:=kD hlt2
  have:k2=nb:=by omega
  subst this;have HA:Xp (∀(j:Nat) (q:Fl),j<kk+1->fs[j]? =Xa q->q.bl.contains b=Xd):=dD<|fun j q' hj hq'=>by
   by_cases e:j=kk
   ·subst e;rw[HQ.out]at hq';cases hq'
    cases hb:q.bl.contains b with
    | false=>rfl
    | true=>
     obtain⟨p,hp⟩:=List.getElem?_of_mem (Yl.1 hb);exact absurd rfl (A2 p b (by rw[<-HNB.out];exact(gS.1 hp).1) hp)
   exact A j q' (by omega) hq'
  go_wp2
  go_roundg (n -(kk+1))
  case measure=>omega
  exact⟨kk+1,by omega,by omega,by go_num,BW2,HA⟩
 have hltz:=kD hlt
 have:kk=n:=by omega
 subst this;have HF:Xp (ANS=Xd):=dD<|by
  rw[<-HANS.out];unfold zV;rw[znv (fun j q hj=>A.out j q (by rw[<-HN.out];exact(gS.1 hj).1) hj)]
 go_wp2;go_ret;exact⟨by rw[HF.out];rfl,BW⟩
theorem zkP (l:List En) (i:Nat):(ZU l i).length=8:=by simp[ZU]
theorem zmu (l:List En) {i k:Nat} (hk:k<8):(ZU l i)[k]? =Xa (l[8*i+k]?.getD en0):=by
 unfold ZU;rw[Ys,Ym hk];rfl
structure zny (l:List En) (kk:Nat) (t:List (List En)):Prop where
 len:t.length=8
 at':∀j,j<8->t[j]? =Xa (if j<kk then mk (ZU l j)else [])
theorem zjZ (l:List En):zny l 0 qL:=⟨rfl,fun j hj=>by rw[kF (nL _),qL,Yd,kE hj]⟩
theorem zfg {l:List En} {t:List (List En)} (h:zny l kk t) (hk:kk<8):zny l (kk+1) (t.set kk (mk (ZU l kk))):=by
 refine⟨by simp[h.len],fun j hj=>?_⟩
 by_cases e:j=kk
 ·subst e;rw[sF (by rw[h.len];exact hj),kE (Nat.lt_succ_self _)]
 rw[sN (fun h=>e h.symm),h.at' j hj]
 by_cases h1:j<kk
 ·rw[kE h1,kE (by omega)]
 rw[kF h1,kF (by omega)]
theorem zlO {l:List En} {t:List (List En)} (h:zny l 8 t):t=Za l:=by
 apply List.ext_getElem?
 intro j
 by_cases hj:j<8
 ·rw[h.at' j hj,kE hj];unfold Za;rw[Ys,Ym hj];rfl
 rw[gN (by rw[h.len];omega),gN (by simp[Za];omega)]
theorem zgc (l:List En) (w:Xo) (hl:l.length=64) (hk:∀e∈l,0<=e.kind):
  Xq prog 42 #[Xi (jp l).toArray] w fun e w'=>∃us,e= Xl (Xi us.toArray)/\ZS 0 w.heap.size w' us (Za l)/\zc w w':=by
 have HLL:Xp (l.length=64):=hl;have HK:Xp (∀e∈l,0<=e.kind):=hk;have HC:Xp (∀(j:Nat) e,l[j]? =Xa e->(jp l)[j*3]? =Xa (I6 e.kind)/\(jp l)[j*3+1]? =Xa (I6 e.n)/\(jp l)[j*3+2]? =Xa (Xh e.wr)):=show∀(j:Nat) e,_ from fun j e h=>zfM h
 clear hl hk;obtain⟨TT,HTT⟩:=kA (Za l);rw[HTT.out]
 generalize jp l=C at HC⊢
 obtain⟨W0,hW0⟩:=kB (((w.alloc (Xk C.toArray 56)).alloc (Xk #[eS,eS,eS,eS,eS,eS,eS,eS] 61)).alloc (Xk #[eS,eS,eS,eS,eS,eS,eS,eS] 61));have HG0:Xp (zc w W0):=dD<|by rw[<-hW0];exact((za _ _).trans (za _ _)).trans (za _ _)
 have X0:Xp (Box W0 w.heap.size C):=dD<|by rw[<-hW0];exact((Box.top w _ _ rfl).alloc _).alloc _
 have Y0:Xp (Box W0 (w.heap.size+1) Qf):=dD<|by rw[<-hW0];exact(Box.top _ Qf _ (by simp)).alloc _
 have T0:Xp (Box W0 (w.heap.size+2) Qf):=dD<|by rw[<-hW0];exact Box.top _ Qf _ (by simp)
 have HW0:Xp (_=W0):=hW0;clear hW0;obtain⟨b2,HB2⟩:=kA (w.heap.size+2)
 go_enter func42,ntmps42
 go_upto_region 2 with fail;rw[HW0.out];go_wp2
 go_loopg [8] 8 (fun gg s8 wr=>∃(kk:Nat) (us:List Xr) (t:List (List En)),kk<=8/\8 - kk<=gg/\s8=I6 kk/\Xp (zc w wr)/\Xp (Box wr w.heap.size C)/\Xp (Box wr (w.heap.size+1) Qf)/\Xp (Box wr (w.heap.size+2) us)/\Xp (ZS 0 (w.heap.size+3) wr us t)/\Xp (zny l kk t)/\Xp (∀j,kk<=j->j<8->us[j]? =Xa (eS)))
 case atStart=>exact⟨0,Qf,qL,nZ _,by omega,rfl,HG0,X0,Y0,T0,ZS.nil _ _ _,zjZ l,show∀j,_ from fun j _ hj=>by rw[Qf,Yd,kE hj]⟩
 obtain⟨kk,us,t,hkk,hg,rfl,BW,XW,YW,TW,SW,MW,NW⟩:=hrel
 by_cases hlt:kk<8
 ·have hltz:(kk:Int)<8:=by omega
  obtain⟨Ch,HCH⟩:=kA (ZU l kk);have HCL:Xp (Ch.length=8):=dD<|by rw[<-HCH.out];exact zkP _ _
  have HCA:Xp (∀k,k<8->∃e,Ch[k]? =Xa e/\l[8*kk+k]? =Xa e/\0<=e.kind):=dD<|fun k hk=>by
   obtain⟨e,he⟩:∃e,l[8*kk+k]? =Xa e:=⟨_,gE (by rw[HLL.out];omega)⟩
   exact⟨e,by rw[<-HCH.out,zmu l hk,he];rfl,he,HK e (mG he)⟩
  obtain⟨WB,rfl⟩:∃WB,WB=wr:=⟨_,rfl⟩;go_wp2
  go_loopg [5,6] 8 (fun g2 s5 s6 wr2=>∃(k2:Nat) (sm:Bool),k2<=8/\8 - k2<=g2/\s6=I6 k2/\s5= Xh sm/\Xp (sm=zbk (Ch.take k2))/\Xp (wr2=WB))
  case atStart=>exact⟨0,Xd,nZ _,by omega,rfl,rfl,rfl,rfl⟩
  obtain⟨k2,sm,hk2,hg2,rfl,rfl,AW2,EW⟩:=hrel;rw[EW.out]
  by_cases hlt2:k2<8
  ·have hltz2:(k2:Int)<8:=by omega
   obtain⟨e,he1,he2,he3⟩:=HCA.out k2 hlt2;have HT:Xp (zbk (Ch.take (k2+1))=(sm || enS e)):=dD<|by
    rw[jB he1,AW2.out];unfold zbk;rw[List.any_append];simp
   cases sm with
   | true=>
    have HS:Xp (Xc=zbk (Ch.take (k2+1))):=dD<|by rw[HT.out];rfl
    clear he1 he2 he3;go_wp2
    go_roundg (8 -(k2+1))
    case measure=>omega
    exact⟨k2+1,Xc,by omega,by omega,by go_num,rfl,HS,rfl⟩
   | false=>
    have hidx:(8:Int)*(kk:Int)+(k2:Int)=((8*kk+k2:Nat):Int):=by omega
    have hi64:8*kk+k2<64:=by omega
    obtain⟨c0,_,_⟩:=HC.out _ e he2;obtain⟨ix,HIX⟩:=kA (8*kk+k2);rw[HIX.out]at hidx hi64 c0;have hi64z:(ix:Int)<64:=by omega
    have x0:=XW.c _ c0;clear c0 he1 he2;obtain⟨B,HBB⟩:=kA (enS e);have hB:decide (0<e.kind)=B:=by
     rw[<-HBB.out];unfold enS
     by_cases h:e.kind=0
     ·rw[h];rfl
     have:0<e.kind:=by omega
     rw[decide_eq_true this]
     simpa using h
    have HS:Xp (B=zbk (Ch.take (k2+1))):=dD<|by rw[HT.out,HBB.out];rfl
    clear he3;go_wp2
    go_roundg (8 -(k2+1))
    case measure=>omega
    exact⟨k2+1,B,by omega,by omega,by go_num,by first | rfl | rw[hB],HS,rfl⟩
  have hltz2:¬(k2:Int)<8:=by omega
  have:k2=8:=by omega
  subst this;have HSM:Xp (sm=zbk Ch):=dD<|by rw[AW2.out,Xx (by rw[HCL.out];exact nR _)]
  cases sm with
  | false=>
   have HMK:Xp (mk (ZU l kk)=[]):=dD<|by rw[HCH.out];unfold mk;rw[<-HSM.out,kF (by decide)]
   have HTK:Xp (t.set kk (mk (ZU l kk))=t):=dD<|by
    rw[HMK.out];refine zdN ?_;rw[MW.at' kk hlt,kF (Yn _)]
   have M2:Xp (zny l (kk+1) t):=dD<|by rw[<-HTK.out];exact zfg MW hlt
   go_wp2
   go_loopg [7] 1 (fun g3 s7 wr3=>1<=g3/\s7=I6 0/\Xp (wr3=WB))
   case atStart=>exact⟨nR _,rfl,rfl⟩
   obtain⟨hg3,rfl,EW3⟩:=hrel;rw[EW3.out];go_wp2
   go_roundg (8 -(kk+1))
   case measure=>omega
   exact⟨kk+1,us,t,by omega,by omega,by go_num,BW,XW,YW,TW,SW,M2,show∀j,_ from fun j h1 h2=>NW.out j (by omega) h2⟩
  | true=>
   have HMK:Xp (mk (ZU l kk)=Ch):=dD<|by rw[HCH.out];unfold mk;rw[<-HSM.out,kE rfl]
   have HU8:Xp (us.length=8):=SW.len;go_wp2
   go_loopg [7] 8 (fun g3 s7 wr3=>∃(k3 c:Nat) (a:Option Addr),k3<=8/\8 - k3<=g3/\s7=I6 k3/\Xp (Out (w.heap.size+2) (w.heap.size+3) WB wr3)/\Xp (Box wr3 (w.heap.size+2) (us.set kk (O a k3 c)))/\Xp (zb enE WB.heap.size wr3 (O a k3 c) (Ch.take k3)))
   case atStart=>exact⟨0,0,Xb,nZ _,by omega,rfl,Out.refl _ _ _,by rw[zdN (NW.out kk (nR _) hlt)];exact TW,zb.nil _ _ _⟩
   obtain⟨k3,c,a,hk3,hg3,rfl,OW3,TW3,RW3⟩:=hrel;have HLB:Xp (w.heap.size+3<=WB.heap.size):=TW.lt
   by_cases hlt3:k3<8
   ·have hltz3:(k3:Int)<8:=by omega
    obtain⟨e,he1,he2,_⟩:=HCA.out k3 hlt3;have hidx:(8:Int)*(kk:Int)+(k3:Int)=((8*kk+k3:Nat):Int):=by omega
    have hi64:8*kk+k3<64:=by omega
    obtain⟨c0,c1,c2⟩:=HC.out _ e he2;obtain⟨ix,HIX⟩:=kA (8*kk+k3);rw[HIX.out]at hidx hi64 c0 c1 c2;have hi64z:(ix:Int)<64:=by omega
    have HTK:Xp (Ch.take (k3+1)=Ch.take k3++ [e]):=jB he1;have HTL:Xp ((Ch.take k3).length=k3):=show _=_ by rw[List.length_take,HCL.out];omega
    have HXB:Xp (Box wr w.heap.size C):=XW.out.out OW3 (by omega)
    have HYB:Xp (Box wr (w.heap.size+1) Qf):=YW.out.out OW3 (by omega)
    have hgo:∀g,(O a k3 c).ownBlock=Xa g->WB.heap.size<=g/\g<wr.heap.size:=RW3.lt;have HGO:Xp (∀g,(O a k3 c).ownBlock=Xa g->WB.heap.size<=g/\g<wr.heap.size):=hgo;clear hgo he1 he2;obtain⟨w3,rfl⟩:∃w3,w3=wr:=⟨_,rfl⟩;obtain⟨I,HI⟩:∃I:Xo->Prop,Xp (∀u,I u↔(Box u w.heap.size C/\Box u (w.heap.size+1) Qf/\Box u (w.heap.size+2) (us.set kk (O a k3 c))/\Out (w.heap.size+2) (w.heap.size+3) WB u/\w3.heap.size<=u.heap.size)):=⟨fun u=>(Box u w.heap.size C/\Box u (w.heap.size+1) Qf/\Box u (w.heap.size+2) (us.set kk (O a k3 c))/\Out (w.heap.size+2) (w.heap.size+3) WB u/\w3.heap.size<=u.heap.size),fun _=>Iff.rfl⟩
    go_upto_region 13 with fail;have hxt:∀y:zj I,y.world.cell? ⟨w.heap.size+2,kk,Xb⟩=Xa (O a k3 c):=fun y=>((HI _).1 y.holds).2.2.1.c kk (sF (by rw[HU8.out];exact hlt))
    have hx0:∀y:zj I,y.world.cell? ⟨w.heap.size,ix*3,Xb⟩=Xa (I6 e.kind):=fun y=>((HI _).1 y.holds).1.c _ c0
    have hx1:∀y:zj I,y.world.cell? ⟨w.heap.size,ix*3+1,Xb⟩=Xa (I6 e.n):=fun y=>((HI _).1 y.holds).1.c _ c1
    have hx2:∀y:zj I,y.world.cell? ⟨w.heap.size,ix*3+2,Xb⟩=Xa (Xh e.wr):=fun y=>((HI _).1 y.holds).1.c _ c2
    have hI0:I w3.drew:=(HI _).2 ⟨HXB.grew (gW _),HYB.grew (gW _),TW3.grew (gW _),OW3.trans (Out.drew _),nR _⟩
    have hne:Nonempty (zj I):=⟨⟨_,hI0⟩⟩;clear c0 c1 c2;refine qP (I:=I) 13 [(10,⟨fun v=>∃g,v= O (Xa ⟨g,0,Xb⟩) 1 1,fun v w'=>jy enE w3.heap.size w' v [e],fun p q=>zc p q,fun _=>True⟩),(11,⟨fun v=>∃a' c',v= O a' (k3+1) c',fun v w'=>zb enE WB.heap.size w' v (Ch.take k3++ [e]),fun p q=>p.grownBy q (O a k3 c).ownBlock,fun u=>zb enE WB.heap.size u (O a k3 c) (Ch.take k3)⟩)] hI0 zW (by kernel_rfl) rfl rfl (by decide) ?hS ?hp ?hpre ?hpr0 ?_
    case hS=>
     intro y hy
     simp at hy
     rcases hy with rfl|rfl
     ·exact⟨_,0,rfl⟩
     exact⟨_,Xb,0,rfl⟩
    case hp=>
     intro k s j t' hk hj hjk _ v p q hst hpo
     rcases zil hk with⟨rfl,rfl⟩|⟨rfl,rfl⟩
     ·rcases zil hj with⟨rfl,rfl⟩|⟨rfl,rfl⟩
      ·exact absurd rfl hjk
      have h1:jy enE w3.heap.size p v [e]:=hpo;exact⟨h1.1.beside hst (fun x n c' hx h=>by
       have h2:=h1.2 x n c' hx;have h3:=(HGO x.block h.symm).2
       omega),h1.2⟩
     rcases zil hj with⟨rfl,rfl⟩|⟨rfl,rfl⟩
     ·exact zb.grew hpo hst
     exact absurd rfl hjk
    case hpre=>
     intro j t' k s hj hk hjk p q hst hpr
     rcases zil hj with⟨rfl,rfl⟩|⟨rfl,rfl⟩
     ·trivial
     rcases zil hk with⟨rfl,rfl⟩|⟨rfl,rfl⟩
     ·exact zb.grew hpr hst
     exact absurd rfl hjk
    case hpr0=>
     intro k t' hk
     rcases zil hk with⟨rfl,rfl⟩|⟨rfl,rfl⟩
     ·trivial
     exact RW3.grew (gW _)
    simp only[Yb,Yc];iterate 10 (refine zk rfl rfl rfl (fun K hK=>?_);go_big_quiet_op;refine hK _ ?_;clear hK)
    refine zP rfl rfl (fun w' hI' hpr hF=>?_) (fun v1 hv=>?_)
    ·obtain⟨i1,i2,i3,i4,i5⟩:=(HI _).1 hI';have hnew:jy enE w3.heap.size (w'.alloc (Xk #[I6 e.kind,I6 e.n,Xh e.wr] 55)) (O (Xa ⟨w'.heap.size,0,Xb⟩) 1 1) [e]:=⟨jK enE w' e _ _ rfl (by decide),fun x n c' hx=>by cases hx;exact i5⟩
     clear hxt hx0 hx1 hx2 hne;refine zQ.step (v:= O (Xa ⟨w'.heap.size,0,Xb⟩) 1 1) (w':=w'.alloc (Xk #[I6 e.kind,I6 e.n,Xh e.wr] 55)) (by simp only[execOp];go_simp) ⟨(HI _).2 ⟨i1.alloc _,i2.alloc _,i3.alloc _,i4.trans (Out.grew (za _ _)),nT i5 (bS (za _ _))⟩,za _ _,⟨_,rfl⟩,hnew⟩
    obtain⟨g10,rfl⟩:=hv;simp only[Xu,sB,sS,sZ];refine zP rfl rfl (fun w' hI' hpr hF=>?_) (fun v1 hv=>?_)
    ·obtain⟨i1,i2,i3,i4,i5⟩:=(HI _).1 hI';have h10:jy enE w3.heap.size w' (O (Xa ⟨g10,0,Xb⟩) 1 1) [e]:=hF 10 (by kernel_rfl)
     have hpr':zb enE WB.heap.size w' (O a k3 c) (Ch.take k3):=hpr;obtain⟨v',w2,hrun,ho,hgr,_⟩:=qn (E:=enE) (w:=w') 59 hpr' (O (Xa ⟨g10,0,Xb⟩) 1 1) [e] h10.1 (by rw[HTL.out];show(k3+1)*24<=_;omega) i4.size
     obtain⟨a',c',rfl⟩:=ho.form;have hln:(Ch.take k3++ [e]).length=k3+1:=by rw[lA,HTL.out];rfl
     rw[hln]at ho hrun;have hne':∀b,b<w.heap.size+3->∀g,(O a k3 c).ownBlock=Xa g->b≠g:=fun b hb g hg=>by
      have:=(HGO g hg).1;have:=HLB.out;omega
     refine zQ.step (v:= O a' (k3+1) c') (w':=w2) ?_ ⟨(HI _).2 ⟨i1.beside hgr (hne' _ (by omega)),i2.beside hgr (hne' _ (by omega)),i3.beside hgr (hne' _ (by omega)),⟨hgr.os.trans i4.os,hgr.tape.trans i4.tape,hgr.output.trans i4.output,nT i4.size hgr.size,fun k hk hb=>(hgr.block k (Yp hk i4.size) (fun h=>by have:=(HGO k h.symm).1;omega)).trans (i4.block k hk hb)⟩,nT i5 hgr.size⟩,hgr,⟨a',c',rfl⟩,ho⟩
     simp only[execOp,resolve,invoke,builtin,pure_bind,Ya,Xv,Yg,mP,Ye];exact Eq.trans (congrArg (fun r=>Result.andThen r (fun a w'=>Result.ok (Next.value a) w')) hrun) rfl
    obtain⟨a11,c11,rfl⟩:=hv;simp only[Xu,sB,sS,sZ];iterate 1 (refine zk rfl rfl rfl (fun K hK=>?_);go_big_quiet_op;refine hK _ ?_;clear hK)
    refine jS fun W4 hI4 hF=>?_
    have o11:zb enE WB.heap.size W4 (O a11 (k3+1) c11) (Ch.take k3++ [e]):=hF 11;obtain⟨i1,i2,i3,i4,i5⟩:=(HI _).1 hI4;have O4:Xp (zb enE WB.heap.size W4 (O a11 (k3+1) c11) (Ch.take (k3+1))):=dD<|by rw[HTK.out];exact o11
    have T4:Xp (Box W4 (w.heap.size+2) (us.set kk (O a k3 c))):=i3;have Out4:Xp (Out (w.heap.size+2) (w.heap.size+3) WB W4):=i4;clear hF hxt hx0 hx1 hx2 hI4 hne hI0 o11 i1 i2 i3 i4 i5;have t0:=T4.c kk (sF (by rw[HU8.out];exact hlt))
    have tf:=T4.f;go_upto_region 12 with fail;have T5:Xp (Box (W4.setCell ⟨w.heap.size+2,kk,Xb⟩ (O a11 (k3+1) c11)) (w.heap.size+2) (us.set kk (O a11 (k3+1) c11))):=dD<|by
     have:=T4.set kk (O a11 (k3+1) c11);rw[List.set_set]at this;exact this
    have O5:Xp (zb enE WB.heap.size (W4.setCell ⟨w.heap.size+2,kk,Xb⟩ (O a11 (k3+1) c11)) (O a11 (k3+1) c11) (Ch.take (k3+1))):=O4.setCell (by have:=HLB.out;simp;omega) _
    have Out5:Xp (Out (w.heap.size+2) (w.heap.size+3) WB (W4.setCell ⟨w.heap.size+2,kk,Xb⟩ (O a11 (k3+1) c11))):=Out4.trans (Out.setCell _ _ _ (p:=⟨w.heap.size+2,kk,Xb⟩) (nR _) (Nat.lt_succ_self _) _);clear t0 tf;go_wp2
    go_roundg (8 -(k3+1))
    case measure=>omega
    exact⟨k3+1,c11,a11,by omega,by omega,by go_num,Out5,T5,O5⟩
   have hltz3:¬(k3:Int)<8:=by omega
   have:k3=8:=by omega
   subst this;have R8:Xp (zb enE WB.heap.size wr (O a 8 c) Ch):=dD<|by
    have:=RW3.out;rw[Xx (by rw[HCL.out];exact nR _)]at this
    exact this
   have S9:Xp (ZS 0 (w.heap.size+3) wr (us.set kk (O a 8 c)) (t.set kk Ch)):=dD<|⟨by simp[HU8.out],by simp[MW.len],fun j v h hv hh=>by
    by_cases e:j=kk
    ·subst e;rw[sF (by rw[HU8.out];exact hlt)]at hv
     rw[sF (by rw[MW.len];exact hlt)]at hh
     cases hv;cases hh;exact R8.new.stays.less (nZ _) HLB.out
    rw[sN (fun h=>e h.symm)]at hv hh
    exact(SW.row j v h hv hh).out (OW3.wide (by omega) (by omega))⟩
   have M9:Xp (zny l (kk+1) (t.set kk Ch)):=dD<|by rw[<-HMK.out];exact zfg MW hlt
   have X9:Xp (Box wr w.heap.size C):=XW.out.out OW3 (by omega)
   have Y9:Xp (Box wr (w.heap.size+1) Qf):=YW.out.out OW3 (by omega)
   have G9:Xp (zc w wr):=dD<|Out.grew_of BW (by omega) OW3.out
   have N9:Xp (∀j,kk+1<=j->j<8->(us.set kk (O a 8 c))[j]? =Xa (eS)):=dD<|fun j h1 h2=>by rw[sN (by omega)];exact NW j (by omega) h2
   go_wp2
   go_roundg (8 -(kk+1))
   case measure=>omega
   exact⟨kk+1,_,_,by omega,by omega,by go_num,G9,X9,Y9,TW3,S9,M9,N9⟩
 have hltz:¬(kk:Int)<8:=by omega
 have:kk=8:=by omega
 subst this;have SE:Xp (ZS 0 (w.heap.size+3) wr us TT):=dD<|by rw[<-HTT.out,<-zlO MW.out];exact SW.out
 have HU8:Xp (us.length=8):=SW.len
 go_wp2_with (first | refine qF rfl (.tmp 3) rfl (w.heap.size+2) rfl TW HU8.out ?_ | refine zK rfl 61 (.tmp 2) (.tmp 47) rfl (w.heap.size+1) rfl us rfl YW HU8 zov SE.one ?_)
 intro W3 b3 g3 s3;have G3:Xp (zc w W3):=dD<|ze BW g3 (by simp)
 have B3:Xp (Box W3 (w.heap.size+1) us):=b3;have T3:Xp (ZS 0 w.heap.size W3 us TT):=(SE.out.out (Out.grown g3 (fun g h=>by cases h;omega))).less (nR _) (by omega)
 clear b3 g3 s3;go_wp2;refine bodyPost_ret (zZ rfl _ rfl B3 underlying61 rfl (by rw[HU8.out];exact zov)) rfl ⟨us,rfl,T3,G3⟩
end
end Go.Proofs.YtacihbmelcegbaaGreat
