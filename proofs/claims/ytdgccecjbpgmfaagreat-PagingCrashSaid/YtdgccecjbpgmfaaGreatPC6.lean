import Derived.Test.YtdgccecjbpgmfaaGreatPC5
import Derived.OrdersHeld
namespace Go.Proofs.YtdgccecjbpgmfaaGreat
set_option maxRecDepth 100000
set_option maxHeartbeats 4000000
section
open Go.RowKit
theorem zcx {l:List On} {j:Nat} (y:On) (h:j<l.length):splice (zt l) (j*6) (onv y)=zt (l.set j y):=Qg (enc:=onv) (k:=6) y rfl l j (fun _ _=>rfl) h
theorem j3 {l:List On} {j:Nat} {e:On} (h:l[j]? =some e) (i:Nat) (u:Value) (hu:(onv e)[i]? =some u):(zt l)[j*6+i]? =some u:=qr (enc:=onv) (k:=6) l j e (fun _ _=>rfl) h i u hu
theorem jk (f:Nat->On):(zt (tab f)).length=384:=by rw[zgS,Qa]
theorem zcf {ops:Array Oper} {rest:List Oper} {op:Oper} {a:Act} {w:World} {Q:Exit->Act->World->Prop} (hgd:op.guard=none) (p x:Operand) (ho:op.op= .store 61 p x) (b k:Nat) (hk:k<64) (hp:a.eval p= .pointer (some ⟨b,k*6,none⟩)) (y:On) (hx:a.eval x= .agg (onv y).toArray)
  {f:Nat->On} (hb:Box w b (zt (tab f)))
  (h:∀w',Box w' b (zt (tab (upd f k y)))->w.grownBy w' (some b)->w'.heap.size=w.heap.size->wpList Tryz.prog ops Q rest (a.put op.dst undef) w'):wpList Tryz.prog ops Q (op :: rest) a w:=by
 refine zeJ hgd 61 p x ho b (k*6) hp (onv y) hx hb (by rw[jk];show _+6<=_;omega) zll (zhk y) fun w' h1 h2 h3=>h w' ?_ h2 h3
 rw[zcx y (by rw[Qa];exact hk),zeM]at h1
 exact h1
theorem Box.onCell {w:World} {b k:Nat} {f:Nat->On} (h:Box w b (zt (tab f))) (hk:k<64) (i:Nat) (u:Value) (y:On) (hy:(onv (f k)).set i u=onv y) (hi:i<6):Box (w.setCell ⟨b,k*6+i,none⟩ u) b (zt (tab (upd f k y))):=by
 have h1:=h.set (k*6+i) u;have:(zt (tab f)).set (k*6+i) u=zt (tab (upd f k y)):=by
  rw[<-zeM,<-zcx y (by rw[Qa];exact hk),<-hy]
  have hl:(zt (tab f)).length=384:=jk f
  apply List.ext_getElem?
  intro j;unfold splice;have e6:((onv (f k)).set i u).length=6:=by simp[onv]
  rw[e6]
  by_cases h1:j<k*6
  ·rw[sN (by omega),List.getElem?_append_left (by simp;omega),List.getElem?_take_of_lt h1]
  have hl2:((zt (tab f)).take (k*6)).length=k*6:=by simp;omega
  rw[aR (by omega),hl2]
  by_cases h2:j<k*6+6
  ·rw[List.getElem?_append_left (by rw[e6];omega)]
   have hc:∀i',i'<6->(zt (tab f))[k*6+i']? =(onv (f k))[i']?:=fun i' hi'=>by
    obtain⟨v,hv⟩:∃v,(onv (f k))[i']? =some v:=⟨_,gE (by simpa [onv]using hi')⟩
    rw[hv];exact j3 (QO hk) i' v hv
   by_cases e:j=k*6+i
   ·subst e;rw[sF (by omega),show k*6+i - k*6=i by omega,sF (by simpa [onv]using hi)]
   rw[sN (fun h=>e h.symm),sN (by omega),<-hc _ (by omega),show k*6+(j - k*6)=j by omega]
  rw[sN (by omega),aR (by rw[e6];omega),e6,List.getElem?_drop]
  congr 1
  omega
 rw[this]at h1;exact h1
theorem zei {cs vs:List Value} {o k:Nat} (hl:vs.length=k) (h:∀(i:Nat) u,vs[i]? =some u->cs[o+i]? =some u):cs.toArray.extract o (o+k)=vs.toArray:=by
 apply Array.ext_getElem?
 intro j;rw[Array.getElem?_extract]
 by_cases hj:j<k
 ·obtain⟨u,hu⟩:∃u,vs[j]? =some u:=⟨_,gE (by omega)⟩
  have h1:=h j u hu;have h2:=(gS.1 h1).1;rw[if_pos (by simp;omega)]
  simp[h1,hu]
 rw[if_neg (by omega)]
 simp;omega
theorem ziv {w:World} {f:Nat->On} (i:Nat) (hi:i<64):(Instr.index 62 (.agg (zt (tab f)).toArray) (.int .i64 (i:Int))).run Tryz.prog w= .ok (.agg (onv (f i)).toArray) w:=by
 have ha:(isAgg 61).run Tryz.prog w= .ok true w:=by
  unfold isAgg;rw[Sem.run_bind,run_underlying Tryz.underlying61 w];rfl
 have hs:(Go.sizeOf 61).run Tryz.prog w= .ok 6 w:=by
  obtain⟨i0,h1,h2⟩:∃i0,Tryz.prog.info? 61=some i0/\i0.size=6:=by
   have:=zll
   cases hq:Tryz.prog.info? 61 with
   | none=>rw[hq]at this;cases this
   | some i0=>rw[hq]at this;exact⟨i0,rfl,by simpa using this⟩
  simp[Go.sizeOf,typeInfo,h1,h2]
 have hlt:(0:Int)<=(i:Int)/\(i:Int)< ((64:Nat):Int):=by omega
 have hx:(zt (tab f)).toArray.extract (i*6) (i*6+6)=(onv (f i)).toArray:=zei rfl fun j u hu=>j3 (QO hi) j u hu
 simp only[Instr.index,asIntOf,Sem.run_bind,Sem.run_pure,rA,run_underlying Tryz.underlying62];rw[if_pos hlt];simp only[Sem.run_bind,hs,rA,part,ha,if_true,tN,Sem.run_pure,hx]
theorem zjH {ops:Array Oper} {rest:List Oper} {o:Oper} {a:Act} {w:World} {Q:Exit->Act->World->Prop} (hgd:o.guard=none) (x ix:Operand) (ho:o.op= .index 62 x ix) (f:Nat->On) (hx:a.eval x= .agg (zt (tab f)).toArray) (i:Nat) (hix:a.eval ix= .int .i64 (i:Int)) (hi:i<64)
  (h:wpList Tryz.prog ops Q rest (a.put o.dst (.agg (onv (f i)).toArray)) w):wpList Tryz.prog ops Q (o :: rest) a w:=by
 refine wpList_plain hgd fun K hK=>?_
 unfold Oper.wp execOp;simp only[ho,hx,hix,Sem.run_bind,Sem.run_pure,rA,ziv i hi];exact hK _ _ h
theorem zcJ {ops:Array Oper} {rest:List Oper} {o:Oper} {a:Act} {w:World} {Q:Exit->Act->World->Prop} (hgd:o.guard=none) (x ix:Operand) (ho:o.op= .index 62 x ix) (f:Nat->On) (hx:a.eval x= .agg (zt (tab f)).toArray) (i:Nat) (hix:a.eval ix= .int .i64 (i:Int)) (hi:i<64) {v:Value} (hv: .agg (onv (f i)).toArray=v)
  (h:wpList Tryz.prog ops Q rest (a.put o.dst v) w):wpList Tryz.prog ops Q (o :: rest) a w:=zjH hgd x ix ho f hx i hix hi (by rw[hv];exact h)
theorem zg5 {ops:Array Oper} {rest:List Oper} {o:Oper} {a:Act} {w:World} {Q:Exit->Act->World->Prop} (hgd:o.guard=none) (x:Operand) (ho:o.op= .load 61 x) (b k:Nat) (hk:k<64) (hx:a.eval x= .pointer (some ⟨b,k*6,none⟩)) {f:Nat->On} (hb:Box w b (zt (tab f)))
  (h:wpList Tryz.prog ops Q rest (a.put o.dst (.agg (onv (f k)).toArray)) w):wpList Tryz.prog ops Q (o :: rest) a w:=
 wpList_load_mid hgd 61 x ho b (k*6) hx (onv (f k)) _ (hb.mid _ fun j u hu=>j3 (QO hk) j u hu) Tryz.underlying61 rfl zll h
theorem zcg {ops:Array Oper} {rest:List Oper} {o:Oper} {a:Act} {w:World} {Q:Exit->Act->World->Prop} (hgd:o.guard=none) (x:Operand) (ho:o.op= .load 61 x) (b k:Nat) (hk:k<64) (hx:a.eval x= .pointer (some ⟨b,k*6,none⟩)) {f:Nat->On} (hb:Box w b (zt (tab f))) {v:Value} (hv: .agg (onv (f k)).toArray=v)
  (h:wpList Tryz.prog ops Q rest (a.put o.dst v) w):wpList Tryz.prog ops Q (o :: rest) a w:=zg5 hgd x ho b k hk hx hb (by rw[hv];exact h)
theorem zkQ:(Tryz.prog.info? 62).map (·.zero)=some (some (.agg (zt (tab fun _=>on0)).toArray)):=by kernel_rfl
theorem zac (w:World):(zeroValue 62).run Tryz.prog w= .ok (.agg (zt (tab fun _=>on0)).toArray) w:=by
 have h:=zkQ
 cases hq:Tryz.prog.info? 62 with
 | none=>simp[hq]at h
 | some i=>
  simp[hq]at h
  simp[zeroValue,typeInfo,hq,h]
def zky (f:Nat->On):Nat->Ar:=fun n=>JN n (f n)
def zfQ (l:List Ar) (i:Nat) (a:Ar) (n:Nat):Nat->On:=fun j=>if a.fr<=(j:Int)/\(j:Int)< (n:Int)then qF a j else zH (l.take i) j
theorem ZL.take:∀{l:List Ar} {p:Option Ar},ZL p l->∀i,ZL p (l.take i)
 | [],_,_,i=>by simp[ZL]
 | a :: l,p,h,0=>by simp[ZL]
 | a :: l,p,h,i+1=>⟨h.1,h.2.1,h.2.2.take i⟩
theorem ZL.free {l:List Ar} (h:ZL none l) {i:Nat} {a:Ar} (ha:l[i]? =some a) {j:Nat} (hj:a.fr<=(j:Int)):zH (l.take i) j=on0:=by
 refine zag fun x hx=>zbU ?_
 have h1:=h.take (i+1);rw[qa ha]at h1;obtain⟨c1,c2,c3⟩:=Jm.1 h1
 cases hl:Jd none (l.take i)with
 | none=>
  unfold Jd at hl
  cases hq:l.take i with
  | nil=>rw[hq]at hx;cases hx
  | cons y ys=>rw[hq]at hl;simp[List.getLast?_cons]at hl
 | some y=>
  have q:=(c3 y hl).1;have hy:jo y:=c1.all y (by
   unfold Jd at hl
   split at hl
   ·rename_i b hb
    cases hl;exact List.mem_of_getLast? hb
   cases hl)
  unfold jo at hy
  rcases zc7 _ none c1 x hx y hl with e | e
  ·rw[e];omega
  omega
theorem zhs {l:List Ar} {i:Nat} {a:Ar} {n:Nat} (hn:(n:Int)=a.fr):zfQ l i a n=zH (l.take i):=by
 funext j
 unfold zfQ;rw[if_neg (by omega)]
def zki (l:List Ar):Prop:=(∀a∈l,jo a)/\∀(i:Nat) a,l[i]? =some a->∀j:Nat,a.fr<=(j:Int)->zH (l.take i) j=on0
theorem ZL.lies {l:List Ar} (h:ZL none l):zki l:=⟨h.all,fun _ _ ha _ hj=>h.free ha hj⟩
theorem ziX {b a:Ar} (hb:jo b) (ha:jo a) (hf:b.tz<=a.fr):zki [b,a]:=by
 refine⟨fun x hx=>?_,fun i x hx j hj=>?_⟩
 ·simp at hx
  rcases hx with rfl | rfl
  ·exact hb
  exact ha
 match i with
 | 0=>rfl
 | 1=>
  simp at hx
  subst hx
  show zH [b] j=on0
  rw[zaf (.inr (by omega))]
  rfl
 | k+2=>simp at hx
theorem ziY {a:Ar} (ha:jo a):zki [a]:=by
 refine⟨fun x hx=>?_,fun i x hx j hj=>?_⟩
 ·simp at hx
  subst hx;exact ha
 match i with
 | 0=>rfl
 | k+1=>simp at hx
theorem zht {l:List Ar} {i:Nat} {a:Ar} {n:Nat} (hn:a.fr<=(n:Int)):upd (zfQ l i a n) n (qF a n)=zfQ l i a (n+1):=by
 funext j
 unfold upd zfQ
 by_cases e:j=n
 ·subst e;rw[if_pos rfl,if_pos (by omega)]
 rw[if_neg e]
 by_cases h:a.fr<=(j:Int)/\(j:Int)< (n:Int)
 ·rw[if_pos h,if_pos (by omega)]
 rw[if_neg h,if_neg (by omega)]
theorem ziS {l:List Ar} {i:Nat} {a:Ar} {n:Nat} (h:zki l) (ha:l[i]? =some a) (hn:(n:Int)=a.tz):zfQ l i a n=zH (l.take (i+1)):=by
 funext j
 unfold zfQ;rw[qa ha,Jb]
 ·by_cases h1:a.fr<=(j:Int)/\(j:Int)< (n:Int)
  ·rw[if_pos h1,if_pos (zX.2 (by omega))]
  rw[if_neg h1,if_neg (fun h2=>h1 (by have:=zX.1 h2;omega))]
 by_cases h1:a.fr<=(j:Int)
 ·exact .inl (h.2 i a ha j h1)
 exact .inr (zbU (by omega))
theorem zjI {α:Type} (f:Nat->α) (k:Nat) (x y:α):upd (upd f k x) k y=upd f k y:=by
 funext j
 unfold upd
 by_cases e:j=k
 ·rw[if_pos e,if_pos e]
 rw[if_neg e,if_neg e,if_neg e]
theorem jS (v:Value) (l:List Ar) (w:World) (hv:zo arE w v l) (hok:zki l):
  Calls Tryz.prog 23 #[v] w fun e w'=>e= .returned (.agg (zt (tab (zH l))).toArray)/\zc w w':=by
 have hbig:=hv.short;obtain⟨a,c,rfl,hrow⟩:=hv.ars;have HR:Hid (zbX w a l):=hrow;have HOK:Hid (zki l):=hok;clear hrow hv hok;have hz:=zac;obtain⟨Z0,HZ0⟩:∃Z0,Hid (zt (tab fun _=>on0)=Z0):=⟨_,rfl⟩
 rw[HZ0.out]at hz;have HZL:Hid (Z0.length=384):=show _=_ by rw[<-HZ0.out,jk]
 obtain⟨C,HC⟩:∃C,Hid (zt (tab (zH l))=C):=⟨_,rfl⟩;rw[HC.out];obtain⟨n,HN⟩:∃n,Hid (l.length=n):=⟨_,rfl⟩;rw[HN.out]at hbig⊢;obtain⟨W0,hW0⟩:∃W0,(w.alloc (.cells Z0.toArray 62)).alloc (.cells Z0.toArray 62)=W0:=⟨_,rfl⟩;have HG0:=gD2 hW0
 have Y0:Hid (Box W0 w.heap.size Z0):=show Box _ _ _ by rw[<-hW0];exact(Box.top _ _ _ (by simp)).alloc _
 have L0:Hid (Box W0 (w.heap.size+1) (zt (tab (zH (l.take 0))))):=show Box _ _ _ by rw[<-hW0,List.take_zero,show zH ([]:List Ar)=fun _=>on0 from rfl,HZ0.out];exact Box.top _ _ _ (by simp)
 have HW0:Hid (_=W0):=hW0;clear hW0
 go_enter Tryz.func23,Tryz.ntmps23
 go_upto_region 2 with fail;rw[HW0.out];clear hz;go_wp2
 go_loopg [9] n (fun gg s9 wr=>∃kk:Nat,kk<=n/\n - kk<=gg/\s9= .int .i64 kk/\Hid (zc w wr)/\Hid (Box wr w.heap.size Z0)/\Hid (Box wr (w.heap.size+1) (zt (tab (zH (l.take kk))))))
 case atStart=>exact⟨0,nZ _,by omega,rfl,HG0.out,Y0.out,L0.out⟩
 obtain⟨kk,hkk,hg,rfl,BW,YW,LW⟩:=hrel
 by_cases hlt:kk<n
 ·have hltz:(kk:Int)< (n:Int):=by omega
  obtain⟨q,HQ⟩:∃q,Hid (l[kk]? =some q):=⟨_,gE (by rw[HN.out];exact hlt)⟩
  obtain⟨ad,rfl,hl⟩:=HR.out kk q HQ.out;obtain⟨d0,d1,d2,d3,d4,d5,d6⟩:=hl wr BW.out;have HQK:Hid (jo q):=HOK.out.1 q (mG HQ.out);have hqb:0<=q.fr/\q.fr<q.tz/\q.tz<=64/\0<=q.base/\q.base<=12:=by
   have:=HQK.out;unfold jo at this
   rcases Int.lt_or_le q.file 0 with h | h
   ·omega
   omega
  obtain⟨hq1,hq2,hq3,hq4,hq5⟩:=hqb;obtain⟨p,HP⟩:∃p,Hid (wr.heap.size=p):=⟨_,rfl⟩;have HLP:Hid (w.heap.size+1<p):=show _<_ by rw[<-HP.out];exact LW.out.lt
  clear hl;go_upto_region 5 with fail;obtain⟨W1,hW1⟩:∃W1,wr.alloc (.cells #[.int .i64 q.fr,.int .i64 q.tz,.bool q.rd,.bool q.wr,.bool q.sh,.int .i64 q.file,.int .i64 q.base] 114)=W1:=⟨_,rfl⟩;have G1:=gT hW1 BW
  have Y1:=yA hW1 YW
  obtain⟨f0,hf0⟩:∃f0:Nat,(f0:Int)=q.fr:=⟨q.fr.toNat,by omega⟩
  have L1:Hid (Box W1 (w.heap.size+1) (zt (tab (zfQ l kk q f0)))):=show Box _ _ _ by rw[<-hW1,zhs hf0];exact LW.out.alloc _
  have P1:=xP hW1 HP
  rw[hW1,HP.out];clear hW1 d0 d1 d2 d3 d4 d5 d6;have p0:=P1.out.c 0 rfl;go_wp2
  go_loopg [6] (q.tz.toNat - f0) (fun g2 s6 wr2=>∃k2:Nat,f0<=k2/\(k2:Int)<=q.tz/\q.tz.toNat - k2<=g2/\s6= .int .i64 k2/\Hid (zc w wr2)/\Hid (Box wr2 w.heap.size Z0)/\Hid (Box wr2 (w.heap.size+1) (zt (tab (zfQ l kk q k2))))/\Hid (Box wr2 p [.int .i64 q.fr,.int .i64 q.tz,.bool q.rd,.bool q.wr,.bool q.sh,.int .i64 q.file,.int .i64 q.base]))
  case atStart=>exact⟨f0,nR _,by omega,by omega,by rw[hf0],G1.out,Y1.out,L1.out,P1.out⟩
  obtain⟨k2,hk2,hk2',hg2,rfl,BW2,YW2,LW2,PW2⟩:=hrel;clear p0;have p1:=PW2.out.c 1 rfl
  by_cases hlt2:(k2:Int)<q.tz
  ·have hi64:k2<64:=by omega
   have hi64z:(k2:Int)<64:=by omega
   have HST:Hid (upd (zfQ l kk q k2) k2 (qF q k2)=zfQ l kk q (k2+1)):=zht (l:=l) (i:=kk) (a:=q) (n:=k2) (by omega)
   have p2:=PW2.out.c 2 rfl;have p3:=PW2.out.c 3 rfl;have p4:=PW2.out.c 4 rfl;have p5:=PW2.out.c 5 rfl
   go_wp2_with (refine zcf rfl (.tmp 31) (.tmp 30) rfl (w.heap.size+1) k2 hi64 rfl ⟨true,q.rd,q.wr,q.sh,q.file,0⟩ rfl LW2.out ?_)
   intro W3 b3 g3 s3;have L3:Hid (Box W3 (w.heap.size+1) (zt (tab (upd (zfQ l kk q k2) k2 ⟨true,q.rd,q.wr,q.sh,q.file,0⟩)))):=b3;have G3:Hid (zc w W3):=zg BW2.out g3 (by simp)
   have Y3:Hid (Box W3 w.heap.size Z0):=YW2.out.beside g3 (by intro g hg;cases hg;simp)
   have P3:Hid (Box W3 p [.int .i64 q.fr,.int .i64 q.tz,.bool q.rd,.bool q.wr,.bool q.sh,.int .i64 q.file,.int .i64 q.base]):=PW2.out.beside g3 (by intro g hg;cases hg;have:=HLP.out;omega)
   clear b3 g3 s3 p1 p2 p3 p4 p5;have p5:=P3.out.c 5 rfl
   by_cases hfile:0<=q.file
   ·have HONE:Hid (qF q k2=⟨true,q.rd,q.wr,q.sh,q.file,q.base+(k2:Int) - q.fr⟩):=show _=_ by
     unfold qF;rw[if_pos hfile]
     congr 1
     omega
    have p0:=P3.out.c 0 rfl;have p6:=P3.out.c 6 rfl;have l5:=L3.out.c (k2*6+5) (j3 (QO hi64) 5 (.int .i64 0) (by unfold upd;rw[if_pos rfl];rfl))
    have lf:=L3.out.f;go_upto_region 7 with fail;obtain⟨W4,hW4⟩:∃W4,W3.setCell ⟨w.heap.size+1,k2*6+5,none⟩ (.int .i64 (q.base+(k2:Int) - q.fr))=W4:=⟨_,rfl⟩;have L4:Hid (Box W4 (w.heap.size+1) (zt (tab (zfQ l kk q (k2+1))))):=show Box _ _ _ by
     rw[<-hW4];have:=L3.out.onCell hi64 5 (.int .i64 (q.base+(k2:Int) - q.fr)) (qF q k2) (by rw[HONE.out];unfold upd;rw[if_pos rfl];rfl) (by omega)
     rw[zjI,HST.out]at this;exact this
    have G4:Hid (zc w W4):=show zc _ _ by rw[<-hW4];exact zD G3.out (by simp) _
    have Y4:Hid (Box W4 w.heap.size Z0):=show Box _ _ _ by rw[<-hW4];exact Y3.out.other (by simp) _
    have P4:Hid (Box W4 p [.int .i64 q.fr,.int .i64 q.tz,.bool q.rd,.bool q.wr,.bool q.sh,.int .i64 q.file,.int .i64 q.base]):=show Box _ _ _ by rw[<-hW4];exact P3.out.other (by have:=HLP.out;simp;omega) _
    rw[hW4];clear hW4 l5 lf p0 p5 p6;go_wp2
    go_roundg (q.tz.toNat -(k2+1))
    case measure=>omega
    exact⟨k2+1,by omega,by omega,by omega,by go_num,G4.out,Y4.out,L4.out,P4.out⟩
   have HONE:Hid (qF q k2=⟨true,q.rd,q.wr,q.sh,q.file,0⟩):=show _=_ by
    unfold qF;rw[if_neg hfile]
   have L4:Hid (Box W3 (w.heap.size+1) (zt (tab (zfQ l kk q (k2+1))))):=show Box _ _ _ by rw[<-HST.out,HONE.out];exact L3.out
   go_wp2
   go_roundg (q.tz.toNat -(k2+1))
   case measure=>omega
   exact⟨k2+1,by omega,by omega,by omega,by go_num,G3.out,Y3.out,L4.out,P3.out⟩
  have hke:(k2:Int)=q.tz:=by omega
  have LE:Hid (Box wr (w.heap.size+1) (zt (tab (zH (l.take (kk+1)))))):=show Box _ _ _ by rw[<-ziS HOK.out HQ.out hke];exact LW2.out
  go_wp2
  go_roundg (n -(kk+1))
  case measure=>omega
  exact⟨kk+1,by omega,by omega,by go_num,BW2.out,YW2.out,LE.out⟩
 have hltz:¬(kk:Int)< (n:Int):=by omega
 have:kk=n:=by omega
 subst this;have LE:Hid (Box wr (w.heap.size+1) C):=show Box _ _ _ by rw[<-HC.out];have:=LW.out;rw[<-HN.out,List.take_length]at this;exact this
 have HFL:Hid (C.length=384):=show _=_ by rw[<-HC.out,jk]
 have HFO:Hid (∀v∈C,v.oneCell'=true):=show∀v∈C,_ by rw[<-HC.out];exact Qr _
 go_wp2_with (first | refine zG rfl 62 (.tmp 3) rfl (w.heap.size+1) rfl LE.out Tryz.underlying62 rfl (by rw[HFL.out];exact zlm) ?_ | refine zQ rfl 62 (.tmp 2) (.tmp 46) rfl w.heap.size rfl C rfl YW.out (by rw[HFL.out,HZL.out]) (by rw[HZL.out];exact zlm) HFO.out ?_)
 intro W3 b3 g3 s3;have G3:Hid (zc w W3):=show zc _ _ from zg BW.out g3 (by simp)
 have B3:Hid (Box W3 w.heap.size C):=b3;clear b3 g3 s3;go_wp2;refine bodyPost_ret (zW rfl _ rfl B3.out Tryz.underlying62 rfl (by rw[HFL.out];exact zlm)) rfl ⟨rfl,G3.out⟩
theorem ziD {f:Nat->On} {k:Nat} (h:(f k).is=true):zky f k=⟨k,(k:Int)+1,(f k).rd,(f k).wr,(f k).sh,(f k).file,(f k).page⟩:=by
 unfold zky JN;rw[if_pos h]
theorem zkE (x y:On):ziH ⟨y.is,y.rd,y.wr,y.sh,y.file,if 0<=x.file then y.page+1 else y.page⟩ x=goJ x y:=by
 unfold ziH goJ;have hd:∀x y:Int,(x == y)=decide (x=y):=fun x y=>rfl
 simp only[hd]
theorem zaP (f:Nat->On) (w:World) (hg:zeD f):
  Calls Tryz.prog 142 #[.agg (zt (tab f)).toArray] w fun e w'=>(∃v,e= .returned v/\zb arE (w.heap.size+1) w' v (jZ f))/\zc w w':=by
 have HGD:Hid (zeD f):=hg;clear hg;have HCL:Hid ((zt (tab f)).length=384):=jk _;obtain⟨W0,hW0⟩:∃W0,w.alloc (.cells (zt (tab f)).toArray 62)=W0:=⟨_,rfl⟩;have HG0:=gA hW0
 have X0:=xA hW0
 have HS0:=sA hW0
 have HW0:Hid (_=W0):=hW0;clear hW0
 go_enter Tryz.func142,Tryz.ntmps142
 go_upto_region 1 with fail;rw[HW0.out]
 go_wp2_with (refine zG rfl 62 (.tmp 1) rfl w.heap.size rfl X0.out Tryz.underlying62 rfl (by rw[HCL.out];exact zlm) ?_)
 go_loopg [3,9] 64 (fun gg s3 s9 wr=>∃(kk:Nat) (acc:List Ar) (xa:Option Addr) (xc:Nat),kk<=64/\64 - kk<=gg/\s9= .int .i64 kk/\s3= .slice xa acc.length xc/\Hid (zc W0 wr)/\Hid (zb arE (w.heap.size+1) wr (.slice xa acc.length xc) acc)/\Hid (J f kk acc))
 case atStart=>exact⟨0,[],none,0,nZ _,by omega,rfl,rfl,zc.refl _,zb.nil _ _ _,J.zero f⟩
 obtain⟨kk,acc,xa,xc,hkk,hgg,rfl,rfl,BW,OW,JW⟩:=hrel
 by_cases hlt:kk<64
 ·have hltz:(kk:Int)<64:=by omega
  have HLEN:Hid (acc.length<=kk):=JW.out.len;have XW:=dD (X0.out.grew BW.out);obtain⟨p,HP⟩:∃p,Hid (wr.heap.size=p):=⟨_,rfl⟩;have HPW:Hid (wr.heap.size<=p):=show _<=_ by rw[HP.out];exact nR _
  cases hs:(f kk).is with
  | false=>
   have HIV:Hid (Value.agg (onv (f kk)).toArray= .agg #[.bool false,.bool (f kk).rd,.bool (f kk).wr,.bool (f kk).sh,.int .i64 (f kk).file,.int .i64 (f kk).page]):=show _=_ by rw[<-hs];rfl
   have J2:Hid (J f (kk+1) acc):=JW.out.skip ((HGD.out kk hlt).1 hs);clear hs
   go_wp2_with (refine zcJ rfl (.tmp 8) (.tmp 9) rfl f rfl kk rfl hlt HIV.out ?_)
   go_roundg (64 -(kk+1))
   case measure=>omega
   exact⟨kk+1,acc,xa,xc,by omega,by omega,by go_num,rfl,BW.out.trans (za _ _),OW.out.grew (za _ _),J2.out⟩
  | true=>
   have HS:Hid ((f kk).is=true):=hs;have HPF:Hid (JN kk (f kk)=⟨kk,(kk:Int)+1,(f kk).rd,(f kk).wr,(f kk).sh,(f kk).file,(f kk).page⟩):=ziD hs;have HNEW:Hid ((∀b,acc.getLast? =some b->goB (JN kk (f kk)) b=false)->J f (kk+1) (acc++ [JN kk (f kk)])):=fun h=>JW.out.new HGD.out hlt HS.out h
   have HEXT:Hid (∀i b,acc=i++ [b]->goB (JN kk (f kk)) b=true->J f (kk+1) (i++ [{ b with tz:=(kk:Int)+1 }])):=fun i b h1 h2=>by
    have:=JW.out;rw[h1]at this;exact this.ext HGD.out hlt HS.out h2
   have HIV:Hid (Value.agg (onv (f kk)).toArray= .agg #[.bool true,.bool (f kk).rd,.bool (f kk).wr,.bool (f kk).sh,.int .i64 (f kk).file,.int .i64 (f kk).page]):=show _=_ by rw[<-hs];rfl
   clear hs;obtain⟨x,HX⟩:∃x,Hid (f kk=x):=⟨_,rfl⟩;rw[HX.out]at HIV;have HIV2:Hid (Value.agg (onv (f kk)).toArray= .agg #[.bool true,.bool x.rd,.bool x.wr,.bool x.sh,.int .i64 x.file,.int .i64 x.page]):=show _=_ by rw[HX.out];exact HIV.out
   go_upto_region 5 with(refine zcJ rfl (.tmp 8) (.tmp 9) rfl f rfl kk rfl hlt HIV2.out ?_)
   obtain⟨W1,hW1⟩:∃W1,wr.alloc (.cells #[.bool true,.bool x.rd,.bool x.wr,.bool x.sh,.int .i64 x.file,.int .i64 x.page] 61)=W1:=⟨_,rfl⟩;have G1:=gT hW1 BW
   have O1:Hid (zb arE (w.heap.size+1) W1 (.slice xa acc.length xc) acc):=show zb _ _ _ _ _ by rw[<-hW1];exact OW.out.grew (za _ _)
   have P1:=xP hW1 HP
   have X1:=yA hW1 XW
   rw[hW1,HP.out];clear hW1 HP;have p0:=P1.out.c 0 rfl
   cases kk with
   | zero=>
    have HNIL:Hid (acc=[]):=JW.out.first;have J2:Hid (J f (0+1) (acc++ [⟨((0:Nat):Int),((0:Nat):Int)+1,x.rd,x.wr,x.sh,x.file,x.page⟩])):=show J _ _ _ by
     have:=HNEW.out (fun b hb=>by rw[HNIL.out]at hb;cases hb)
     rw[HPF.out,HX.out]at this;exact this
    go_upto_region 14 with fail;clear p0;have HSZ:Hid (w.heap.size+1<=W1.heap.size):=show _<=_ by rw[<-HS0.out];exact bS G1.out
    have p1:=P1.out.c 1 rfl;have p2:=P1.out.c 2 rfl;have p3:=P1.out.c 3 rfl;have p4:=P1.out.c 4 rfl;have p5:=P1.out.c 5 rfl
    go_wp2_with (at_builtin;refine zB (E:=arE) rfl (.tmp 41) (.tmp 56) rfl (w.heap.size+1) _ acc rfl (O1.out.grew (za _ _)) _ [⟨((0:Nat):Int),((0:Nat):Int)+1,x.rd,x.wr,x.sh,x.file,x.page⟩] rfl (jT arE W1 ⟨((0:Nat):Int),((0:Nat):Int)+1,x.rd,x.wr,x.sh,x.file,x.page⟩ _ _ rfl (by show 40<=_;omega)) ?qb ?qc ?_)
    case qb=>
     show(acc.length+1)*40<=_
     have:=HLEN.out;omega
    case qc=>first | exact HSZ.out | exact nT HSZ.out (Nat.le_succ _) | (have:=HSZ.out;omega) | (simp;have:=HSZ.out;omega)
    intro vn Wn own grn;obtain⟨xan,xcn,rfl⟩:=own.form;have On':Hid (zb arE (w.heap.size+1) Wn (.slice xan (acc++ [(⟨((0:Nat):Int),((0:Nat):Int)+1,x.rd,x.wr,x.sh,x.file,x.page⟩:Ar)]).length xcn) (acc++ [⟨((0:Nat):Int),((0:Nat):Int)+1,x.rd,x.wr,x.sh,x.file,x.page⟩])):=own;have Gn:Hid (zc W0 Wn):=show zc _ _ from qV (G1.out.trans (za _ _)) grn (fun g hg=>by
     have h1:=(O1.out.lt g hg).1;rw[HS0.out];exact h1)
    have Xn:=dD (X0.out.grew Gn.out);clear own grn p1 p2 p3 p4 p5;go_wp2
    go_roundg (64 -(0+1))
    case measure=>omega
    exact⟨0+1,acc++ [(⟨((0:Nat):Int),((0:Nat):Int)+1,x.rd,x.wr,x.sh,x.file,x.page⟩:Ar)],xan,xcn,by omega,by omega,by go_num,rfl,Gn.out,On'.out,J2.out⟩
   | succ j=>
    have hj64:j<64:=by omega
    have hj64z:(j:Int)<64:=by omega
    have hjz:(0:Int)< ((j+1:Nat):Int):=by omega
    have hj1:((j+1:Nat):Int) - 1=(j:Int):=by omega
    have HGO:=JW.out.go HS.out;obtain⟨y,HY⟩:∃y,Hid (f j=y):=⟨_,rfl⟩;have hyp:0<=y.page/\y.page<=12:=by
     rw[<-HY.out];have h1:=HGD.out j hj64
     cases hq:(f j).is with
     | false=>rw[h1.1 hq];exact⟨by decide,by decide⟩
     | true=>
      have h2:=h1.2 hq;unfold jo JN at h2;rw[if_pos hq]at h2;simp only at h2
      rcases Int.lt_or_le (f j).file 0 with h | h
      ·omega
      omega
    obtain⟨hy0,hy1⟩:=hyp;have HYV:Hid (Value.agg (onv (f j)).toArray= .agg #[.bool y.is,.bool y.rd,.bool y.wr,.bool y.sh,.int .i64 y.file,.int .i64 y.page]):=show _=_ by rw[HY.out];rfl
    have HGJ:=zkE x y;rw[HX.out,HY.out]at HGO;have HGO':Hid _:=HGO;clear HGO;obtain⟨p7,HP7⟩:∃p7,Hid (W1.heap.size=p7):=⟨_,rfl⟩;have HPP:Hid (p<p7):=show _<_ by rw[<-HP7.out];exact P1.out.lt
    go_upto_region 9 with(refine zcg rfl (.tmp 20) rfl w.heap.size j hj64 rfl X1.out HYV.out ?_)
    clear p0;obtain⟨W2,hW2⟩:∃W2,W1.alloc (.cells #[.bool y.is,.bool y.rd,.bool y.wr,.bool y.sh,.int .i64 y.file,.int .i64 y.page] 61)=W2:=⟨_,rfl⟩;have G2:=gT hW2 G1
    have O2:Hid (zb arE (w.heap.size+1) W2 (.slice xa acc.length xc) acc):=show zb _ _ _ _ _ by rw[<-hW2];exact O1.out.grew (za _ _)
    have P2:=yA hW2 P1
    have Y2:=xPT hW2 HP7
    rw[hW2,HP7.out];clear hW2 HP7;have p4:=P2.out.c 4 rfl
    by_cases hfile:0<=x.file
    ·rw[if_pos hfile]at HGJ;have HQ:=fun W=>zkz y.is true y.rd x.rd y.wr x.wr y.sh x.sh y.file x.file (y.page+1) x.page W
     have HXT:Hid ((⟨true,x.rd,x.wr,x.sh,x.file,x.page⟩:On)=x):=show _=_ by
      have h:=HS.out;rw[HX.out]at h;rw[<-h]
     rw[HXT.out,HGJ]at HQ;clear HGJ;obtain⟨R,HR⟩:∃R,Hid (goJ x y=R):=⟨_,rfl⟩;rw[HR.out]at HQ HGO';have y5:=Y2.out.box.c 5 rfl;have yf:=Y2.out.box.f;go_upto_region 11 with fail;obtain⟨W3,hW3⟩:∃W3,W2.setCell ⟨p7,5,none⟩ (.int .i64 (y.page+1))=W3:=⟨_,rfl⟩;have HW0P:Hid (W0.heap.size<=p7):=show _<=_ by have h1:=HPP.out;have h2:=bS BW.out;have h3:=HPW.out;omega
     have G3:Hid (zc W0 W3):=show zc _ _ by rw[<-hW3];exact zD G2.out HW0P.out _
     have O3:Hid (zb arE (w.heap.size+1) W3 (.slice xa acc.length xc) acc):=show zb _ _ _ _ _ by rw[<-hW3];exact O2.out.setOther (fun g hg=>O2.out.ne Y2.out (by decide) g hg) _
     have P3:Hid (Box W3 p [.bool true,.bool x.rd,.bool x.wr,.bool x.sh,.int .i64 x.file,.int .i64 x.page]):=show Box _ _ _ by rw[<-hW3];exact P2.out.other (by have:=HPP.out;simp;omega) _
     have Y3:Hid (Box W3 p7 [.bool y.is,.bool y.rd,.bool y.wr,.bool y.sh,.int .i64 y.file,.int .i64 (y.page+1)]):=show Box _ _ _ by rw[<-hW3];exact Y2.out.box.set 5 _
     rw[hW3];clear hW3 y5 yf p4
     cases R with
     | true=>
      obtain⟨b,hlast,hgb⟩:=HGO'.out.1 rfl;have hacc:=zeO hlast;obtain⟨ini,hini⟩:∃ini,acc.dropLast=ini:=⟨_,rfl⟩;rw[hini]at hacc;have HACC:Hid (acc=ini++ [b]):=hacc;have J2:Hid (J f (j+1+1) (ini++ [{ b with tz:=((j+1:Nat):Int)+1 }])):=HEXT.out ini b hacc (by rw[HX.out];exact hgb)
      obtain⟨m,HM⟩:∃m,Hid (ini.length=m):=⟨_,rfl⟩;have HAL:Hid (acc.length=m+1):=show _=_ by rw[HACC.out,<-HM.out];simp
      have HBI:Hid (acc[m]? =some b):=show _=_ by rw[HACC.out,<-HM.out];simp
      obtain⟨g,xc',hxe⟩:=O3.out.formS (by rw[HAL.out];omega)
      cases hxe;have hmm:((m+1:Nat):Int) - 1=(m:Int):=by omega
      have hm0:(0:Int)<=(m:Int):=by omega
      have hmlt:(m:Int)< ((m+1:Nat):Int):=by omega
      have hmk:m+1<=64:=by have:=HLEN.out;rw[HAL.out]at this;omega
      clear hlast hgb hacc hini;rw[HAL.out]at O3⊢;have HSET:Hid (acc.set m { b with tz:=((j+1:Nat):Int)+1 }=ini++ [{ b with tz:=((j+1:Nat):Int)+1 }]):=show _=_ by rw[HACC.out,List.set_append_right _ _ (by rw[HM.out];exact nR _),HM.out,Nat.sub_self];rfl
      go_wp2_with (first | refine zG rfl 61 (.tmp 7) rfl p7 rfl Y3.out Tryz.underlying61 rfl zll ?_ | refine zG rfl 61 (.tmp 5) rfl p rfl P3.out Tryz.underlying61 rfl zll ?_ | refine zu (E:=arE) rfl (.tmp 40) (.tmp 38) 3 rfl (w.heap.size+1) (.slice (some ⟨g,0,none⟩) (m+1) xc) acc O3.out g m 1 rfl b { b with tz:=((j+1:Nat):Int)+1 } HBI.out [.int .i64 (((j+1:Nat):Int)+1)] (by kernel_rfl) rfl (Nat.le_of_ble_eq_true rfl) (by intro u hu;simp at hu;subst hu;rfl) _ rfl (by simp;rfl) _ rfl rfl ?_)
      intro W4 ow4 gr4 sz4;have HBG:=O3.out.lt g rfl;have G4:Hid (zc W0 W4):=show zc _ _ from zg G3.out gr4 (by rw[HS0.out];exact HBG.1)
      have HL4:Hid ((ini++ [({ b with tz:=((j+1:Nat):Int)+1 }:Ar)]).length=m+1):=show _=_ by simp[HM.out]
      have O4:Hid (zb arE (w.heap.size+1) W4 (.slice (some ⟨g,0,none⟩) (ini++ [({ b with tz:=((j+1:Nat):Int)+1 }:Ar)]).length xc) (ini++ [{ b with tz:=((j+1:Nat):Int)+1 }])):=show zb _ _ _ _ _ by rw[HL4.out,<-HSET.out];exact ow4
      clear ow4 gr4 sz4 HBG;rw[<-HL4.out];go_wp2
      go_roundg (64 -(j+1+1))
      case measure=>omega
      exact⟨j+1+1,ini++ [({ b with tz:=((j+1:Nat):Int)+1 }:Ar)],some ⟨g,0,none⟩,xc,by omega,by omega,by go_num,rfl,G4.out,O4.out,J2.out⟩
     | false=>
      have J2:Hid (J f (j+1+1) (acc++ [⟨((j+1:Nat)),(((j+1:Nat)):Int)+1,x.rd,x.wr,x.sh,x.file,x.page⟩])):=show J _ _ _ by
       have:=HNEW.out (fun b hb=>by rw[HX.out];exact HGO'.out.2 rfl b hb)
       rw[HPF.out,HX.out]at this;exact this
      go_upto_region 14 with(first | refine zG rfl 61 (.tmp 7) rfl p7 rfl Y3.out Tryz.underlying61 rfl zll ?_ | refine zG rfl 61 (.tmp 5) rfl p rfl P3.out Tryz.underlying61 rfl zll ?_)
      have HSZ:Hid (w.heap.size+1<=W3.heap.size):=show _<=_ by rw[<-HS0.out];exact bS G3.out
      have p1:=P3.out.c 1 rfl;have p2:=P3.out.c 2 rfl;have p3:=P3.out.c 3 rfl;have p4:=P3.out.c 4 rfl;have p5:=P3.out.c 5 rfl
      go_wp2_with (at_builtin;refine zB (E:=arE) rfl (.tmp 41) (.tmp 56) rfl (w.heap.size+1) _ acc rfl (O3.out.grew (za _ _)) _ [⟨((j+1:Nat):Int),((j+1:Nat):Int)+1,x.rd,x.wr,x.sh,x.file,x.page⟩] rfl (jT arE W3 ⟨((j+1:Nat):Int),((j+1:Nat):Int)+1,x.rd,x.wr,x.sh,x.file,x.page⟩ _ _ rfl (by show 40<=_;omega)) ?qb ?qc ?_)
      case qb=>
       show(acc.length+1)*40<=_
       have:=HLEN.out;omega
      case qc=>first | exact HSZ.out | exact nT HSZ.out (Nat.le_succ _) | (have:=HSZ.out;omega) | (simp;have:=HSZ.out;omega)
      intro vn Wn own grn;obtain⟨xan,xcn,rfl⟩:=own.form;have On':Hid (zb arE (w.heap.size+1) Wn (.slice xan (acc++ [(⟨((j+1:Nat):Int),((j+1:Nat):Int)+1,x.rd,x.wr,x.sh,x.file,x.page⟩:Ar)]).length xcn) (acc++ [⟨((j+1:Nat):Int),((j+1:Nat):Int)+1,x.rd,x.wr,x.sh,x.file,x.page⟩])):=own;have Gn:Hid (zc W0 Wn):=show zc _ _ from qV (G3.out.trans (za _ _)) grn (fun g hg=>by
       have h1:=(O3.out.lt g hg).1;rw[HS0.out];exact h1)
      have Xn:=dD (X0.out.grew Gn.out);clear own grn p1 p2 p3 p4 p5;go_wp2
      go_roundg (64 -((j+1)+1))
      case measure=>omega
      exact⟨(j+1)+1,acc++ [(⟨((j+1:Nat):Int),((j+1:Nat):Int)+1,x.rd,x.wr,x.sh,x.file,x.page⟩:Ar)],xan,xcn,by omega,by omega,by go_num,rfl,Gn.out,On'.out,J2.out⟩
    rw[if_neg hfile]at HGJ;have HQ:=fun W=>zkz y.is true y.rd x.rd y.wr x.wr y.sh x.sh y.file x.file y.page x.page W
    have HXT:Hid ((⟨true,x.rd,x.wr,x.sh,x.file,x.page⟩:On)=x):=show _=_ by
     have h:=HS.out;rw[HX.out]at h;rw[<-h]
    rw[HXT.out,HGJ]at HQ;clear HGJ;obtain⟨R,HR⟩:∃R,Hid (goJ x y=R):=⟨_,rfl⟩;rw[HR.out]at HQ HGO';go_upto_region 11 with fail;clear p4;have G3:Hid (zc W0 W2):=G2;have O3:Hid (zb arE (w.heap.size+1) W2 (.slice xa acc.length xc) acc):=O2;have P3:Hid (Box W2 p [.bool true,.bool x.rd,.bool x.wr,.bool x.sh,.int .i64 x.file,.int .i64 x.page]):=P2;have Y3:Hid (Box W2 p7 [.bool y.is,.bool y.rd,.bool y.wr,.bool y.sh,.int .i64 y.file,.int .i64 y.page]):=Y2.out.box;obtain⟨W3,hW3⟩:∃W3,W2=W3:=⟨_,rfl⟩;rw[hW3]at G3 O3 P3 Y3⊢;clear hW3
    cases R with
    | true=>
     obtain⟨b,hlast,hgb⟩:=HGO'.out.1 rfl;have hacc:=zeO hlast;obtain⟨ini,hini⟩:∃ini,acc.dropLast=ini:=⟨_,rfl⟩;rw[hini]at hacc;have HACC:Hid (acc=ini++ [b]):=hacc;have J2:Hid (J f (j+1+1) (ini++ [{ b with tz:=((j+1:Nat):Int)+1 }])):=HEXT.out ini b hacc (by rw[HX.out];exact hgb)
     obtain⟨m,HM⟩:∃m,Hid (ini.length=m):=⟨_,rfl⟩;have HAL:Hid (acc.length=m+1):=show _=_ by rw[HACC.out,<-HM.out];simp
     have HBI:Hid (acc[m]? =some b):=show _=_ by rw[HACC.out,<-HM.out];simp
     obtain⟨g,xc',hxe⟩:=O3.out.formS (by rw[HAL.out];omega)
     cases hxe;have hmm:((m+1:Nat):Int) - 1=(m:Int):=by omega
     have hm0:(0:Int)<=(m:Int):=by omega
     have hmlt:(m:Int)< ((m+1:Nat):Int):=by omega
     have hmk:m+1<=64:=by have:=HLEN.out;rw[HAL.out]at this;omega
     clear hlast hgb hacc hini;rw[HAL.out]at O3⊢;have HSET:Hid (acc.set m { b with tz:=((j+1:Nat):Int)+1 }=ini++ [{ b with tz:=((j+1:Nat):Int)+1 }]):=show _=_ by rw[HACC.out,List.set_append_right _ _ (by rw[HM.out];exact nR _),HM.out,Nat.sub_self];rfl
     go_wp2_with (first | refine zG rfl 61 (.tmp 7) rfl p7 rfl Y3.out Tryz.underlying61 rfl zll ?_ | refine zG rfl 61 (.tmp 5) rfl p rfl P3.out Tryz.underlying61 rfl zll ?_ | refine zu (E:=arE) rfl (.tmp 40) (.tmp 38) 3 rfl (w.heap.size+1) (.slice (some ⟨g,0,none⟩) (m+1) xc) acc O3.out g m 1 rfl b { b with tz:=((j+1:Nat):Int)+1 } HBI.out [.int .i64 (((j+1:Nat):Int)+1)] (by kernel_rfl) rfl (Nat.le_of_ble_eq_true rfl) (by intro u hu;simp at hu;subst hu;rfl) _ rfl (by simp;rfl) _ rfl rfl ?_)
     intro W4 ow4 gr4 sz4;have HBG:=O3.out.lt g rfl;have G4:Hid (zc W0 W4):=show zc _ _ from zg G3.out gr4 (by rw[HS0.out];exact HBG.1)
     have HL4:Hid ((ini++ [({ b with tz:=((j+1:Nat):Int)+1 }:Ar)]).length=m+1):=show _=_ by simp[HM.out]
     have O4:Hid (zb arE (w.heap.size+1) W4 (.slice (some ⟨g,0,none⟩) (ini++ [({ b with tz:=((j+1:Nat):Int)+1 }:Ar)]).length xc) (ini++ [{ b with tz:=((j+1:Nat):Int)+1 }])):=show zb _ _ _ _ _ by rw[HL4.out,<-HSET.out];exact ow4
     clear ow4 gr4 sz4 HBG;rw[<-HL4.out];go_wp2
     go_roundg (64 -(j+1+1))
     case measure=>omega
     exact⟨j+1+1,ini++ [({ b with tz:=((j+1:Nat):Int)+1 }:Ar)],some ⟨g,0,none⟩,xc,by omega,by omega,by go_num,rfl,G4.out,O4.out,J2.out⟩
    | false=>
     have J2:Hid (J f (j+1+1) (acc++ [⟨((j+1:Nat)),(((j+1:Nat)):Int)+1,x.rd,x.wr,x.sh,x.file,x.page⟩])):=show J _ _ _ by
      have:=HNEW.out (fun b hb=>by rw[HX.out];exact HGO'.out.2 rfl b hb)
      rw[HPF.out,HX.out]at this;exact this
     go_upto_region 14 with(first | refine zG rfl 61 (.tmp 7) rfl p7 rfl Y3.out Tryz.underlying61 rfl zll ?_ | refine zG rfl 61 (.tmp 5) rfl p rfl P3.out Tryz.underlying61 rfl zll ?_)
     have HSZ:Hid (w.heap.size+1<=W3.heap.size):=show _<=_ by rw[<-HS0.out];exact bS G3.out
     have p1:=P3.out.c 1 rfl;have p2:=P3.out.c 2 rfl;have p3:=P3.out.c 3 rfl;have p4:=P3.out.c 4 rfl;have p5:=P3.out.c 5 rfl
     go_wp2_with (at_builtin;refine zB (E:=arE) rfl (.tmp 41) (.tmp 56) rfl (w.heap.size+1) _ acc rfl (O3.out.grew (za _ _)) _ [⟨((j+1:Nat):Int),((j+1:Nat):Int)+1,x.rd,x.wr,x.sh,x.file,x.page⟩] rfl (jT arE W3 ⟨((j+1:Nat):Int),((j+1:Nat):Int)+1,x.rd,x.wr,x.sh,x.file,x.page⟩ _ _ rfl (by show 40<=_;omega)) ?qb ?qc ?_)
     case qb=>
      show(acc.length+1)*40<=_
      have:=HLEN.out;omega
     case qc=>first | exact HSZ.out | exact nT HSZ.out (Nat.le_succ _) | (have:=HSZ.out;omega) | (simp;have:=HSZ.out;omega)
     intro vn Wn own grn;obtain⟨xan,xcn,rfl⟩:=own.form;have On':Hid (zb arE (w.heap.size+1) Wn (.slice xan (acc++ [(⟨((j+1:Nat):Int),((j+1:Nat):Int)+1,x.rd,x.wr,x.sh,x.file,x.page⟩:Ar)]).length xcn) (acc++ [⟨((j+1:Nat):Int),((j+1:Nat):Int)+1,x.rd,x.wr,x.sh,x.file,x.page⟩])):=own;have Gn:Hid (zc W0 Wn):=show zc _ _ from qV (G3.out.trans (za _ _)) grn (fun g hg=>by
      have h1:=(O3.out.lt g hg).1;rw[HS0.out];exact h1)
     have Xn:=dD (X0.out.grew Gn.out);clear own grn p1 p2 p3 p4 p5;go_wp2
     go_roundg (64 -((j+1)+1))
     case measure=>omega
     exact⟨(j+1)+1,acc++ [(⟨((j+1:Nat):Int),((j+1:Nat):Int)+1,x.rd,x.wr,x.sh,x.file,x.page⟩:Ar)],xan,xcn,by omega,by omega,by go_num,rfl,Gn.out,On'.out,J2.out⟩
 have hltz:¬(kk:Int)<64:=by omega
 have:kk=64:=by omega
 subst this;have HE:Hid (acc=jZ f):=JW.out.all HGD.out;have OE:Hid (zb arE (w.heap.size+1) wr (.slice xa acc.length xc) (jZ f)):=show zb _ _ _ _ _ by rw[<-HE.out];exact OW.out
 have GE:=dD (HG0.out.trans BW.out);go_wp2;go_ret;exact⟨⟨_,rfl,OE.out⟩,GE.out⟩
theorem zgj (f:Nat->On) (w:World) (hg:zeD f):
  Calls Tryz.prog 133 #[.agg (zt (tab f)).toArray] w fun e w'=>(∃u,e= .returned (.tuple #[u,.int .i64 (zeA f).2])/\zb arE w.heap.size w' u (zeA f).1)/\zc w w':=by
 have HA:Hid (∀W,Calls Tryz.prog 142 #[.agg (zt (tab f)).toArray] W fun e w'=>(∃v,e= .returned v/\zb arE (W.heap.size+1) w' v (jZ f))/\zc W w'):=fun W=>zaP f W hg
 have HFW:Hid (¬16< (jZ f).length->zeA f=(jZ f,0)):=fun h=>by unfold zeA;rw[if_neg h]
 have HFM:Hid (16< (jZ f).length->zeA f=([],4)):=fun h=>by unfold zeA;rw[if_pos h]
 have HJS:Hid ((jZ f).length<=64):=(zbD hg).len;clear hg;obtain⟨FW,HFE⟩:∃FW,Hid (zeA f=FW):=⟨_,rfl⟩;simp only[HFE.out]at HFW HFM⊢;obtain⟨JL,HJL⟩:∃JL,Hid (jZ f=JL):=⟨_,rfl⟩;simp only[HJL.out]at HFW HFM HJS HA;clear HFE HJL;have HCL:Hid ((zt (tab f)).length=384):=jk _
 generalize zt (tab f)=C at HA HCL⊢
 obtain⟨W0,hW0⟩:∃W0,w.alloc (.cells C.toArray 62)=W0:=⟨_,rfl⟩;have HG0:=gA hW0
 have X0:=xA hW0
 have HW0:Hid (_=W0):=hW0;clear hW0
 go_enter Tryz.func133,Tryz.ntmps133
 go_upto_region 1 with fail;rw[HW0.out]
 go_wp2_with (refine zG rfl 62 (.tmp 1) rfl w.heap.size rfl X0.out Tryz.underlying62 rfl (by rw[HCL.out];exact zlm) ?_)
 refine(HA.out W0).mono ?_;rintro e W5 ⟨⟨u,rfl,ow5⟩,g5⟩;obtain⟨xa,xc,rfl⟩:=ow5.form;have G5:=dD (HG0.out.trans g5);have O5:Hid (zb arE w.heap.size W5 (.slice xa JL.length xc) JL):=ow5.base (nT (bS HG0.out) (Nat.le_succ _));clear g5 ow5;obtain⟨m,HM⟩:∃m,Hid (JL.length=m):=⟨_,rfl⟩;rw[HM.out]at HFW HFM HJS O5⊢;have hm64:m<=64:=HJS.out
 by_cases hmany:16<m
 ·have hmz:(16:Int)< (m:Int):=by omega
  have HR:Hid (FW=([],4)):=HFM.out hmany;go_wp2;refine bodyPost_ret (results_tmp2 rfl _ _ _) rfl ?_;rw[HR.out];exact⟨⟨_,rfl,zb.nil _ _ _⟩,G5.out⟩
 have hmz:¬(16:Int)< (m:Int):=by omega
 have HR:Hid (FW=(JL,0)):=HFW.out hmany;go_wp2;refine bodyPost_ret (results_tmp2 rfl _ _ _) rfl ?_;rw[HR.out];exact⟨⟨_,rfl,O5.out⟩,G5.out⟩
theorem zio {b a:Ar} (hb:jo b) (ha:jo a):zeD (zH [b,a]):=fun k _=>⟨zc2,fun h1=>by
 obtain⟨i,c,h2,h3,h4⟩:=Qk h1;rw[h4];have:c=b\/c=a:=by simpa using mG h2
 rcases this with e | e <;> subst e
 ·exact Jw hb h3
 exact Jw ha h3⟩
theorem zjL {w:World} {ad:Addr} {n c j:Nat} {l:List Ar} {b q:Ar} (h:zo arE w (.slice (some ad) n c) l) (hb:l[j]? =some b) (hq:l[j+1]? =some q):zo arE w (.slice (some (ad.add (j*7))) 2 (c - j)) [b,q]:=by
 obtain⟨⟨a',c',h1,h2,h3⟩,h4⟩:=h;cases h1;refine⟨⟨some (ad.add (j*7)),c - j,rfl,fun h=>(by cases h),fun x hx k u hu=>?_⟩,by show 2*40<=_;omega⟩
 cases hx;rw[zP];refine h3 ad rfl (j*7+k) u ?_;have hu':(arv b++arv q)[k]? =some u:=by simpa [arE]using hu
 by_cases hk:k<7
 ·rw[List.getElem?_append_left (by simpa [arv]using hk)]at hu'
  exact qr (enc:=arv) (k:=7) l j b (fun _ _=>rfl) hb k u hu'
 rw[aR (by simp[arv];omega)]at hu'
 have:=qr (enc:=arv) (k:=7) l (j+1) q (fun _ _=>rfl) hq (k - 7) u (by simpa [arv]using hu')
 rw[show(j+1)*7+(k - 7)=j*7+k by omega]at this
 exact this
theorem zgg {w:World} {ad:Addr} {n c j:Nat} (hj:j+2<=c):(Instr.sliceAt 50 (.slice (some ad) n c) (some (.int .i64 (j:Int))) (some (.int .i64 ((j:Int)+1+1))) none).run Tryz.prog w= .ok (.slice (some (ad.add (j*7))) 2 (c - j)) w:=by
 have hs:(Go.sizeOf 114).run Tryz.prog w= .ok 7 w:=by
  obtain⟨i0,h1,h2⟩:∃i0,Tryz.prog.info? 114=some i0/\i0.size=7:=by
   have:=zlj
   cases hq:Tryz.prog.info? 114 with
   | none=>rw[hq]at this;cases this
   | some i0=>rw[hq]at this;exact⟨i0,rfl,by simpa using this⟩
  simp[Go.sizeOf,typeInfo,h1,h2]
 have h1:(0:Int)<=(j:Int)+1+1/\(j:Int)+1+1<=(c:Int):=by omega
 have h2:((j:Int)+1+1).toNat=j+2:=by omega
 have h3:(0:Int)<=(j:Int)/\(j:Int)<=((j+2:Nat):Int):=by omega
 have h4:¬c=j:=by omega
 simp only[Instr.sliceAt,Instr.slice,Instr.sliceBounds,Instr.sliceBound,asIntOf,Sem.run_bind,Sem.run_pure,rA,run_underlying Tryz.underlying50];rw[if_pos h1];simp only[Sem.run_pure,rA,h2];rw[if_pos h3];simp only[Sem.run_pure,rA,hs,tN,if_neg h4,Option.map_some]
 congr 2
 omega
theorem JK (v:Value) (l:List Ar) (w:World) (hv:zo arE w v l) (hcap:Cap v):
  Calls Tryz.prog 97 #[v] w fun e w'=>e= .returned (.agg #[.int .i64 (wrL l).1,.int .i64 (wrL l).2])/\zc w w':=by
 have hbig:=hv.short;obtain⟨a,c,rfl,hrow⟩:=hv.ars;have HR':Hid (zbX w a l):=hrow;have hwa:Hid (∀(q:Ar) W,Calls Tryz.prog 132 #[.agg #[.int .i64 q.fr,.int .i64 q.tz,.bool q.rd,.bool q.wr,.bool q.sh,.int .i64 q.file,.int .i64 q.base]] W fun e w'=>e= .returned (.int .i64 (arW q))/\zc W w'):=fun q W=>QQ q W
 have HV:Hid (zo arE w (.slice a l.length c) l):=hv;have hcp:l.length<=c:=hcap;have h1:Hid (∀(b q:Ar) v W,zo arE W v [b,q]->jo b->jo q->b.tz<=q.fr->Calls Tryz.prog 23 #[v] W fun e w'=>e= .returned (.agg (zt (tab (zH [b,q]))).toArray)/\zc W w'):=fun b q v W hv hb hq hf=>jS v [b,q] W hv (ziX hb hq hf)
 have h2:Hid (∀(b q:Ar) W,jo b->jo q->b.tz<=q.fr->Calls Tryz.prog 142 #[.agg (zt (tab (zH [b,q]))).toArray] W fun e w'=>(∃xa xc,e= .returned (.slice xa (jZ (zH [b,q])).length xc))/\zc W w'):=fun b q W hb hq hf=>(zaP (zH [b,q]) W (zio hb hq)).mono (by
  rintro e w' ⟨⟨v,rfl,ow⟩,g⟩;obtain⟨xa,xc,rfl⟩:=ow.form;exact⟨⟨xa,xc,rfl⟩,g⟩)
 clear hrow hv hcap;have HST:Hid (¬16<l.length->Js (jN l 0) (l.drop 0) 0=wrL l):=zdw;have HMA:Hid (16<l.length->wrL l=(4,0)):=fun h=>by unfold wrL;rw[if_pos h]
 have HEND:Hid (∀r,Js (jN l l.length) (l.drop l.length) l.length=r->r=(0,0)):=fun r=>zg2
 obtain⟨n,HN⟩:∃n,Hid (l.length=n):=⟨_,rfl⟩;rw[HN.out]at hbig hcp HV⊢;have HST':Hid (¬16<n->Js (jN l 0) (l.drop 0) 0=wrL l):=show _->_ by rw[<-HN.out];exact HST.out
 have HMA':Hid (16<n->wrL l=(4,0)):=show _->_ by rw[<-HN.out];exact HMA.out
 have HEND':Hid (∀r,Js (jN l n) (l.drop n) n=r->r=(0,0)):=show∀r,_ by rw[<-HN.out];exact HEND.out
 clear HST HMA HEND
 generalize hA:wrL l=ANS at HST' HMA'⊢
 clear hA;obtain⟨W0,hW0⟩:∃W0,w.alloc (.cells #[.int .i64 0,.int .i64 0] 163)=W0:=⟨_,rfl⟩;have HG0:=gA hW0
 have X0:=xA hW0
 have HW0:Hid (_=W0):=hW0;clear hW0
 by_cases hmany:16<n
 ·have HR:Hid (ANS=(4,0)):=HMA'.out hmany;have hmz:(16:Int)< (n:Int):=by omega
  go_enter Tryz.func97,Tryz.ntmps97
  go_upto_region 1 with fail;rw[HW0.out];have f0:=X0.out.c 0 rfl;have f1:=X0.out.c 1 rfl;have ff:=X0.out.f;have RB:Hid (Box ((W0.setCell ⟨w.heap.size,0,none⟩ (.int .i64 4)).setCell ⟨w.heap.size,1,none⟩ (.int .i64 0)) w.heap.size [.int .i64 4,.int .i64 0]):=show Box _ _ _ from(X0.out.set 0 _).set 1 _
  have RG:Hid (zc w ((W0.setCell ⟨w.heap.size,0,none⟩ (.int .i64 4)).setCell ⟨w.heap.size,1,none⟩ (.int .i64 0))):=show zc _ _ from zD (zD HG0.out (by simp) _) (by simp) _
  go_wp2;refine bodyPost_ret (zW (vs:=[.int .i64 4,.int .i64 0]) rfl _ rfl RB.out Tryz.underlying163 rfl zlk) rfl ⟨?_,RG.out⟩;rw[HR.out]
 have hmz:¬(16:Int)< (n:Int):=by omega
 have HI:Hid (Js (jN l 0) (l.drop 0) 0=ANS):=HST'.out hmany
 go_enter Tryz.func97,Tryz.ntmps97
 go_upto_region 1 with fail;rw[HW0.out];go_wp2
 go_loopg [12] n (fun gg s12 wr=>∃kk:Nat,kk<=n/\n - kk<=gg/\s12= .int .i64 kk/\Hid (zc w wr)/\Hid (Box wr w.heap.size [.int .i64 0,.int .i64 0])/\Hid (Js (jN l kk) (l.drop kk) kk=ANS)/\Hid (∀(j:Nat) q,j<kk->l[j]? =some q->jo q))
 case atStart=>exact⟨0,nZ _,by omega,rfl,HG0.out,X0.out,HI.out,fun j q hj=>absurd hj (nL _)⟩
 obtain⟨kk,hkk,hg,rfl,BW,FW,IW,OW⟩:=hrel
 by_cases hlt:kk<n
 ·have hltz:(kk:Int)< (n:Int):=by omega
  obtain⟨q,HQ⟩:∃q,Hid (l[kk]? =some q):=⟨_,gE (by rw[HN.out];exact hlt)⟩
  obtain⟨ad,rfl,hl⟩:=HR'.out kk q HQ.out;obtain⟨d0,d1,d2,d3,d4,d5,d6⟩:=hl wr BW.out;have HL:Hid (w.heap.size<wr.heap.size):=FW.out.lt;obtain⟨p,HP⟩:∃p,Hid (wr.heap.size=p):=⟨_,rfl⟩;have HLP:Hid (w.heap.size<p):=show _<_ by rw[<-HP.out];exact HL.out
  clear hl HL;go_upto_region 6 with fail;obtain⟨W1,hW1⟩:∃W1,wr.alloc (.cells #[.int .i64 q.fr,.int .i64 q.tz,.bool q.rd,.bool q.wr,.bool q.sh,.int .i64 q.file,.int .i64 q.base] 114)=W1:=⟨_,rfl⟩;have G1:=gT hW1 BW
  have F1:=yA hW1 FW
  have P1:=xP hW1 HP
  rw[hW1,HP.out];clear hW1 d0 d1 d2 d3 d4 d5 d6
  go_wp2_with (refine zG rfl 114 (.tmp 4) rfl p rfl P1.out Tryz.underlying114 rfl zlj ?_)
  refine(hwa.out q _).mono ?_;rintro e W2 ⟨rfl,g2⟩;have G2:=dD (G1.out.trans g2);have F2:=dD (F1.out.grew g2);have P2:=dD (P1.out.grew g2);clear g2;have hpne:p≠w.heap.size:=by have:=HLP.out;omega
  have hpne':w.heap.size≠p:=by have:=HLP.out;omega
  by_cases hz:arW q=0
  ·have HZ:Hid (arW q=0):=hz;have hzb:(arW q != 0)=false:=by simp[hz]
   have HOK:Hid (jo q):=Zj.1 hz;have OW':Hid (∀(j:Nat) x,j<kk+1->l[j]? =some x->jo x):=show∀(j:Nat) x,_ from fun j x hj hx=>by
    by_cases e:j=kk
    ·subst e;rw[HQ.out]at hx;cases hx;exact HOK.out
    exact OW.out j x (by omega) hx
   clear hz;go_upto_region 9 with fail
   generalize arW q=zq
   cases kk with
   | zero=>
    have HNX:Hid (Js (jN l 1) (l.drop 1) 1=ANS):=zdv IW.out HQ.out HZ.out;have hz0:¬(0:Int)< ((0:Nat):Int):=by decide
    have hz1:decide ((0:Int)< ((0:Nat):Int))=false:=by decide
    go_quiet (fail);go_wp2
    go_roundg (n - 1)
    case measure=>omega
    exact⟨1,by omega,by omega,by go_num,G2.out.trans (show Below _ _ _ from bD (bR _ _) _),F2.out.grew (show Below _ _ _ from bD (bR _ _) _),HNX.out,OW'.out⟩
   | succ j=>
    obtain⟨b,HB⟩:∃b,Hid (l[j]? =some b):=⟨_,gE (by rw[HN.out];omega)⟩
    have HBK:Hid (jo b):=OW.out j b (by omega) HB.out
    have hz0:(0:Int)< ((j+1:Nat):Int):=by omega
    have hz1:decide ((0:Int)< ((j+1:Nat):Int))=true:=by simp
    have hj1:((j+1:Nat):Int) - 1=(j:Int):=by omega
    have hjn:(j:Int)< (n:Int):=by omega
    obtain⟨ad',had,hl⟩:=HR'.out j b HB.out;obtain rfl:ad=ad':=by cases had;rfl
    by_cases hc:q.fr<b.tz
    ·have HR:Hid (ANS=(2,((j+1:Nat):Int))):=za6 IW.out HB.out HQ.out HZ.out (.inl hc);have hcd:decide (q.fr<b.tz)=true:=by simpa using hc
     obtain⟨e0,e1,e2,e3,e4,e5,e6⟩:=hl W2 G2.out;have p0:=P2.out.c 0 rfl;clear hl;go_quiet (fail);obtain⟨W3,hW3⟩:∃W3,W2.drewN nq=W3:=⟨_,rfl⟩;have G3:Hid (zc w W3):=show zc _ _ by rw[<-hW3];exact G2.out.trans (show Below _ _ _ from bD (bR _ _) _)
     have F3:Hid (Box W3 w.heap.size [.int .i64 0,.int .i64 0]):=show Box _ _ _ by rw[<-hW3];exact F2.out.grew (show Below _ _ _ from bD (bR _ _) _)
     rw[hW3];clear hW3 e0 e1 e2 e3 e4 e5 e6 p0;have f0:=F3.out.c 0 rfl;have f1:=F3.out.c 1 rfl;have ff:=F3.out.f;have RB:Hid (Box ((W3.setCell ⟨w.heap.size,0,none⟩ (.int .i64 2)).setCell ⟨w.heap.size,1,none⟩ (.int .i64 ((j+1:Nat):Int))) w.heap.size [.int .i64 2,.int .i64 ((j+1:Nat):Int)]):=show Box _ _ _ from(F3.out.set 0 _).set 1 _
     have RG:Hid (zc w ((W3.setCell ⟨w.heap.size,0,none⟩ (.int .i64 2)).setCell ⟨w.heap.size,1,none⟩ (.int .i64 ((j+1:Nat):Int)))):=show zc _ _ from zD (zD G3.out (by simp) _) (by simp) _
     go_wp2;refine bodyPost_ret (zW (vs:=[.int .i64 2,.int .i64 ((j+1:Nat):Int)]) rfl _ rfl RB.out Tryz.underlying163 rfl zlk) rfl ⟨?_,RG.out⟩;rw[HR.out]
    have hcd:decide (q.fr<b.tz)=false:=by simpa using hc
    have HC:Hid (¬q.fr<b.tz):=hc;have hx0:=P2.out.gw 0 rfl
    have hx1:=P2.out.gw 1 rfl
    have hx2:=P2.out.gw 2 rfl
    have hx3:=P2.out.gw 3 rfl
    have hx4:=P2.out.gw 4 rfl
    have hx5:=P2.out.gw 5 rfl
    have hx6:=P2.out.gw 6 rfl
    have hy0:∀y:zx W2,y.world.cell? (ad.add (j*7))=some (.int .i64 b.fr):=fun y=>(hl _ (G2.out.trans y.grew)).1
    have hy1:∀y:zx W2,y.world.cell? { block:=(ad.add (j*7)).block,off:=(ad.add (j*7)).off+1 }=some (.int .i64 b.tz):=fun y=>(hl _ (G2.out.trans y.grew)).2.1
    have hy2:∀y:zx W2,y.world.cell? { block:=(ad.add (j*7)).block,off:=(ad.add (j*7)).off+2 }=some (.bool b.rd):=fun y=>(hl _ (G2.out.trans y.grew)).2.2.1
    have hy3:∀y:zx W2,y.world.cell? { block:=(ad.add (j*7)).block,off:=(ad.add (j*7)).off+3 }=some (.bool b.wr):=fun y=>(hl _ (G2.out.trans y.grew)).2.2.2.1
    have hy4:∀y:zx W2,y.world.cell? { block:=(ad.add (j*7)).block,off:=(ad.add (j*7)).off+4 }=some (.bool b.sh):=fun y=>(hl _ (G2.out.trans y.grew)).2.2.2.2.1
    have hy5:∀y:zx W2,y.world.cell? { block:=(ad.add (j*7)).block,off:=(ad.add (j*7)).off+5 }=some (.int .i64 b.file):=fun y=>(hl _ (G2.out.trans y.grew)).2.2.2.2.2.1
    have hy6:∀y:zx W2,y.world.cell? { block:=(ad.add (j*7)).block,off:=(ad.add (j*7)).off+6 }=some (.int .i64 b.base):=fun y=>(hl _ (G2.out.trans y.grew)).2.2.2.2.2.2
    have hne:Nonempty (zx W2):=⟨⟨_,zc.refl _⟩⟩;have HSL:Hid (∀W,zc w W->zo arE W (.slice (some (ad.add (j*7))) 2 (c - j)) [b,q]):=fun W hW=>zjL (HV.out.grew hW) HB.out HQ.out
    have hsl:=fun W=>zgg (w:=W) (ad:=ad) (n:=n) (c:=c) (j:=j) (by omega)
    obtain⟨M,HM⟩:∃M,Hid ((jZ (zH [b,q])).length=M):=⟨_,rfl⟩;have HTG:Hid (decide (M<2)=goB q b):=show _=_ by rw[<-HM.out];exact zks HBK.out HOK.out (by have:=HC.out;omega)
    have HF2:Hid (b.tz<=q.fr):=show _<=_ by have:=HC.out;omega
    clear hl;obtain⟨O2,HO2⟩:∃O2,Hid (zt (tab (zH [b,q]))=O2):=⟨_,rfl⟩;refine jX [(19,⟨fun v=>v= .agg O2.toArray,fun _ _=>True⟩),(20,⟨fun v=>∃xa xc,v= .slice xa M xc,fun _ _=>True⟩)] qy (by kernel_rfl) ?_ ?_ ?_
    ·intro x hx
     simp at hx
     rcases hx with rfl | rfl
     ·exact⟨_,rfl⟩
     exact⟨.slice none M 0,none,0,rfl⟩
    ·intro x hx
     simp at hx
     rcases hx with rfl | rfl
     ·exact fun _ _ _ _ h=>h
     exact fun _ _ _ _ h=>h
    iterate 19 (refine zm rfl rfl rfl (fun K hK=>?_);go_big_quiet_op;refine hK _ ?_;clear hK K)
    refine zM rfl rfl (fun w' hg hF=>?_) (fun v1 hv=>?_)
    ·refine zL.call [.slice (some (ad.add (j*7))) 2 (c - j)] rfl Tryz.func23 rfl rfl rfl ?_;refine(h1.out b q _ w' (HSL.out w' (G2.out.trans hg)) HBK.out HOK.out HF2.out).mono ?_;rintro e w'' ⟨rfl,hg2⟩;exact⟨_,rfl,hg2,by rw[HO2.out],trivial⟩
    subst hv;simp only[Act.put,sB,sS,sZ];refine zM rfl rfl (fun w' hg hF=>?_) (fun v1 hv=>?_)
    ·refine zL.call [.agg O2.toArray] rfl Tryz.func142 rfl rfl rfl ?_;rw[<-HO2.out];refine(h2.out b q w' HBK.out HOK.out HF2.out).mono ?_;rintro e w'' ⟨⟨xa,xc,rfl⟩,hg2⟩;exact⟨_,rfl,hg2,⟨xa,xc,by rw[HM.out]⟩,trivial⟩
    obtain⟨xa2,xc2,rfl⟩:=hv;simp only[Act.put,sB,sS,sZ];have hmz:decide ((M:Int)<2)=goB q b:=by rw[<-HTG.out];exact decide_eq_decide.2 (by omega)
    iterate 4 (refine zm rfl rfl rfl (fun K hK=>?_);go_big_quiet_op;refine hK _ ?_;clear hK K)
    refine qU fun W3 hg1 hF=>?_
    have G3:=dD (G2.out.trans hg1);have F3:=dD (F2.out.grew hg1);clear hmz hsl hg1 hF hx0 hx1 hx2 hx3 hx4 hx5 hx6 hy0 hy1 hy2 hy3 hy4 hy5 hy6 hne
    cases hgb:goB q b with
    | true=>
     have HR:Hid (ANS=(2,((j+1:Nat):Int))):=za6 IW.out HB.out HQ.out HZ.out (.inr hgb);clear hgb;have f0:=F3.out.c 0 rfl;have f1:=F3.out.c 1 rfl;have ff:=F3.out.f;have RB:Hid (Box ((W3.setCell ⟨w.heap.size,0,none⟩ (.int .i64 2)).setCell ⟨w.heap.size,1,none⟩ (.int .i64 ((j+1:Nat):Int))) w.heap.size [.int .i64 2,.int .i64 ((j+1:Nat):Int)]):=show Box _ _ _ from(F3.out.set 0 _).set 1 _
     have RG:Hid (zc w ((W3.setCell ⟨w.heap.size,0,none⟩ (.int .i64 2)).setCell ⟨w.heap.size,1,none⟩ (.int .i64 ((j+1:Nat):Int)))):=show zc _ _ from zD (zD G3.out (by simp) _) (by simp) _
     go_wp2;refine bodyPost_ret (zW (vs:=[.int .i64 2,.int .i64 ((j+1:Nat):Int)]) rfl _ rfl RB.out Tryz.underlying163 rfl zlk) rfl ⟨?_,RG.out⟩;rw[HR.out]
    | false=>
     have HNX:Hid (Js (jN l (j+1+1)) (l.drop (j+1+1)) (j+1+1)=ANS):=zfC IW.out HB.out HQ.out HZ.out HC.out hgb;clear hgb;go_wp2
     go_roundg (n -(j+1+1))
     case measure=>omega
     exact⟨j+1+1,by omega,by omega,by go_num,G3.out,F3.out,HNX.out,OW'.out⟩
  have HR:Hid (ANS=(arW q,(kk:Int))):=zg3 IW.out HQ.out hz;have hzb:(arW q != 0)=true:=by simp[hz]
  clear hz;have f0:=F2.out.c 0 rfl;have f1:=F2.out.c 1 rfl;have ff:=F2.out.f;have RB:Hid (Box ((W2.setCell ⟨w.heap.size,0,none⟩ (.int .i64 (arW q))).setCell ⟨w.heap.size,1,none⟩ (.int .i64 (kk:Int))) w.heap.size [.int .i64 (arW q),.int .i64 (kk:Int)]):=show Box _ _ _ from(F2.out.set 0 _).set 1 _
  have RG:Hid (zc w ((W2.setCell ⟨w.heap.size,0,none⟩ (.int .i64 (arW q))).setCell ⟨w.heap.size,1,none⟩ (.int .i64 (kk:Int)))):=show zc _ _ from zD (zD G2.out (by simp) _) (by simp) _
  go_wp2;refine bodyPost_ret (zW (vs:=[.int .i64 (arW q),.int .i64 (kk:Int)]) rfl _ rfl RB.out Tryz.underlying163 rfl zlk) rfl ⟨?_,RG.out⟩;rw[HR.out]
 have hltz:¬(kk:Int)< (n:Int):=by omega
 have:kk=n:=by omega
 subst this;have HR:Hid (ANS=(0,0)):=HEND'.out _ IW.out;have f0:=FW.out.c 0 rfl;have f1:=FW.out.c 1 rfl;have ff:=FW.out.f;have RB:Hid (Box ((wr.setCell ⟨w.heap.size,0,none⟩ (.int .i64 0)).setCell ⟨w.heap.size,1,none⟩ (.int .i64 0)) w.heap.size [.int .i64 0,.int .i64 0]):=show Box _ _ _ from(FW.out.set 0 _).set 1 _
 have RG:Hid (zc w ((wr.setCell ⟨w.heap.size,0,none⟩ (.int .i64 0)).setCell ⟨w.heap.size,1,none⟩ (.int .i64 0))):=show zc _ _ from zD (zD BW.out (by simp) _) (by simp) _
 go_wp2;refine bodyPost_ret (zW (vs:=[.int .i64 0,.int .i64 0]) rfl _ rfl RB.out Tryz.underlying163 rfl zlk) rfl ⟨?_,RG.out⟩;rw[HR.out]
theorem zL.allocOnes {o:Oper} {a:Act} {w:World} {K:Value->World->Prop} (ho:o.op= .alloc 62) (h:K (.pointer (some ⟨w.heap.size,0,none⟩)) (w.alloc (.cells (zt (tab fun _=>on0)).toArray 62))):zL Tryz.prog o a w K:=by
 have hz:=zac w
 generalize zt (tab fun _=>on0)=Z at hz h
 unfold zL;have:(execOp a.eval o).run Tryz.prog w= .ok (.value (.pointer (some ⟨w.heap.size,0,none⟩))) (w.alloc (.cells Z.toArray 62)):=by
  simp[execOp,ho,go_sem,hz]
 rw[this];exact h
theorem zL.oneArea {o:Oper} {a:Act} {w:World} {K:Value->World->Prop} (x:Operand) (ho:o.op= .buildSlice 50 1 #[(0,x)]) (q:Ar) (hx:a.eval x=arA q) (h:K (.slice (some ⟨w.heap.size,0,none⟩) 1 1) (w.alloc (.cells (arv q).toArray 114))):zL Tryz.prog o a w K:=by
 unfold zL;have:(execOp a.eval o).run Tryz.prog w= .ok (.value (.slice (some ⟨w.heap.size,0,none⟩) 1 1)) (w.alloc (.cells (arv q).toArray 114)):=by
  simp only[execOp,ho,List.map_toArray,mP,List.map_nil,hx]
  simp[go_sem,arA,arv]
 rw[this];exact h
theorem zL.val {o:Oper} {a:Act} {w:World} {K:Value->World->Prop} {v:Value} (hr:(execOp a.eval o).run Tryz.prog w= .ok (.value v) w) (h:K v w):zL Tryz.prog o a w K:=by
 unfold zL;rw[hr];exact h
theorem zhc {a:Act} {o:Oper} (x:Operand) (ho:o.op= .load 114 x) (b:Nat) (hx:a.eval x= .pointer (some ⟨b,0,none⟩)) {q:Ar} {w:World} (hb:Box w b (arv q)):(execOp a.eval o).run Tryz.prog w= .ok (.value (arA q)) w:=by
 have:=run_loadAt_mid (P:=Tryz.prog) w b 0 114 (arv q) _ hb.range Tryz.underlying114 rfl zlj;simp only[execOp,ho,hx,Sem.run_bind,this,rA,Sem.run_pure];rfl
def zd2:List Oper:=[
 { dst := some 23, op := .move (.tmp 0), type := 50, pos := "ref.go:325", after := #[], guard := none },
 { dst := some 24, op := .call { callee := .value (.func 23), args := #[.tmp 23], argTypes := #[50] }, type := 62, pos := "ref.go:325", after := #[{ on := 0, ground := .data }], guard := none },
 { dst := some 25, op := .load 114 (.tmp 3), type := 114, pos := "ref.go:325", after := #[], guard := none },
 { dst := some 26, op := .buildSlice 50 1 #[(0, .tmp 25)], type := 50, pos := "ref.go:325", after := #[{ on := 2, ground := .data }], guard := none },
 { dst := some 27, op := .call { callee := .value (.func 23), args := #[.tmp 26], argTypes := #[50] }, type := 62, pos := "ref.go:325", after := #[{ on := 3, ground := .data }, { on := 1, ground := .chain }], guard := none },
 { dst := some 8, op := .alloc 62, type := 0, pos := "ref.go:325", after := #[], guard := none },
 { dst := some 9, op := .alloc 62, type := 0, pos := "ref.go:325", after := #[], guard := none },
 { dst := none, op := .store 62 (.tmp 8) (.tmp 24), type := 0, pos := "ref.go:325", after := #[{ on := 5, ground := .data }, { on := 1, ground := .data }, { on := 4, ground := .chain }, { on := 0, ground := .phase }, { on := 1, ground := .phase }, { on := 2, ground := .textOnly .lateStores }, { on := 3, ground := .textOnly .lateStores }, { on := 4, ground := .textOnly .lateStoresUnsure }, { on := 5, ground := .phase }, { on := 6, ground := .phase }], guard := none },
 { dst := none, op := .store 62 (.tmp 9) (.tmp 27), type := 0, pos := "ref.go:325", after := #[{ on := 6, ground := .data }, { on := 4, ground := .data }, { on := 7, ground := .chain }, { on := 0, ground := .phase }, { on := 1, ground := .phase }, { on := 2, ground := .phase }, { on := 3, ground := .phase }, { on := 4, ground := .phase }, { on := 5, ground := .phase }, { on := 6, ground := .phase }, { on := 7, ground := .phase }], guard := none }]
theorem ziT:∀l0 l1 l2 l3 l4 l5 l6:Bool,(Region.ready .any zd2.toArray #[l0,l1,l2,l3,l4,l5,l6,false,false]).isEmpty=false\/(l4=true/\(l1=false\/l3=false))\/(l1=true/\l0=false)\/(l3=true/\l2=false):=by decide+kernel
theorem zhw:∀l0 l1 l2 l3 l4 l5 l6:Bool,(!((!l1 || l0) &&(!l3 || l2) &&(!l4 || (l1 && l3))) || (Region.ready .any zd2.toArray #[l0,l1,l2,l3,l4,l5,l6,false,false]).all fun i=>(i == 0 && !l0) || (i == 1 && !l1 && l0) || (i == 2 && !l2) || (i == 3 && !l3 && l2) || (i == 4 && !l4 && l1 && l3) || (i == 5 && !l5) || (i == 6 && !l6) || (i == 7 && l0 && l1 && l2 && l3 && l4 && l5 && l6))=true:=by decide+kernel
theorem ziU (l0 l1 l2 l3 l4 l5 l6:Bool) (i:Nat) (c1:l1=true->l0=true) (c3:l3=true->l2=true) (c4:l4=true->l1=true/\l3=true) (hi:i∈Region.ready .any zd2.toArray #[l0,l1,l2,l3,l4,l5,l6,false,false]):(i=0/\l0=false)\/(i=1/\l1=false/\l0=true)\/(i=2/\l2=false)\/(i=3/\l3=false/\l2=true)\/(i=4/\l4=false/\l1=true/\l3=true)\/(i=5/\l5=false)\/(i=6/\l6=false)\/(i=7/\l0=true/\l1=true/\l2=true/\l3=true/\l4=true/\l5=true/\l6=true):=by
 have hc:((!l1 || l0) &&(!l3 || l2) &&(!l4 || (l1 && l3)))=true:=by
  cases l0 <;> cases l1 <;> cases l2 <;> cases l3 <;> cases l4 <;> simp at c1 c3 c4⊢
 have hb:=zhw l0 l1 l2 l3 l4 l5 l6;rw[hc,Bool.not_true,Bool.false_or]at hb;have h:=List.all_eq_true.1 hb i hi
 simpa [and_assoc,or_assoc]using h
structure zf8 (W0:World) (v:Value) (q:Ar) (O1 O2 Z0:List Value) (l0 l1 l2 l3 l4 l5 l6:Bool) (t23 t24 t25 t26 t27 t8 t9:Value) (W:World):Prop where
 g:zc W0 W
 h0:l0=true->t23=v
 h1:l1=true->t24= .agg O1.toArray
 h2:l2=true->t25=arA q
 h3:l3=true->zo arE W t26 [q]
 h4:l4=true->t27= .agg O2.toArray
 h5:l5=true->∃b,t8= .pointer (some ⟨b,0,none⟩)/\Box W b Z0/\W0.heap.size<=b
 h6:l6=true->∃b,t9= .pointer (some ⟨b,0,none⟩)/\Box W b Z0/\W0.heap.size<=b
 ne:l5=true->l6=true->t8≠t9
 c1:l1=true->l0=true
 c3:l3=true->l2=true
 c4:l4=true->l1=true/\l3=true
section
variable{W0:World} {v:Value} {q:Ar} {O1 O2 Z0:List Value} {l0 l1 l2 l3 l4 l5 l6:Bool} {t23 t24 t25 t26 t27 t8 t9:Value} {W W':World}
theorem zf8.grew (h:zf8 W0 v q O1 O2 Z0 l0 l1 l2 l3 l4 l5 l6 t23 t24 t25 t26 t27 t8 t9 W) (k:zc W W'):zf8 W0 v q O1 O2 Z0 l0 l1 l2 l3 l4 l5 l6 t23 t24 t25 t26 t27 t8 t9 W':=
 ⟨h.g.trans k,h.h0,h.h1,h.h2,fun e=>(h.h3 e).grew k,h.h4,fun e=>by obtain⟨b,x,y,z⟩:=h.h5 e;exact⟨b,x,y.grew k,z⟩,fun e=>by obtain⟨b,x,y,z⟩:=h.h6 e;exact⟨b,x,y.grew k,z⟩,h.ne,h.c1,h.c3,h.c4⟩
def Qc (l0 l1 l2 l3 l4 l5 l6:Bool):Nat:=(!l0).toNat+(!l1).toNat+(!l2).toNat+(!l3).toNat+(!l4).toNat+(!l5).toNat+(!l6).toNat
theorem zgu {id:Nat} {Q:Exit->Act->World->Prop} {pa:Nat} {l:List Ar} (A:Value->Value->Value->Value->Value->Value->Value->Act)
  (e0:∀x23 x24 x25 x26 x27 x8 x9,(A x23 x24 x25 x26 x27 x8 x9).eval (.tmp 0)=v) (e3:∀x23 x24 x25 x26 x27 x8 x9,(A x23 x24 x25 x26 x27 x8 x9).eval (.tmp 3)= .pointer (some ⟨pa,0,none⟩))
  (e23:∀x23 x24 x25 x26 x27 x8 x9,(A x23 x24 x25 x26 x27 x8 x9).eval (.tmp 23)=x23) (e24:∀x23 x24 x25 x26 x27 x8 x9,(A x23 x24 x25 x26 x27 x8 x9).eval (.tmp 24)=x24) (e25:∀x23 x24 x25 x26 x27 x8 x9,(A x23 x24 x25 x26 x27 x8 x9).eval (.tmp 25)=x25) (e26:∀x23 x24 x25 x26 x27 x8 x9,(A x23 x24 x25 x26 x27 x8 x9).eval (.tmp 26)=x26) (e27:∀x23 x24 x25 x26 x27 x8 x9,(A x23 x24 x25 x26 x27 x8 x9).eval (.tmp 27)=x27) (e8:∀x23 x24 x25 x26 x27 x8 x9,(A x23 x24 x25 x26 x27 x8 x9).eval (.tmp 8)=x8) (e9:∀x23 x24 x25 x26 x27 x8 x9,(A x23 x24 x25 x26 x27 x8 x9).eval (.tmp 9)=x9)
  (p23:∀x23 x24 x25 x26 x27 x8 x9 y,(A x23 x24 x25 x26 x27 x8 x9).put (some 23) y=A y x24 x25 x26 x27 x8 x9) (p24:∀x23 x24 x25 x26 x27 x8 x9 y,(A x23 x24 x25 x26 x27 x8 x9).put (some 24) y=A x23 y x25 x26 x27 x8 x9) (p25:∀x23 x24 x25 x26 x27 x8 x9 y,(A x23 x24 x25 x26 x27 x8 x9).put (some 25) y=A x23 x24 y x26 x27 x8 x9) (p26:∀x23 x24 x25 x26 x27 x8 x9 y,(A x23 x24 x25 x26 x27 x8 x9).put (some 26) y=A x23 x24 x25 y x27 x8 x9) (p27:∀x23 x24 x25 x26 x27 x8 x9 y,(A x23 x24 x25 x26 x27 x8 x9).put (some 27) y=A x23 x24 x25 x26 y x8 x9) (p8:∀x23 x24 x25 x26 x27 x8 x9 y,(A x23 x24 x25 x26 x27 x8 x9).put (some 8) y=A x23 x24 x25 x26 x27 y x9) (p9:∀x23 x24 x25 x26 x27 x8 x9 y,(A x23 x24 x25 x26 x27 x8 x9).put (some 9) y=A x23 x24 x25 x26 x27 x8 y)
  (pn:∀x23 x24 x25 x26 x27 x8 x9 y,(A x23 x24 x25 x26 x27 x8 x9).put none y=A x23 x24 x25 x26 x27 x8 x9)
  (hv:zo arE W0 v l) (hl:zki l) (ha:jo q) (hb:Box W0 pa (arv q))
  (hQ:∀W b8 b9 x26,b8≠b9->zc W0 W->Box W b8 (zt (tab (zH l)))->Box W b9 (zt (tab (zH [q])))->W0.heap.size<=b8->W0.heap.size<=b9->Q .normal (A v (.agg (zt (tab (zH l))).toArray) (arA q) x26 (.agg (zt (tab (zH [q]))).toArray) (.pointer (some ⟨b8,0,none⟩)) (.pointer (some ⟨b9,0,none⟩))) W)
  (x23 x24 x25 x26 x27 x8 x9:Value):(Code.region id zd2.toArray true).wp Tryz.prog Q (A x23 x24 x25 x26 x27 x8 x9) W0:=by
 have hO1:(zt (tab (zH l))).length=384:=jk _;have hO2:(zt (tab (zH [q]))).length=384:=jk _;have hZ:(zt (tab fun _=>on0)).length=384:=jk _
 have hc1:∀W,zc W0 W->Calls Tryz.prog 23 #[v] W fun e w'=>e= .returned (.agg (zt (tab (zH l))).toArray)/\zc W w':=fun W hW=>jS v l W (hv.grew hW) hl
 have hc2:∀W u,zo arE W u [q]->Calls Tryz.prog 23 #[u] W fun e w'=>e= .returned (.agg (zt (tab (zH [q]))).toArray)/\zc W w':=fun W u hu=>jS u [q] W hu (ziY ha)
 have hn1:=Qr (tab (zH l));have hn2:=Qr (tab (zH [q]));have hal:∀W:World,Box (W.alloc (.cells (zt (tab fun _=>on0)).toArray 62)) W.heap.size (zt (tab fun _=>on0)):=fun W=>Box.top _ _ _ rfl
 generalize zt (tab (zH l))=O1 at*
 generalize zt (tab (zH [q]))=O2 at*
 have main:∀(n:Nat) (l0 l1 l2 l3 l4 l5 l6:Bool) (x23 x24 x25 x26 x27 x8 x9:Value) (W:World),Qc l0 l1 l2 l3 l4 l5 l6=n->zf8 W0 v q O1 O2 (zt (tab fun _=>on0)) l0 l1 l2 l3 l4 l5 l6 x23 x24 x25 x26 x27 x8 x9 W->wpAnyH Tryz.prog .any zd2.toArray Q (fun _=>True) (n+2) #[l0,l1,l2,l3,l4,l5,l6,false,false] (A x23 x24 x25 x26 x27 x8 x9) W:=by
  intro n
  induction n with
  | zero=>
   intro l0 l1 l2 l3 l4 l5 l6 x23 x24 x25 x26 x27 x8 x9 W hcnt inv;obtain⟨rfl,rfl,rfl,rfl,rfl,rfl,rfl⟩:l0=true/\l1=true/\l2=true/\l3=true/\l4=true/\l5=true/\l6=true:=by
    revert hcnt
    unfold Qc
    cases l0 <;> cases l1 <;> cases l2 <;> cases l3 <;> cases l4 <;> cases l5 <;> cases l6 <;> simp
   obtain⟨b8,rfl,hb8,hs8⟩:=inv.h5 rfl;obtain⟨b9,rfl,hb9,hs9⟩:=inv.h6 rfl;have hne:b8≠b9:=fun e=>inv.ne rfl rfl (by rw[e])
   obtain rfl:=inv.h0 rfl;obtain rfl:=inv.h1 rfl;obtain rfl:=inv.h2 rfl;obtain rfl:=inv.h4 rfl;refine wpAnyH_all (rs:=[7]) (by kernel_rfl) (by simp) ?_
   intro j hj;rw[List.mem_singleton]at hj;subst hj;refine jF none (fun _ w'=>Box w' b8 O1/\Box w' b9 (zt (tab fun _=>on0))/\zc W0 w') rfl rfl rfl (zL.storeAll 62 (.tmp 8) (.tmp 24) rfl b8 (e8 ..) O1 (e24 ..) hb8 (by rw[hO1,hZ]) (by rw[hZ];exact zlm) hn1 (fun w' b' g' s'=>⟨b',hb9.grown g' (fun e=>hne e.symm),zg inv.g g' hs8⟩)) ?_
   rintro y W1 ⟨h1,h2,h3⟩;rw[pn];refine⟨trivial,?_⟩;refine wpAnyH_all (rs:=[8]) (by kernel_rfl) (by simp) ?_
   intro j hj;rw[List.mem_singleton]at hj;subst hj;refine jF none (fun _ w'=>Box w' b8 O1/\Box w' b9 O2/\zc W0 w') rfl rfl rfl (zL.storeAll 62 (.tmp 9) (.tmp 27) rfl b9 (e9 ..) O2 (e27 ..) h2 (by rw[hO2,hZ]) (by rw[hZ];exact zlm) hn2 (fun w' b' g' s'=>⟨h1.grown g' hne,b',zg h3 g' hs9⟩)) ?_
   rintro y W2 ⟨h4,h5,h6⟩;rw[pn];refine⟨trivial,?_⟩;exact wpAnyH_done (by kernel_rfl) (hQ W2 b8 b9 _ hne h6 h4 h5 hs8 hs9) _
  | succ n ih=>
   intro l0 l1 l2 l3 l4 l5 l6 x23 x24 x25 x26 x27 x8 x9 W hcnt inv;refine⟨fun h0=>?_,fun i hi=>?_⟩
   ·rcases ziT l0 l1 l2 l3 l4 l5 l6 with h | ⟨h,h'⟩ | ⟨h,h'⟩ | ⟨h,h'⟩
    ·rw[h0]at h;cases h
    ·have:=inv.c4 h
     rcases h' with h' | h'
     ·rw[this.1]at h';cases h'
     rw[this.2]at h';cases h'
    ·rw[inv.c1 h]at h';cases h'
    rw[inv.c3 h]at h';cases h'
   rcases ziU l0 l1 l2 l3 l4 l5 l6 i inv.c1 inv.c3 inv.c4 hi with⟨rfl,rfl⟩ | ⟨rfl,rfl,rfl⟩ | ⟨rfl,rfl⟩ | ⟨rfl,rfl,rfl⟩ | ⟨rfl,rfl,rfl,rfl⟩ | ⟨rfl,rfl⟩ | ⟨rfl,rfl⟩ | ⟨rfl,rfl,rfl,rfl,rfl,rfl,rfl,rfl⟩
   ·refine jF (some 23) (fun y w'=>y=v/\w'=W) rfl rfl rfl (zL.val (v:=v) (by rw[<-e0 x23 x24 x25 x26 x27 x8 x9];rfl) ⟨rfl,rfl⟩) ?_
    rintro y w' ⟨rfl,rfl⟩;rw[p23];refine⟨trivial,ih true l1 l2 l3 l4 l5 l6 _ _ _ _ _ _ _ _ (by unfold Qc at hcnt⊢;simp at hcnt⊢;omega) ⟨inv.g,fun _=>rfl,inv.h1,inv.h2,inv.h3,inv.h4,inv.h5,inv.h6,inv.ne,fun _=>rfl,inv.c3,inv.c4⟩⟩
   ·refine jF (some 24) (fun y w'=>y= .agg O1.toArray/\zc W w') rfl rfl rfl (zL.call [v] rfl Tryz.func23 rfl rfl (by rw[mP,List.map_nil,e23,inv.h0 rfl]) ((hc1 W inv.g).mono (fun e w' h=>⟨_,h.1,rfl,h.2⟩))) ?_
    rintro y w' ⟨rfl,hg⟩;rw[p24];have inv':=inv.grew hg;refine⟨trivial,ih true true l2 l3 l4 l5 l6 _ _ _ _ _ _ _ _ (by unfold Qc at hcnt⊢;simp at hcnt⊢;omega) ⟨inv'.g,inv'.h0,fun _=>rfl,inv'.h2,inv'.h3,inv'.h4,inv'.h5,inv'.h6,inv'.ne,fun _=>rfl,inv'.c3,fun h=>⟨rfl,(inv'.c4 h).2⟩⟩⟩
   ·refine jF (some 25) (fun y w'=>y=arA q/\w'=W) rfl rfl rfl (zL.val (v:=arA q) (zhc (.tmp 3) rfl pa (e3 ..) (hb.grew inv.g)) ⟨rfl,rfl⟩) ?_
    rintro y w' ⟨rfl,rfl⟩;rw[p25];refine⟨trivial,ih l0 l1 true l3 l4 l5 l6 _ _ _ _ _ _ _ _ (by unfold Qc at hcnt⊢;simp at hcnt⊢;omega) ⟨inv.g,inv.h0,inv.h1,fun _=>rfl,inv.h3,inv.h4,inv.h5,inv.h6,inv.ne,inv.c1,fun _=>rfl,inv.c4⟩⟩
   ·refine jF (some 26) (fun y w'=>zo arE w' y [q]/\zc W w') rfl rfl rfl (zL.oneArea (.tmp 25) rfl q (by rw[e25,inv.h2 rfl]) ⟨jT arE W q _ _ rfl (by show 40<=_;omega),za _ _⟩) ?_
    rintro y w' ⟨hr,hg⟩;rw[p26];have inv':=inv.grew hg;refine⟨trivial,ih l0 l1 true true l4 l5 l6 _ _ _ _ _ _ _ _ (by unfold Qc at hcnt⊢;simp at hcnt⊢;omega) ⟨inv'.g,inv'.h0,inv'.h1,inv'.h2,fun _=>hr,inv'.h4,inv'.h5,inv'.h6,inv'.ne,inv'.c1,fun _=>rfl,fun h=>⟨(inv'.c4 h).1,rfl⟩⟩⟩
   ·refine jF (some 27) (fun y w'=>y= .agg O2.toArray/\zc W w') rfl rfl rfl (zL.call [x26] rfl Tryz.func23 rfl rfl (by rw[mP,List.map_nil,e26]) ((hc2 W x26 (inv.h3 rfl)).mono (fun e w' h=>⟨_,h.1,rfl,h.2⟩))) ?_
    rintro y w' ⟨rfl,hg⟩;rw[p27];have inv':=inv.grew hg;refine⟨trivial,ih l0 true l2 true true l5 l6 _ _ _ _ _ _ _ _ (by unfold Qc at hcnt⊢;simp at hcnt⊢;omega) ⟨inv'.g,inv'.h0,inv'.h1,inv'.h2,inv'.h3,fun _=>rfl,inv'.h5,inv'.h6,inv'.ne,inv'.c1,inv'.c3,fun _=>⟨rfl,rfl⟩⟩⟩
   ·refine jF (some 8) (fun y w'=>y= .pointer (some ⟨W.heap.size,0,none⟩)/\Box w' W.heap.size (zt (tab fun _=>on0))/\zc W w') rfl rfl rfl (zL.allocOnes rfl ⟨rfl,hal W,za _ _⟩) ?_
    rintro y w' ⟨rfl,hbx,hg⟩;rw[p8];have inv':=inv.grew hg;refine⟨trivial,ih l0 l1 l2 l3 l4 true l6 _ _ _ _ _ _ _ _ (by unfold Qc at hcnt⊢;simp at hcnt⊢;omega) ⟨inv'.g,inv'.h0,inv'.h1,inv'.h2,inv'.h3,inv'.h4,fun _=>⟨_,rfl,hbx,bS inv.g⟩,inv'.h6,fun _ h6=>?_,inv'.c1,inv'.c3,inv'.c4⟩⟩
    obtain⟨b,rfl,h2,_⟩:=inv.h6 h6;intro e;cases e;exact absurd h2.lt (Nat.lt_irrefl _)
   ·refine jF (some 9) (fun y w'=>y= .pointer (some ⟨W.heap.size,0,none⟩)/\Box w' W.heap.size (zt (tab fun _=>on0))/\zc W w') rfl rfl rfl (zL.allocOnes rfl ⟨rfl,hal W,za _ _⟩) ?_
    rintro y w' ⟨rfl,hbx,hg⟩;rw[p9];have inv':=inv.grew hg;refine⟨trivial,ih l0 l1 l2 l3 l4 l5 true _ _ _ _ _ _ _ _ (by unfold Qc at hcnt⊢;simp at hcnt⊢;omega) ⟨inv'.g,inv'.h0,inv'.h1,inv'.h2,inv'.h3,inv'.h4,inv'.h5,fun _=>⟨_,rfl,hbx,bS inv.g⟩,fun h5 _=>?_,inv'.c1,inv'.c3,inv'.c4⟩⟩
    obtain⟨b,rfl,h2,_⟩:=inv.h5 h5;intro e;cases e;exact absurd h2.lt (Nat.lt_irrefl _)
   unfold Qc at hcnt
   simp at hcnt
 refine wp_region_held (S:=fun _=>True) qy ?_
 have hd:zc W0 { W0 with drawn:=W0.drawn+1 }:=show Below _ _ _ from Below.drew (bR _ _)
 exact main 7 false false false false false false false x23 x24 x25 x26 x27 x8 x9 _ rfl ⟨hd,fun h=>(by cases h),fun h=>(by cases h),fun h=>(by cases h),fun h=>(by cases h),fun h=>(by cases h),fun h=>(by cases h),fun h=>(by cases h),fun h=>(by cases h),fun h=>(by cases h),fun h=>(by cases h),fun h=>(by cases h)⟩
end
def zkX (R:List Ar × Int) (w:World) (e:Ending) (w':World):Prop:=(∃u,e= .returned (.tuple #[u,.int .i64 R.2])/\zb arE w.heap.size w' u R.1)/\zc w w'
def zcu (l:List Ar) (a:Ar) (k:Nat):Nat->On:=fun j=>if j<k/\ZG a j=true then qF a j else zH l j
theorem zjl (l:List Ar) (a:Ar):zcu l a 0=zH l:=by
 funext j
 unfold zcu;rw[if_neg (by omega)]
theorem zkJ (l:List Ar) (a:Ar) (k:Nat):zcu l a k k=zH l k:=by
 unfold zcu;rw[if_neg (by omega)]
theorem zka {l:List Ar} {a:Ar} {k:Nat} (h:ZG a k=true):upd (zcu l a k) k (qF a k)=zcu l a (k+1):=by
 funext j
 unfold upd zcu
 by_cases e:j=k
 ·subst e;rw[if_pos rfl,if_pos ⟨by omega,h⟩]
 rw[if_neg e]
 by_cases h1:j<k/\ZG a j=true
 ·rw[if_pos h1,if_pos ⟨by omega,h1.2⟩]
 rw[if_neg h1,if_neg (fun h2=>h1 ⟨by omega,h2.2⟩)]
theorem zjm {l:List Ar} {a:Ar} {k:Nat} (h:ZG a k=false):zcu l a k=zcu l a (k+1):=by
 funext j
 unfold zcu
 by_cases h1:j<k/\ZG a j=true
 ·rw[if_pos h1,if_pos ⟨by omega,h1.2⟩]
 rw[if_neg h1]
 by_cases h2:j<k+1/\ZG a j=true
 ·have:j=k:=by
   rcases Nat.lt_or_ge j k with h3 | h3
   ·exact absurd ⟨h3,h2.2⟩ h1
   omega
  rw[this,h]at h2
  cases h2.2
 rw[if_neg h2]
theorem zkb (l:List Ar) (a:Ar):tab (zcu l a 64)=tab (zey l a):=zjK fun k hk=>by
 unfold zcu zey
 by_cases h:ZG a k=true
 ·rw[if_pos ⟨hk,h⟩,if_pos h]
 rw[if_neg (fun h1=>h h1.2),if_neg h]
theorem zjv (a:Ar) (k:Nat):zH [a] k=if ZG a k=true then qF a k else on0:=rfl
theorem zhl (a:Ar) (k:Nat):(zH [a] k).is=ZG a k:=by
 rw[zjv]
 cases h:ZG a k with
 | true=>rfl
 | false=>rfl
theorem zkD {l:List Ar} {a:Ar} {k:Nat} (hk:k<64) (h:ZG a k=true) (h':(zH l k).is=true):zii l a.fr (a.tz - a.fr)=true:=zi4.2 ⟨k,hk,by have:=zX.1 h;omega,h'⟩
theorem zi3 {l:List Ar} {a:Ar} (h:∀k,k<64->ZG a k=true->(zH l k).is=false):zii l a.fr (a.tz - a.fr)=false:=zjY.2 fun k hk hw=>h k hk (zX.2 (by omega))
theorem zcj (v:Value) (l:List Ar) (a:Ar) (w:World) (hv:zo arE w v l) (hcap:Cap v):
  Calls Tryz.prog 86 #[v,.agg #[.int .i64 a.fr,.int .i64 a.tz,.bool a.rd,.bool a.wr,.bool a.sh,.int .i64 a.file,.int .i64 a.base]] w (zkX (J4 l a) w):=by
 have HV:Hid (zo arE w v l):=hv;have HW:Hid (∀W,zc w W->Calls Tryz.prog 97 #[v] W fun e w'=>e= .returned (.agg #[.int .i64 (wrL l).1,.int .i64 (wrL l).2])/\zc W w'):=fun W hW=>JK v l W (HV.out.grew hW) hcap
 have HWA:Hid (∀W,Calls Tryz.prog 132 #[.agg #[.int .i64 a.fr,.int .i64 a.tz,.bool a.rd,.bool a.wr,.bool a.sh,.int .i64 a.file,.int .i64 a.base]] W fun e w'=>e= .returned (.int .i64 (arW a))/\zc W w'):=fun W=>QQ a W
 clear hv hcap;obtain⟨W0,hW0⟩:∃W0,w.alloc (.cells #[.int .i64 a.fr,.int .i64 a.tz,.bool a.rd,.bool a.wr,.bool a.sh,.int .i64 a.file,.int .i64 a.base] 114)=W0:=⟨_,rfl⟩;have G0:=gA hW0
 have X0:=xA hW0
 have HW0:Hid (_=W0):=hW0;clear hW0
 by_cases hz:(wrL l).1=0
 ·rw[hz]at HW
  generalize(wrL l).2=I at HW
  by_cases hza:arW a=0
  ·rw[hza]at HWA;have HL:Hid (l.length<=16/\ZL none l):=jV.1 hz;have HA:Hid (jo a):=Zj.1 hza;have HR0:Hid (J4 l a=if zii l a.fr (a.tz - a.fr)=true then([],6)else zeA (zey l a)):=show _=_ by unfold J4;rw[if_neg (fun h=>h hz),if_neg (fun h=>h hza)]
   have HFEW:Hid (∀W,Calls Tryz.prog 133 #[.agg (zt (tab (zcu l a 64))).toArray] W fun e w'=>(∃u,e= .returned (.tuple #[u,.int .i64 (zeA (zey l a)).2])/\zb arE W.heap.size w' u (zeA (zey l a)).1)/\zc W w'):=fun W=>by
    rw[zkb];exact zgj (zey l a) W (zal HL.out.2 HA.out)
   clear hz hza
   go_enter Tryz.func86,Tryz.ntmps86
   go_upto_region 1 with fail;rw[HW0.out];go_wp2_with fail;refine(HW.out W0 G0.out).mono ?_;rintro e W1 ⟨rfl,g⟩;have G1:=dD (G0.out.trans g);have X1:=dD (X0.out.grew g);clear g;obtain⟨pf,HPF⟩:∃pf,Hid (W1.heap.size=pf):=⟨_,rfl⟩;go_upto_region 2 with fail;obtain⟨W2,hWf⟩:∃W2,W1.alloc (.cells #[.int .i64 0,.int .i64 I] 163)=W2:=⟨_,rfl⟩;have G2:=gT hWf G1
   have F2:=xP hWf HPF
   have X2:=yA hWf X1
   rw[hWf,HPF.out];clear hWf;have f0:=F2.out.c 0 rfl
   go_wp2_with (refine zG rfl 114 (.tmp 3) rfl w.heap.size rfl X2.out Tryz.underlying114 rfl zlj ?_)
   refine(HWA.out W2).mono ?_;rintro e W3 ⟨rfl,g⟩;have G3:=dD (G2.out.trans g);have X3:=dD (X2.out.grew g);clear g f0;go_upto_region 7 with fail;refine zgu (v:=v) (q:=a) (pa:=w.heap.size) (l:=l) (fun x23 x24 x25 x26 x27 x8 x9=>⟨#[_,_,_,_,_,_,_,_,x8,x9,_,_,_,_,_,_,_,_,_,_,_,_,_,x23,x24,x25,x26,x27,_,_,_,_,_,_,_,_,_,_,_,_,_,_,_,_,_,_,_,_,_,_,_,_,_,_,_],[]⟩) (fun _ _ _ _ _ _ _=>rfl) (fun _ _ _ _ _ _ _=>rfl) (fun _ _ _ _ _ _ _=>rfl) (fun _ _ _ _ _ _ _=>rfl) (fun _ _ _ _ _ _ _=>rfl) (fun _ _ _ _ _ _ _=>rfl) (fun _ _ _ _ _ _ _=>rfl) (fun _ _ _ _ _ _ _=>rfl) (fun _ _ _ _ _ _ _=>rfl) (fun _ _ _ _ _ _ _ _=>rfl) (fun _ _ _ _ _ _ _ _=>rfl) (fun _ _ _ _ _ _ _ _=>rfl) (fun _ _ _ _ _ _ _ _=>rfl) (fun _ _ _ _ _ _ _ _=>rfl) (fun _ _ _ _ _ _ _ _=>rfl) (fun _ _ _ _ _ _ _ _=>rfl) (fun _ _ _ _ _ _ _ _=>rfl) (HV.out.grew G3.out) HL.out.2.lies HA.out X3.out ?_ _ _ _ _ _ _ _
   intro W4 b8 b9 x26 hbne g4 hb8 hb9 hs8 hs9;have G4:=dD (G3.out.trans g4);have B8:Hid (Box W4 b8 (zt (tab (zcu l a 0)))):=show Box _ _ _ by rw[zjl];exact hb8
   have B9:Hid (Box W4 b9 (zt (tab (zH [a])))):=hb9;have HS8:Hid (w.heap.size<=b8):=nT (bS G3.out) hs8;have hbne':b9≠b8:=fun e=>hbne e.symm
   have HNE:Hid (b9≠b8):=hbne';clear g4 hb8 hb9 hs8 hs9;go_wp2
   go_loopg [28] 64 (fun gg s28 wr=>∃kk:Nat,kk<=64/\64 - kk<=gg/\s28= .int .i64 kk/\Hid (zc w wr)/\Hid (Box wr b8 (zt (tab (zcu l a kk))))/\Hid (Box wr b9 (zt (tab (zH [a]))))/\Hid (∀j:Nat,j<kk->ZG a j=true->(zH l j).is=false))
   case atStart=>exact⟨0,nZ _,by omega,rfl,G4.out,B8.out,B9.out,fun j hj=>absurd hj (nL _)⟩
   obtain⟨kk,hkk,hg,rfl,BW,LW,RW,HH⟩:=hrel
   by_cases hlt:kk<64
   ·have hltz:(kk:Int)<64:=by omega
    have d8:=LW.out.c (kk*6) (j3 (QO hlt) 0 (.bool (zH l kk).is) (by rw[zkJ];rfl))
    have d9:=RW.out.c (kk*6) (j3 (QO hlt) 0 (.bool (ZG a kk)) (by rw[<-zhl];rfl))
    cases hin:ZG a kk with
    | true=>
     cases his:(zH l kk).is with
     | true=>
      have HR:Hid (J4 l a=([],6)):=show _=_ by rw[HR0.out,zkD hlt hin his,if_pos rfl]
      rw[his]at d8;rw[hin]at d9;clear hin his;go_wp2;refine bodyPost_ret (results_tmp2 rfl _ _ _) rfl ?_;rw[HR.out];exact⟨⟨_,rfl,zb.nil _ _ _⟩,BW.out⟩
     | false=>
      have HST:Hid (upd (zcu l a kk) kk (qF a kk)=zcu l a (kk+1)):=zka hin;have HON:Hid (zH [a] kk=qF a kk):=show _=_ by rw[zjv,if_pos hin]
      have HH2:Hid (∀j:Nat,j<kk+1->ZG a j=true->(zH l j).is=false):=show∀j:Nat,_ from fun j hj h=>by
       by_cases e:j=kk
       ·rw[e];exact his
       exact HH.out j (by omega) h
      rw[his]at d8;rw[hin]at d9;clear hin his;have HLV:Hid (Value.agg (onv (zH [a] kk)).toArray= .agg (onv (qF a kk)).toArray):=show _=_ by rw[HON.out]
      go_wp2_with (first | refine zcg rfl (.tmp 47) rfl b9 kk hlt rfl RW.out HLV.out ?_ | refine zcf rfl (.tmp 49) (.tmp 48) rfl b8 kk hlt rfl (qF a kk) rfl LW.out ?_)
      intro W5 b5 g5 s5;have L5:Hid (Box W5 b8 (zt (tab (zcu l a (kk+1))))):=show Box _ _ _ by rw[<-HST.out];exact b5
      have R5:Hid (Box W5 b9 (zt (tab (zH [a])))):=RW.out.grown g5 HNE.out;have G5:Hid (zc w W5):=zg BW.out g5 HS8.out;clear b5 g5 s5 d8 d9;go_wp2
      go_roundg (64 -(kk+1))
      case measure=>omega
      exact⟨kk+1,by omega,by omega,by go_num,G5.out,L5.out,R5.out,HH2.out⟩
    | false=>
     have L5:Hid (Box wr b8 (zt (tab (zcu l a (kk+1))))):=show Box _ _ _ by rw[<-zjm hin];exact LW.out
     have HH2:Hid (∀j:Nat,j<kk+1->ZG a j=true->(zH l j).is=false):=show∀j:Nat,_ from fun j hj h=>by
      by_cases e:j=kk
      ·rw[e,hin]at h;cases h
      exact HH.out j (by omega) h
     rw[hin]at d9;clear hin
     cases his:(zH l kk).is with
     | true=>
      rw[his]at d8;clear his;go_wp2
      go_roundg (64 -(kk+1))
      case measure=>omega
      exact⟨kk+1,by omega,by omega,by go_num,BW.out,L5.out,RW.out,HH2.out⟩
     | false=>
      rw[his]at d8;clear his;go_wp2
      go_roundg (64 -(kk+1))
      case measure=>omega
      exact⟨kk+1,by omega,by omega,by go_num,BW.out,L5.out,RW.out,HH2.out⟩
   have hltz:¬(kk:Int)<64:=by omega
   have:kk=64:=by omega
   subst this;have HR:Hid (J4 l a=zeA (zey l a)):=show _=_ by rw[HR0.out,zi3 HH.out,if_neg (by decide)]
   have HCL:Hid ((zt (tab (zcu l a 64))).length=384):=jk _
   go_wp2_with (refine zG rfl 62 (.tmp 8) rfl b8 rfl LW.out Tryz.underlying62 rfl (by rw[HCL.out];exact zlm) ?_)
   refine(HFEW.out wr).mono ?_;rintro e W6 ⟨⟨u,rfl,ow⟩,g6⟩;have G6:=dD (BW.out.trans g6);have O6:Hid (zb arE w.heap.size W6 u (zeA (zey l a)).1):=ow.base (bS BW.out);clear g6 ow;go_wp2;refine bodyPost_ret (results_tmp2 rfl _ _ _) rfl ?_;rw[HR.out];exact⟨⟨_,rfl,O6.out⟩,G6.out⟩
  have hzb:(arW a != 0)=true:=by simp[hza]
  have HR:Hid (J4 l a=([],arW a)):=show _=_ by unfold J4;rw[if_neg (fun h=>h hz),if_pos hza]
  clear hz hza
  generalize arW a=E at*
  go_enter Tryz.func86,Tryz.ntmps86
  go_upto_region 1 with fail;rw[HW0.out];go_wp2_with fail;refine(HW.out W0 G0.out).mono ?_;rintro e W1 ⟨rfl,g⟩;have G1:=dD (G0.out.trans g);have X1:=dD (X0.out.grew g);clear g;obtain⟨pf,HPF⟩:∃pf,Hid (W1.heap.size=pf):=⟨_,rfl⟩;go_upto_region 2 with fail;obtain⟨W2,hWf⟩:∃W2,W1.alloc (.cells #[.int .i64 0,.int .i64 I] 163)=W2:=⟨_,rfl⟩;have G2:=gT hWf G1
  have F2:=xP hWf HPF
  have X2:=yA hWf X1
  rw[hWf,HPF.out];clear hWf;have f0:=F2.out.c 0 rfl
  go_wp2_with (refine zG rfl 114 (.tmp 3) rfl w.heap.size rfl X2.out Tryz.underlying114 rfl zlj ?_)
  refine(HWA.out W2).mono ?_;rintro e W3 ⟨rfl,g⟩;have G3:=dD (G2.out.trans g);clear g f0;go_wp2;refine bodyPost_ret (results_tmp2 rfl _ _ _) rfl ?_;rw[HR.out];exact⟨⟨_,rfl,zb.nil _ _ _⟩,G3.out⟩
 have hzb:((wrL l).1 != 0)=true:=by simp[hz]
 have HR:Hid (J4 l a=([],(wrL l).1)):=show _=_ by unfold J4;rw[if_pos hz]
 clear hz
 generalize(wrL l).2=I at HW
 generalize(wrL l).1=E at*
 go_enter Tryz.func86,Tryz.ntmps86
 go_upto_region 1 with fail;rw[HW0.out];go_wp2_with fail;refine(HW.out W0 G0.out).mono ?_;rintro e W1 ⟨rfl,g⟩;have G1:=dD (G0.out.trans g);clear g;obtain⟨pf,HPF⟩:∃pf,Hid (W1.heap.size=pf):=⟨_,rfl⟩;go_upto_region 2 with fail;obtain⟨W2,hWf⟩:∃W2,W1.alloc (.cells #[.int .i64 E,.int .i64 I] 163)=W2:=⟨_,rfl⟩;have G2:=gT hWf G1
 have F2:=xP hWf HPF
 rw[hWf,HPF.out];clear hWf;have f0:=F2.out.c 0 rfl;go_upto_region 3 with fail;go_quiet (fail);obtain⟨Wq,hWq⟩:∃Wq,W2.drewN nq=Wq:=⟨_,rfl⟩;have Gq:Hid (zc w Wq):=show zc _ _ by rw[<-hWq];exact G2.out.trans (show Below _ _ _ from bD (bR _ _) _)
 rw[hWq];clear hWq f0;go_wp2;refine bodyPost_ret (results_tmp2 rfl _ _ _) rfl ?_;rw[HR.out];exact⟨⟨_,rfl,zb.nil _ _ _⟩,Gq.out⟩
def Frk (w0:World) (hi b:Nat) (w:World) (vl:Sli) (L:List Int) (m:Ma) (l:List Ar) (w':World):Prop:=∃V' m' vt' T',Mk w0 hi w' b vl L V' m' vt' T'/\zn hi w w'/\qO m' T'/\(m'.sp=m.sp++ [⟨true,l,qx⟩]/\m'.fl=m.fl/\m'.hand=m.hand/\m'.fs.length=m.fs.length)
theorem jL {α:Type} {E:Elt α} {w:World} {o:Oper} {a:Act} {K:Value->World->Prop} (p x:Operand) (t:TypeId) (ho:o.op= .store t p x) (base:Nat) (v:Value) (l:List α) (hown:zb E base w v l)
  (g i j:Nat) (hg:v.ownBlock=some g) (e y:α) (hi:l[i]? =some e) (cs:List Value) (hk:(Tryz.prog.info? t).map (·.size)=some cs.length) (hy:E.enc y=splice (E.enc e) j cs) (hj:j+cs.length<=E.k) (h1:∀u∈cs,u.oneCell'=true)
  (ad:Addr) (hp:a.eval p= .pointer (some ad)) (had:ad=⟨g,i*E.k+j,none⟩) (vx:Value) (hx:a.eval x=vx) (hvx:vx.cells=cs.toArray)
  (h:∀w',zb E base w' v (l.set i y)->w.grownBy w' (some g)->w'.heap.size=w.heap.size->K undef w'):zL Tryz.prog o a w K:=by
 obtain⟨w',h2,h3,h4,h5⟩:=zb4 p x t ho base v l hown g i j hg e y hi cs hk hy hj h1 ad hp had vx hx hvx;exact zej h2 (h w' h3 h4 h5)
theorem Mk.entry {w0 w w':World} {hi b pe:Nat} {vl:Sli} {L:List Int} {V:MaV} {m:Ma} {vt:Sli} {T:List (Nat->En)} {cs:List Value} (h:Mk w0 hi w b vl L V m vt T) (hp:zp w pe 74 cs) (hh:hi<=pe) (hg:w.grownBy w' (some pe)):Mk w0 hi w' b vl L V m vt T:=by
 have hne:b≠pe:=fun e=>by
  subst e;have h1:w.heap[b]? =_:=h.box;rw[show w.heap[b]? =_ from hp]at h1
  cases h1
 have r:=h.rows;obtain⟨k1,k2,k3,k4,k5,k6,k7,k8,k9⟩:=r.kept hg hp;exact⟨zg h.gr hg (nT r.bh hh),h.hb,h.box.beside hg (fun k e=>by cases e;exact hne),h.lr,h.lc,h.lb,⟨nT r.hw hg.size,r.bh,k1 (by decide),k2 (.inl (by decide)),r.slh,k3 (.inl (by decide)),r.sbh,r.sq,k4 (.inl (by decide)),r.dbh,k5 (by decide),k6 (by decide) (.inl (by decide)),k7 (by decide),k8 (by decide) (by decide),k9 (by decide),r.ap⟩⟩
theorem zjd {w0:World} {hi:Nat} {b:Nat} {vl:Sli} {L:List Int} {V:MaV} {m:Ma} {vt:Sli} {T:List (Nat->En)} {w:World} (s0:Sp) (h:Mk w0 hi w b vl L V m vt T) (hB:qO m T) (hs:m.sp=[s0]):
  Calls Tryz.prog 47 #[.pointer (some ⟨b,0,none⟩)] w fun e w'=>(∃v,e= .returned v)/\Frk w0 hi b w vl L m s0.ars w':=by
 have HM:Hid (Mk w0 hi w b vl L V m vt T):=h;have HB:Hid (qO m T):=hB;have HS:Hid (m.sp=[s0]):=hs;obtain⟨f0,rfl⟩:∃f0,T=[f0]:=List.length_eq_one_iff.1 (by rw[hB.tl,hs];rfl)
 obtain⟨ys,s1,s2,s3⟩:=h.rows.sp;obtain⟨y0,rfl⟩:∃y0,ys=[y0]:=List.length_eq_one_iff.1 (by rw[s2,hs];rfl)
 obtain⟨gs,cs,hse⟩:=s1.formS (by simp)
 have hse:Value.slice V.sp.a V.sp.n V.sp.c=(.slice (some ⟨gs,0,none⟩) 1 cs):=hse;have HSE:Hid (Value.slice V.sp.a V.sp.n V.sp.c=(.slice (some ⟨gs,0,none⟩) 1 cs)):=hse;have S1:Hid (zb Zl w0.heap.size w (.slice V.sp.a V.sp.n V.sp.c) [y0]):=s1;have S2:Hid ([y0].length=m.sp.length):=s2;have S3:Hid (∀(i:Nat) x s,[y0][i]? =some x->m.sp[i]? =some s->x.live=s.live/\zb arE w0.heap.size w x.ar.v s.ars/\x.tab=zah/\s.tb=qx):=show∀i,_ from s3
 have A1:Hid (zb arE w0.heap.size w y0.ar.v s0.ars):=(s3 0 y0 s0 rfl (by rw[hs];rfl)).2.1
 have HWR:Hid ((wrL s0.ars).1=0):=(hB.spok s0 (by rw[hs];simp)).1
 have HON:Hid (∀W,zb arE w0.heap.size W y0.ar.v s0.ars->Calls Tryz.prog 23 #[.slice y0.ar.a y0.ar.n y0.ar.c] W fun e w'=>e= .returned (.agg (zt (tab (zH s0.ars))).toArray)/\zc W w'):=show∀W,_ from fun W hW=>jS y0.ar.v s0.ars W hW.at (jV.1 HWR.out).2.lies
 have hz:=zac;obtain⟨Z0,HZ0⟩:∃Z0,Hid (zt (tab fun _=>on0)=Z0):=⟨_,rfl⟩
 rw[HZ0.out]at hz;have HZL:Hid (Z0.length=384):=show _=_ by rw[<-HZ0.out,jk]
 have HPL:Hid ((zt (tab (zH s0.ars))).length=384):=jk _;have HPO:Hid (∀v∈zt (tab (zH s0.ars)),v.oneCell'=true):=Qr _;have HCA:Hid (∀k,k<64->(zt (tab (zH s0.ars)))[k*6+3]? =some (.bool (zH s0.ars k).sh)):=show∀k,_ from fun k hk=>j3 (QO hk) 3 _ rfl
 generalize zt (tab (zH s0.ars))=CO at HON HPL HPO HCA
 clear h hB hs s1 s2 s3 hse
 go_enter Tryz.func47,Tryz.ntmps47
 try go_upto_region 0 with fail
 obtain⟨I,HI⟩:∃I:World->Prop,Hid (∀u,I u↔(zp u b 98 [.slice vl.a vl.n vl.c,.slice V.f.a V.f.n V.f.c,.int .i64 m.hand,.slice V.s.a V.s.n V.s.c,.slice V.sb.a V.sb.n V.sb.c,.slice V.sq.a V.sq.n V.sq.c,.slice V.db.a V.db.n V.db.c,.slice V.dq.a V.dq.n V.dq.c,.slice V.fl.a V.fl.n V.fl.c,.int .i64 m.cnt,.slice V.ca.a V.ca.n V.ca.c,.slice V.sp.a V.sp.n V.sp.c,.slice vt.a vt.n vt.c]/\zb Zl w0.heap.size u (.slice (some ⟨gs,0,none⟩) 1 cs) [y0])):=⟨fun u=>(zp u b 98 [.slice vl.a vl.n vl.c,.slice V.f.a V.f.n V.f.c,.int .i64 m.hand,.slice V.s.a V.s.n V.s.c,.slice V.sb.a V.sb.n V.sb.c,.slice V.sq.a V.sq.n V.sq.c,.slice V.db.a V.db.n V.db.c,.slice V.dq.a V.dq.n V.dq.c,.slice V.fl.a V.fl.n V.fl.c,.int .i64 m.cnt,.slice V.ca.a V.ca.n V.ca.c,.slice V.sp.a V.sp.n V.sp.c,.slice vt.a vt.n vt.c]/\zb Zl w0.heap.size u (.slice (some ⟨gs,0,none⟩) 1 cs) [y0]),fun _=>Iff.rfl⟩
 have hI0:I w.drew:=(HI.out _).2 ⟨HM.out.box.grew (gW _),by rw[<-HSE.out];exact S1.out.grew (gW _)⟩
 have hx11:∀y:zr I,y.world.cell? ⟨b,11,none⟩=some (.slice (some ⟨gs,0,none⟩) 1 cs):=fun y=>by
  have:=((HI.out _).1 y.holds).1.box.c 11 rfl;rw[HSE.out]at this;exact this
 have hy1:∀y:zr I,y.world.cell? ⟨gs,1,none⟩=some (.slice y0.ar.a y0.ar.n y0.ar.c):=fun y=>by
  have:=((HI.out _).1 y.holds).2.one (i:=0) (x:=y0) rfl 1 _ rfl;rw[zP,Addr.add_lit]at this;exact this
 have hne:Nonempty (zr I):=⟨⟨_,hI0⟩⟩;refine zR (I:=I) 20 [(15,fun v=>∃g,v= .slice (some ⟨g,0,none⟩) 1 1),(16,fun v=>∃g c,v= .slice (some ⟨g,0,none⟩) 2 c)] (fun u=>zc w u) hI0 (gW _) qy (by kernel_rfl) rfl rfl (by decide) ?hS (by kernel_rfl) ?_
 case hS=>
  intro x hx;simp only[mC,nM,or_false]at hx
  rcases hx with rfl | rfl
  ·exact⟨_,0,rfl⟩
  exact⟨_,0,0,rfl⟩
 simp only[List.take,List.drop];iterate 2 (refine zi rfl rfl rfl (fun K hK=>?_);go_big_quiet_op;refine hK _ ?_;clear hK K)
 refine zS (.tmp 6) ⟨b,0,none⟩ rfl rfl rfl rfl ?_;simp only[Act.put,sB,sS,sZ];iterate 4 (refine zi rfl rfl rfl (fun K hK=>?_);go_big_quiet_op;refine hK _ ?_;clear hK K)
 refine zS (.tmp 11) ⟨b,0,none⟩ rfl rfl rfl rfl ?_;simp only[Act.put,sB,sS,sZ];iterate 7 (refine zi rfl rfl rfl (fun K hK=>?_);go_big_quiet_op;refine hK _ ?_;clear hK K)
 refine qA rfl rfl (fun v u=>zc w u/\zo Zl u v [⟨true,y0.ar,zw,zw,zw,zw,zw,zw,zw,zw⟩]) (fun w' hI' hF'=>?_) (fun v1 hv=>?_)
 ·obtain⟨i1,i2⟩:=(HI.out _).1 hI';refine zL.step (v:= .slice (some ⟨w'.heap.size,0,none⟩) 1 1) (w':=w'.alloc (.cells #[.bool true,.slice y0.ar.a y0.ar.n y0.ar.c,.slice none 0 0,.slice none 0 0,.slice none 0 0,.slice none 0 0,.slice none 0 0,.slice none 0 0,.slice none 0 0,.slice none 0 0] 55)) (by clear hx11 hy1;simp only[execOp];go_simp) ⟨(HI.out _).2 ⟨i1.grew (za _ _),i2.grew (za _ _)⟩,⟨_,rfl⟩,hF'.trans (za _ _),jT Zl w' ⟨true,y0.ar,zw,zw,zw,zw,zw,zw,zw,zw⟩ _ _ rfl (by decide)⟩
 obtain⟨g15,rfl⟩:=hv;simp only[Act.put,sB,sS,sZ];refine qA rfl rfl (fun v u=>∃w1,zc w w1/\w1.grownBy u (some gs)/\zb Zl w0.heap.size u v [y0,⟨true,y0.ar,zw,zw,zw,zw,zw,zw,zw,zw⟩]) (fun w' hI' hF'=>?_) (fun v1 hv=>?_)
 ·obtain⟨i1,i2⟩:=(HI.out _).1 hI';obtain⟨k1,k2⟩:=hF';obtain⟨v',w2,hrun,ho,hgr,hk⟩:=qe (E:=Zl) (w:=w') 39 i2 (.slice (some ⟨g15,0,none⟩) 1 1) [⟨true,y0.ar,zw,zw,zw,zw,zw,zw,zw,zw⟩] k2 (by show(1+1)*224<=_;omega) (nT (bS HM.out.gr) (bS k1))
  obtain⟨g',c',rfl⟩:=ho.formS (by simp)
  refine zL.step (v:= .slice (some ⟨g',0,none⟩) 2 c') (w':=w2) ?_ ⟨(HI.out _).2 ⟨zp.row i2 hgr i1 (by decide),hk _ [y0] (nR _) i2⟩,⟨_,_,rfl⟩,w',k1,hgr,ho⟩
  clear hx11 hy1;simp only[execOp,resolve,invoke,builtin,pure_bind,Sem.run_bind,Sem.run_pure,List.map_toArray,mP,List.map_nil];exact Eq.trans (congrArg (fun r=>Result.andThen r (fun a w'=>Result.ok (Next.value a) w')) hrun) rfl
 obtain⟨g4,c4,rfl⟩:=hv;simp only[Act.put,sB,sS,sZ];refine zS (.tmp 5) ⟨b,0,none⟩ rfl rfl rfl rfl ?_;simp only[Act.put,sB,sS,sZ];iterate 2 (refine zi rfl rfl rfl (fun K hK=>?_);go_big_quiet_op;refine hK _ ?_;clear hK K)
 refine ja fun W4 hI4 hF4=>?_
 obtain⟨w1,gw,gr4,ow4⟩:=hF4;have B4:Hid (zp W4 b 98 [.slice vl.a vl.n vl.c,.slice V.f.a V.f.n V.f.c,.int .i64 m.hand,.slice V.s.a V.s.n V.s.c,.slice V.sb.a V.sb.n V.sb.c,.slice V.sq.a V.sq.n V.sq.c,.slice V.db.a V.db.n V.db.c,.slice V.dq.a V.dq.n V.dq.c,.slice V.fl.a V.fl.n V.fl.c,.int .i64 m.cnt,.slice V.ca.a V.ca.n V.ca.c,.slice V.sp.a V.sp.n V.sp.c,.slice vt.a vt.n vt.c]):=((HI.out _).1 hI4).1;have gr4':w1.grownBy W4 (Value.slice V.sp.a V.sp.n V.sp.c).ownBlock:=by rw[HSE.out];exact gr4
 have R4:Hid (MkR w0.heap.size hi W4 { V with sp:=⟨some ⟨g4,0,none⟩,2,c4⟩ } { m with sp:=m.sp++ [⟨true,s0.ars,qx⟩] } vt [f0]):=(HM.out.rows.grew gw).addSp (S1.out.grew gw) S2.out (fun i x s hx hs=>by
  obtain⟨a1,a2,a3⟩:=S3.out i x s hx hs;exact⟨a1,a2.grew gw,a3⟩) gr4' ⟨some ⟨g4,0,none⟩,2,c4⟩ y0.ar (A1.out.grew gw) ow4
 have G4:Hid (zc w0 W4):=zc.row (S1.out.grew gw) gr4' (HM.out.gr.trans gw);have K4:Hid (zn hi w W4):=(zn.grew gw).trans (zn.row (S1.out.grew gw) gr4' (fun p hl=>hl.2.2.2.2.2.2.1 rfl))
 have A4:Hid (zb arE w0.heap.size W4 y0.ar.v s0.ars):=show zb _ _ _ _ _ by
  obtain⟨ds,hc⟩:=(S1.out.grew gw).obj (g:=gs) (by rw[HSE.out];rfl)
  exact(A1.out.grew gw).kind gr4 hc (by decide)
 have O4:Hid (zb Zl w0.heap.size W4 (.slice (some ⟨g4,0,none⟩) 2 c4) [y0,⟨true,y0.ar,zw,zw,zw,zw,zw,zw,zw,zw⟩]):=ow4;clear gw gr4 gr4' ow4 hI4 hI0 hx11 hy1 hne HI S1 S2 S3 A1;have x11:=B4.out.box.c 11 rfl;rw[HSE.out]at x11;have xf:=B4.out.box.f;go_upto_region 1 with fail;clear x11 xf;obtain⟨W5,hW5⟩:∃W5,W4.setCell ⟨b,11,none⟩ (.slice (some ⟨g4,0,none⟩) 2 c4)=W5:=⟨_,rfl⟩;have hg5:W4.grownBy W5 (some b):=by rw[<-hW5];exact jc _ _ _ _
 have M5:Hid (Mk w0 hi W5 b vl L { V with sp:=⟨some ⟨g4,0,none⟩,2,c4⟩ } { m with sp:=m.sp++ [⟨true,s0.ars,qx⟩] } vt [f0]):=show Mk _ _ _ _ _ _ _ _ _ _ from⟨zg G4.out hg5 HM.out.hb,HM.out.hb,by rw[<-hW5];exact B4.out.set 11 _,HM.out.lr,HM.out.lc,HM.out.lb,R4.out.var hg5 B4.out hg5.size (.inl rfl)⟩
 have K5:Hid (zn hi w W5):=K4.out.trans (zn.kind hg5 B4.out (fun _ hl=>absurd rfl hl.1))
 have A5:Hid (zb arE w0.heap.size W5 y0.ar.v s0.ars):=A4.out.kind hg5 B4.out (by decide)
 have O5:Hid (zb Zl w0.heap.size W5 (.slice (some ⟨g4,0,none⟩) 2 c4) [y0,⟨true,y0.ar,zw,zw,zw,zw,zw,zw,zw,zw⟩]):=O4.out.kind hg5 B4.out (by decide)
 rw[hW5];clear hW5 hg5 R4 G4 K4 A4 O4 B4;have HML:Hid (w0.heap.size<=b/\zo byE w0 (.slice vl.a vl.n vl.c) L/\vl.n<=vl.c/\∀z∈L,0<=z/\z<256):=show _/\_ from⟨HM.out.hb,HM.out.lr,HM.out.lc,HM.out.lb⟩
 have x11:W5.cell? ⟨b,11,none⟩=some (.slice (some ⟨g4,0,none⟩) 2 c4):=M5.out.box.box.c 11 rfl;have y1:W5.cell? ⟨g4,1,none⟩=some (.slice y0.ar.a y0.ar.n y0.ar.c):=by
  have:=O5.out.one (i:=0) (x:=y0) rfl 1 _ rfl;rw[zP,Addr.add_lit]at this;exact this
 have hon:=HON.out W5 A5.out;go_wp2_with fail;refine hon.mono ?_;clear hon x11 y1;rintro e W6 ⟨rfl,g6⟩;obtain⟨po,HPO2⟩:∃po,Hid (W6.heap.size=po):=⟨_,rfl⟩;have M6:=dD (M5.out.grew g6);have K6:=dD (K5.out.trans (zn.grew g6));clear g6 M5 K5 A5 O5
 go_upto_region 2 with(refine qD rfl 62 (.tmp 2) (.tmp 33) rfl W6.heap.size rfl CO rfl (zp.top W6 Z0 62 rfl) (by rw[HPL.out,HZL.out]) (by rw[HZL.out];exact zlm) HPO.out ?_)
 intro W7 b7 g7 s7;have g67:zc W6 W7:=zg (za _ _) g7 (nR _);have M7:=dD (M6.out.grew g67);have K7:=dD (K6.out.trans (zn.grew g67));rw[HPO2.out]at b7⊢;have P7:Hid (zp W7 po 62 CO):=b7;clear b7 g7 s7 g67 M6 K6 hz;try simp only[Act.put]
 have x12:=M7.out.box.box.c 12 rfl;have HSZ5:Hid (w0.heap.size<=W7.heap.size):=show _<=_ from bS M7.out.gr
 go_wp2_with (at_builtin;refine zB (E:=Qt) rfl (.tmp 38) (.tmp 40) rfl w0.heap.size _ [f0] rfl (M7.out.rows.tt.grew (za _ _)) _ [fun _=>en0] rfl (jT Qt W7 (fun _=>en0) _ _ rfl (by decide)) ?qb ?qc ?_)
 case qb=>
  show(1+1)*1536<=_
  omega
 case qc=>exact nT HSZ5.out (bS (za _ _))
 intro v8 W8 ow8 gr8;obtain⟨gt,ct,rfl⟩:=ow8.formS (by simp)
 have ow8':zb Qt w0.heap.size W8 (.slice (some ⟨gt,0,none⟩) 2 ct) ([f0]++ [fun _=>en0]):=ow8
 obtain⟨WX,hWX⟩:∃WX,W7.alloc (.cells (Qt.enc (fun _=>en0)).toArray 75)=WX:=⟨_,rfl⟩
 have gX:=gP hWX
 have gr8':WX.grownBy W8 (Value.slice vt.a vt.n vt.c).ownBlock:=by rw[<-hWX];exact gr8
 clear gr8 hWX ow8;have M7X:=M7.out.grew gX;have B8:Hid (zp W8 b 98 [.slice vl.a vl.n vl.c,.slice V.f.a V.f.n V.f.c,.int .i64 m.hand,.slice V.s.a V.s.n V.s.c,.slice V.sb.a V.sb.n V.sb.c,.slice V.sq.a V.sq.n V.sq.c,.slice V.db.a V.db.n V.db.c,.slice V.dq.a V.dq.n V.dq.c,.slice V.fl.a V.fl.n V.fl.c,.int .i64 m.cnt,.slice V.ca.a V.ca.n V.ca.c,.slice (some ⟨g4,0,none⟩) 2 c4,.slice vt.a vt.n vt.c]):=zp.row M7X.rows.tt gr8' M7X.box (by decide)
 have R8:Hid (MkR w0.heap.size hi W8 { V with sp:=⟨some ⟨g4,0,none⟩,2,c4⟩ } { m with sp:=m.sp++ [⟨true,s0.ars,qx⟩] } ⟨some ⟨gt,0,none⟩,2,ct⟩ ([f0]++ [fun _=>en0])):=M7X.rows.addT gr8' ⟨some ⟨gt,0,none⟩,2,ct⟩ ow8'
 have G8:Hid (zc w0 W8):=zc.row M7X.rows.tt gr8' M7X.gr;have K8:Hid (zn hi w W8):=(K7.out.trans (zn.grew gX)).trans (zn.row M7X.rows.tt gr8' (fun p hl=>hl.2.2.2.2.2.2.2.1 rfl))
 have P8:Hid (zp W8 po 62 CO):=zp.row M7X.rows.tt gr8' (P7.out.grew gX) (by decide)
 clear M7X gr8' ow8' gX x12 M7 K7 P7;have x12:=B8.out.box.c 12 rfl;have xf:=B8.out.box.f;go_upto_region 3 with fail;clear x12 xf;obtain⟨W9,hW9⟩:∃W9,W8.setCell ⟨b,12,none⟩ (.slice (some ⟨gt,0,none⟩) 2 ct)=W9:=⟨_,rfl⟩;have hg9:W8.grownBy W9 (some b):=by rw[<-hW9];exact jc _ _ _ _
 obtain⟨vt9,HVT⟩:∃vt9:Sli,Hid (vt9=⟨some ⟨gt,0,none⟩,2,ct⟩):=⟨_,rfl⟩;obtain⟨V9,HV9⟩:∃V9:MaV,Hid (V9={ V with sp:=⟨some ⟨g4,0,none⟩,2,c4⟩ }):=⟨_,rfl⟩;obtain⟨m9,HM9⟩:∃m9:Ma,Hid (m9={ m with sp:=m.sp++ [⟨true,s0.ars,qx⟩] }):=⟨_,rfl⟩;have M9:Hid (Mk w0 hi W9 b vl L V9 m9 vt9 [f0,fun _=>en0]):=show Mk _ _ _ _ _ _ _ _ _ _ by
  rw[HVT.out,HV9.out,HM9.out];exact⟨zg G8.out hg9 HML.out.1,HML.out.1,by rw[<-hW9];exact B8.out.set 12 _,HML.out.2.1,HML.out.2.2.1,HML.out.2.2.2,R8.out.var hg9 B8.out hg9.size (.inl rfl)⟩
 have K9:Hid (zn hi w W9):=K8.out.trans (zn.kind hg9 B8.out (fun _ hl=>absurd rfl hl.1))
 have P9:Hid (zp W9 po 62 CO):=P8.out.beside hg9 (fun g e=>by
  cases e;intro e;have h1:W8.heap[po]? =_:=P8.out;rw[e,show W8.heap[b]? =_ from B8.out]at h1
  cases h1)
 have HB9:Hid (qO m9 [f0,fun _=>en0]):=show qO _ _ by
  rw[HM9.out];exact HB.out.space HWR.out (by rw[HS.out];simp)
 have HS9:Hid (m9.sp=[s0,⟨true,s0.ars,qx⟩]/\m9.fl=m.fl/\m9.hand=m.hand/\m9.fs.length=m.fs.length):=show _/\_ by
  rw[HM9.out];exact⟨by show m.sp++_=_;rw[HS.out];rfl,rfl,rfl,rfl⟩
 have HTV:Hid (Value.slice vt9.a vt9.n vt9.c= .slice (some ⟨gt,0,none⟩) 2 ct):=show _=_ by rw[HVT.out]
 rw[hW9];clear hW9 hg9 R8 G8 K8 B8 P8 HML;have x12:W9.cell? ⟨b,12,none⟩=some (.slice (some ⟨gt,0,none⟩) 2 ct):=by rw[<-HTV.out];exact M9.out.box.box.c 12 rfl
 have hrg:W9.rangeAt gt 0 (qd (tab f0)):=fun j v hj=>by
  have hr:=M9.out.rows.tt;rw[HTV.out]at hr;have:=hr.one (i:=0) (x:=f0) rfl j v hj;rw[zP,Addr.add_lit]at this
  simpa using this
 go_wp2_with (refine wpList_load_mid rfl 75 (.tmp 48) rfl gt 0 rfl (qd (tab f0)) _ hrg Tryz.underlying75 rfl (by rw[Zn,Qa];exact zlq) ?_)
 clear hrg x12;have HIX:Hid (∀{ops:Array Oper} {rest:List Oper} {o:Oper} {a:Act} {w:World} {Q:Exit->Act->World->Prop} (_:o.guard=none) (x ix:Operand) (_:o.op= .index 75 x ix) (_:a.eval x= .agg (qd (tab f0)).toArray) (i:Nat) (_:a.eval ix= .int .i64 (i:Int)) (_:i<64) {e:En} (_:f0 i=e)
  (_:wpList Tryz.prog ops Q rest (a.put o.dst (.agg #[.int .i64 e.kind,.int .i64 e.n,.bool e.wr])) w),wpList Tryz.prog ops Q (o :: rest) a w):=fun h1 x ix h2 h3 i h4 h5 _ h6 h7=>zbo h1 x ix h2 (tab f0) h3 i h4 h5 (by rw[QO h5,h6]) h7
 generalize qd (tab f0)=CF at HIX⊢
 go_wp2
 go_loopg [50] 64 (fun gg s50 wr=>∃(kk:Nat) (m':Ma) (T':List (Nat->En)) (fA fB:Nat->En),kk<=64/\64 - kk<=gg/\s50= .int .i64 kk/\Hid (Mk w0 hi wr b vl L V9 m' vt9 T')/\Hid (zn hi w wr)/\Hid (qO m' T')/\Hid (m'.sp=[s0,⟨true,s0.ars,qx⟩]/\m'.fl=m.fl/\m'.hand=m.hand/\m'.fs.length=m.fs.length)/\Hid (T'[0]? =some fA/\T'[1]? =some fB/\(∀j,kk<=j->fA j=f0 j/\fB j=en0))/\Hid (zp wr po 62 CO))
 case atStart=>exact⟨0,m9,_,f0,fun _=>en0,nZ _,by omega,rfl,M9.out,K9.out,HB9.out,HS9.out,(show _/\_ from⟨rfl,rfl,fun _ _=>⟨rfl,rfl⟩⟩),P9.out⟩
 obtain⟨kk,m',T',fA,fB,hkk,hgg,rfl,MW,KW,BW,SW,TW,PW⟩:=hrel;clear M9 K9 HB9 HS9 P9
 by_cases hlt:kk<64
 ·have hltz:(kk:Int)<64:=by omega
  obtain⟨ek,en,ew,HE⟩:∃ek en ew,Hid (f0 kk=⟨ek,en,ew⟩):=⟨_,_,_,rfl⟩;have HAK:Hid (fA kk=⟨ek,en,ew⟩):=show _=_ by rw[(TW.out.2.2 kk (nR _)).1];exact HE.out
  have HBK:Hid (fB kk=en0):=(TW.out.2.2 kk (nR _)).2;have HNX:Hid (∀e',(((T'.set 0 (qm fA kk e')).set 1 (qm fB kk e'))[0]? =some (qm fA kk e')/\((T'.set 0 (qm fA kk e')).set 1 (qm fB kk e'))[1]? =some (qm fB kk e')/\(∀j,kk+1<=j->qm fA kk e' j=f0 j/\qm fB kk e' j=en0))):=show∀e',_ from fun e'=>by
   have hA:=(gS.1 TW.out.1).1;have hB:=(gS.1 TW.out.2.1).1;refine⟨?_,?_,fun j hj=>?_⟩
   ·rw[sN (by decide)]
    exact sF hA
   ·exact sF (by simpa using hB)
   unfold qm;rw[if_neg (by omega),if_neg (by omega)]
   exact TW.out.2.2 j (by omega)
  have hent:=BW.out.entry0 (s0:=s0) (by rw[SW.out.1];rfl) TW.out.1 hlt
  rw[HAK.out]at hent
  go_upto_region 6 with(refine HIX.out rfl (.tmp 49) (.tmp 50) rfl rfl kk rfl hlt HE.out ?_)
  obtain⟨pe,HPE⟩:∃pe,Hid (wr.heap.size=pe):=⟨_,rfl⟩;obtain⟨W1,hW1⟩:∃W1,wr.alloc (.cells #[.int .i64 ek,.int .i64 en,.bool ew] 74)=W1:=⟨_,rfl⟩;have g1:=gP hW1
  have E1:=xPT hW1 HPE
  have M1:=dD (MW.out.grew g1);have K1:=dD (KW.out.trans (zn.grew g1));have P1:=dD (PW.out.grew g1);have HEL:Hid (hi<=pe/\w.heap.size<=pe):=show _/\_ by rw[<-HPE.out];exact⟨MW.out.rows.hw,KW.out.2⟩
  rw[hW1,HPE.out];clear hW1 g1 MW KW PW;have e0:=E1.out.box.c 0 rfl
  rcases hent with hE | ⟨k,fr,h1,h2,h3⟩ | ⟨k,z,h1,h2,h3,h4,h5⟩
  ·cases hE;have hk1:((0:Int) == 1)=false:=by decide
   have hk2:((0:Int) == 2)=false:=by decide
   go_upto_region 12 with fail;obtain⟨I,HI⟩:∃I:World->Prop,Hid (∀u,I u↔(u.cell? ⟨b,12,none⟩=some (.slice (some ⟨gt,0,none⟩) 2 ct)/\zp u pe 74 [.int .i64 0,.int .i64 0,.bool false]/\zp u po 62 CO)):=⟨fun u=>(u.cell? ⟨b,12,none⟩=some (.slice (some ⟨gt,0,none⟩) 2 ct)/\zp u pe 74 [.int .i64 0,.int .i64 0,.bool false]/\zp u po 62 CO),fun _=>Iff.rfl⟩
   have HIM:Hid (∀u m' T',Mk w0 hi u b vl L V9 m' vt9 T'->u.cell? ⟨b,12,none⟩=some (.slice (some ⟨gt,0,none⟩) 2 ct)):=show∀u,_ from fun u m' T' hm=>by
    have:=hm.box.box.c 12 rfl;rw[HTV.out]at this;exact this
   have hI0:I W1.drew:=(HI.out _).2 ⟨HIM.out _ _ _ (M1.out.grew (gW _)),E1.out.grew (gW _),P1.out.grew (gW _)⟩
   have hF0:Mk w0 hi W1.drew b vl L V9 m' vt9 T'/\zn hi w W1.drew:=⟨M1.out.grew (gW _),K1.out.trans (zn.grew (gW _))⟩
   have ht:∀y:zr I,y.world.cell? ⟨b,12,none⟩=some (.slice (some ⟨gt,0,none⟩) 2 ct):=fun y=>((HI.out _).1 y.holds).1
   have he0:∀y:zr I,y.world.cell? ⟨pe,0,none⟩=some (.int .i64 0):=fun y=>((HI.out _).1 y.holds).2.1.box.c 0 rfl
   have he1:∀y:zr I,y.world.cell? ⟨pe,1,none⟩=some (.int .i64 0):=fun y=>((HI.out _).1 y.holds).2.1.box.c 1 rfl
   have he2:∀y:zr I,y.world.cell? ⟨pe,2,none⟩=some (.bool false):=fun y=>((HI.out _).1 y.holds).2.1.box.c 2 rfl
   have hne:Nonempty (zr I):=⟨⟨_,hI0⟩⟩;refine zR (I:=I) 17 [(14,fun _=>True)] (fun u=>Mk w0 hi u b vl L V9 m' vt9 T'/\zn hi w u) hI0 hF0 qy (by kernel_rfl) rfl rfl (by decide) ?hS (by kernel_rfl) ?_
   case hS=>
    intro x hx;simp only[mC,nM,or_false]at hx;subst hx;exact⟨undef,trivial⟩
   simp only[List.take,List.drop];iterate 1 (refine zi rfl rfl rfl (fun K hK=>?_);go_big_quiet_op;refine hK _ ?_;clear hK K)
   refine zS (.tmp 91) ⟨b,0,none⟩ rfl rfl rfl rfl ?_;simp only[Act.put,sB,sS,sZ];iterate 4 (refine zi rfl rfl rfl (fun K hK=>?_);go_big_quiet_op;refine hK _ ?_;clear hK K)
   refine zS (.tmp 96) ⟨b,0,none⟩ rfl rfl rfl rfl ?_;simp only[Act.put,sB,sS,sZ];iterate 7 (refine zi rfl rfl rfl (fun K hK=>?_);go_big_quiet_op;refine hK _ ?_;clear hK K)
   refine qA rfl rfl (fun _ u=>Mk w0 hi u b vl L V9 m' vt9 (T'.set 0 (qm fA kk ⟨0,0,false⟩))/\zn hi w u) (fun w' hI' hF'=>?_) (fun v1 hv=>?_)
   ·obtain⟨i1,i2,i3⟩:=(HI.out _).1 hI';obtain⟨k1,k2⟩:=hF';have hr:=k1.rows.tt;rw[HTV.out]at hr;refine jL (E:=Qt) (.tmp 104) (.tmp 101) 74 rfl w0.heap.size (.slice (some ⟨gt,0,none⟩) 2 ct) T' hr gt 0 (kk*3) rfl fA (qm fA kk ⟨0,0,false⟩) TW.out.1 (env ⟨0,0,false⟩) (by kernel_rfl) (jl fA hlt _) (by show kk*3+3<=192;omega) (enE.one _) _ rfl (by first | rfl | simp) (.agg (env ⟨0,0,false⟩).toArray) rfl rfl (fun w2 ow gr sz=>?_)
    rw[<-HTV.out]at ow;have hM:=k1.setT (by rw[HTV.out];rfl) gr sz ow
    exact⟨(HI.out _).2 ⟨HIM.out _ _ _ hM.1,hM.2.1 _ _ _ i2 Ql,hM.2.1 _ _ _ i3 jW⟩,trivial,hM.1,k2.trans hM.2⟩
   try simp only[Act.put]
   iterate 2 (refine zi rfl rfl rfl (fun K hK=>?_);go_big_quiet_op;refine hK _ ?_;clear hK K)
   refine ja fun W8 hI8 hF8=>?_
   have M8:Hid (Mk w0 hi W8 b vl L V9 m' vt9 (T'.set 0 (qm fA kk ⟨0,0,false⟩))):=hF8.1;have K8:Hid (zn hi w W8):=hF8.2;have P8:Hid (zp W8 po 62 CO):=((HI.out _).1 hI8).2.2;clear hF8 hI8 hI0 hF0 ht he0 he1 he2 hne HI;have R8:Hid (zb Qt w0.heap.size W8 (.slice (some ⟨gt,0,none⟩) 2 ct) (T'.set 0 (qm fA kk ⟨0,0,false⟩))):=show zb _ _ _ _ _ by rw[<-HTV.out];exact M8.out.rows.tt
   refine zu (E:=Qt) rfl (.tmp 106) (.tmp 102) 74 rfl w0.heap.size _ _ R8.out gt 1 (kk*3) rfl fB (qm fB kk ⟨0,0,false⟩) (by rw[sN (by decide)];exact TW.out.2.1) (env ⟨0,0,false⟩) (by kernel_rfl) (jl fB hlt _) (by show kk*3+3<=192;omega) (enE.one _) _ rfl (by first | rfl | simp) (.agg (env ⟨0,0,false⟩).toArray) rfl rfl ?_
   intro W9 ow9 gr9 sz9;rw[<-HTV.out]at ow9;have hM9:=M8.out.setT (by rw[HTV.out];rfl) gr9 sz9 ow9
   have M9:Hid (Mk w0 hi W9 b vl L V9 m' vt9 ((T'.set 0 (qm fA kk ⟨0,0,false⟩)).set 1 (qm fB kk ⟨0,0,false⟩))):=hM9.1;have K9:Hid (zn hi w W9):=K8.out.trans hM9.2;have P9:Hid (zp W9 po 62 CO):=hM9.2.1 _ _ _ P8.out jW;have B9:Hid (qO m' ((T'.set 0 (qm fA kk ⟨0,0,false⟩)).set 1 (qm fB kk ⟨0,0,false⟩))):=(show qO _ _ by
    have:=zhN TW.out.1 TW.out.2.1 HAK.out HBK.out;rw[show(⟨0,0,false⟩:En)=en0 from rfl,this]
    exact BW.out)
   clear hM9 ow9 gr9 sz9 R8 M8 K8 P8;go_wp2
   go_roundg (64 -(kk+1))
   case measure=>omega
   exact⟨kk+1,m',_,_,_,by omega,by omega,by go_num,M9.out,K9.out,B9.out,(show _/\_ from SW.out),HNX.out _,P9.out⟩
  ·dsimp only at h1 h2;subst h1;subst h2;have HK:Hid (m'.fs[k]? =some fr):=h3;obtain⟨hr0,hr1⟩:=BW.out.refs h3;obtain⟨nf,HNF⟩:∃nf,Hid (m'.fs.length=nf):=⟨_,rfl⟩;have hkn:k<nf:=by rw[<-HNF.out];exact(gS.1 h3).1
   have hkz:(k:Int)< (nf:Int):=by omega
   clear h3;have hk1:((1:Int) == 1)=true:=by decide
   have hk2:((1:Int) == 2)=false:=by decide
   obtain⟨g,cf,heq⟩:=M1.out.rows.fs.formS (by rw[HNF.out];omega)
   rw[HNF.out]at heq;have HEQ:Hid (Value.slice V9.f.a V9.f.n V9.f.c= .slice (some ⟨g,0,none⟩) nf cf):=heq;have hrw:=M1.out.rows.fs;rw[HEQ.out]at hrw;have HRW:Hid (zb Jx w0.heap.size W1 (.slice (some ⟨g,0,none⟩) nf cf) m'.fs):=hrw;clear hrw heq;go_upto_region 7 with fail;clear e0;obtain⟨I,HI⟩:∃I:World->Prop,Hid (∀u,I u↔zc W1 u):=⟨fun u=>zc W1 u,fun _=>Iff.rfl⟩
   have hI0:I W1.drew:=(HI.out _).2 (gW _)
   have hx1:∀y:zr I,y.world.cell? ⟨b,1,none⟩=some (.slice (some ⟨g,0,none⟩) nf cf):=fun y=>by rw[<-HEQ.out];exact(M1.out.box.box.grew ((HI.out _).1 y.holds)).c 1 rfl
   have he1:∀y:zr I,y.world.cell? ⟨pe,1,none⟩=some (.int .i64 (k:Int)):=fun y=>(E1.out.box.grew ((HI.out _).1 y.holds)).c 1 rfl
   have hd8:∀y:zr I,y.world.cell? ⟨g,k*13+8,none⟩=some (.int .i64 fr.r):=fun y=>by
    have:=(HRW.out.grew ((HI.out _).1 y.holds)).one HK.out 8 _ rfl;rw[zP,Addr.add_lit,zA]at this;exact this
   have hne:Nonempty (zr I):=⟨⟨_,hI0⟩⟩;refine ZM (I:=I) 14 [] hI0 qy (by kernel_rfl) rfl rfl (by decide) (by simp) (by kernel_rfl) ?_
   simp only[List.take,List.drop];iterate 1 (refine qw rfl rfl rfl (fun K hK=>?_);go_big_quiet_op;refine hK _ ?_;clear hK K)
   refine zbB (.tmp 57) ⟨b,0,none⟩ rfl rfl rfl rfl ?_;simp only[Act.put,sB,sS,sZ];iterate 12 (refine qw rfl rfl rfl (fun K hK=>?_);go_big_quiet_op;refine hK _ ?_;clear hK K)
   refine za9 fun W2 hI2 hF=>?_
   have g2:=(HI.out _).1 hI2;have M2:=dD (M1.out.grew g2);have K2:=dD (K1.out.trans (zn.grew g2));have E2:=dD (E1.out.grew g2);have P2:=dD (P1.out.grew g2);have R2:=dD (HRW.out.grew g2);clear g2 hI2 hF hx1 he1 hd8 hne hI0 HI M1 K1 E1 P1 HRW;have xf:=R2.out.unfrozen rfl;have d8:W2.cell? ⟨g,k*13+8,none⟩=some (.int .i64 fr.r):=by
    have:=R2.out.one HK.out 8 _ rfl;rw[zP,Addr.add_lit,zA]at this;exact this
   go_upto_region 8 with fail;clear d8 xf;obtain⟨ow3,gr3,sz3⟩:=R2.out.cell (k:=k) (o:=8) rfl HK.out (y:={ fr with r:=fr.r+1 }) (u:= .int .i64 (fr.r+1)) rfl (by decide)
   obtain⟨W3,hW3⟩:∃W3,W2.setCell ⟨g,k*13+8,none⟩ (.int .i64 (fr.r+1))=W3:=⟨_,rfl⟩;have e3:W2.setCell ⟨g,k*Jx.k+8,none⟩ (.int .i64 (fr.r+1))=W3:=hW3;rw[e3]at ow3 gr3 sz3;rw[hW3];rw[<-HEQ.out]at ow3;have hM3:=M2.out.setF (by rw[HEQ.out];rfl) gr3 sz3 ow3
   have M3:Hid (Mk w0 hi W3 b vl L V9 { m' with fs:=m'.fs.set k { fr with r:=fr.r+1 } } vt9 T'):=hM3.1;have K3:Hid (zn hi w W3):=K2.out.trans hM3.2;have E3:Hid (zp W3 pe 74 [.int .i64 1,.int .i64 (k:Int),.bool ew]):=hM3.2.1 _ _ _ E2.out Ql;have P3:Hid (zp W3 po 62 CO):=hM3.2.1 _ _ _ P2.out jW;clear e3 hW3 ow3 gr3 sz3 hM3 M2 K2 E2 P2 R2;have HBF:Hid (∀e',e'=(if(zH s0.ars kk).sh=true then(⟨1,(k:Int),ew⟩:En)else⟨1,(k:Int),false⟩)->qO { m' with fs:=m'.fs.set k { fr with r:=fr.r+1 } } ((T'.set 0 (qm fA kk e')).set 1 (qm fB kk e'))):=show∀e',_ from fun e' he=>BW.out.forkP (s0:=s0) (s1:=⟨true,s0.ars,qx⟩) (by rw[SW.out.1];rfl) (by rw[SW.out.1];rfl) rfl TW.out.1 TW.out.2.1 hlt HBK.out HK.out (by rw[HAK.out]) (by rw[HAK.out]) (by rw[HAK.out];exact he)
   have o3:=P3.out.box.c _ (HCA.out kk hlt);have e0:=E3.out.box.c 0 rfl
   cases hsh:(zH s0.ars kk).sh with
   | true=>
    rw[hsh]at o3 HBF;clear hsh;go_upto_region 10 with fail;clear o3;go_upto_region 12 with fail;obtain⟨I,HI⟩:∃I:World->Prop,Hid (∀u,I u↔(u.cell? ⟨b,12,none⟩=some (.slice (some ⟨gt,0,none⟩) 2 ct)/\zp u pe 74 [.int .i64 1,.int .i64 (k:Int),.bool ew]/\zp u po 62 CO)):=⟨fun u=>(u.cell? ⟨b,12,none⟩=some (.slice (some ⟨gt,0,none⟩) 2 ct)/\zp u pe 74 [.int .i64 1,.int .i64 (k:Int),.bool ew]/\zp u po 62 CO),fun _=>Iff.rfl⟩
    have HIM:Hid (∀u m' T',Mk w0 hi u b vl L V9 m' vt9 T'->u.cell? ⟨b,12,none⟩=some (.slice (some ⟨gt,0,none⟩) 2 ct)):=show∀u,_ from fun u m' T' hm=>by
     have:=hm.box.box.c 12 rfl;rw[HTV.out]at this;exact this
    have hI0:I W3.drew:=(HI.out _).2 ⟨HIM.out _ _ _ (M3.out.grew (gW _)),E3.out.grew (gW _),P3.out.grew (gW _)⟩
    have hF0:Mk w0 hi W3.drew b vl L V9 { m' with fs:=m'.fs.set k { fr with r:=fr.r+1 } } vt9 T'/\zn hi w W3.drew:=⟨M3.out.grew (gW _),K3.out.trans (zn.grew (gW _))⟩
    have ht:∀y:zr I,y.world.cell? ⟨b,12,none⟩=some (.slice (some ⟨gt,0,none⟩) 2 ct):=fun y=>((HI.out _).1 y.holds).1
    have he0:∀y:zr I,y.world.cell? ⟨pe,0,none⟩=some (.int .i64 1):=fun y=>((HI.out _).1 y.holds).2.1.box.c 0 rfl
    have he1:∀y:zr I,y.world.cell? ⟨pe,1,none⟩=some (.int .i64 (k:Int)):=fun y=>((HI.out _).1 y.holds).2.1.box.c 1 rfl
    have he2:∀y:zr I,y.world.cell? ⟨pe,2,none⟩=some (.bool ew):=fun y=>((HI.out _).1 y.holds).2.1.box.c 2 rfl
    have hne:Nonempty (zr I):=⟨⟨_,hI0⟩⟩;refine zR (I:=I) 17 [(14,fun _=>True)] (fun u=>Mk w0 hi u b vl L V9 { m' with fs:=m'.fs.set k { fr with r:=fr.r+1 } } vt9 T'/\zn hi w u) hI0 hF0 qy (by kernel_rfl) rfl rfl (by decide) ?hS (by kernel_rfl) ?_
    case hS=>
     intro x hx;simp only[mC,nM,or_false]at hx;subst hx;exact⟨undef,trivial⟩
    simp only[List.take,List.drop];iterate 1 (refine zi rfl rfl rfl (fun K hK=>?_);go_big_quiet_op;refine hK _ ?_;clear hK K)
    refine zS (.tmp 91) ⟨b,0,none⟩ rfl rfl rfl rfl ?_;simp only[Act.put,sB,sS,sZ];iterate 4 (refine zi rfl rfl rfl (fun K hK=>?_);go_big_quiet_op;refine hK _ ?_;clear hK K)
    refine zS (.tmp 96) ⟨b,0,none⟩ rfl rfl rfl rfl ?_;simp only[Act.put,sB,sS,sZ];iterate 7 (refine zi rfl rfl rfl (fun K hK=>?_);go_big_quiet_op;refine hK _ ?_;clear hK K)
    refine qA rfl rfl (fun _ u=>Mk w0 hi u b vl L V9 { m' with fs:=m'.fs.set k { fr with r:=fr.r+1 } } vt9 (T'.set 0 (qm fA kk ⟨1,(k:Int),ew⟩))/\zn hi w u) (fun w' hI' hF'=>?_) (fun v1 hv=>?_)
    ·obtain⟨i1,i2,i3⟩:=(HI.out _).1 hI';obtain⟨k1,k2⟩:=hF';have hr:=k1.rows.tt;rw[HTV.out]at hr;refine jL (E:=Qt) (.tmp 104) (.tmp 101) 74 rfl w0.heap.size (.slice (some ⟨gt,0,none⟩) 2 ct) T' hr gt 0 (kk*3) rfl fA (qm fA kk ⟨1,(k:Int),ew⟩) TW.out.1 (env ⟨1,(k:Int),ew⟩) (by kernel_rfl) (jl fA hlt _) (by show kk*3+3<=192;omega) (enE.one _) _ rfl (by first | rfl | simp) (.agg (env ⟨1,(k:Int),ew⟩).toArray) rfl rfl (fun w2 ow gr sz=>?_)
     rw[<-HTV.out]at ow;have hM:=k1.setT (by rw[HTV.out];rfl) gr sz ow
     exact⟨(HI.out _).2 ⟨HIM.out _ _ _ hM.1,hM.2.1 _ _ _ i2 Ql,hM.2.1 _ _ _ i3 jW⟩,trivial,hM.1,k2.trans hM.2⟩
    try simp only[Act.put]
    iterate 2 (refine zi rfl rfl rfl (fun K hK=>?_);go_big_quiet_op;refine hK _ ?_;clear hK K)
    refine ja fun W8 hI8 hF8=>?_
    have M8:Hid (Mk w0 hi W8 b vl L V9 { m' with fs:=m'.fs.set k { fr with r:=fr.r+1 } } vt9 (T'.set 0 (qm fA kk ⟨1,(k:Int),ew⟩))):=hF8.1;have K8:Hid (zn hi w W8):=hF8.2;have P8:Hid (zp W8 po 62 CO):=((HI.out _).1 hI8).2.2;clear hF8 hI8 hI0 hF0 ht he0 he1 he2 hne HI;have R8:Hid (zb Qt w0.heap.size W8 (.slice (some ⟨gt,0,none⟩) 2 ct) (T'.set 0 (qm fA kk ⟨1,(k:Int),ew⟩))):=show zb _ _ _ _ _ by rw[<-HTV.out];exact M8.out.rows.tt
    refine zu (E:=Qt) rfl (.tmp 106) (.tmp 102) 74 rfl w0.heap.size _ _ R8.out gt 1 (kk*3) rfl fB (qm fB kk ⟨1,(k:Int),ew⟩) (by rw[sN (by decide)];exact TW.out.2.1) (env ⟨1,(k:Int),ew⟩) (by kernel_rfl) (jl fB hlt _) (by show kk*3+3<=192;omega) (enE.one _) _ rfl (by first | rfl | simp) (.agg (env ⟨1,(k:Int),ew⟩).toArray) rfl rfl ?_
    intro W9 ow9 gr9 sz9;rw[<-HTV.out]at ow9;have hM9:=M8.out.setT (by rw[HTV.out];rfl) gr9 sz9 ow9
    have M9:Hid (Mk w0 hi W9 b vl L V9 { m' with fs:=m'.fs.set k { fr with r:=fr.r+1 } } vt9 ((T'.set 0 (qm fA kk ⟨1,(k:Int),ew⟩)).set 1 (qm fB kk ⟨1,(k:Int),ew⟩))):=hM9.1;have K9:Hid (zn hi w W9):=K8.out.trans hM9.2;have P9:Hid (zp W9 po 62 CO):=hM9.2.1 _ _ _ P8.out jW;have B9:Hid (qO { m' with fs:=m'.fs.set k { fr with r:=fr.r+1 } } ((T'.set 0 (qm fA kk ⟨1,(k:Int),ew⟩)).set 1 (qm fB kk ⟨1,(k:Int),ew⟩))):=(show qO _ _ from HBF.out _ (if_pos rfl).symm)
    clear hM9 ow9 gr9 sz9 R8 M8 K8 P8;go_wp2
    go_roundg (64 -(kk+1))
    case measure=>omega
    exact⟨kk+1,{ m' with fs:=m'.fs.set k { fr with r:=fr.r+1 } },_,_,_,by omega,by omega,by go_num,M9.out,K9.out,B9.out,(show _/\_ from⟨SW.out.1,SW.out.2.1,SW.out.2.2.1,List.length_set.trans SW.out.2.2.2⟩),HNX.out _,P9.out⟩
   | false=>
    rw[hsh]at o3 HBF;clear hsh;have e2:=E3.out.box.c 2 rfl;have xf:=E3.out.box.f;go_upto_region 10 with fail;clear o3 e0 e2 xf;obtain⟨W4,hW4⟩:∃W4,W3.setCell ⟨pe,2,none⟩ (.bool false)=W4:=⟨_,rfl⟩;have hg4:W3.grownBy W4 (some pe):=by rw[<-hW4];exact jc _ _ _ _
    have E4:Hid (zp W4 pe 74 [.int .i64 1,.int .i64 (k:Int),.bool false]):=show zp _ _ _ _ by rw[<-hW4];exact E3.out.set 2 _
    have M4:Hid (Mk w0 hi W4 b vl L V9 { m' with fs:=m'.fs.set k { fr with r:=fr.r+1 } } vt9 T'):=M3.out.entry E3.out HEL.out.1 hg4;have K4:Hid (zn hi w W4):=K3.out.own hg4 HEL.out.2;have P4:Hid (zp W4 po 62 CO):=P3.out.beside hg4 (fun g e=>by
     cases e;intro e;have h1:W3.heap[po]? =_:=P3.out;rw[e,show W3.heap[pe]? =_ from E3.out]at h1
     cases h1)
    rw[hW4];clear hW4 hg4 M3 K3 E3 P3;have e0:=E4.out.box.c 0 rfl;go_upto_region 12 with fail;obtain⟨I,HI⟩:∃I:World->Prop,Hid (∀u,I u↔(u.cell? ⟨b,12,none⟩=some (.slice (some ⟨gt,0,none⟩) 2 ct)/\zp u pe 74 [.int .i64 1,.int .i64 (k:Int),.bool false]/\zp u po 62 CO)):=⟨fun u=>(u.cell? ⟨b,12,none⟩=some (.slice (some ⟨gt,0,none⟩) 2 ct)/\zp u pe 74 [.int .i64 1,.int .i64 (k:Int),.bool false]/\zp u po 62 CO),fun _=>Iff.rfl⟩
    have HIM:Hid (∀u m' T',Mk w0 hi u b vl L V9 m' vt9 T'->u.cell? ⟨b,12,none⟩=some (.slice (some ⟨gt,0,none⟩) 2 ct)):=show∀u,_ from fun u m' T' hm=>by
     have:=hm.box.box.c 12 rfl;rw[HTV.out]at this;exact this
    have hI0:I W4.drew:=(HI.out _).2 ⟨HIM.out _ _ _ (M4.out.grew (gW _)),E4.out.grew (gW _),P4.out.grew (gW _)⟩
    have hF0:Mk w0 hi W4.drew b vl L V9 { m' with fs:=m'.fs.set k { fr with r:=fr.r+1 } } vt9 T'/\zn hi w W4.drew:=⟨M4.out.grew (gW _),K4.out.trans (zn.grew (gW _))⟩
    have ht:∀y:zr I,y.world.cell? ⟨b,12,none⟩=some (.slice (some ⟨gt,0,none⟩) 2 ct):=fun y=>((HI.out _).1 y.holds).1
    have he0:∀y:zr I,y.world.cell? ⟨pe,0,none⟩=some (.int .i64 1):=fun y=>((HI.out _).1 y.holds).2.1.box.c 0 rfl
    have he1:∀y:zr I,y.world.cell? ⟨pe,1,none⟩=some (.int .i64 (k:Int)):=fun y=>((HI.out _).1 y.holds).2.1.box.c 1 rfl
    have he2:∀y:zr I,y.world.cell? ⟨pe,2,none⟩=some (.bool false):=fun y=>((HI.out _).1 y.holds).2.1.box.c 2 rfl
    have hne:Nonempty (zr I):=⟨⟨_,hI0⟩⟩;refine zR (I:=I) 17 [(14,fun _=>True)] (fun u=>Mk w0 hi u b vl L V9 { m' with fs:=m'.fs.set k { fr with r:=fr.r+1 } } vt9 T'/\zn hi w u) hI0 hF0 qy (by kernel_rfl) rfl rfl (by decide) ?hS (by kernel_rfl) ?_
    case hS=>
     intro x hx;simp only[mC,nM,or_false]at hx;subst hx;exact⟨undef,trivial⟩
    simp only[List.take,List.drop];iterate 1 (refine zi rfl rfl rfl (fun K hK=>?_);go_big_quiet_op;refine hK _ ?_;clear hK K)
    refine zS (.tmp 91) ⟨b,0,none⟩ rfl rfl rfl rfl ?_;simp only[Act.put,sB,sS,sZ];iterate 4 (refine zi rfl rfl rfl (fun K hK=>?_);go_big_quiet_op;refine hK _ ?_;clear hK K)
    refine zS (.tmp 96) ⟨b,0,none⟩ rfl rfl rfl rfl ?_;simp only[Act.put,sB,sS,sZ];iterate 7 (refine zi rfl rfl rfl (fun K hK=>?_);go_big_quiet_op;refine hK _ ?_;clear hK K)
    refine qA rfl rfl (fun _ u=>Mk w0 hi u b vl L V9 { m' with fs:=m'.fs.set k { fr with r:=fr.r+1 } } vt9 (T'.set 0 (qm fA kk ⟨1,(k:Int),false⟩))/\zn hi w u) (fun w' hI' hF'=>?_) (fun v1 hv=>?_)
    ·obtain⟨i1,i2,i3⟩:=(HI.out _).1 hI';obtain⟨k1,k2⟩:=hF';have hr:=k1.rows.tt;rw[HTV.out]at hr;refine jL (E:=Qt) (.tmp 104) (.tmp 101) 74 rfl w0.heap.size (.slice (some ⟨gt,0,none⟩) 2 ct) T' hr gt 0 (kk*3) rfl fA (qm fA kk ⟨1,(k:Int),false⟩) TW.out.1 (env ⟨1,(k:Int),false⟩) (by kernel_rfl) (jl fA hlt _) (by show kk*3+3<=192;omega) (enE.one _) _ rfl (by first | rfl | simp) (.agg (env ⟨1,(k:Int),false⟩).toArray) rfl rfl (fun w2 ow gr sz=>?_)
     rw[<-HTV.out]at ow;have hM:=k1.setT (by rw[HTV.out];rfl) gr sz ow
     exact⟨(HI.out _).2 ⟨HIM.out _ _ _ hM.1,hM.2.1 _ _ _ i2 Ql,hM.2.1 _ _ _ i3 jW⟩,trivial,hM.1,k2.trans hM.2⟩
    try simp only[Act.put]
    iterate 2 (refine zi rfl rfl rfl (fun K hK=>?_);go_big_quiet_op;refine hK _ ?_;clear hK K)
    refine ja fun W8 hI8 hF8=>?_
    have M8:Hid (Mk w0 hi W8 b vl L V9 { m' with fs:=m'.fs.set k { fr with r:=fr.r+1 } } vt9 (T'.set 0 (qm fA kk ⟨1,(k:Int),false⟩))):=hF8.1;have K8:Hid (zn hi w W8):=hF8.2;have P8:Hid (zp W8 po 62 CO):=((HI.out _).1 hI8).2.2;clear hF8 hI8 hI0 hF0 ht he0 he1 he2 hne HI;have R8:Hid (zb Qt w0.heap.size W8 (.slice (some ⟨gt,0,none⟩) 2 ct) (T'.set 0 (qm fA kk ⟨1,(k:Int),false⟩))):=show zb _ _ _ _ _ by rw[<-HTV.out];exact M8.out.rows.tt
    refine zu (E:=Qt) rfl (.tmp 106) (.tmp 102) 74 rfl w0.heap.size _ _ R8.out gt 1 (kk*3) rfl fB (qm fB kk ⟨1,(k:Int),false⟩) (by rw[sN (by decide)];exact TW.out.2.1) (env ⟨1,(k:Int),false⟩) (by kernel_rfl) (jl fB hlt _) (by show kk*3+3<=192;omega) (enE.one _) _ rfl (by first | rfl | simp) (.agg (env ⟨1,(k:Int),false⟩).toArray) rfl rfl ?_
    intro W9 ow9 gr9 sz9;rw[<-HTV.out]at ow9;have hM9:=M8.out.setT (by rw[HTV.out];rfl) gr9 sz9 ow9
    have M9:Hid (Mk w0 hi W9 b vl L V9 { m' with fs:=m'.fs.set k { fr with r:=fr.r+1 } } vt9 ((T'.set 0 (qm fA kk ⟨1,(k:Int),false⟩)).set 1 (qm fB kk ⟨1,(k:Int),false⟩))):=hM9.1;have K9:Hid (zn hi w W9):=K8.out.trans hM9.2;have P9:Hid (zp W9 po 62 CO):=hM9.2.1 _ _ _ P8.out jW;have B9:Hid (qO { m' with fs:=m'.fs.set k { fr with r:=fr.r+1 } } ((T'.set 0 (qm fA kk ⟨1,(k:Int),false⟩)).set 1 (qm fB kk ⟨1,(k:Int),false⟩))):=(show qO _ _ from HBF.out _ (if_neg (by decide)).symm)
    clear hM9 ow9 gr9 sz9 R8 M8 K8 P8;go_wp2
    go_roundg (64 -(kk+1))
    case measure=>omega
    exact⟨kk+1,{ m' with fs:=m'.fs.set k { fr with r:=fr.r+1 } },_,_,_,by omega,by omega,by go_num,M9.out,K9.out,B9.out,(show _/\_ from⟨SW.out.1,SW.out.2.1,SW.out.2.2.1,List.length_set.trans SW.out.2.2.2⟩),HNX.out _,P9.out⟩
  dsimp only at h1 h2;subst h1;subst h2;have HK:Hid (m'.sl[k]? =some z):=h3;obtain⟨nf,HNF⟩:∃nf,Hid (m'.sl.length=nf):=⟨_,rfl⟩;have hkn:k<nf:=by rw[<-HNF.out];exact(gS.1 h3).1
  have hkz:(k:Int)< (nf:Int):=by omega
  clear h3;have hk1:((2:Int) == 1)=false:=by decide
  have hk2:((2:Int) == 2)=true:=by decide
  obtain⟨g,cf,heq⟩:=M1.out.rows.sl.formS (by rw[HNF.out];omega)
  rw[HNF.out]at heq;have HEQ:Hid (Value.slice V9.s.a V9.s.n V9.s.c= .slice (some ⟨g,0,none⟩) nf cf):=heq;have hrw:=M1.out.rows.sl;rw[HEQ.out]at hrw;have HRW:Hid (zb slE w0.heap.size W1 (.slice (some ⟨g,0,none⟩) nf cf) m'.sl):=hrw;clear hrw heq;go_upto_region 11 with fail;clear e0;obtain⟨I,HI⟩:∃I:World->Prop,Hid (∀u,I u↔zc W1 u):=⟨fun u=>zc W1 u,fun _=>Iff.rfl⟩
  have hI0:I W1.drew:=(HI.out _).2 (gW _)
  have hx1:∀y:zr I,y.world.cell? ⟨b,3,none⟩=some (.slice (some ⟨g,0,none⟩) nf cf):=fun y=>by rw[<-HEQ.out];exact(M1.out.box.box.grew ((HI.out _).1 y.holds)).c 3 rfl
  have he1:∀y:zr I,y.world.cell? ⟨pe,1,none⟩=some (.int .i64 (k:Int)):=fun y=>(E1.out.box.grew ((HI.out _).1 y.holds)).c 1 rfl
  have hd8:∀y:zr I,y.world.cell? ⟨g,k,none⟩=some (.int .i64 z):=fun y=>by
   have:=(HRW.out.grew ((HI.out _).1 y.holds)).one HK.out 0 _ rfl;rw[zP,Addr.add_lit,zA]at this
   simpa [slE,Nat.mul_one]using this
  have hne:Nonempty (zr I):=⟨⟨_,hI0⟩⟩;refine ZM (I:=I) 11 [] hI0 qy (by kernel_rfl) rfl rfl (by decide) (by simp) (by kernel_rfl) ?_
  simp only[List.take,List.drop];iterate 1 (refine qw rfl rfl rfl (fun K hK=>?_);go_big_quiet_op;refine hK _ ?_;clear hK K)
  refine zbB (.tmp 80) ⟨b,0,none⟩ rfl rfl rfl rfl ?_;simp only[Act.put,sB,sS,sZ];iterate 9 (refine qw rfl rfl rfl (fun K hK=>?_);go_big_quiet_op;refine hK _ ?_;clear hK K)
  refine za9 fun W2 hI2 hF=>?_
  have g2:=(HI.out _).1 hI2;have M2:=dD (M1.out.grew g2);have K2:=dD (K1.out.trans (zn.grew g2));have E2:=dD (E1.out.grew g2);have P2:=dD (P1.out.grew g2);have R2:=dD (HRW.out.grew g2);clear g2 hI2 hF hx1 he1 hd8 hne hI0 HI M1 K1 E1 P1 HRW;have xf:=R2.out.unfrozen rfl;have d8:W2.cell? ⟨g,k,none⟩=some (.int .i64 z):=by
   have:=R2.out.one HK.out 0 _ rfl;rw[zP,Addr.add_lit,zA]at this
   simpa [slE,Nat.mul_one]using this
  go_upto_region 12 with fail;clear d8 xf;obtain⟨ow3,gr3,sz3⟩:=R2.out.cell (k:=k) (o:=0) rfl HK.out (y:=z+1) (u:= .int .i64 (z+1)) rfl (by decide)
  obtain⟨W3,hW3⟩:∃W3,W2.setCell ⟨g,k,none⟩ (.int .i64 (z+1))=W3:=⟨_,rfl⟩;have e3:W2.setCell ⟨g,k*slE.k+0,none⟩ (.int .i64 (z+1))=W3:=by rw[<-hW3];simp[slE]
  rw[e3]at ow3 gr3 sz3;rw[hW3];rw[<-HEQ.out]at ow3;have hM3:=M2.out.setS (by rw[HEQ.out];rfl) gr3 sz3 ow3
  have M3:Hid (Mk w0 hi W3 b vl L V9 { m' with sl:=m'.sl.set k (z+1) } vt9 T'):=hM3.1;have K3:Hid (zn hi w W3):=K2.out.trans hM3.2;have E3:Hid (zp W3 pe 74 [.int .i64 2,.int .i64 (k:Int),.bool ew]):=hM3.2.1 _ _ _ E2.out Ql;have P3:Hid (zp W3 po 62 CO):=hM3.2.1 _ _ _ P2.out jW;clear e3 hW3 ow3 gr3 sz3 hM3 M2 K2 E2 P2 R2;obtain⟨I,HI⟩:∃I:World->Prop,Hid (∀u,I u↔(u.cell? ⟨b,12,none⟩=some (.slice (some ⟨gt,0,none⟩) 2 ct)/\zp u pe 74 [.int .i64 2,.int .i64 (k:Int),.bool ew]/\zp u po 62 CO)):=⟨fun u=>(u.cell? ⟨b,12,none⟩=some (.slice (some ⟨gt,0,none⟩) 2 ct)/\zp u pe 74 [.int .i64 2,.int .i64 (k:Int),.bool ew]/\zp u po 62 CO),fun _=>Iff.rfl⟩
  have HIM:Hid (∀u m' T',Mk w0 hi u b vl L V9 m' vt9 T'->u.cell? ⟨b,12,none⟩=some (.slice (some ⟨gt,0,none⟩) 2 ct)):=show∀u,_ from fun u m' T' hm=>by
   have:=hm.box.box.c 12 rfl;rw[HTV.out]at this;exact this
  have hI0:I W3.drew:=(HI.out _).2 ⟨HIM.out _ _ _ (M3.out.grew (gW _)),E3.out.grew (gW _),P3.out.grew (gW _)⟩
  have hF0:Mk w0 hi W3.drew b vl L V9 { m' with sl:=m'.sl.set k (z+1) } vt9 T'/\zn hi w W3.drew:=⟨M3.out.grew (gW _),K3.out.trans (zn.grew (gW _))⟩
  have ht:∀y:zr I,y.world.cell? ⟨b,12,none⟩=some (.slice (some ⟨gt,0,none⟩) 2 ct):=fun y=>((HI.out _).1 y.holds).1
  have he0:∀y:zr I,y.world.cell? ⟨pe,0,none⟩=some (.int .i64 2):=fun y=>((HI.out _).1 y.holds).2.1.box.c 0 rfl
  have he1:∀y:zr I,y.world.cell? ⟨pe,1,none⟩=some (.int .i64 (k:Int)):=fun y=>((HI.out _).1 y.holds).2.1.box.c 1 rfl
  have he2:∀y:zr I,y.world.cell? ⟨pe,2,none⟩=some (.bool ew):=fun y=>((HI.out _).1 y.holds).2.1.box.c 2 rfl
  have hne:Nonempty (zr I):=⟨⟨_,hI0⟩⟩;refine zR (I:=I) 17 [(14,fun _=>True)] (fun u=>Mk w0 hi u b vl L V9 { m' with sl:=m'.sl.set k (z+1) } vt9 T'/\zn hi w u) hI0 hF0 qy (by kernel_rfl) rfl rfl (by decide) ?hS (by kernel_rfl) ?_
  case hS=>
   intro x hx;simp only[mC,nM,or_false]at hx;subst hx;exact⟨undef,trivial⟩
  simp only[List.take,List.drop];iterate 1 (refine zi rfl rfl rfl (fun K hK=>?_);go_big_quiet_op;refine hK _ ?_;clear hK K)
  refine zS (.tmp 91) ⟨b,0,none⟩ rfl rfl rfl rfl ?_;simp only[Act.put,sB,sS,sZ];iterate 4 (refine zi rfl rfl rfl (fun K hK=>?_);go_big_quiet_op;refine hK _ ?_;clear hK K)
  refine zS (.tmp 96) ⟨b,0,none⟩ rfl rfl rfl rfl ?_;simp only[Act.put,sB,sS,sZ];iterate 7 (refine zi rfl rfl rfl (fun K hK=>?_);go_big_quiet_op;refine hK _ ?_;clear hK K)
  refine qA rfl rfl (fun _ u=>Mk w0 hi u b vl L V9 { m' with sl:=m'.sl.set k (z+1) } vt9 (T'.set 0 (qm fA kk ⟨2,(k:Int),ew⟩))/\zn hi w u) (fun w' hI' hF'=>?_) (fun v1 hv=>?_)
  ·obtain⟨i1,i2,i3⟩:=(HI.out _).1 hI';obtain⟨k1,k2⟩:=hF';have hr:=k1.rows.tt;rw[HTV.out]at hr;refine jL (E:=Qt) (.tmp 104) (.tmp 101) 74 rfl w0.heap.size (.slice (some ⟨gt,0,none⟩) 2 ct) T' hr gt 0 (kk*3) rfl fA (qm fA kk ⟨2,(k:Int),ew⟩) TW.out.1 (env ⟨2,(k:Int),ew⟩) (by kernel_rfl) (jl fA hlt _) (by show kk*3+3<=192;omega) (enE.one _) _ rfl (by first | rfl | simp) (.agg (env ⟨2,(k:Int),ew⟩).toArray) rfl rfl (fun w2 ow gr sz=>?_)
   rw[<-HTV.out]at ow;have hM:=k1.setT (by rw[HTV.out];rfl) gr sz ow
   exact⟨(HI.out _).2 ⟨HIM.out _ _ _ hM.1,hM.2.1 _ _ _ i2 Ql,hM.2.1 _ _ _ i3 jW⟩,trivial,hM.1,k2.trans hM.2⟩
  try simp only[Act.put]
  iterate 2 (refine zi rfl rfl rfl (fun K hK=>?_);go_big_quiet_op;refine hK _ ?_;clear hK K)
  refine ja fun W8 hI8 hF8=>?_
  have M8:Hid (Mk w0 hi W8 b vl L V9 { m' with sl:=m'.sl.set k (z+1) } vt9 (T'.set 0 (qm fA kk ⟨2,(k:Int),ew⟩))):=hF8.1;have K8:Hid (zn hi w W8):=hF8.2;have P8:Hid (zp W8 po 62 CO):=((HI.out _).1 hI8).2.2;clear hF8 hI8 hI0 hF0 ht he0 he1 he2 hne HI;have R8:Hid (zb Qt w0.heap.size W8 (.slice (some ⟨gt,0,none⟩) 2 ct) (T'.set 0 (qm fA kk ⟨2,(k:Int),ew⟩))):=show zb _ _ _ _ _ by rw[<-HTV.out];exact M8.out.rows.tt
  refine zu (E:=Qt) rfl (.tmp 106) (.tmp 102) 74 rfl w0.heap.size _ _ R8.out gt 1 (kk*3) rfl fB (qm fB kk ⟨2,(k:Int),ew⟩) (by rw[sN (by decide)];exact TW.out.2.1) (env ⟨2,(k:Int),ew⟩) (by kernel_rfl) (jl fB hlt _) (by show kk*3+3<=192;omega) (enE.one _) _ rfl (by first | rfl | simp) (.agg (env ⟨2,(k:Int),ew⟩).toArray) rfl rfl ?_
  intro W9 ow9 gr9 sz9;rw[<-HTV.out]at ow9;have hM9:=M8.out.setT (by rw[HTV.out];rfl) gr9 sz9 ow9
  have M9:Hid (Mk w0 hi W9 b vl L V9 { m' with sl:=m'.sl.set k (z+1) } vt9 ((T'.set 0 (qm fA kk ⟨2,(k:Int),ew⟩)).set 1 (qm fB kk ⟨2,(k:Int),ew⟩))):=hM9.1;have K9:Hid (zn hi w W9):=K8.out.trans hM9.2;have P9:Hid (zp W9 po 62 CO):=hM9.2.1 _ _ _ P8.out jW;have B9:Hid (qO { m' with sl:=m'.sl.set k (z+1) } ((T'.set 0 (qm fA kk ⟨2,(k:Int),ew⟩)).set 1 (qm fB kk ⟨2,(k:Int),ew⟩))):=(show qO _ _ by
   have:=BW.out.forkS (s0:=s0) (s1:=⟨true,s0.ars,qx⟩) (by rw[SW.out.1];rfl) (by rw[SW.out.1];rfl) rfl TW.out.1 TW.out.2.1 hlt HBK.out HK.out (by rw[HAK.out]) (by rw[HAK.out])
   rw[HAK.out]at this;exact this)
  clear hM9 ow9 gr9 sz9 R8 M8 K8 P8;go_wp2
  go_roundg (64 -(kk+1))
  case measure=>omega
  exact⟨kk+1,{ m' with sl:=m'.sl.set k (z+1) },_,_,_,by omega,by omega,by go_num,M9.out,K9.out,B9.out,(show _/\_ from⟨SW.out.1,SW.out.2.1,SW.out.2.2.1,SW.out.2.2.2⟩),HNX.out _,P9.out⟩
 have hltz:¬(kk:Int)<64:=by omega
 have HE:Hid (Frk w0 hi b w vl L m s0.ars wr):=show Frk _ _ _ _ _ _ _ _ _ from⟨V9,m',vt9,T',MW.out,KW.out,BW.out,by rw[SW.out.1,HS.out];rfl,SW.out.2⟩
 go_wp2
 (first | go_end0 | ((try simp only[Exit.inBlock,Exit.then]);refine bodyPost_ret (results_none rfl _ _ _) rfl ?_))
 first | exact HE.out | exact⟨⟨_,rfl⟩,HE.out⟩
section
variable{I:World->Prop} {P:Program} {ops:Array Oper} {S:Nat->Option zce} {T:Nat}
theorem zcN {J:Act->World->Prop} (hJq:∀(j:Nat) o,ops[j]? =some o->S j=none->∀a v w,(execOp a.eval o).run P w= .ok (.value v) w->J a w->J (a.put o.dst v) w) (hJs:∀(j:Nat) o s,ops[j]? =some o->S j=some s->∀a w K,J a w->I w->zL P o a w K->zL P o a w fun v w'=>K v w'/\J (a.put o.dst v) w') (hJu:∀(j:Nat) o,ops[j]? =some o->∀a w,J a w->J (a.put o.dst undef) w) {Q:Act->World->Prop} {Q':Exit->Act->World->Prop} {l:List Oper} {m:Nat} (hB:Zw ops T=true) (hTl:T+m=ops.size) (hll:l.length=m) (hops:∀j,l[j]? =ops[T+j]?) (hS:∀k s,S k=some s->∃v,s.pv v)
  (hp:∀k s j t,S k=some s->S j=some t->j≠k->anc ops 3 j k=false->∀v w w',t.step w w'->s.post v w->s.post v w') (hpre:∀j t k s,S j=some t->S k=some s->j≠k->∀w w',s.step w w'->t.pre w->t.pre w') (hQ:∀a w,J a w->Q a w->wpList P ops Q' l a w):
  ∀(fuel:Nat) (listed:Array Bool) (F:Nat->World->Prop) (a:Act) (w:World),listed.size=ops.size->(∀i,T<=i->i<ops.size->listed.getD i true=false)->(zd listed T).length=fuel->ZX ops listed->I w->J a w->
   (∀i,F i w)->(∀i,(∀w,F i w)\/∃s v,S i=some s/\F i=s.post v/\listed.getD i false=true)->(∀k t,S k=some t->listed.getD k true=false->t.pre w)->zgZ I P ops S Q (zd listed T) F a->wpAny P .any ops Q' (fuel+m) listed a w:=by
 have hsel:=Region.noSelect_spec (ops:=ops) (by simp only[Zw,Bool.and_eq_true]at hB;exact hB.1.1)
 intro fuel
 induction fuel with
 | zero=>
  intro listed F a w hsz hout hl hc hw hJ hF hFp hPre h;have hnil:zd listed T=[]:=eN hl;rw[hnil]at h;rw[zA];refine Qf hB m l T listed a w (nR _) hsz hTl hll hops (fun i hi=>?_) hout (hQ _ _ hJ (h w hw hF))
  cases hg:listed.getD i true with
  | true=>rfl
  | false=>
   have:i∈zd listed T:=List.mem_filter.2 ⟨List.mem_range.2 hi,by simp only[hg,beq_self_eq_true]⟩
   rw[hnil]at this;cases this
 | succ fuel ih=>
  intro listed F a w hsz hout hl hc hw hJ hF hFp hPre h;rw[Nat.add_right_comm];refine⟨fun hr=>?_,fun j hj=>?_⟩
  ·exfalso
   cases hu:zd listed T with
   | nil=>simp[hu]at hl
   | cons x xs=>
    have hx:x∈zd listed T:=by rw[hu];simp
    have hx':=List.mem_filter.1 hx;have hxT:x<T:=List.mem_range.1 hx'.1;have hxs:x<ops.size:=by omega
    have ho:ops[x]? =some ops[x]:=Array.getElem?_eq_getElem hxs;have hsorted:(zd listed T).Pairwise (·< ·):=List.Pairwise.filter _ List.pairwise_lt_range;have:x∈Region.ready .any ops listed:=by
     refine mem_ready.2 ⟨by simpa using hx'.2,ops[x],ho,fun e he hb=>?_⟩
     have hed:zaT ops e.on x=true:=(jt ho).2 ⟨e,he,hb,rfl⟩;have hlt:=jB hB ho _ hed
     cases hg:listed.getD e.on true with
     | true=>exact JZ (by omega) hg
     | false=>
      have hmem:e.on∈zd listed T:=List.mem_filter.2 ⟨List.mem_range.2 (by omega),by simp only[hg,beq_self_eq_true]⟩
      rw[hu]at hmem hsorted
      rcases mC.1 hmem with e1 | e1
      ·omega
      have:=(List.pairwise_cons.1 hsorted).1 _ e1;omega
    rw[hr]at this;cases this
  obtain⟨h0,oj,hoj,hall⟩:=mem_ready.1 hj;have hjs:j<ops.size:=(aS.1 hoj).1;have hdir:∀k,zaT ops k j=true->listed.getD k false=true:=fun k hk=>by
   obtain⟨e,he,hb,rfl⟩:=(jt hoj).1 hk;exact hall e he hb
  have hjT:j<T:=by
   rcases Nat.lt_or_ge j T with h1 | h1
   ·exact h1
   exfalso
   cases hu:zd listed T with
   | nil=>simp[hu]at hl
   | cons x xs=>
    have hx:x∈zd listed T:=by rw[hu];simp
    have hx':=List.mem_filter.1 hx;have hxT:x<T:=List.mem_range.1 hx'.1;have:=qg hc j x j hdir (Zm hB hoj h1 x (by omega))
    rw[qH (by simpa using hx'.2)]at this
    cases this
  have hju:j∈zd listed T:=List.mem_filter.2 ⟨List.mem_range.2 hjT,by simp only[h0,beq_self_eq_true]⟩
  have hnd:(zd listed T).Nodup:=List.Pairwise.filter _ List.nodup_range;have hsorted:(zd listed T).Pairwise (·< ·):=List.Pairwise.filter _ List.pairwise_lt_range;have hcm:=zgZ.commute hoj hw hsel hS (zd listed T) F a hnd hju (fun i hi hij=>by
   have hi':=List.mem_filter.1 hi;have hun:listed.getD i false=false:=qH (by simpa using hi'.2)
   have his:i<ops.size:=by have:=List.mem_range.1 hi'.1;omega
   have hoi:ops[i]? =some ops[i]:=Array.getElem?_eq_getElem his;refine⟨ops[i],hoi,fun hlt=>?_,?_,fun hlt=>?_⟩
   ·rcases Zv hB hoj hjT i hlt with he | ⟨oi,hoi',hap⟩
    ·have:=hdir i he;rw[hun]at this;cases this
    rw[hoi]at hoi';cases hoi';exact hap
   ·cases ha:anc ops 3 i j with
    | false=>rfl
    | true=>
     have:=qg hc 3 i j hdir ha;rw[hun]at this;cases this
   cases ha:anc ops 3 j i with
   | false=>rfl
   | true=>
    have:=zaL hB 3 j i ha
    omega) hsorted (fun m _=>hF m) h
  have hsz':(listed.setIfInBounds j true).size=ops.size:=by simp[hsz]
  have hout':∀i,T<=i->i<ops.size->(listed.setIfInBounds j true).getD i true=false:=fun i hi hi'=>by rw[getD_set_ne true (by omega)];exact hout i hi hi'
  have hlen':(zd (listed.setIfInBounds j true) T).length=fuel:=by
   rw[qj (by omega)]
   have he:(zd listed T).filter (· != j)=(zd listed T).erase j:=by
    rw[List.Nodup.erase_eq_filter hnd]
   rw[he,List.length_erase_of_mem hju];omega
  have hc':ZX ops (listed.setIfInBounds j true):=fun i k hk hik=>by
   by_cases hkj:j=k
   ·subst hkj;exact getD_set_true (hdir i hik)
   rw[getD_set_ne false hkj]at hk;exact getD_set_true (hc i k hk hik)
  have hFs:(∀i,(∀w,F i w)\/∃s v,S i=some s/\F i=s.post v/\listed.getD i false=true)->∀i,(∀w,F i w)\/∃s v,S i=some s/\F i=s.post v/\(listed.setIfInBounds j true).getD i false=true:=fun h i=>by
   rcases h i with h1 | ⟨s1,v1,e1,e2,e3⟩
   ·exact .inl h1
   refine .inr ⟨s1,v1,e1,e2,?_⟩
   by_cases hij:j=i
   ·subst hij
    simp[show j<listed.size by omega]
   rw[getD_set_ne false hij];exact e3
  have hPs:∀k,(listed.setIfInBounds j true).getD k true=false->k≠j/\listed.getD k true=false:=fun k hl'=>by
   by_cases hkj:j=k
   ·subst hkj
    simp[show j<listed.size by omega]at hl'
   rw[getD_set_ne true hkj]at hl';exact⟨fun e=>hkj e.symm,hl'⟩
  unfold wpOp;simp only[hoj];simp only[zgZ,ju,hoj]at hcm;rw[<-qj (by omega)]at hcm
  split
  ·rename_i hwant
   simp only[hwant,if_true]at hcm;refine .inl ?_
   cases hs:S j with
   | none=>
    simp only[hs]at hcm;obtain⟨v,hrun,hk⟩:=hcm;have hr:=hrun w hw (fun m _=>hF m)
    unfold Oper.wp;rw[hr];exact ih _ F _ w hsz' hout' hlen' hc' hw (hJq j oj hoj hs a v w hr hJ) hF (hFs hFp) (fun k t hk' hl'=>(hPs k hl').elim fun _ q=>hPre k t hk' q) hk
   | some s=>
    simp only[hs]at hcm;refine(hJs j oj s hoj hs a w _ hJ hw (hcm.1 w hw (hPre j s hs h0) (fun m _=>hF m))).wp fun v w' ⟨⟨hi',hstep,hpv,hpost⟩,hJ'⟩=>?_
    refine ih _ (ZU F j (s.post v)) _ w' hsz' hout' hlen' hc' hi' hJ' (fun i=>?_) (fun i=>?_) (fun k t hk' hl'=>(hPs k hl').elim fun q1 q2=>hpre k t j s hk' hs q1 w w' hstep (hPre k t hk' q2)) (hcm.2 v hpv)
    ·unfold ZU
     split
     ·exact hpost
     rename_i hij
     rcases hFp i with h1 | ⟨s1,v1,e1,e2,e3⟩
     ·exact h1 w'
     rw[e2];refine hp i s1 j s e1 hs (fun e=>hij e.symm) ?_ v1 w w' hstep ?_
     ·cases ha:anc ops 3 j i with
      | false=>rfl
      | true=>
       have h1:=qg hc 3 j i (fun k hk=>hc k i e3 hk) ha
       rw[qH h0]at h1;cases h1
     have:=hF i;rw[e2]at this;exact this
    by_cases hij:i=j
    ·subst hij;refine .inr ⟨s,v,hs,?_,?_⟩
     ·unfold ZU;rw[if_pos rfl]
     simp[show i<listed.size by omega]
    rcases hFp i with h1 | ⟨s1,v1,e1,e2,e3⟩
    ·refine .inl fun w=>?_
     unfold ZU;rw[if_neg hij];exact h1 w
    refine .inr ⟨s1,v1,e1,?_,?_⟩
    ·unfold ZU;rw[if_neg hij];exact e2
    rw[getD_set_ne false (fun e=>hij e.symm)]
    exact e3
  rename_i hwant
  simp only[hwant]at hcm;exact ih _ F _ w hsz' hout' hlen' hc' hw (hJu j oj hoj a w hJ) hF (hFs hFp) (fun k t hk' hl'=>(hPs k hl').elim fun _ q=>hPre k t hk' q) hcm
end
section
variable{I:World->Prop} {P:Program}
theorem zdy {J:Act->World->Prop} {id:Nat} {Q:Exit->Act->World->Prop} {a:Act} {w:World} {L l r:List Oper} (T:Nat) (S:List (Nat × zce)) (hI:I w.drew) (hJ0:J a w.drew) (hJq:∀(j:Nat) o,L.toArray[j]? =some o->S.lookup j=none->∀a v w,(execOp a.eval o).run P w= .ok (.value v) w->J a w->J (a.put o.dst v) w) (hJs:∀(j:Nat) o s,L.toArray[j]? =some o->S.lookup j=some s->∀a w K,J a w->I w->zL P o a w K->zL P o a w fun v w'=>K v w'/\J (a.put o.dst v) w') (hJu:∀(j:Nat) o,L.toArray[j]? =some o->∀a w,J a w->J (a.put o.dst undef) w) (hm:P.follows .mixedOrders=true) (hB:Zw L.toArray T=true) (hl:L.take T=l) (hr:L.drop T=r) (hT:T<=L.length)
  (hS:∀x∈S,∃v,x.2.pv v) (hp:∀k s j t,S.lookup k=some s->S.lookup j=some t->j≠k->anc L.toArray 3 j k=false->∀v w w',t.step w w'->s.post v w->s.post v w') (hpre:∀j t k s,S.lookup j=some t->S.lookup k=some s->j≠k->∀w w',s.step w w'->t.pre w->t.pre w') (hpr0:∀k t,S.lookup k=some t->t.pre w.drew)
  (h:zbV I P L.toArray (fun k=>S.lookup k) (fun a w=>J a w->wpList P L.toArray Q r a w) l 0 (fun _ _=>True) a):(Code.region id L.toArray true).wp P Q a w:=by
 have hlook:∀(S:List (Nat × zce)) k s,S.lookup k=some s->∃x∈S,x.2=s:=by
  intro S
  induction S with
  | nil=>intro k s h;simp at h
  | cons x S ih=>
   intro k s h;rw[List.lookup_cons]at h
   split at h
   ·exact⟨x,by simp,by simpa using h⟩
   obtain⟨y,hy,he⟩:=ih k s h;exact⟨y,by simp[hy],he⟩
 have hlT:l.length=T:=by rw[<-hl,List.length_take];omega
 have hrT:r.length=L.length - T:=by rw[<-hr,List.length_drop]
 refine wp_region_any hm ?_;have hu:zd (Array.replicate L.toArray.size false) T=List.range T:=by
  unfold zd;refine List.filter_eq_self.2 fun i hi=>?_
  have:i<T:=by simpa using hi
  simp[show i<L.length by omega]
 have h':=Zu (ops:=L.toArray) l 0 _ a (fun j=>by
  rcases Nat.lt_or_ge j T with hj | hj
  ·left;rw[<-hl,List.getElem?_take_of_lt hj];simp
  right;omega) h.out
 rw[hlT,<-List.range_eq_range']at h';have hfin:=zcN (J:=J) hJq hJs hJu (I:=I) (P:=P) (S:=fun k=>S.lookup k) (F:=fun _ _=>True) (ops:=L.toArray) (T:=T) (l:=r) (m:=L.length - T) (Q:=fun a w=>J a w->wpList P L.toArray Q r a w) (Q':=Q) hB (by simp;omega) hrT (fun j=>by rw[<-hr,List.getElem?_drop];simp) (fun k s hs=>by obtain⟨x,hx,rfl⟩:=hlook S k s hs;exact hS x hx) hp hpre (fun _ _ hj h=>h hj)
  T (Array.replicate L.toArray.size false) a w.drew (by simp) (fun i hi hi'=>by simp at hi';simp[hi']) (by rw[hu];simp) (fun i j hj _=>by
   exfalso;rw[Array.getD_eq_getD_getElem?,Array.getElem?_replicate]at hj
   split at hj <;> simp at hj)
  hI hJ0 (fun _=>trivial) (fun _=> .inl fun _=>trivial) (fun k t hk _=>hpr0 k t hk) (by rw[hu];exact h')
 have hsz:T+(L.length - T)=L.toArray.size:=by simp;omega
 rw[hsz]at hfin;exact hfin
end
theorem zL.know {P:Program} {o:Oper} {a:Act} {w:World} {K:Value->World->Prop} {J:Act->World->Prop} (h:zL P o a w K) (hk:∀n w',(execOp a.eval o).run P w= .ok n w'->(∃v,n= .value v/\J (a.put o.dst v) w')\/(n= .skip/\J (a.put o.dst undef) w')):zL P o a w fun v w'=>K v w'/\J (a.put o.dst v) w':=by
 unfold zL at h⊢
 generalize(execOp a.eval o).run P w=r at h hk⊢
 cases r with
 | ok n w'=>
  rcases hk n w' rfl with⟨v,rfl,hv⟩ | ⟨rfl,hv⟩
  ·exact⟨h,hv⟩
  exact⟨h,hv⟩
 | halt x w'=>exact h
def JO (ss:List Nat) (a:Act) (w:World):Prop:=(∀s∈ss,∀x n c,a.tmps.getD s undef= .slice (some x) n c->x.block<w.heap.size)/\∀s∈ss,∀t∈ss,s≠t->∀x n c y n' c',a.tmps.getD s undef= .slice (some x) n c->a.tmps.getD t undef= .slice (some y) n' c'->x.block≠y.block
theorem Zh {a:Act} {d:Option Nat} {v:Value} {s:Nat}:(a.put d v).tmps.getD s undef=a.tmps.getD s undef\/(d=some s/\(a.put d v).tmps.getD s undef=v):=by
 cases d with
 | none=>exact .inl rfl
 | some k=>
  by_cases e:k=s
  ·subst e
   by_cases hk:k<a.tmps.size
   ·refine .inr ⟨rfl,?_⟩
    show(a.tmps.setIfInBounds k v).getD k undef=v
    rw[Array.getD_eq_getD_getElem?,Array.getElem?_setIfInBounds_self_of_lt hk];rfl
   refine .inl ?_
   show(a.tmps.setIfInBounds k v).getD k undef=_
   rw[Array.setIfInBounds_eq_of_size_le (by omega)]
  refine .inl ?_
  show(a.tmps.setIfInBounds k v).getD s undef=_
  rw[Array.getD_eq_getD_getElem?,Array.getElem?_setIfInBounds_ne e,<-Array.getD_eq_getD_getElem?]
theorem JO.other {ss:List Nat} {a:Act} {w w':World} {d:Option Nat} {v:Value} (h:JO ss a w) (hd:∀s∈ss,d≠some s) (hw:w.heap.size<=w'.heap.size):JO ss (a.put d v) w':=by
 have key:∀s∈ss,(a.put d v).tmps.getD s undef=a.tmps.getD s undef:=fun s hs=>(Zh (a:=a) (d:=d) (v:=v) (s:=s)).resolve_right fun e=>hd s hs e.1
 refine⟨fun s hs x n c he=>?_,fun s hs t ht hst x n c y n' c' he1 he2=>?_⟩
 ·rw[key s hs]at he;exact Nat.lt_of_lt_of_le (h.1 s hs x n c he) hw
 rw[key s hs]at he1;rw[key t ht]at he2;exact h.2 s hs t ht hst x n c y n' c' he1 he2
theorem JO.new {ss:List Nat} {a:Act} {w w':World} {d:Option Nat} {n0 c0:Nat} (h:JO ss a w) (hw:w.heap.size<w'.heap.size):JO ss (a.put d (.slice (some ⟨w.heap.size,0,none⟩) n0 c0)) w':=by
 have key:∀s∈ss,∀x n c,(a.put d (.slice (some ⟨w.heap.size,0,none⟩) n0 c0)).tmps.getD s undef= .slice (some x) n c->(a.tmps.getD s undef= .slice (some x) n c/\x.block<w.heap.size)\/(d=some s/\x.block=w.heap.size):=fun s hs x n c he=>by
  rcases Zh (a:=a) (d:=d) (v:= .slice (some ⟨w.heap.size,0,none⟩) n0 c0) (s:=s)with e | ⟨e1,e2⟩
  ·rw[e]at he;exact .inl ⟨he,h.1 s hs x n c he⟩
  rw[e2]at he;cases he;exact .inr ⟨e1,rfl⟩
 refine⟨fun s hs x n c he=>?_,fun s hs t ht hst x n c y n' c' he1 he2=>?_⟩
 ·rcases key s hs x n c he with h1 | h1 <;> omega
 rcases key s hs x n c he1 with⟨h1,h1'⟩ | ⟨h1,h1'⟩ <;> rcases key t ht y n' c' he2 with⟨h2,h2'⟩ | ⟨h2,h2'⟩
 ·exact h.2 s hs t ht hst x n c y n' c' h1 h2
 ·omega
 ·omega
 rw[h1]at h2;cases h2;exact absurd rfl hst
theorem JO.undef {ss:List Nat} {a:Act} {w:World} {d:Option Nat} (h:JO ss a w):JO ss (a.put d Go.undef) w:=by
 have key:∀s∈ss,∀x n c,(a.put d Go.undef).tmps.getD s Go.undef= .slice (some x) n c->a.tmps.getD s Go.undef= .slice (some x) n c:=fun s hs x n c he=>by
  rcases Zh (a:=a) (d:=d) (v:=Go.undef) (s:=s)with e | ⟨e1,e2⟩
  ·rw[e]at he;exact he
  rw[e2]at he;cases he
 exact⟨fun s hs x n c he=>h.1 s hs x n c (key s hs x n c he),fun s hs t ht hst x n c y n' c' he1 he2=>h.2 s hs t ht hst x n c y n' c' (key s hs _ _ _ he1) (key t ht _ _ _ he2)⟩
theorem ziV {P:Program} {w w':World} {t e:TypeId} {i:TypeInfo} {z:Value} (hu:P.underlying t=some (.slice e)) (hi:P.info? e=some i) (hz:i.zero=some z) (x:Value) (hx:x=undef\/∃n:Nat,x= .int .i64 n/\n*i.bytes<=140737488355328/\n<=1000) {v:Value} (h:(Instr.makeSlice t x x).run P w= .ok v w'):∃l c,v= .slice (some ⟨w.heap.size,0,none⟩) l c/\w.heap.size<w'.heap.size:=by
 rcases hx with rfl | ⟨n,rfl,hn,hn2⟩
 ·exfalso
  simp[Instr.makeSlice,run_underlying hu,asInt,asIntOf,undef]at h
 have hb:((i.bytes:Int)*(n:Int))<=281474976710656:=by
  rw[<-Int.natCast_mul,Nat.mul_comm];omega
 have hrun:=run_make (P:=P) w t e i z hu hi hz .i64 .i64 n n (by omega) (Int.le_refl _) hb (by omega)
 rw[hrun]at h;cases h;exact⟨_,_,rfl,by simp⟩
def JB (nf ns nb:Nat) (a:Act) (w:World):Prop:=(a.tmps.getD 0 undef= .int .i64 nf/\a.tmps.getD 1 undef= .int .i64 ns/\a.tmps.getD 2 undef= .int .i64 nb)/\(∀s∈[32,35,37,40],a.tmps.getD s undef=undef\/∃n:Nat,a.tmps.getD s undef= .int .i64 n/\n<=80)/\JO [38,41] a w
section
variable{nf ns nb:Nat} {a:Act} {w w':World}
theorem JB.other {d:Option Nat} {v:Value} (h:JB nf ns nb a w) (hd:∀s∈[0,1,2,32,35,37,40,38,41],d≠some s) (hw:w.heap.size<=w'.heap.size):JB nf ns nb (a.put d v) w':=by
 have key:∀s∈[0,1,2,32,35,37,40,38,41],(a.put d v).tmps.getD s undef=a.tmps.getD s undef:=fun s hs=>(Zh (a:=a) (d:=d) (v:=v) (s:=s)).resolve_right fun e=>hd s hs e.1
 refine⟨⟨by rw[key 0 (by simp)];exact h.1.1,by rw[key 1 (by simp)];exact h.1.2.1,by rw[key 2 (by simp)];exact h.1.2.2⟩,fun s hs=>?_,h.2.2.other (fun s hs=>hd s (by simp at hs⊢;omega)) hw⟩
 rw[key s (by simp at hs⊢;omega)]
 exact h.2.1 s hs
theorem JB.num {s:Nat} {n:Nat} (h:JB nf ns nb a w) (hs:s∈[32,35,37,40]) (hn:n<=80):JB nf ns nb (a.put (some s) (.int .i64 n)) w:=by
 have key:∀t,t≠s->(a.put (some s) (.int .i64 n)).tmps.getD t undef=a.tmps.getD t undef:=fun t ht=>(Zh (a:=a) (d:=some s) (v:= .int .i64 n) (s:=t)).resolve_right fun e=>ht (by simpa using e.1.symm)
 have hs0:s≠0/\s≠1/\s≠2/\s≠38/\s≠41:=by simp at hs;omega
 refine⟨⟨by rw[key 0 (by omega)];exact h.1.1,by rw[key 1 (by omega)];exact h.1.2.1,by rw[key 2 (by omega)];exact h.1.2.2⟩,fun t ht=>?_,h.2.2.other (fun t ht e=>by simp only[Option.some.injEq]at e;subst e;simp only[mC,nM,or_false]at ht;omega) (nR _)⟩
 rcases Zh (a:=a) (d:=some s) (v:= .int .i64 n) (s:=t)with e | ⟨_,e⟩
 ·rw[e];exact h.2.1 t ht
 exact .inr ⟨n,e,hn⟩
theorem JB.new {d:Option Nat} {n0 c0:Nat} (h:JB nf ns nb a w) (hd:∀s∈[0,1,2,32,35,37,40],d≠some s) (hw:w.heap.size<w'.heap.size):JB nf ns nb (a.put d (.slice (some ⟨w.heap.size,0,none⟩) n0 c0)) w':=by
 have key:∀s∈[0,1,2,32,35,37,40],(a.put d (.slice (some ⟨w.heap.size,0,none⟩) n0 c0)).tmps.getD s undef=a.tmps.getD s undef:=fun s hs=>(Zh (a:=a) (d:=d) (s:=s)).resolve_right fun e=>hd s hs e.1
 refine⟨⟨by rw[key 0 (by simp)];exact h.1.1,by rw[key 1 (by simp)];exact h.1.2.1,by rw[key 2 (by simp)];exact h.1.2.2⟩,fun s hs=>?_,h.2.2.new hw⟩
 rw[key s (by simp at hs⊢;omega)]
 exact h.2.1 s hs
def okQ (o:Oper):Bool:=
 match o.dst with
 | none=>true
 | some d=>!([0,1,2,32,35,37,40,38,41].contains d) || (match o.op with | .move (.tmp x)=>[(32,0),(35,1),(37,1),(40,2)].contains (d,x) | _=>false)
theorem JB.quiet {o:Oper} {v:Value} (h:JB nf ns nb a w) (ho:okQ o=true) (hf:nf<=80) (hs:ns<=80) (hb:nb<=80) (hr:(execOp a.eval o).run Tryz.prog w= .ok (.value v) w):JB nf ns nb (a.put o.dst v) w:=by
 unfold okQ at ho
 cases hd:o.dst with
 | none=>exact h.other (fun s _ e=>by cases e) (nR _)
 | some d=>
  rw[hd]at ho;simp only[Bool.or_eq_true]at ho
  rcases ho with ho | ho
  ·refine h.other (fun s hs e=>?_) (nR _)
   cases e;simp only[Bool.not_eq_true',List.contains_eq_mem,decide_eq_false_iff_not]at ho;exact ho hs
  cases hop:o.op with
  | move x=>
   rw[hop]at ho
   cases x with
   | tmp x=>
    simp only[List.contains_eq_mem,decide_eq_true_eq]at ho;have hv:v=a.tmps.getD x undef:=by
     simp only[execOp,hop,Sem.run_pure,Result.ok.injEq,Next.value.injEq,and_true]at hr;exact hr.symm
    simp only[mC,pJ,nM,or_false]at ho
    rcases ho with⟨rfl,rfl⟩ | ⟨rfl,rfl⟩ | ⟨rfl,rfl⟩ | ⟨rfl,rfl⟩
    ·rw[hv,h.1.1];exact h.num (by simp) hf
    ·rw[hv,h.1.2.1];exact h.num (by simp) hs
    ·rw[hv,h.1.2.1];exact h.num (by simp) hs
    rw[hv,h.1.2.2];exact h.num (by simp) hb
   | _=>simp at ho
  | _=>rw[hop]at ho;simp at ho
theorem JB.undef {d:Option Nat} (h:JB nf ns nb a w) (hd:∀s∈[0,1,2],d≠some s):JB nf ns nb (a.put d Go.undef) w:=by
 have key:∀s∈[0,1,2],(a.put d Go.undef).tmps.getD s Go.undef=a.tmps.getD s Go.undef:=fun s hs=>(Zh (a:=a) (d:=d) (s:=s)).resolve_right fun e=>hd s hs e.1
 refine⟨⟨by rw[key 0 (by simp)];exact h.1.1,by rw[key 1 (by simp)];exact h.1.2.1,by rw[key 2 (by simp)];exact h.1.2.2⟩,fun s hs=>?_,h.2.2.undef⟩
 rcases Zh (a:=a) (d:=d) (v:=Go.undef) (s:=s)with e | ⟨_,e⟩
 ·rw[e];exact h.2.1 s hs
 exact .inl e
theorem JB.make {o:Oper} {K:Value->World->Prop} (h:JB nf ns nb a w) (t e:TypeId) (i:TypeInfo) (z:Value) (s:Nat) (hop:o.op= .makeSlice t (.tmp s) (.tmp s)) (hs:s∈[32,35,37,40]) (hu:Tryz.prog.underlying t=some (.slice e)) (hi:Tryz.prog.info? e=some i) (hz:i.zero=some z) (hb:i.bytes<=1000) (hd:∀s∈[0,1,2,32,35,37,40],o.dst≠some s) (hk:zL Tryz.prog o a w K):zL Tryz.prog o a w fun v w'=>K v w'/\JB nf ns nb (a.put o.dst v) w':=by
 refine hk.know fun n w' hr=>?_
 left;simp only[execOp,hop,Sem.run_bind]at hr
 cases hm:(Instr.makeSlice t (a.eval (.tmp s)) (a.eval (.tmp s))).run Tryz.prog w with
 | halt x w1=>rw[hm]at hr;cases hr
 | ok v w1=>
  rw[hm]at hr;simp only[rA,Sem.run_pure,Result.ok.injEq]at hr;obtain⟨rfl,rfl⟩:=hr;obtain⟨l,c,rfl,hlt⟩:=ziV hu hi hz _ (by
   rcases h.2.1 s hs with e | ⟨n,e,hn⟩
   ·exact .inl e
   refine .inr ⟨n,e,?_,by omega⟩
   have:n*i.bytes<=80*1000:=Nat.mul_le_mul hn hb
   omega) hm
  exact⟨_,rfl,h.new hd hlt⟩
end
def okL (L:List Oper) (Sx:List Nat):Bool:=L.zipIdx.all fun p=>Sx.contains p.2 || okQ p.1
theorem ziI {L:List Oper} {Sx:List Nat} {j:Nat} {o:Oper} (h:okL L Sx=true) (hj:L.toArray[j]? =some o) (hn:j∉Sx):okQ o=true:=by
 unfold okL at h;have hm:(o,j)∈L.zipIdx:=by
  rw[List.mem_iff_getElem?];exact⟨j,by rw[List.getElem?_zipIdx];simp at hj;simp[hj]⟩
 have:=List.all_eq_true.1 h _ hm;simp only[Bool.or_eq_true,List.contains_eq_mem,decide_eq_true_eq]at this;exact this.resolve_left hn
def okD (L:List Oper):Bool:=L.all fun o=>match o.dst with | none=>true | some d=>!([0,1,2].contains d)
theorem ziJ {L:List Oper} {j:Nat} {o:Oper} (h:okD L=true) (hj:L.toArray[j]? =some o):∀s∈[0,1,2],o.dst≠some s:=fun s hs e=>by
 unfold okD at h;have:=List.all_eq_true.1 h o (by simp at hj;exact mG hj)
 rw[e]at this;simp only[Bool.not_eq_true',List.contains_eq_mem,decide_eq_false_iff_not]at this;exact this hs
theorem zgv {α:Type} {j:Nat} {A B C D:α} (h:List.lookup j [(2,A),(5,B),(7,C),(10,D)]=none):j∉ [2,5,7,10]:=fun hm=>by
 simp only[mC,nM,or_false]at hm
 rcases hm with rfl | rfl | rfl | rfl <;> simp[List.lookup_cons]at h
theorem zdH {α:Type} (E:Elt α) {o:Oper} {a:Act} (w:World) (n:Nat) (hn:n*E.bytes<=140737488355328) {l:Operand} (ho:o.op= .makeSlice E.st l l:=by rfl) (hl:a.eval l= .int .i64 n:=by rfl):
  ∃C,(execOp a.eval o).run Tryz.prog w= .ok (.value (.slice (some ⟨w.heap.size,0,none⟩) n n)) (w.alloc (.cells C E.ty))/\zb E w.heap.size (w.alloc (.cells C E.ty)) (.slice (some ⟨w.heap.size,0,none⟩) n n) (List.replicate n E.zero):=by
 obtain⟨i0,hi,hz0,hz1,hz2⟩:=info_parts E.info;have h2:n*1<=n*E.bytes:=Nat.mul_le_mul_left _ (nT E.pos E.few);have hb:((E.bytes:Int)*(n:Int))<=140737488355328:=by
  obtain⟨B,hB⟩:∃B,n*E.bytes=B:=⟨_,rfl⟩;rw[hB]at hn;rw[<-Int.natCast_mul,Nat.mul_comm,hB];omega
 have hrun:=run_make (P:=Tryz.prog) w E.st E.ty i0 _ E.und hi hz0 .i64 .i64 n n (by omega) (Int.le_refl _) (by rw[hz2];exact Int.le_trans hb (by omega)) (by omega)
 rw[hz1,tN]at hrun;refine⟨madeCells E.zv.cells (n*E.k),by simp only[execOp,ho,hl,Sem.run_bind,hrun,Result.andThen,Sem.run_pure],⟨⟨?_,.inr ⟨w.heap.size,n,madeCells E.zv.cells (n*E.k),by rw[lR],nR _,?_,?_,?_,?_,?_⟩⟩,by rw[lR];exact hn⟩⟩
 ·rw[jR E]
 ·show(w.heap.push _)[w.heap.size]? =_
  simp
 ·rw[lR];exact nR _
 ·exact qz (by omega)
 ·rw[size_madeCells]
 rw[lR,List.take_of_length_le (by simp[madeCells]),zfR E]
theorem zb5 {o:Oper} {a:Act} (w:World) (n:Nat) (hn:n<=80) {l:Operand} (ho:o.op= .makeSlice 31 l l:=by rfl) (hl:a.eval l= .int .i64 n:=by rfl):
  ∃C,(execOp a.eval o).run Tryz.prog w= .ok (.value (.slice (some ⟨w.heap.size,0,none⟩) n n)) (w.alloc (.cells C 67))/\zj w.heap.size (w.alloc (.cells C 67)) (.slice (some ⟨w.heap.size,0,none⟩) n n) (List.replicate n zz):=by
 obtain⟨i0,hi,hz0,hz1,hz2⟩:=info_parts zlb;have hrun:=run_make (P:=Tryz.prog) w 31 67 i0 _ Tryz.underlying31 hi hz0 .i64 .i64 n n (by omega) (Int.le_refl _) (by rw[hz2];omega) (by omega)
 rw[hz1,tN]at hrun;refine⟨madeCells #[.int .u8 0,.int .u8 0,.int .u8 0,.int .u8 0,.int .u8 0,.int .u8 0,.int .u8 0,.int .u8 0] (n*8),by simp only[execOp,ho,hl,Sem.run_bind,hrun,Result.andThen,Sem.run_pure,Value.cells],⟨⟨?_,.inr ⟨w.heap.size,n,madeCells #[.int .u8 0,.int .u8 0,.int .u8 0,.int .u8 0,.int .u8 0,.int .u8 0,.int .u8 0,.int .u8 0] (n*8),by rw[lR],nR _,?_,?_,?_,?_,?_⟩⟩,fun p hp=>by rw[List.eq_of_mem_replicate hp];rfl,by rw[lR];omega⟩⟩
 ·rw[qI (k:=8) _ (fun a ha=>by rw[List.eq_of_mem_replicate ha];rfl)]
 ·show(w.heap.push _)[w.heap.size]? =_
  simp
 ·rw[lR];exact nR _
 ·exact qz (by omega)
 ·rw[size_madeCells]
 rw[lR]
 show(madeCells #[.int .u8 0,.int .u8 0,.int .u8 0,.int .u8 0,.int .u8 0,.int .u8 0,.int .u8 0,.int .u8 0] (n*8)).toList.take (n*8)=_
 rw[List.take_of_length_le (by simp[madeCells]),zco]
theorem zat {α:Type} (E:Elt α) {o:Oper} {a:Act} {K:Value->World->Prop} (w:World) (n:Nat) (hn:n*E.bytes<=140737488355328) (l:Operand) (ho:o.op= .makeSlice E.st l l) (hl:a.eval l= .int .i64 n) (h:∀C,zb E w.heap.size (w.alloc (.cells C E.ty)) (.slice (some ⟨w.heap.size,0,none⟩) n n) (List.replicate n E.zero)->K (.slice (some ⟨w.heap.size,0,none⟩) n n) (w.alloc (.cells C E.ty))):zL Tryz.prog o a w K:=by
 obtain⟨C,hr,h1⟩:=zdH E w n hn ho hl;exact zL.step hr (h C h1)
theorem Jk {o:Oper} {a:Act} {K:Value->World->Prop} (w:World) (n:Nat) (hn:n<=80) (l:Operand) (ho:o.op= .makeSlice 31 l l) (hl:a.eval l= .int .i64 n) (h:∀C,zj w.heap.size (w.alloc (.cells C 67)) (.slice (some ⟨w.heap.size,0,none⟩) n n) (List.replicate n zz)->K (.slice (some ⟨w.heap.size,0,none⟩) n n) (w.alloc (.cells C 67))):zL Tryz.prog o a w K:=by
 obtain⟨C,hr,h1⟩:=zb5 w n hn ho hl;exact zL.step hr (h C h1)
theorem zdx {ops:Array Oper} {rest:List Oper} {op:Oper} {a:Act} {w:World} {Q:Exit->Act->World->Prop} (hgd:op.guard=none) (ty:TypeId) (p x:Operand) (ho:op.op= .store ty p x) (b o:Nat) (hp:a.eval p= .pointer (some ⟨b,o,none⟩)) (vs:List Value) (hx:a.eval x= .agg vs.toArray)
  {cs:List Value} {t:TypeId} (hb:zp w b t cs) (hl:o+vs.length<=cs.length) (hi:(Tryz.prog.info? ty).map (·.size)=some vs.length) (h1:∀v∈vs,v.oneCell'=true)
  (h:∀w',zp w' b t (splice cs o vs)->w.grownBy w' (some b)->w'.heap.size=w.heap.size->wpList Tryz.prog ops Q rest (a.put op.dst undef) w'):wpList Tryz.prog ops Q (op :: rest) a w:=by
 refine wpList_store_mid hgd ty p x ho b o vs.toArray hp hx ?_ ?_ (all_oneCell_toArray h1) ?_
 ·intro j hj;have:=hb.box.there (o+j) (by simp at hj;omega)
  rw[zA]at this;exact this
 ·simpa using hi
 exact h _ (hb.part hl) (zO b vs o w).1 (zO b vs o w).2
theorem ziR {w W:World} {b gf gl gsb gdb nf ns nb:Nat} {vl:Sli} {L:List Int} (gr:zc w W) (hb:w.heap.size<=b) (box:zp W b 98 [.slice vl.a vl.n vl.c,.slice (some ⟨gf,0,none⟩) nf nf,.int .i64 0,.slice (some ⟨gl,0,none⟩) ns ns,.slice (some ⟨gsb,0,none⟩) ns ns,.slice none 0 0,.slice (some ⟨gdb,0,none⟩) nb nb,.slice none 0 0,.slice none 0 0,.int .i64 (nb:Int),.slice none 0 0,.slice none 0 0,.slice none 0 0]) (lr:zo byE w (.slice vl.a vl.n vl.c) L) (lc:vl.n<=vl.c) (lb:∀z∈L,0<=z/\z<256)
  (o1:zb Jx w.heap.size W (.slice (some ⟨gf,0,none⟩) nf nf) (List.replicate nf fr0)) (o2:zb slE w.heap.size W (.slice (some ⟨gl,0,none⟩) ns ns) (List.replicate ns 0)) (o3:zj w.heap.size W (.slice (some ⟨gsb,0,none⟩) ns ns) (List.replicate ns zz)) (o4:zj w.heap.size W (.slice (some ⟨gdb,0,none⟩) nb nb) (List.replicate nb zz)) (hap:gsb≠gdb):
  Mk w W.heap.size W b vl L ⟨⟨some ⟨gf,0,none⟩,nf,nf⟩,⟨some ⟨gl,0,none⟩,ns,ns⟩,⟨some ⟨gsb,0,none⟩,ns,ns⟩,zw,⟨some ⟨gdb,0,none⟩,nb,nb⟩,zw,zw,zw,zw⟩ ⟨List.replicate nf fr0,0,List.replicate ns 0,List.replicate ns zz,[],List.replicate nb zz,[],[],nb,[],[]⟩ zw []:=by
 have hp:∀{v:Value} {ps:List (List Int)},zj w.heap.size W v ps->∀g,v.ownBlock=some g->g<W.heap.size:=fun h g hg=>by
  obtain⟨_,cs,h2⟩:=ZR h hg;exact(aS.1 h2).1
 refine⟨gr,hb,box,lr,lc,lb,⟨nR _,bS gr,o1,o2,fun g hg=>(o2.lt g hg).2,o3,hp o3,⟨rfl,rfl⟩,o4,hp o4,⟨World.ownsRow_nil _ _ _ _,by simp,by simp⟩,⟨[],zb.nil _ _ _,rfl,fun i x f hx=>by cases hx⟩,zb.nil _ _ _,⟨[],zb.nil _ _ _,rfl,fun i x s hx=>by cases hx⟩,zb.nil _ _ _,fun g hg e=>?_⟩⟩
 simp only[Value.ownBlock,Option.some.injEq]at hg e;exact hap (hg.trans e.symm)
def zg0 (n k:Nat):List Fr:=List.replicate k frF++List.replicate (n - k) fr0
theorem zhJ (n:Nat):zg0 n 0=List.replicate n fr0:=by simp[zg0]
theorem zi9 (n:Nat):zg0 n n=List.replicate n frF:=by simp[zg0]
theorem zhK {n k:Nat} (h:k<n):(zg0 n k)[k]? =some fr0:=by
 unfold zg0;rw[aR (by simp),lR,Nat.sub_self,List.getElem?_replicate,if_pos (by omega)]
theorem zi8 {n k:Nat} (h:k<n):(zg0 n k).set k frF=zg0 n (k+1):=by
 unfold zg0;rw[List.set_append_right _ _ (by simp),lR,Nat.sub_self]
 obtain⟨j,hj⟩:∃j,n - k=j+1:=⟨n - k - 1,by omega⟩
 rw[hj,show n -(k+1)=j by omega,List.replicate_succ,sZ,List.replicate_succ',List.append_assoc]
 rfl
theorem Q6 {w:World} {base:Nat} {v:Value} {ps0:List (List Int)} (ty:TypeId) (hown:zj base w v ps0) (c:Nat):(Builtin.append_ #[31,31] ty #[v,.slice none 0 c]).run Tryz.prog w= .ok v w:=by
 obtain⟨i0,hi,_,hz1,_⟩:=info_parts zlb
 rcases hown.1.2 with⟨rfl,_⟩ | ⟨g,cap,cur,rfl,_,_,hnc,_⟩
 ·simp[Builtin.append_,run_underlying Tryz.underlying31,sizeOf,typeInfo,hi,Builtin.lenOf,Builtin.firstCells]
 simp[Builtin.append_,run_underlying Tryz.underlying31,sizeOf,typeInfo,hi,Builtin.lenOf,Builtin.firstCells,hnc,storeCells]
theorem JP {w:World} {ops:Array Oper} {rest:List Oper} {o:Oper} {a:Act} {Q:Exit->Act->World->Prop} (hgd:o.guard=none) (s x:Operand) (ho:o.op= .call { callee:= .builtin .append,args:=#[s,x],argTypes:=#[31,31] })
  (base:Nat) (vs:Value) (ps0:List (List Int)) (hs:a.eval s=vs) (hown:zj base w vs ps0) (vx:Value) (ps:List (List Int)) (hx:a.eval x=vx) (hv:qt w vx ps) (hb:(ps0.length+ps.length)*8<=140737488355328) (hbase:base<=w.heap.size)
  (h:∀v' w',zj base w' v' (ps0++ps)->w.grownBy w' vs.ownBlock->wpList Tryz.prog ops Q rest (a.put o.dst v') w'):wpList Tryz.prog ops Q (o :: rest) a w:=by
 obtain⟨⟨ax,c,rfl,hnone,hcells⟩,h8,_⟩:=hv
 cases ax with
 | none=>
  have hps:=hnone rfl;subst hps;refine wpList_plain hgd fun K hK=>?_
  have hrun:=Q6 o.type hown c;unfold Oper.wp execOp;simp only[ho,resolve,invoke,builtin,Sem.run_bind,Sem.run_pure,rA,List.map_toArray,mP,List.map_nil,hs,hx,List.length_nil,hrun];exact hK _ _ (h vs w (by rw[List.append_nil];exact hown) (World.grownBy.rfl' _ _))
 | some ad=>
  obtain⟨i0,hi,hz0,hz1,hz2⟩:=info_parts zlb;refine wpList_append_own w hgd s x 31 ho base 67 i0 _ 8 8 Tryz.underlying31 hi hz0 hz1 hz2 rfl (by decide) vs ps0.length _ hs hown.1 ad ps.length c (ps.flatMap pgc) hx (qI ps fun p hp=>by rw[Ja,h8 p hp]) (hcells ad rfl) (qX Qx ps) (qz (by omega)) hb hbase fun v' w' h1 h2 _=>?_
  refine h v' w' ⟨by rw[lA,List.flatMap_append];exact h1,fun p hp=>?_,by rw[lA];exact hb⟩ h2
  rcases List.mem_append.1 hp with h3 | h3
  ·exact hown.2.1 p h3
  exact h8 p h3
theorem zc1 (w:World):zj w.heap.size (w.alloc (.cells #[] 67)) (.slice (some ⟨w.heap.size,0,none⟩) 0 0) []:=⟨World.ownsRow_made w #[] 0 (nR _) (nZ _) (by simp),by simp,by simp⟩
theorem zb6 {w:World} {base:Nat} {v:Value} {qs:List (Int × List Int)} (ty:TypeId) (h:zT base w v qs) (g:Nat) (q:Int × List Int) (h8:q.2.length=8) (hv:jr w ⟨g,0,none⟩ (ptc q)) (hl:qs.length<=1000) (hbase:base<=w.heap.size):
  ∃v' w',(Builtin.append_ #[32,32] ty #[v,.slice (some ⟨g,0,none⟩) 1 1]).run Tryz.prog w= .ok v' w'/\zT base w' v' (qs++ [q])/\w.grownBy w' v.ownBlock:=by
 obtain⟨i0,hi,hz0,hz1,hz2⟩:=info_parts zlc;obtain⟨v',w',hr,ho,hg,_⟩:=run_append_own (P:=Tryz.prog) w base 32 ty 103 i0 _ 9 16 Tryz.underlying32 hi hz0 hz1 hz2 rfl (by decide) v qs.length _ h.1 ⟨g,0,none⟩ 1 1 (ptc q) (by rw[zeX,h8]) hv (zhf _) (qz (by omega)) (by omega) hbase
 refine⟨v',w',hr,⟨?_,fun x hx=>?_,by simp;omega⟩,hg⟩
 ·rw[lA,List.flatMap_append]
  simpa using ho
 rcases List.mem_append.1 hx with hx | hx
 ·exact h.2.1 x hx
 simp only[mC,nM,or_false]at hx;rw[hx];exact h8
section
variable{base hi:Nat} {w w':World} {V:MaV} {m:Ma} {vt:Sli} {T:List (Nat->En)}
theorem JV {v:Value} {qs:List (Int × List Int)} (h:zT base w v qs) {g:Nat} (hg:v.ownBlock=some g):base<=g/\∃cs,w.heap[g]? =some (.cells cs 103 (0,0)):=by
 rcases h.1.2 with⟨rfl,_⟩ | ⟨k,cap,cur,rfl,h2,h3,_⟩
 ·cases hg
 simp only[Value.ownBlock,Option.some.injEq]at hg;subst hg;exact⟨h2,cur,h3⟩
theorem MkR.addDq (h:MkR base hi w V m vt T) (hg:w.grownBy w' (Value.slice V.dq.a V.dq.n V.dq.c).ownBlock) (s:Sli) {qs:List (Int × List Int)} (ho:zT base w' (.slice s.a s.n s.c) qs):MkR base hi w' { V with dq:=s } { m with dq:=qs } vt T:=by
 cases hob:(Value.slice V.dq.a V.dq.n V.dq.c).ownBlock with
 | none=>
  rw[hob]at hg;have h':=h.grew (qf hg);exact⟨h'.hw,h'.bh,h'.fs,h'.sl,h'.slh,h'.sb,h'.sbh,h'.sq,h'.db,h'.dbh,ho,h'.fl,h'.ca,h'.sp,h'.tt,h'.ap⟩
 | some g=>
  rw[hob]at hg;obtain⟨_,cs,hc⟩:=JV h.dq hob;obtain⟨k1,k2,k3,k4,k5,k6,k7,k8,k9⟩:=h.kept hg hc;exact⟨nT h.hw hg.size,h.bh,k1 (by decide),k2 (.inl (by decide)),h.slh,k3 (.inl (by decide)),h.sbh,h.sq,k4 (.inl (by decide)),h.dbh,ho,k6 (by decide) (.inl (by decide)),k7 (by decide),k8 (by decide) (by decide),k9 (by decide),h.ap⟩
theorem MkR.addFl {xs:List FlV} (h:MkR base hi w V m vt T) (f1:zb fvE base w (.slice V.fl.a V.fl.n V.fl.c) xs) (f2:xs.length=m.fl.length) (f3:∀(i:Nat) x f,xs[i]? =some x->m.fl[i]? =some f->x.size=f.size/\zb blE hi w x.v f.bl)
  (hg:w.grownBy w' (Value.slice V.fl.a V.fl.n V.fl.c).ownBlock) (s:Sli) {x:FlV} {f:Fl} (hx:x.size=f.size) (hb:zb blE hi w x.v f.bl) (ho:zb fvE base w' (.slice s.a s.n s.c) (xs++ [x])):MkR base hi w' { V with fl:=s } { m with fl:=m.fl++ [f] } vt T:=by
 have fin:(∀{y:FlV} {q:Fl},zb blE hi w y.v q.bl->zb blE hi w' y.v q.bl)->∃ys:List FlV,zb fvE base w' (.slice s.a s.n s.c) ys/\ys.length=(m.fl++ [f]).length/\∀(i:Nat) y q,ys[i]? =some y->(m.fl++ [f])[i]? =some q->y.size=q.size/\zb blE hi w' y.v q.bl:=fun k=>by
  refine⟨_,ho,by simp[f2],fun i y q hy hq=>?_⟩
  rcases Nat.lt_or_ge i xs.length with hi | hi
  ·rw[List.getElem?_append_left hi]at hy;rw[List.getElem?_append_left (by omega)]at hq
   obtain⟨a1,a2⟩:=f3 i y q hy hq;exact⟨a1,k a2⟩
  rw[aR hi]at hy;rw[aR (by omega),<-f2]at hq
  have hi0:i - xs.length=0:=by
   have:=(gS.1 hy).1
   simp at this
   omega
  rw[hi0]at hy hq;cases hy;cases hq;exact⟨hx,k hb⟩
 cases hob:(Value.slice V.fl.a V.fl.n V.fl.c).ownBlock with
 | none=>
  rw[hob]at hg;have k:=qf hg;have h':=h.grew k;exact⟨h'.hw,h'.bh,h'.fs,h'.sl,h'.slh,h'.sb,h'.sbh,h'.sq,h'.db,h'.dbh,h'.dq,fin (fun h=>h.grew k),h'.ca,h'.sp,h'.tt,h'.ap⟩
 | some g=>
  rw[hob]at hg;obtain⟨cs,hc⟩:=f1.obj hob;obtain⟨k1,k2,k3,k4,k5,k6,k7,k8,k9⟩:=h.kept hg hc;exact⟨nT h.hw hg.size,h.bh,k1 (by decide),k2 (.inl (by decide)),h.slh,k3 (.inl (by decide)),h.sbh,h.sq,k4 (.inl (by decide)),h.dbh,k5 (by decide),fin (fun h=>h.kind hg hc (by decide)),k7 (by decide),k8 (by decide) (by decide),k9 (by decide),h.ap⟩
end
section
variable{base hi S0:Nat} {w w':World} {V:MaV} {m:Ma} {vt:Sli} {T:List (Nat->En)}
def FlB (base hi S0:Nat) (w:World) (V:MaV) (m:Ma):Prop:=∃xs:List FlV,zb fvE base w (.slice V.fl.a V.fl.n V.fl.c) xs/\xs.length=m.fl.length/\∀(i:Nat) x f,xs[i]? =some x->m.fl[i]? =some f->(x.size=f.size/\zb blE hi w x.v f.bl)/\∀g,x.v.ownBlock=some g->g<S0
theorem MkR.flB (h:MkR base hi w V m vt T):FlB base hi w.heap.size w V m:=by
 obtain⟨xs,h1,h2,h3⟩:=h.fl;exact⟨xs,h1,h2,fun i x f hx hf=>⟨h3 i x f hx hf,fun g hg=>((h3 i x f hx hf).2.lt g hg).2⟩⟩
theorem FlB.grew (h:FlB base hi S0 w V m) (k:zc w w'):FlB base hi S0 w' V m:=by
 obtain⟨xs,h1,h2,h3⟩:=h;refine⟨xs,h1.grew k,h2,fun i x f hx hf=>?_⟩
 obtain⟨⟨a1,a2⟩,a3⟩:=h3 i x f hx hf;exact⟨⟨a1,a2.grew k⟩,a3⟩
theorem FlB.kind (h:FlB base hi S0 w V m) {g:Nat} {t:TypeId} {cs:Array Value} (hg:w.grownBy w' (some g)) (ho:w.heap[g]? =some (.cells cs t (0,0))) (h1:t≠88\/(Value.slice V.fl.a V.fl.n V.fl.c).ownBlock≠some g) (h2:t≠3\/S0<=g):FlB base hi S0 w' V m:=by
 obtain⟨xs,k1,k2,k3⟩:=h;refine⟨xs,?_,k2,fun i x f hx hf=>?_⟩
 ·rcases h1 with h1 | h1
  ·exact k1.kind hg ho h1
  exact k1.grown hg fun k hk e=>by cases e;exact h1 hk
 obtain⟨⟨a1,a2⟩,a3⟩:=k3 i x f hx hf;refine⟨⟨a1,?_⟩,a3⟩
 rcases h2 with h2 | h2
 ·exact a2.kind hg ho h2
 exact a2.grown hg fun k hk e=>by cases e;have:=a3 _ hk;omega
theorem MkR.fileVar (h:MkR base hi w V m vt T) {g:Nat} {cs:Array Value} (hg:w.grownBy w' (some g)) (ho:w.heap[g]? =some (.cells cs 88 (0,0))) (hn:(Value.slice V.fl.a V.fl.n V.fl.c).ownBlock≠some g):MkR base hi w' V m vt T:=by
 obtain⟨k1,k2,k3,k4,k5,k6,k7,k8,k9⟩:=h.kept hg ho;obtain⟨xs,q1,q2,q3⟩:=h.flB.kind hg ho (.inr hn) (.inl (by decide))
 exact⟨nT h.hw hg.size,h.bh,k1 (by decide),k2 (.inl (by decide)),h.slh,k3 (.inl (by decide)),h.sbh,h.sq,k4 (.inl (by decide)),h.dbh,k5 (by decide),⟨xs,q1,q2,fun i x f hx hf=>(q3 i x f hx hf).1⟩,k7 (by decide),k8 (by decide) (by decide),k9 (by decide),h.ap⟩
theorem MkR.ints (h:MkR base hi w V m vt T) (hs:FlB base hi S0 w V m) {g:Nat} {cs:Array Value} (hg:w.grownBy w' (some g)) (ho:w.heap[g]? =some (.cells cs 3 (0,0))) (hb:S0<=g) (hh:hi<=g):MkR base hi w' V m vt T:=by
 obtain⟨k1,k2,k3,k4,k5,k6,k7,k8,k9⟩:=h.kept hg ho;obtain⟨xs,q1,q2,q3⟩:=hs.kind hg ho (.inl (by decide)) (.inr hb)
 exact⟨nT h.hw hg.size,h.bh,k1 (by decide),k2 (.inr hh),h.slh,k3 (.inl (by decide)),h.sbh,h.sq,k4 (.inl (by decide)),h.dbh,k5 (by decide),⟨xs,q1,q2,fun i x f hx hf=>(q3 i x f hx hf).1⟩,k7 (by decide),k8 (by decide) (by decide),k9 (by decide),h.ap⟩
end
section
variable{w0 w w':World} {hi b:Nat} {vl:Sli} {L:List Int} {V:MaV} {m:Ma} {vt:Sli} {T:List (Nat->En)}
theorem Mk.setDb (h:Mk w0 hi w b vl L V m vt T) {g:Nat} (hv:(Value.slice V.db.a V.db.n V.db.c).ownBlock=some g) (hg:w.grownBy w' (some g)) (hs:w'.heap.size=w.heap.size) {ls:List (List Int)} (ho:zj w0.heap.size w' (.slice V.db.a V.db.n V.db.c) ls):Mk w0 hi w' b vl L V { m with db:=ls } vt T/\zn hi w w':=by
 obtain⟨h1,cs,h2⟩:=ZR h.rows.db hv;refine⟨⟨zg h.gr hg h1,h.hb,h.box.beside hg (fun k e=>?_),h.lr,h.lc,h.lb,h.rows.setDb h2 hv hg hs ho⟩,zn.kind hg h2 (fun p hl=>?_)⟩
 ·cases e;intro e;subst e;have h3:w.heap[b]? =_:=h.box;rw[h2]at h3;cases h3
 have:=hl.2.2.2.2.2.2.2.2 rfl;have:=h.rows.dbh g hv;omega
end
end
end Go.Proofs.YtdgccecjbpgmfaaGreat
