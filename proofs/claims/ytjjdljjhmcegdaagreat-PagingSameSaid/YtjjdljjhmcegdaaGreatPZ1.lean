import Derived.Test.YtjjdljjhmcegdaaGreatPZ0
import Derived.RangeFuncNested
import Derived.RangeFuncBound
import Derived.RangeFuncCalls
import Derived.RangeFuncLeaves
import Derived.Shelf.RegionOpen
import Derived.OwnWalkIn
import Derived.TacticsInMore
import Derived.LoopNIn
import Derived.LoopIn
namespace Go.Proofs.YtjjdljjhmcegdaaGreat
open Go.Value renaming slice→O,int→Xe,bool→Xh,agg→Xi,pointer→Xj,tuple→Xm
open Go.IntKind renaming i64→Xf,u8→Xg
open Go.Obj renaming cells→Xk
open Go.Ending renaming returned→Xl
open Go renaming World→Xn,Calls→Xp,Value→Xq
open Go.RowKit renaming Hid→Xo
open Option renaming some→Xa,none→Xb
open Bool renaming true→Xc,false→Xd
open List renaming replicate→Xr
open Go.Region renaming wanted→Xs
open _root_.List renaming drop_of_length_le→Xt,eq_of_mem_replicate→Xw,length_set→Xx,length_nil→Xy,ext_getElem?→Xz,length_cons→Ya,getElem?_of_mem→Yb,mem_append→Yc,mem_or_eq_of_mem_set→Yf,size_toArray→Yg,getElem?_take_of_lt→Yh,all_eq_true→Yi,map_toArray→Yj,take_of_length_le→Yk,mem_map→Yl,nil_append→Ym,length_singleton→Yn,take→Yq,drop→Yr,length_pos_iff→Ys,append_toArray→Yt,find?_eq_none→Yw,getElem?_map→Yx,foldl_append→Yy,append_assoc→Yz,push_toArray→Oa,map_nil→Ob
open Go.Sem renaming run_bind→Xu,run_pure→Xv
open Go.Addr renaming add_lit→Yd
open _root_.Nat renaming lt_of_lt_of_le→Ye,mod_lt→Yv
open _root_.Array renaming replicate_succ→Yo,replicate_zero→Yp
open _root_.Bool renaming false_eq_true→Yu
set_option maxRecDepth 100000
set_option maxHeartbeats 4000000
variable{B B0 B1 b base' hi id j kk:Nat} {L:List Int} {Q:Exit->Act->Xn->Prop} {T:List (Nat->En)} {V:MaV} {W w' w0:Xn} {l:List Ar} {m m':Ma} {o oj:Oper} {ops:Array Oper} {t:TypeId} {us vs xs:List Xq} {vl vt:Sli} {z:Int}
open Go.Proofs.Tryz
section
open Go.RowKit
theorem zfT (z:Int) (w):
  Xp prog 105 #[I6 z] w fun e w'=>e= Xl (Xh (zbN z))/\zc w w':=by
 by_cases b:z<0
 ·have a:Xo (zbN z=Xc):=dD<|by simp[zbN,b]
  go_enter func105,ntmps105
  go_wp2;go_ret;exact⟨Rr a.out,zc.refl _⟩
 by_cases b:1000<z
 ·have a:Xo (zbN z=Xc):=dD<|by simp[zbN,b]
  go_enter func105,ntmps105
  go_wp2;go_ret;exact⟨Rr a.out,zc.refl _⟩
 have a:Xo (zbN z=Xd):=dD<|by simp[zbN];omega
 go_enter func105,ntmps105
 go_wp2;go_ret;exact⟨Rr a.out,zc.refl _⟩
theorem znW {p:Int->Bool} {fs:List Int} {k:Nat} {q:Int} (h:fs[k]? =Xa q) (c:p q=Xc) (b:∀(j:Nat) x,j<k->fs[j]? =Xa x->p x=Xd):fs.findIdx p=k:=by
 obtain⟨a,rfl⟩:=gS.1 h;refine(List.findIdx_eq a).2 ⟨c,fun j a=>?_⟩
 exact b j _ a (gE Wm)
theorem znV {p:Int->Bool} {fs:List Int} (a:∀(j:Nat) x,fs[j]? =Xa x->p x=Xd):fs.findIdx p=fs.length:=by
 refine List.findIdx_eq_length.2 fun x c=>?_
 obtain⟨j,b⟩:=Yb c;exact a j x b
theorem zou {p:Int->Bool} {fs:List Int} {k:Nat} {q:Int} (h:fs[k]? =Xa q) (a:p q=Xc):fs.any p=Xc:=List.any_eq_true.2 ⟨q,mG h,a⟩
theorem zot {p:Int->Bool} {fs:List Int} (a:∀(j:Nat) x,fs[j]? =Xa x->p x=Xd):fs.any p=Xd:=List.any_eq_false.2 fun x c=>by
 obtain⟨j,b⟩:=Yb c;rw[a j x b]
 decide
theorem zgs (v) (fs:List Int) (w) (c:zl slE w v fs):
  Xp prog 136 #[v,.func (.func 105) #[] #[]] w fun e w'=>(∃z:Int,e= Xl (I6 z)/\decide (0<=z)=fs.any zbN)/\zc w w':=by
 have b:=c.short;obtain⟨a,a,rfl,a⟩:=c.sls;have f:=dD a;have d:=enters_of func105 Kr rfl
 clear a c;obtain⟨n,m⟩:=kA fs.length;rw[m.out]at b⊢
 go_enter func136,ntmps136
 go_wp2
 go_loopg [5,8] n (fun a _ c wr=>∃b:Nat,b<=n/\n - b<=a/\c=I6 b/\Xo (zc w wr)/\Xo (∀j q,j<b->fs[j]? =Xa q->zbN q=Xd))
 exact⟨0,nZ _,Wm,rfl,zc.refl w,fun j q h=>absurd h (nL _)⟩
 obtain⟨b,a,a,rfl,k,A⟩:=hrel
 by_cases d:b<n
 ·have i:=kC d
  obtain⟨q,p⟩:∃q,Xo (fs[b]? =Xa q):=⟨_,gE (Rx m.out d)⟩
  obtain⟨a,rfl,c⟩:=f.out b q p.out;have a:=c wr k.out;have a:=zfT q wr
  clear c
  cases g:zbN q with
  | true=>
   rw[g]at a;have l:Xo (decide (0<=(b:Int))=fs.any zbN):=dD<|by rw[zou p.out g];simp
   clear g
   go_wp2_with (go_at_call 105;refine a.mono ?_;rintro e w' ⟨rfl,c⟩)
   go_ret;exact⟨⟨_,rfl,l⟩,k.trans c⟩
  | false=>
   rw[g]at a;have r:Xo (∀(j:Nat) q,j<b+1->fs[j]? =Xa q->zbN q=Xd):=dD<|fun j s h f=>by
    by_cases e:j=b
    ·subst e;rw[p.out]at f;cases f;exact g
    exact A j s Wm f
   clear g
   go_wp2_with (go_at_call 105;refine a.mono ?_;rintro e w' ⟨rfl,c⟩)
   go_roundg (n -(b+1));exact⟨b+1,Wm,Wm,Gn,k.trans c,r⟩;omega
 have i:=kD d
 have:b=n:=Wm
 subst this;have l:Xo (decide (0<=(-1:Int))=fs.any zbN):=dD<|by
  rw[zot (fun j q h=>A.out j q (by rw[<-m.out];exact(gS.1 h).1) h)]
  rfl
 go_wp2;go_ret;exact⟨⟨_,rfl,l⟩,k⟩
theorem zkF (v) (fs:List Int) (w) (b:zl slE w v fs):
  Xp prog 104 #[v,.func (.func 105) #[] #[]] w fun e w'=>e= Xl (Xh (fs.any zbN))/\zc w w':=by
 have a:=zgs v fs w b;obtain⟨c,c,rfl,_⟩:=b.sls;clear b
 generalize fs.any zbN=b at a⊢
 go_enter func104,ntmps104
 go_wp2_with fail;refine a.mono ?_;rintro e b ⟨⟨z,rfl,c⟩,b⟩;have d:=dD b;have f:=dD c;clear b c a;go_wp2;go_ret;exact⟨Rr f.out,d⟩
theorem zdS (a) (c:Nat) (s:List Int) (w) (g:zl slE w (O a s.length c) s):
  Xp prog 72 #[O a s.length c] w fun e w'=>e= Xl (I6 (slW s))/\zc w w':=by
 have d:=zkF _ s w g;have f:Xo (slW s=if 60<s.length then 4 else if s.any zbN then 3 else 0):=rfl;have b:=g.short;obtain⟨n,h⟩:=kA s.length;rw[h.out]at d f b⊢;clear g
 generalize s.any zbN=i at d f
 by_cases b:60<n
 ·have h:=kC b
  have g:Xo (slW s=4):=dD<|by rw[f.out,kE b]
  clear d
  go_enter func72,ntmps72
  go_wp2;go_ret;exact⟨Rr g.out,zc.refl _⟩
 have h:=kD b
 rw[kF b]at f
 cases i with
 | true=>
  have g:=dD f.out
  go_enter func72,ntmps72
  go_wp2_with fail;refine d.mono ?_;rintro e i ⟨rfl,b⟩;have h:=dD b;clear b d;go_wp2;go_ret;exact⟨Rr g.out,h⟩
 | false=>
  have g:=dD f.out
  go_enter func72,ntmps72
  go_wp2_with fail;refine d.mono ?_;rintro e i ⟨rfl,b⟩;have h:=dD b;clear b d;go_wp2;go_ret;exact⟨Rr g.out,h⟩
def qI (n:Nat) (g:List Int):List Xq:=(List.range n).map fun(i:Nat)=> Xh (g.contains (i:Int))
theorem Q2 {n:Nat} (g:List Int) {i:Nat} (hi:i<n):(qI n g)[i]? =Xa (Xh (g.contains (i:Int))):=by
 unfold qI;rw[Yx,List.getElem?_range hi];rfl
theorem zgk {n:Nat} (g) {i:Nat} (hi:i<n):(qI n g).set i (Xh Xc)=qI n ((i:Int) :: g):=by
 apply Xz
 intro j
 by_cases e:j=i
 ·subst e;rw[sF (by simp[qI,hi]),Q2 _ hi]
  simp
 rw[sN (fun h=>e h.symm)]
 rcases Nat.lt_or_ge j n with a|a
 ·rw[Q2 _ a,Q2 _ a];have:¬((j:Int)=(i:Int)):=Wm
  simp[this]
 rw[gN (by simp[qI,a]),gN (by simp[qI,a])]
theorem zcU:qI 80 []=Xr 80 (Xh Xd):=by
 unfold qI
 simp[List.map_const']
theorem znK (b a:Int) (g) (c h:Nat) (w:Xn) (d:Box w c [I6 a]) (j:Box w h (qI 80 g)) (f:a<=80):
  Xp prog 138 #[I6 b,Xj (Xa ⟨c,0,Xb⟩),Xj (Xa ⟨h,0,Xb⟩)] w fun e w'=>e= Xl (I6 (Qe a g b))/\(Qe a g b=0->Box w' h (qI 80 (JP g b)))/\w.grownBy w' (Xa h)/\w'.heap.size=w.heap.size:=by
 have c:=d.c 0 rfl;have c:=dD j
 rcases Jb a g b with⟨c,d,f⟩|⟨c,d,f⟩|⟨i,c,d,f,t⟩|⟨i,c,d,f,t,v⟩
 ·rw[d];have k:Xo (Box w h (qI 80 (JP g b))):=dD<|Rx f j
  subst c
  generalize JP g (-1)=s at k⊢
  go_enter func138,ntmps138
  go_wp2;go_ret;exact⟨rfl,fun _=>k.out,World.grownBy.rfl' _ _,rfl⟩
 ·rw[f];have l:=zbi d w;have p:(b == -1)=Xd:=Si c
  generalize JP g b=s
  go_enter func138,ntmps138
  go_wp2_with (go_at_call 101;refine l.mono ?_;rintro e w' ⟨rfl,rfl⟩)
  go_ret;exact⟨rfl,fun u=>Wm,World.grownBy.rfl' _ _,rfl⟩
 ·rw[t];subst c;have q:i<80:=Wm
  have l:=Zm (m:=(i:Int)) (n:=a) Wm d w
  have p:((i:Int) == -1)=Xd:=Sm
  have r:=j.c i (Q2 g q);rw[f]at r
  generalize JP g (i:Int)=s
  go_enter func138,ntmps138
  go_wp2_with (go_at_call 101;refine l.mono ?_;rintro e w' ⟨rfl,rfl⟩)
  go_ret;exact⟨rfl,fun u=>Wm,World.grownBy.rfl' _ _,rfl⟩
 rw[t];subst c;have q:i<80:=Wm
 have l:=Zm (m:=(i:Int)) (n:=a) Wm d w
 have p:((i:Int) == -1)=Xd:=Sm
 have r:=j.c i (Q2 g q);have a:=j.f;rw[f]at r;have k:Xo (Box (w.setCell ⟨h,i,Xb⟩ (Xh Xc)) h (qI 80 (JP g (i:Int)))):=dD<|by
  rw[v,<-zgk g q];exact j.set i _
 generalize JP g (i:Int)=s at k
 go_enter func138,ntmps138
 go_wp2_with (go_at_call 101;refine l.mono ?_;rintro e w' ⟨rfl,rfl⟩)
 go_ret;exact⟨rfl,fun _=>k.out,⟨rfl,rfl,rfl,by simp[World.setCell],fun k a a=>Below.heap_setCell _ _ _ _ (fun e=>a (by rw[e]))⟩,by simp[World.setCell]⟩
def zfz:Array Xq:=(Xr 80 (Xh Xd)).toArray
theorem zhc:(Tryz.prog.info? 141).map (fun i=>i.zero)=Xa (Xa (Xi zfz)):=by kernel_rfl
theorem zbp (w):(zeroValue 141).run prog w= .ok (Xi zfz) w:=by
 have h:=zhc
 cases a:Tryz.prog.info? 141 with
 | none=>simp[a]at h
 | some i=>
  simp[a]at h
  simp[zeroValue,typeInfo,a,h]
theorem zlQ (a:Int) (w:Xn):
  Xp prog 109 #[I6 a] w fun e w'=>e= Xl (.func (.func 138) #[] #[Xj (Xa ⟨w.heap.size,0,Xb⟩),Xj (Xa ⟨w.heap.size+1,0,Xb⟩)])/\Box w' w.heap.size [I6 a]/\Box w' (w.heap.size+1) (qI 80 [])/\zc w w'/\w'.heap.size=w.heap.size+2:=by
 have a:∀(b:Fn) (first a:Array Xq) (w:Xn),(Instr.makeFunc b first a).run prog w= .ok (.func b first a) w:=fun _ _ _ _=>rfl
 have a:=zbp;rw[zcU]
 go_enter func109,ntmps109
 go_wp2;go_ret;exact⟨rfl,(Box.top w _ _ rfl).alloc _,Box.top _ (Xr 80 (Xh Xd)) _ Sm,(za _ _).trans (za _ _),Sm⟩
theorem zcq (g l) (b:Int):blG g (l++ [b])=JP (blG g l) b:=by
 unfold blG;rw[Yy];rfl
theorem zeG (f:Fl) (S) (T:Nat) (a:Int) (g) (F h:Nat) (w) (ac:Box w F [I6 a]) (D:Box w h (qI 80 g)) (P:F≠h) (ar:a<=80) (a3:zin blE h (h+1) w (O S f.bl.length T) f.bl):
  Xp prog 110 #[Xi #[I6 f.size,O S f.bl.length T],.func (.func 138) #[] #[Xj (Xa ⟨F,0,Xb⟩),Xj (Xa ⟨h,0,Xb⟩)]] w fun e w'=>e= Xl (I6 (flW a g f))/\(flW a g f=0->Box w' h (qI 80 (blG g f.bl)))/\Out h (h+1) w w':=by
 obtain⟨i,b⟩:=f;have l:Xo (flW a g ⟨i,b⟩=if 0<=i/\i<=96 then(if(b.length:Int)=Jn i then blW a g b else 2)else 3):=rfl;have al:=dD ac;have am:=dD D;have X:=dD a3;have H:=dD P;have j:=(a3.now).short;clear ac D a3 P;simp only at j
 show Xp _ _ #[Xi #[I6 i,O S b.length T],_] _ _
 generalize flW a g ⟨i,b⟩=ab at l⊢
 simp only
 by_cases x:0<=i/\i<=96
 ·rw[kE x]at l;obtain⟨s,y⟩:=x;have L:=fun W=>Zm (m:=i) (n:=97) s Wm W
  have q:=fun W=>zmo i W s y
  by_cases C:(b.length:Int)=Jn i
  ·rw[kE C]at l;rw[<-C]at q;clear s y C;obtain⟨k,r⟩:=kA b.length;rw[r.out]at j q X⊢;obtain⟨an,z⟩:=kB (w.alloc (Xk #[I6 i,O S k T] 65));have K:=dD z;have G:=gA z
   clear z;have b2:=enters_of func138 Kr rfl
   have Q:((k:Int) !=(k:Int))=Xd:=Sm
   go_enter func110,ntmps110
   go_wp2_with (go_at_call 101;refine(L _).mono ?_;rintro e w' ⟨rfl,rfl⟩)
   go_quiet (first | (go_at_call 139;exact Calls.quiet_of_same (q _)))
   rw[K.out];obtain⟨Z,p⟩:=kB (an.drewN nq);have aa:Xo (Box Z w.heap.size [I6 i,O S k T]):=dD<|by rw[<-p,<-K.out];exact(Box.top w _ _ rfl).grew (show Below _ _ _ from bD (bR _ _) _)
   have a9:Xo (Out h (h+1) w Z):=dD<|by rw[<-p];exact(Out.grew G).trans (Out.grew (show Below _ _ _ from bD (bR _ _) _))
   have af:Xo (Box Z F [I6 a]):=dD<|al.out.out a9 (Hm H.out)
   have ah:Xo (Box Z h (qI 80 g)):=dD<|by rw[<-p];exact(am.grew G).grew (show Below _ _ _ from bD (bR _ _) _)
   rw[p];clear p q L;have av:=aa.c 0 rfl;have aw:=aa.c 1 rfl;go_wp2
   go_loopg [6,7,22] k (fun ao _ _ a5 wr=>∃d:Nat,d<=k/\k - d<=ao/\a5=I6 d/\Xo (Out h (h+1) w wr)/\Xo (Box wr h (qI 80 (blG g (b.take d))))/\Xo (blW a (blG g (b.take d)) (b.drop d)=blW a g b)/\Xo (Box wr F [I6 a]))
   exact⟨0,nZ _,Wm,rfl,a9,ah,rfl,af⟩
   obtain⟨d,aq,ap,rfl,Y,a8,a1,a7⟩:=hrel;clear av aw
   by_cases A:d<k
   ·have N:=kC A
    obtain⟨B,V⟩:∃B,Xo (b[d]? =Xa B):=⟨_,gE (Rx r.out A)⟩
    obtain⟨ax,az,M,t⟩:=(X wr Y).nums;rw[r.out]at M;cases M;obtain⟨ay,rfl,ae⟩:=t d B V.out;have b1:=ae wr (zc.refl _);have c:=znK B a (blG g (b.take d)) F h wr a7 a8 ar;have u:Xo (blW a (blG g (b.take d)) (b.drop d)=if Qe a (blG g (b.take d)) B=0 then blW a (blG g (b.take (d+1))) (b.drop (d+1))else Qe a (blG g (b.take d)) B):=dD<|by
     rw[qS V.out,qe V.out,zcq];rfl
    rw[<-zcq,<-qe V.out]at c;clear ae t
    generalize Qe a (blG g (b.take d)) B=a6 at c u
    by_cases R:a6=0
    ·have ak:Xo (blW a (blG g (b.take (d+1))) (b.drop (d+1))=blW a g b):=dD<|by rw[<-a1.out,u.out,kE R]
     subst R;go_wp2_with fail;refine c.mono ?_;rintro e I ⟨rfl,a0,E,a4⟩;have ai:Xo (Box I h (qI 80 (blG g (b.take (d+1))))):=a0 (by first | exact rfl | exact trivial)
     have a2:Xo (Out h (h+1) w I):=Y.trans (Out.grown E (fun g D=>by cases D;omega))
     have ag:=dD<|a7.grown E H.out;clear a0 E a4 c;go_wp2
     go_roundg (k -(d+1));exact⟨d+1,Wm,Wm,Gn,a2,ai,ak,ag⟩;omega
    have au:(a6 != 0)=Xc:=Si R
    have U:Xo (ab=a6):=dD<|by
     have x:=a1.out;rw[u.out,kF R]at x;rw[l.out,<-x]
    go_wp2_with fail;refine c.mono ?_;rintro e I ⟨rfl,a0,E,a4⟩;have a2:Xo (Out h (h+1) w I):=Y.trans (Out.grown E (fun g D=>by cases D;omega))
    clear a0 E a4 c;go_wp2;go_ret;exact⟨Rr U.out,fun v=>absurd (U.symm.trans v) R,a2⟩
   have N:=kD A
   have:d=k:=Wm
   subst this;have U:Xo (ab=0):=dD<|by
    rw[l.out,<-a1.out,Xt (by rw[r.out];exact nR _)]
    rfl
   have aj:Xo (Box wr h (qI 80 (blG g b))):=dD<|by
    have:=a8.out;rw[Yk (by rw[r.out];exact nR _)]at this
    exact this
   go_wp2;go_ret;exact⟨Rr U.out,fun _=>aj.out,Y⟩
  rw[kF C]at l;have Q:((b.length:Int) != Jn i)=Xc:=Si C
  clear C s y
  generalize Jn i=b0 at*
  obtain⟨k,r⟩:=kA b.length;rw[r.out]at j Q X⊢
  go_enter func110,ntmps110
  go_wp2_with (go_at_call 101;refine(L _).mono ?_;rintro e w' ⟨rfl,rfl⟩)
  go_quiet (first | (go_at_call 139;exact Calls.quiet_of_same (q _)))
  go_wp2;go_ret;exact⟨Rr l.out,fun v=>(by rw[l.out]at v;cases v),(Out.grew (za _ _)).trans (Out.grew (show Below _ _ _ from bD (bR _ _) _))⟩
 rw[kF x]at l;have L:=fun W=>zbi (m:=i) (n:=97) Wm W
 clear x;obtain⟨k,r⟩:=kA b.length;rw[r.out]at j X⊢
 go_enter func110,ntmps110
 go_wp2_with (go_at_call 101;refine(L _).mono ?_;rintro e w' ⟨rfl,rfl⟩)
 go_ret;exact⟨Rr l.out,fun v=>(by rw[l.out]at v;cases v),Out.grew (za _ _)⟩
def zbV (g:List Int) (fs:List Fl):List Int:=fs.foldl (fun g f=>blG g f.bl) g
theorem zba (g fs) (f:Fl):zbV g (fs++ [f])=blG (zbV g fs) f.bl:=by
 unfold zbV;rw[Yy];rfl
theorem J3 {l:List Fl} {k:Nat} {q:Fl} (h:l[k]? =Xa q):l.take (k+1)=l.take k++ [q]:=by
 rw[List.take_add_one,h];rfl
theorem zcs (v fs) (a:Int) (w) (a7:qg w v fs):
  Xp prog 74 #[Xi #[v,I6 a]] w fun e w'=>e= Xl (I6 (stW fs a))/\zc w w':=by
 obtain⟨am,an,rfl,D,j⟩:=a7.rows;have aj:=dD j;have h:Xo (stW fs a=if fs.length<=5/\0<=a/\a<=80 then zcm a [] fs else 4):=rfl;clear j a7
 generalize stW fs a=a3 at h⊢
 obtain⟨f,T⟩:=kA fs.length;rw[T.out]at D h⊢;obtain⟨U,d⟩:=kB (w.alloc (Xk #[O am f an,I6 a] 37));have l:=gA d
 have al:=xA d
 have z:=sA d
 have s:Xo (_=U):=d;clear d
 by_cases a5:f<=5
 ·have C:¬(5:Int)< (f:Int):=Wm
  have ap:decide ((5:Int)< (f:Int))=Xd:=decide_eq_false C
  by_cases x:0<=a/\a<=80
  ·rw[kE ⟨a5,x⟩]at h;have M:=fun W=>Zm (m:=a) (n:=81) x.1 Wm W
   have E:a<=80:=x.2;clear x
   go_enter func74,ntmps74
   go_wp2_with (go_at_call 101;refine(M _).mono ?_;rintro e w' ⟨rfl,rfl⟩)
   rw[s.out];refine(zlQ a U).mono ?_;rintro e ak ⟨rfl,k,g,X,a8⟩;obtain⟨i,G⟩:=kB U.heap.size;rw[G]at k g a8 z⊢;have p:Xo (i=w.heap.size+1):=z;have ab:Xo (Box ak i [I6 a]):=k;have af:=dD g;have R:=dD (l.trans X);have a2:=dD (al.grew X);clear G k g X a8 M;have aw:=a2.c 0 rfl;have ax:=a2.c 1 rfl;go_wp2
   go_loopg [5,6,23] f (fun ao _ _ Y wr=>∃c:Nat,c<=f/\f - c<=ao/\Y=I6 c/\Xo (zc w wr)/\Xo (Box wr i [I6 a])/\Xo (Box wr (i+1) (qI 80 (zbV [] (fs.take c))))/\Xo (zcm a (zbV [] (fs.take c)) (fs.drop c)=zcm a [] fs))
   exact⟨0,nZ _,Wm,rfl,R,ab,af,rfl⟩
   obtain⟨c,ar,aq,rfl,K,a0,ah,P⟩:=hrel;clear aw ax
   by_cases u:c<f
   ·have F:=kC u
    obtain⟨q,L⟩:∃q,Xo (fs[c]? =Xa q):=⟨_,gE (Rx T.out u)⟩
    obtain⟨ay,rfl,a9,aa,H,a6⟩:=aj.out c q L.out;obtain⟨az,b0⟩:=a6 wr K.out;obtain⟨a1,t⟩:=kB (wr.alloc (Xk #[I6 q.size,O a9 q.bl.length aa] 65));have y:=gA t
    have b:=zeG q a9 aa a (zbV [] (fs.take c)) i (i+1) a1 (a0.grew y) (ah.grew y) Wm E (H.stays (i+2) (Hm p.out) (K.trans y))
    have ac:=dD (a0.grew y);have I:=dD (K.trans y);have A:Xo (_=a1):=t;have r:Xo (zcm a (zbV [] (fs.take c)) (fs.drop c)=if flW a (zbV [] (fs.take c)) q=0 then zcm a (zbV [] (fs.take (c+1))) (fs.drop (c+1))else flW a (zbV [] (fs.take c)) q):=show _=_ by
     rw[qS L.out,J3 L.out,zba];rfl
    rw[<-zba,<-J3 L.out]at b;clear a6 t H
    generalize flW a (zbV [] (fs.take c)) q=Z at b r
    have au:=q.bl.length
    by_cases N:Z=0
    ·have ai:Xo (zcm a (zbV [] (fs.take (c+1))) (fs.drop (c+1))=zcm a [] fs):=dD<|by rw[<-P.out,r.out,kE N]
     subst N;go_wp2_with fail;rw[A.out];refine b.mono ?_;rintro e B ⟨rfl,k,g⟩;have ag:Xo (Box B (i+1) (qI 80 (zbV [] (fs.take (c+1))))):=k (by first | exact rfl | exact trivial)
     have Q:Xo (zc w B):=dD<|Out.grew_of I (Hm p.out) g
     have ae:Xo (Box B i [I6 a]):=ac.out.out g Wm
     clear k g b;go_wp2
     go_roundg (f -(c+1));exact⟨c+1,Wm,Wm,Gn,Q,ae,ag,ai⟩;omega
    have av:(Z != 0)=Xc:=Si N
    have S:Xo (a3=Z):=dD<|by
     have a4:=P.out;rw[r.out,kF N]at a4;rw[h.out,<-a4]
    go_wp2_with fail;rw[A.out];refine b.mono ?_;rintro e B ⟨rfl,k,g⟩;have Q:Xo (zc w B):=dD<|Out.grew_of I (Hm p.out) g
    clear k g b;go_wp2;go_ret;exact⟨Rr S.out,Q⟩
   have F:=kD u
   have:c=f:=Wm
   subst this;have S:Xo (a3=0):=dD<|by
    rw[h.out,<-P.out,Xt (by rw[T.out];exact nR _)]
    rfl
   go_wp2;go_ret;exact⟨Rr S.out,K⟩
  rw[kF (fun V=>x V.2)]at h
  have M:=fun W=>zbi (m:=a) (n:=81) Wm W
  clear x
  go_enter func74,ntmps74
  go_wp2_with (go_at_call 101;refine(M _).mono ?_;rintro e w' ⟨rfl,rfl⟩)
  rw[s.out];go_ret;exact⟨Rr h.out,l⟩
 rw[kF (fun V=>a5 V.1)]at h
 have C:(5:Int)< (f:Int):=Wm
 go_enter func74,ntmps74
 go_wp2;rw[s.out];go_ret;exact⟨Rr h.out,l⟩
theorem zhH (f) (a:Ar) (n:Nat) (w) (b:0<=a.base/\a.base<=100) (c:0<=a.fr/\a.fr<=100) (d:n<=64):
  Xp prog 119 #[Xi (frv f).toArray,Xi #[I6 a.fr,I6 a.tz,Xh a.rd,Xh a.wr,Xh a.sh,I6 a.file,I6 a.base],I6 (n:Int)] w fun e w'=>e= Xl (Xh (Qp f a n))/\zc w w':=by
 have z:Xo (∀W,Xp prog 144 #[Xi #[I6 a.fr,I6 a.tz,Xh a.rd,Xh a.wr,Xh a.sh,I6 a.file,I6 a.base],I6 (n:Int)] W fun e w'=>e= Xl (I6 (a.base+n - a.fr))/\zc W w'):=dD<|fun W=>zc2 a n W b c Wm
 clear b c d;obtain⟨⟨b,d,g,h,i,l,m,p⟩,r,u,q,j,y⟩:=f;obtain⟨fr,E,C,wr,D,file,base⟩:=a;unfold frv Qp;simp only
 by_cases v:j<0
 ·rw[kE v]
  go_enter func119,ntmps119
  go_wp2;go_ret;exact⟨rfl,(za _ _).trans (za _ _)⟩
 rw[kF v];obtain⟨k,c⟩:=kB ((w.alloc (Xk #[U8 b,U8 d,U8 g,U8 h,U8 i,U8 l,U8 m,U8 p,I6 r,Xh u,Xh q,I6 j,I6 y] 62)).alloc (Xk #[I6 fr,I6 E,Xh C,Xh wr,Xh D,I6 file,I6 base] 105));have h:=gD2 c
 have u:=x2a c
 have b:=x2b c
 have i:=dD c;clear c
 by_cases x:j=file
 ·have g:(j == file)=Xc:=by simp[x]
  rw[g,Bool.true_and];clear x;obtain⟨c,B⟩:=kA (y == base+(n:Int) - fr);rw[B.out]
  go_enter func119,ntmps119
  go_upto_region 3 with fail;rw[i.out];have c:=u.gw 11 rfl
  have d:=u.gw 12 rfl
  have l:=b.gw 0 rfl
  have m:=b.gw 1 rfl
  have p:=b.gw 2 rfl
  have q:=b.gw 3 rfl
  have r:=b.gw 4 rfl
  have s:=b.gw 5 rfl
  have t:=b.gw 6 rfl
  have A:Nonempty (ze k):=⟨⟨_,zc.refl _⟩⟩;refine ju [(10,⟨fun k=>k=I6 (base+(n:Int) - fr),fun k w'=>True⟩)] z6 Kr (Sa ⟨_,rfl⟩) ?hp ?_
  case hp=>
   intro y k;simp only[mC,nM,or_false]at k;subst k;exact fun _ _ _ _ v=>v
  iterate 10 refine zg ?_
  refine zx rfl rfl (fun w' k v=>?_) (fun k y=>?_)
  ·refine zJ.call [Xi #[I6 fr,I6 E,Xh C,Xh wr,Xh D,I6 file,I6 base],I6 (n:Int)] rfl func144 rfl rfl rfl ?_;refine(z w').mono ?_;rintro e k ⟨rfl,k⟩;exact⟨_,rfl,k,rfl,trivial⟩
  subst y;refine Uq ?_;iterate 3 refine zg ?_
  refine qd fun k k v=>?_
  have y:=dD (h.trans k);clear k v c d l m p q r s t A;go_wp2;go_ret;exact⟨by rw[<-B.out];rfl,y⟩
 have g:(j == file)=Xd:=by simp[x]
 rw[g,Bool.false_and];clear x
 go_enter func119,ntmps119
 go_upto_region 3 with fail;rw[i.out];have c:=u.c 11 rfl;have d:=u.c 12 rfl;have l:=b.c 0 rfl;have m:=b.c 1 rfl;have p:=b.c 2 rfl;have q:=b.c 3 rfl;have r:=b.c 4 rfl;have s:=b.c 5 rfl;have t:=b.c 6 rfl;go_quiet (fail);go_wp2;go_ret;exact⟨rfl,h.trans (show Below _ _ _ from bD (bR _ _) _)⟩
def zo2 (fl:List Fl) (file idx:Int):Bool:=bel file fl.length && bel idx ((fl.getD file.toNat ⟨0,[]⟩).bl.length:Nat)
theorem zc7 (v fl) (c file b:Int) (w) (f:qg w v fl):
  Xp prog 113 #[Xi #[v,I6 c],I6 file,I6 b] w fun e w'=>e= Xl (Xh (zo2 fl file b))/\zc w w':=by
 obtain⟨a,j,rfl,d,a⟩:=f.rows;have i:=dD a;clear a f;obtain⟨n,g⟩:=kA fl.length;unfold zo2;rw[g.out]at d⊢;have a:=zbM file n
 cases h:bel file n with
 | false=>
  rw[h]at a;rw[Bool.false_and]
  go_enter func113,ntmps113
  go_wp2_with (go_at_call 114;refine(a _).mono ?_;rintro e w' ⟨rfl,rfl⟩)
  go_ret;exact⟨rfl,za _ _⟩
 | true=>
  rw[h]at a;rw[Bool.true_and];obtain⟨d,d⟩:=JZ.1 h;obtain⟨k,rfl⟩:∃k:Nat,file=(k:Int):=⟨file.toNat,Wm⟩
  obtain⟨f,d⟩:∃f,Xo (fl[k]? =Xa f):=⟨_,gE (by rw[g.out];omega)⟩
  have g:(fl.getD ((k:Nat):Int).toNat ⟨0,[]⟩)=f:=by rw[tN,gD,d.out];rfl
  rw[g];clear g;obtain⟨h,rfl,g,g,_,g⟩:=i.out k f d.out;obtain⟨d,d⟩:=g (w.alloc (Xk #[O (Xa h) n j,I6 c] 37)) (za _ _);obtain⟨q,c⟩:=kA f.bl.length;rw[c.out]at d⊢;have c:=zbM b q;clear g
  go_enter func113,ntmps113
  go_wp2_with (go_at_call 114;first | (refine(a _).mono ?_;clear a;rintro e w' ⟨rfl,rfl⟩) | (refine(c _).mono ?_;rintro e w' ⟨rfl,rfl⟩))
  go_ret;exact⟨rfl,za _ _⟩
theorem zoa (m:Ma) (c:Ca):caE m Xb c=if zo2 m.fl c.file c.idx=Xd\/bel c.fr m.fs.length=Xd then 3 else if(zU m c.fr).r=0\/(zU m c.fr).f≠c.file\/(zU m c.fr).x≠c.idx then 7 else 0:=by
 unfold caE zo2;have e:∀(a b:Int),bel a b=Xd↔(a<0\/b<=a):=fun a b=>by
  constructor
  ·intro h
   rcases Int.lt_or_le a 0 with d|d
   ·exact .inl d
   rcases Int.lt_or_le a b with a|a
   ·rw[JZ.2 ⟨d,a⟩]at h;cases h
   exact .inr a
  intro h;exact zmA Wm
 have a:(c.file<0\/(m.fl.length:Int)<=c.file\/c.idx<0\/bkN m c.file<=c.idx\/c.fr<0\/(m.fs.length:Int)<=c.fr)↔((bel c.file m.fl.length && bel c.idx ((m.fl.getD c.file.toNat ⟨0,[]⟩).bl.length:Nat))=Xd\/bel c.fr m.fs.length=Xd):=by
  rw[Bool.and_eq_false_iff,e,e,e];unfold bkN;omega
 simp only[a]
theorem zcu (V m) (c:Ca) (w) (G:zy w V m):
  Xp prog 77 #[Xi (mL V m).toArray,Xi #[I6 c.file,I6 c.idx,I6 c.fr]] w fun e w'=>e= Xl (I6 (caE m Xb c))/\zc w w':=by
 obtain⟨Y,-⟩:=G.ns;rw[zoa,<-Y];have L:=dD<|fun W (aw:zc w W)=>zc7 _ m.fl m.cnt c.file c.idx W (G.grew aw).fl
 have f:=dD<|fun W=>zbM c.fr V.f.n W
 have aa:=dD Y.symm;have ac:=dD G.frs;clear G Y;obtain⟨a2,d⟩:=kB ((w.alloc (Xk (mL V m).toArray 41)).alloc (Xk #[I6 c.file,I6 c.idx,I6 c.fr] 93));have g:=gD2 d
 have E:=x2a d
 have v:=x2b d
 have M:Xo (a2.heap.size=w.heap.size+1+1):=dD<|by rw[<-d];simp
 have n:=dD d;clear d;have b:=L.out a2 g.out;have I:=E.c 7 rfl;have a0:=E.c 8 rfl;have C:=v.c 0 rfl;have D:=v.c 1 rfl
 cases a8:zo2 m.fl c.file c.idx with
 | false=>
  rw[a8]at b;rw[kE (.inl rfl)]
  go_enter func77,ntmps77
  go_upto_region 1 with fail;rw[n.out]
  go_wp2_with (go_at_call 113;refine b.mono ?_;clear I a0 C D;rintro e s ⟨rfl,a⟩)
  go_ret;exact⟨rfl,g.trans a⟩
 | true=>
  rw[a8]at b
  cases F:bel c.fr V.f.n with
  | false=>
   rw[F]at f;rw[kE (.inr rfl)]
   go_enter func77,ntmps77
   go_upto_region 1 with fail;rw[n.out];go_wp2_with fail;refine b.mono ?_;clear I a0 C D;rintro e s ⟨rfl,a⟩;have i:=dD (g.trans a);have H:=(E.grew a).c 0 rfl;have a9:=(v.grew a).c 2 rfl;clear a
   go_wp2_with (go_at_call 114;refine(f _).mono ?_;rintro e w' ⟨rfl,rfl⟩)
   go_ret;exact⟨rfl,i⟩
  | true=>
   rw[F]at f;rw[kF Sm]
   obtain⟨au,av⟩:=JZ.1 F;clear F;obtain⟨x,y,a6⟩:=c;simp only at au av f b g v C D⊢;obtain⟨r,rfl⟩:∃r:Nat,a6=(r:Int):=⟨a6.toNat,Wm⟩
   have X:r<V.f.n:=Wm
   obtain⟨q,a1⟩:∃q,Xo (m.fs[r]? =Xa q):=⟨_,gE (Rx aa.out X)⟩
   have z:zU m (r:Int)=q:=by unfold zU;rw[tN,gD,a1.out];rfl
   rw[z];clear z;obtain⟨ax,A,a7⟩:=ac.out r q a1.out;have ab:=dD a7;have N:=dD A;clear a7 A;obtain⟨Z,u⟩:=kA (if q.r=0\/q.f≠x\/q.x≠y then(7:Int)else 0);rw[u.out]
   go_enter func77,ntmps77
   go_upto_region 1 with fail;rw[n.out];go_wp2_with fail;refine b.mono ?_;clear I a0 C D;rintro e s ⟨rfl,a⟩;have i:=dD (g.trans a);have af:=dD (E.grew a);have a4:=dD (v.grew a);have ae:Xo (w.heap.size+1+1<=s.heap.size):=show _<=_ by rw[<-M.out];exact bS a
   clear a;have H:=af.c 0 rfl;have a9:=a4.c 2 rfl
   go_upto_region 3 with(go_at_call 114;refine(f _).mono ?_;rintro e w' ⟨rfl,B⟩;rw[B];clear B w')
   (try simp only[Sli.x]at H);rw[N.out]at H;obtain⟨ag,ah,ai,aj,ak,al,am,an,ao,ap,P,Q,R⟩:=ab.out s i.out;go_upto_region 4 with fail;obtain⟨a3,h⟩:=kB (s.alloc (Xk #[U8 q.p.b0,U8 q.p.b1,U8 q.p.b2,U8 q.p.b3,U8 q.p.b4,U8 q.p.b5,U8 q.p.b6,U8 q.p.b7,I6 q.r,Xh q.u,Xh q.d,I6 q.f,I6 q.x] 62));have j:=gT h i
   have K:Box a3 s.heap.size [U8 q.p.b0,U8 q.p.b1,U8 q.p.b2,U8 q.p.b3,U8 q.p.b4,U8 q.p.b5,U8 q.p.b6,U8 q.p.b7,I6 q.r,Xh q.u,Xh q.d,I6 q.f,I6 q.x]:=by rw[<-h];exact Box.top _ _ _ rfl
   have a5:Box a3 (w.heap.size+1) [I6 x,I6 y,I6 (r:Int)]:=by rw[<-h];exact a4.alloc _
   rw[h];clear h H a9 ag ah ai aj ak al am an ao ap P Q R;have ay:=K.c 8 rfl;have aq:=K.c 11 rfl;have ar:=K.c 12 rfl;have C:=a5.c 0 rfl;have D:=a5.c 1 rfl
   by_cases k:q.r=0
   ·have S:(q.r == 0)=Xc:=by simp[k]
    have l:Xo (Z=7):=dD<|by rw[<-u.out,kE (.inl k)]
    clear k;go_wp2;go_ret;exact⟨Rr l.out,j⟩
   have S:(q.r == 0)=Xd:=by simp[k]
   by_cases p:q.f=x
   ·have T:(q.f != x)=Xd:=by simp[p]
    by_cases t:q.x=y
    ·have U:(q.x != y)=Xd:=by simp[t]
     have l:Xo (Z=0):=dD<|by rw[<-u.out,kF (by simp[k,p,t])]
     clear k p t;go_wp2;go_ret;exact⟨Rr l.out,j⟩
    have U:(q.x != y)=Xc:=by simp[t]
    have l:Xo (Z=7):=dD<|by rw[<-u.out,kE (.inr (.inr t))]
    clear k p t;go_wp2;go_ret;exact⟨Rr l.out,j⟩
   have T:(q.f != x)=Xc:=by simp[p]
   have l:Xo (Z=7):=dD<|by rw[<-u.out,kE (.inr (.inl p))]
   clear k p;go_wp2;go_ret;exact⟨Rr l.out,j⟩
theorem zeD (V:MaV) (m:Ma) (w) (b:zy w V m) (c:∀W,zc w W->Xp prog 71 #[Xi #[V.f.x,I6 m.hand]] W fun e w'=>e= Xl (I6 (Zt m.fs m.hand))/\zc W w'):
  Xp prog 40 #[Xi (mL V m).toArray] w fun e w'=>e= Xl (I6 (zw (Zq m)))/\zc w w':=by
 obtain⟨p,d,g,q,n,r,s,-⟩:=b.ns;have f:=dD c
 have i:Xo (∀W,zc w W->Xp prog 72 #[V.s.x] W fun e w'=>e= Xl (I6 (slW m.sl))/\zc W w'):=dD<|fun W a=>by
  have h:=(b.grew a).sl;(try simp only[Sli.x]at h⊢);rw[d]at h⊢;exact zdS _ _ m.sl W h
 have j:Xo (∀W,zc w W->Xp prog 73 #[Xi #[V.sb.x,V.sq.x]] W fun e w'=>e= Xl (I6 (zF m.sb.length m.sq))/\zc W w'):=dD<|fun W a=>by
  have h:=(b.grew a).sq;rw[<-g];exact zaH _ _ _ _ m.sq W h
 have k:Xo (∀W,zc w W->Xp prog 73 #[Xi #[V.db.x,V.dq.x]] W fun e w'=>e= Xl (I6 (zF m.db.length m.dq))/\zc W w'):=dD<|fun W a=>by
  have h:=(b.grew a).dq;rw[<-n];exact zaH _ _ _ _ m.dq W h
 have l:=dD<|fun W (a:zc w W)=>zcs _ m.fl m.cnt W (b.grew a).fl
 clear p d g q n r s b c;obtain⟨g,c⟩:=kB (w.alloc (Xk (mL V m).toArray 41));have b:=gA c
 have a:=xA c
 have d:=dD c;clear c;unfold Zq
 go_enter func40,ntmps40
 go_upto_region 1 with fail;rw[d.out];have p:=a.gw 0 rfl
 have q:=a.gw 1 rfl
 have r:=a.gw 2 rfl
 have s:=a.gw 3 rfl
 have t:=a.gw 4 rfl
 have u:=a.gw 5 rfl
 have y:=a.gw 6 rfl
 have z:=a.gw 7 rfl
 have A:=a.gw 8 rfl
 have n:Nonempty (ze g):=⟨⟨_,zc.refl _⟩⟩;refine ju [(2,⟨fun a=>a=I6 (Zt m.fs m.hand),fun a w'=>True⟩),(5,⟨fun a=>a=I6 (slW m.sl),fun a w'=>True⟩),(8,⟨fun a=>a=I6 (zF m.sb.length m.sq),fun a w'=>True⟩),(11,⟨fun a=>a=I6 (zF m.db.length m.dq),fun a w'=>True⟩),(14,⟨fun a=>a=I6 (stW m.fl m.cnt),fun a w'=>True⟩),(15,⟨fun a=>∃g,a= O (Xa ⟨g,0,Xb⟩) 5 5,fun a w'=>zl zkL w' a [Zt m.fs m.hand,slW m.sl,zF m.sb.length m.sq,zF m.db.length m.dq,stW m.fl m.cnt]⟩),(16,⟨fun a=>a=I6 (zw [Zt m.fs m.hand,slW m.sl,zF m.sb.length m.sq,zF m.db.length m.dq,stW m.fl m.cnt]),fun a w'=>True⟩)] z6 Kr ?hS ?hp ?_
 case hS=>
  intro x a;simp only[mC,nM,or_false]at a
  rcases a with rfl|rfl|rfl|rfl|rfl|rfl|rfl
  ·exact⟨_,rfl⟩
  ·exact⟨_,rfl⟩
  ·exact⟨_,rfl⟩
  ·exact⟨_,rfl⟩
  ·exact⟨_,rfl⟩
  ·exact⟨_,0,rfl⟩
  exact⟨_,rfl⟩
 case hp=>
  intro x a;simp only[mC,nM,or_false]at a
  rcases a with rfl|rfl|rfl|rfl|rfl|rfl|rfl
  ·exact fun _ _ _ _ h=>h
  ·exact fun _ _ _ _ h=>h
  ·exact fun _ _ _ _ h=>h
  ·exact fun _ _ _ _ h=>h
  ·exact fun _ _ _ _ h=>h
  ·exact fun _ _ _ c h=>zl.grew h c
  exact fun _ _ _ _ h=>h
 iterate 2 refine zg ?_
 refine zx rfl rfl (fun w' c g=>?_) (fun h d=>?_)
 ·refine zJ.call [Xi #[V.f.x,I6 m.hand]] rfl func71 rfl rfl rfl ?_;refine(f w' (b.trans c)).mono ?_;rintro e f ⟨rfl,a⟩;exact⟨_,rfl,a,rfl,trivial⟩
 subst d;refine Uq ?_;iterate 2 refine zg ?_
 refine zx rfl rfl (fun w' c g=>?_) (fun h d=>?_)
 ·refine zJ.call [V.s.x] rfl func72 rfl rfl rfl ?_;refine(i w' (b.trans c)).mono ?_;rintro e f ⟨rfl,a⟩;exact⟨_,rfl,a,rfl,trivial⟩
 subst d;refine Uq ?_;iterate 2 refine zg ?_
 refine zx rfl rfl (fun w' c g=>?_) (fun h d=>?_)
 ·refine zJ.call [Xi #[V.sb.x,V.sq.x]] rfl func73 rfl rfl rfl ?_;refine(j w' (b.trans c)).mono ?_;rintro e f ⟨rfl,a⟩;exact⟨_,rfl,a,rfl,trivial⟩
 subst d;refine Uq ?_;iterate 2 refine zg ?_
 refine zx rfl rfl (fun w' c g=>?_) (fun h d=>?_)
 ·refine zJ.call [Xi #[V.db.x,V.dq.x]] rfl func73 rfl rfl rfl ?_;refine(k w' (b.trans c)).mono ?_;rintro e f ⟨rfl,a⟩;exact⟨_,rfl,a,rfl,trivial⟩
 subst d;refine Uq ?_;iterate 2 refine zg ?_
 refine zx rfl rfl (fun w' c g=>?_) (fun h d=>?_)
 ·refine zJ.call [Xi #[V.fl.x,I6 m.cnt]] rfl func74 rfl rfl rfl ?_;refine(l w' (b.trans c)).mono ?_;rintro e f ⟨rfl,a⟩;exact⟨_,rfl,a,rfl,trivial⟩
 subst d;refine Uq ?_;refine zx rfl rfl (fun w' c g=>?_) (fun h d=>?_)
 ·have a:zl zkL (w'.alloc (Xk #[I6 (Zt m.fs m.hand),I6 (slW m.sl),I6 (zF m.sb.length m.sq),I6 (zF m.db.length m.dq),I6 (stW m.fl m.cnt)] 44)) (O (Xa ⟨w'.heap.size,0,Xb⟩) 5 5) [Zt m.fs m.hand,slW m.sl,zF m.sb.length m.sq,zF m.db.length m.dq,stW m.fl m.cnt]:=zbq zkL w' [Zt m.fs m.hand,slW m.sl,zF m.sb.length m.sq,zF m.db.length m.dq,stW m.fl m.cnt] _ rfl (show 5*8<=140737488355328 by decide)
  refine zJ.step (v:= O (Xa ⟨w'.heap.size,0,Xb⟩) 5 5) (w':=w'.alloc (Xk #[I6 (Zt m.fs m.hand),I6 (slW m.sl),I6 (zF m.sb.length m.sq),I6 (zF m.db.length m.dq),I6 (stW m.fl m.cnt)] 44)) (by simp only[execOp];go_simp) ⟨za _ _,⟨_,rfl⟩,a⟩
 obtain⟨a,rfl⟩:=d;refine Uq ?_;refine zx rfl rfl (fun w' c g=>?_) (fun h d=>?_)
 ·have c:zl zkL w' (O (Xa ⟨a,0,Xb⟩) 5 5) [Zt m.fs m.hand,slW m.sl,zF m.sb.length m.sq,zF m.db.length m.dq,stW m.fl m.cnt]:=g 15 Kr
  refine zJ.call [O (Xa ⟨a,0,Xb⟩) 5 5] rfl func63 rfl rfl rfl ?_;refine(zcR _ _ w' c).mono ?_;rintro e f ⟨rfl,rfl⟩;exact⟨_,rfl,zc.refl _,rfl,trivial⟩
 subst d;refine Uq ?_;refine zg ?_
 refine qd fun a a g=>?_
 have c:=dD (b.trans a);clear a g p q r s t u y z A n;go_wp2;go_ret;exact⟨rfl,c⟩
theorem zeI (a:Ar) (w):Xp prog 140 #[Xi #[I6 a.fr,I6 a.tz,Xh a.rd,Xh a.wr,Xh a.sh,I6 a.file,I6 a.base]] w fun e w'=>e= Xl (I6 (arW a))/\zc w w':=by
 obtain⟨fr,c,d,wr,f,file,base⟩:=a
 by_cases b:fr<0
 ·have b:arW ⟨fr,c,d,wr,f,file,base⟩=3:=by unfold arW;simp only;rw[kE Wm]
  rw[b]
  go_enter func140,ntmps140
  go_wp2;go_ret;exact⟨rfl,za _ _⟩
 by_cases g:c<=fr
 ·have b:arW ⟨fr,c,d,wr,f,file,base⟩=3:=by unfold arW;simp only;rw[kE Wm]
  rw[b]
  go_enter func140,ntmps140
  go_wp2;go_ret;exact⟨rfl,za _ _⟩
 by_cases g:64<c
 ·have b:arW ⟨fr,c,d,wr,f,file,base⟩=3:=by unfold arW;simp only;rw[kE Wm]
  rw[b]
  go_enter func140,ntmps140
  go_wp2;go_ret;exact⟨rfl,za _ _⟩
 by_cases g:file< -1
 ·have b:arW ⟨fr,c,d,wr,f,file,base⟩=3:=by unfold arW;simp only;rw[kE Wm]
  rw[b]
  go_enter func140,ntmps140
  go_wp2;go_ret;exact⟨rfl,za _ _⟩
 by_cases g:5<=file
 ·have b:arW ⟨fr,c,d,wr,f,file,base⟩=3:=by unfold arW;simp only;rw[kE Wm]
  rw[b]
  go_enter func140,ntmps140
  go_wp2;go_ret;exact⟨rfl,za _ _⟩
 by_cases g:base<0
 ·have b:arW ⟨fr,c,d,wr,f,file,base⟩=3:=by unfold arW;simp only;rw[kE Wm]
  rw[b]
  go_enter func140,ntmps140
  go_wp2;go_ret;exact⟨rfl,za _ _⟩
 have k:¬(fr<0\/c<=fr\/64<c\/file< -1\/5<=file\/base<0):=Wm
 by_cases h:file<0
 ·by_cases g:base=0
  ·cases f
   ·have b:arW ⟨fr,c,d,wr,Xd,file,base⟩=0:=by unfold arW;simp only;rw[kF k,kE h,kF (by simp[g])]
    rw[b];have i:(base != 0)=Xd:=by simp[g]
    have j:¬0<base:=Wm
    go_enter func140,ntmps140
    go_wp2;go_ret;exact⟨rfl,za _ _⟩
   have b:arW ⟨fr,c,d,wr,Xc,file,base⟩=7:=by unfold arW;simp only;rw[kF k,kE h,kE Sm]
   rw[b];have i:(base != 0)=Xd:=by simp[g]
   have j:¬0<base:=Wm
   go_enter func140,ntmps140
   go_wp2;go_ret;exact⟨rfl,za _ _⟩
  have b:arW ⟨fr,c,d,wr,f,file,base⟩=7:=by unfold arW;simp only;rw[kF k,kE h,kE (by simp[g])]
  rw[b];have i:(base != 0)=Xc:=by simp[g]
  have j:0<base:=Wm
  go_enter func140,ntmps140
  go_wp2;go_ret;exact⟨rfl,za _ _⟩
 by_cases g:12 -(c - fr)<base
 ·have b:arW ⟨fr,c,d,wr,f,file,base⟩=7:=by unfold arW;simp only;rw[kF k,kF h,kE g]
  rw[b]
  go_enter func140,ntmps140
  go_wp2;go_ret;exact⟨rfl,za _ _⟩
 have b:arW ⟨fr,c,d,wr,f,file,base⟩=0:=by unfold arW;simp only;rw[kF k,kF h,kF g]
 rw[b]
 go_enter func140,ntmps140
 go_wp2;go_ret;exact⟨rfl,za _ _⟩
theorem Jj (a:Ar) (w):Xp prog 67 #[Xi #[I6 a.fr,I6 a.tz,Xh a.rd,Xh a.wr,Xh a.sh,I6 a.file,I6 a.base]] w fun e w'=>e= Xl (I6 (arW a))/\zc w w':=by
 obtain⟨fr,c,f,wr,h,file,base⟩:=a
 by_cases b:fr<0
 ·have b:arW ⟨fr,c,f,wr,h,file,base⟩=3:=by unfold arW;simp only;rw[kE Wm]
  rw[b];clear b
  go_enter func67,ntmps67
  go_wp2;go_ret;exact⟨rfl,za _ _⟩
 by_cases d:64<c
 ·have b:arW ⟨fr,c,f,wr,h,file,base⟩=3:=by unfold arW;simp only;rw[kE Wm]
  rw[b];clear b
  go_enter func67,ntmps67
  go_wp2;go_ret;exact⟨rfl,za _ _⟩
 by_cases d:c<=fr
 ·have b:arW ⟨fr,c,f,wr,h,file,base⟩=3:=by unfold arW;simp only;rw[kE Wm]
  rw[b];clear b
  go_enter func67,ntmps67
  go_wp2;go_ret;exact⟨rfl,za _ _⟩
 by_cases d:file< -1
 ·have b:arW ⟨fr,c,f,wr,h,file,base⟩=3:=by unfold arW;simp only;rw[kE Wm]
  rw[b];clear b
  go_enter func67,ntmps67
  go_wp2;go_ret;exact⟨rfl,za _ _⟩
 by_cases d:4<file
 ·have b:arW ⟨fr,c,f,wr,h,file,base⟩=3:=by unfold arW;simp only;rw[kE Wm]
  rw[b];clear b
  go_enter func67,ntmps67
  go_wp2;go_ret;exact⟨rfl,za _ _⟩
 by_cases d:base<0
 ·have b:arW ⟨fr,c,f,wr,h,file,base⟩=3:=by unfold arW;simp only;rw[kE Wm]
  rw[b];clear b
  go_enter func67,ntmps67
  go_wp2;go_ret;exact⟨rfl,za _ _⟩
 have g:¬(fr<0\/c<=fr\/64<c\/file< -1\/5<=file\/base<0):=Wm
 by_cases k:file<0
 ·by_cases d:base=0
  ·cases h
   ·have b:arW ⟨fr,c,f,wr,Xd,file,base⟩=0:=by unfold arW;simp only;rw[kF g,kE k,kF (by simp[d])]
    rw[b];clear b;have i:(file == -1)=Xc:=by simp;omega
    have j:¬0<=file:=Wm
    have l:(base != 0)=Xd:=by simp[d]
    have m:¬0<base:=Wm
    clear d g
    go_enter func67,ntmps67
    go_wp2;go_ret;exact⟨rfl,za _ _⟩
   have b:arW ⟨fr,c,f,wr,Xc,file,base⟩=7:=by unfold arW;simp only;rw[kF g,kE k,kE Sm]
   rw[b];clear b;have i:(file == -1)=Xc:=by simp;omega
   have j:¬0<=file:=Wm
   have l:(base != 0)=Xd:=by simp[d]
   have m:¬0<base:=Wm
   clear d g
   go_enter func67,ntmps67
   go_wp2;go_ret;exact⟨rfl,za _ _⟩
  have b:arW ⟨fr,c,f,wr,h,file,base⟩=7:=by unfold arW;simp only;rw[kF g,kE k,kE (by simp[d])]
  rw[b];clear b;have i:(file == -1)=Xc:=by simp;omega
  have j:¬0<=file:=Wm
  have l:(base != 0)=Xc:=by simp[d]
  have m:0<base:=Wm
  clear d g
  go_enter func67,ntmps67
  go_wp2;go_ret;exact⟨rfl,za _ _⟩
 by_cases d:12 -(c - fr)<base
 ·have b:arW ⟨fr,c,f,wr,h,file,base⟩=7:=by unfold arW;simp only;rw[kF g,kF k,kE d]
  rw[b];clear b;have i:(file == -1)=Xd:=by simp;omega
  have j:0<=file:=Wm
  clear g
  go_enter func67,ntmps67
  go_wp2;go_ret;exact⟨rfl,za _ _⟩
 have b:arW ⟨fr,c,f,wr,h,file,base⟩=0:=by unfold arW;simp only;rw[kF g,kF k,kF d]
 rw[b];clear b;have i:(file == -1)=Xd:=by simp;omega
 have j:0<=file:=Wm
 clear g
 go_enter func67,ntmps67
 go_wp2;go_ret;exact⟨rfl,za _ _⟩
def Zw (a:Ar) (n:Int):Ar:={ a with fr:=n,base:=if 0<=a.file then a.base+(n - a.fr)else a.base }
theorem zkD (a:Ar) (n:Int) (w) (d:jQ a) (p:0<=n/\n<=64):Xp prog 162 #[Xi #[I6 a.fr,I6 a.tz,Xh a.rd,Xh a.wr,Xh a.sh,I6 a.file,I6 a.base],I6 n] w fun e w'=>e= Xl (arA (Zw a n))/\zc w w':=by
 have b:=dD d;unfold jQ at d;obtain⟨h,i,j,k,l,m,b,c⟩:=d;obtain⟨fr,g,d,wr,f,file,base⟩:=a;simp only at h i j k l m b c⊢;have h:base<=12:=by
  by_cases h:0<=file
  ·have:=c h;omega
  have:=b Wm;omega
 clear b c;obtain⟨b,b⟩:=p;obtain⟨A,b⟩:=kB ((w.alloc (Xk #[I6 fr,I6 g,Xh d,Xh wr,Xh f,I6 file,I6 base] 105)).alloc (Xk #[I6 0,I6 0,Xh Xd,Xh Xd,Xh Xd,I6 0,I6 0] 105));have j:=gD2 b
 have c:=x2a b
 have B:=x2b b
 have k:=dD b;clear b
 by_cases C:0<=file
 ·have r:Xo (Zw ⟨fr,g,d,wr,f,file,base⟩ n=⟨n,g,d,wr,f,file,base+(n - fr)⟩):=dD<|by unfold Zw;simp only;rw[kE C]
  go_enter func162,ntmps162
  go_upto_region 1 with fail;rw[k.out];have x:=c.c 0 rfl;have y:=c.c 5 rfl;have l:=c.c 6 rfl;have z:=c.f;go_upto_region 4 with fail;obtain⟨i,b⟩:=kB ((A.setCell ⟨w.heap.size,6,Xb⟩ (I6 (base+(n - fr)))).setCell ⟨w.heap.size,0,Xb⟩ (I6 n));have t:Xo (Box i w.heap.size [I6 n,I6 g,Xh d,Xh wr,Xh f,I6 file,I6 (base+(n - fr))]):=dD<|by rw[<-b];exact(c.set 6 _).set 0 _
  have u:Xo (Box i (w.heap.size+1) [I6 0,I6 0,Xh Xd,Xh Xd,Xh Xd,I6 0,I6 0]):=dD<|by rw[<-b];exact(B.other Sm _).other Sm _
  have h:Xo (zc w i):=dD<|by rw[<-b];exact zq (zq j Sm _) Sm _
  rw[b];clear b x y l z
  go_wp2_with (first | refine zK rfl 105 (.tmp 2) rfl w.heap.size rfl t underlying105 rfl zqA ?_ | refine zr rfl 105 (.tmp 4) (.tmp 18) rfl (w.heap.size+1) rfl _ rfl u rfl zqA (arE.one ⟨n,g,d,wr,f,file,base+(n - fr)⟩) ?_)
  intro s l m v;have q:Xo (zc w s):=zd h m Sm
  have p:=dD l;clear l m v;go_wp2;refine bodyPost_ret (zX rfl _ rfl p underlying105 rfl zqA) rfl ⟨Rr r.out,q⟩
 have r:Xo (Zw ⟨fr,g,d,wr,f,file,base⟩ n=⟨n,g,d,wr,f,file,base⟩):=dD<|by unfold Zw;simp only;rw[kF C]
 go_enter func162,ntmps162
 go_upto_region 1 with fail;rw[k.out];have x:=c.c 0 rfl;have y:=c.c 5 rfl;have z:=c.f;go_upto_region 4 with fail;obtain⟨i,b⟩:=kB (A.setCell ⟨w.heap.size,0,Xb⟩ (I6 n));have t:Xo (Box i w.heap.size [I6 n,I6 g,Xh d,Xh wr,Xh f,I6 file,I6 base]):=dD<|by rw[<-b];exact c.set 0 _
 have u:Xo (Box i (w.heap.size+1) [I6 0,I6 0,Xh Xd,Xh Xd,Xh Xd,I6 0,I6 0]):=dD<|by rw[<-b];exact B.other Sm _
 have h:Xo (zc w i):=dD<|by rw[<-b];exact zq j Sm _
 rw[b];clear b x y z
 go_wp2_with (first | refine zK rfl 105 (.tmp 2) rfl w.heap.size rfl t underlying105 rfl zqA ?_ | refine zr rfl 105 (.tmp 4) (.tmp 18) rfl (w.heap.size+1) rfl _ rfl u rfl zqA (arE.one ⟨n,g,d,wr,f,file,base⟩) ?_)
 intro s l m v;have q:Xo (zc w s):=zd h m Sm
 have p:=dD l;clear l m v;go_wp2;refine bodyPost_ret (zX rfl _ rfl p underlying105 rfl zqA) rfl ⟨Rr r.out,q⟩
def zoe (a b:Ar):Bool:=(a.fr == b.fr) &&(a.tz == b.tz) &&(a.rd == b.rd) &&(a.wr == b.wr) &&(a.sh == b.sh) &&(a.file == b.file) &&(a.base == b.base)
theorem zp8 (x0 y0:Int) (x1 y1:Int) (x2 y2:Bool) (x3 y3:Bool) (x4 y4:Bool) (x5 y5:Int) (x6 y6:Int) (w):(Op.equalIn 10000 105 (Xi #[I6 x0,I6 x1,Xh x2,Xh x3,Xh x4,I6 x5,I6 x6]) (Xi #[I6 y0,I6 y1,Xh y2,Xh y3,Xh y4,I6 y5,I6 y6])).run prog w= .ok (zoe ⟨x0,x1,x2,x3,x4,x5,x6⟩ ⟨y0,y1,y2,y3,y4,y5,y6⟩) w:=by
 have hf : (Tryz.prog.fieldsOf 105).toList.map (fun f => (f.name, f.type, f.offset)) = [("From", 3, 0), ("To", 3, 1), ("Read", 4, 2), ("Write", 4, 3), ("Shared", 4, 4), ("File", 3, 5), ("Base", 3, 6)] := by kernel_rfl
 rw[run_equalIn_struct w 9999 105 _ _ Kr Kr]
 obtain⟨f0,f1,f2,f3,f4,f5,f6,hfs⟩:∃f0 f1 f2 f3 f4 f5 f6,(Tryz.prog.fieldsOf 105).toList=[f0,f1,f2,f3,f4,f5,f6]:=by
  have hl:(Tryz.prog.fieldsOf 105).toList.length=7:=by have:=congrArg List.length hf;simpa using this
  match hq:(Tryz.prog.fieldsOf 105).toList,hl with
  | [f0,f1,f2,f3,f4,f5,f6],_=>exact⟨f0,f1,f2,f3,f4,f5,f6,rfl⟩
 rw[hfs]at hf⊢
 simp at hf
 obtain⟨⟨n0,t0,o0⟩,⟨n1,t1,o1⟩,⟨n2,t2,o2⟩,⟨n3,t3,o3⟩,⟨n4,t4,o4⟩,⟨n5,t5,o5⟩,⟨n6,t6,o6⟩⟩:=hf;have pI:∀(zs:Array Xq) (o:Nat) v,zs[o]? =Xa (I6 v)->(part 3 zs o).run prog w= .ok (I6 v) w:=fun zs o v hz=>run_part_plain w (by simp[Program.plainKey,underlying3]) hz
 have pB:∀(zs:Array Xq) (o:Nat) v,zs[o]? =Xa (Xh v)->(part 4 zs o).run prog w= .ok (Xh v) w:=fun zs o v hz=>run_part_plain w (by simp[Program.plainKey,underlying4]) hz
 simp only[Op.eqFields,n0,t0,o0,n1,t1,o1,n2,t2,o2,n3,t3,o3,n4,t4,o4,n5,t5,o5,n6,t6,o6]
 simp[pI,pB,run_equalIn_bool' w _ _ _ _ underlying4,run_equalIn_int w _ _ _ _ _ _ underlying3]
 unfold zoe;simp only
 by_cases e0:x0=y0
 case neg=>simp[e0]
 subst e0
 by_cases e1:x1=y1
 case neg=>simp[e1]
 subst e1
 by_cases e2:x2=y2
 case neg=>simp[e2]
 subst e2
 by_cases e3:x3=y3
 case neg=>simp[e3]
 subst e3
 by_cases e4:x4=y4
 case neg=>simp[e4]
 subst e4
 by_cases e5:x5=y5
 case neg=>simp[e5]
 subst e5
 by_cases e6:x6=y6
 case neg=>simp[e6]
 subst e6;simp
def zng (a b:On):Bool:=(a.is == b.is) &&(a.rd == b.rd) &&(a.wr == b.wr) &&(a.sh == b.sh) &&(a.file == b.file) &&(a.page == b.page)
theorem zpN (x0 y0:Bool) (x1 y1:Bool) (x2 y2:Bool) (x3 y3:Bool) (x4 y4:Int) (x5 y5:Int) (w):(Op.equalIn 10000 81 (Xi #[Xh x0,Xh x1,Xh x2,Xh x3,I6 x4,I6 x5]) (Xi #[Xh y0,Xh y1,Xh y2,Xh y3,I6 y4,I6 y5])).run prog w= .ok (zng ⟨x0,x1,x2,x3,x4,x5⟩ ⟨y0,y1,y2,y3,y4,y5⟩) w:=by
 have hf : (Tryz.prog.fieldsOf 81).toList.map (fun f => (f.name, f.type, f.offset)) = [("Some", 4, 0), ("Read", 4, 1), ("Write", 4, 2), ("Shared", 4, 3), ("File", 3, 4), ("Page", 3, 5)] := by kernel_rfl
 rw[run_equalIn_struct w 9999 81 _ _ Kr Kr]
 obtain⟨f0,f1,f2,f3,f4,f5,hfs⟩:∃f0 f1 f2 f3 f4 f5,(Tryz.prog.fieldsOf 81).toList=[f0,f1,f2,f3,f4,f5]:=by
  have hl:(Tryz.prog.fieldsOf 81).toList.length=6:=by have:=congrArg List.length hf;simpa using this
  match hq:(Tryz.prog.fieldsOf 81).toList,hl with
  | [f0,f1,f2,f3,f4,f5],_=>exact⟨f0,f1,f2,f3,f4,f5,rfl⟩
 rw[hfs]at hf⊢
 simp at hf
 obtain⟨⟨n0,t0,o0⟩,⟨n1,t1,o1⟩,⟨n2,t2,o2⟩,⟨n3,t3,o3⟩,⟨n4,t4,o4⟩,⟨n5,t5,o5⟩⟩:=hf;have pI:∀(zs:Array Xq) (o:Nat) v,zs[o]? =Xa (I6 v)->(part 3 zs o).run prog w= .ok (I6 v) w:=fun zs o v hz=>run_part_plain w (by simp[Program.plainKey,underlying3]) hz
 have pB:∀(zs:Array Xq) (o:Nat) v,zs[o]? =Xa (Xh v)->(part 4 zs o).run prog w= .ok (Xh v) w:=fun zs o v hz=>run_part_plain w (by simp[Program.plainKey,underlying4]) hz
 simp only[Op.eqFields,n0,t0,o0,n1,t1,o1,n2,t2,o2,n3,t3,o3,n4,t4,o4,n5,t5,o5]
 simp[pI,pB,run_equalIn_bool' w _ _ _ _ underlying4,run_equalIn_int w _ _ _ _ _ _ underlying3]
 unfold zng;simp only
 by_cases e0:x0=y0
 case neg=>simp[e0]
 subst e0
 by_cases e1:x1=y1
 case neg=>simp[e1]
 subst e1
 by_cases e2:x2=y2
 case neg=>simp[e2]
 subst e2
 by_cases e3:x3=y3
 case neg=>simp[e3]
 subst e3
 by_cases e4:x4=y4
 case neg=>simp[e4]
 subst e4
 by_cases e5:x5=y5
 case neg=>simp[e5]
 subst e5;simp
theorem zo3 {a b:Ar}:zoe a ⟨b.tz,a.tz,b.rd,b.wr,b.sh,b.file,(Zw b b.tz).base⟩=goB a b:=by
 unfold zoe goB Zw;simp only[beq_self_eq_true,Bool.and_true];have c:∀x y:Int,(x == y)=decide (x=y):=fun x y=>rfl
 simp only[c]
theorem zg3 (a:Ar) (n:Int):arA (Zw a n)= Xi #[I6 n,I6 a.tz,Xh a.rd,Xh a.wr,Xh a.sh,I6 a.file,I6 (Zw a n).base]:=rfl
theorem zj2 (a b:Ar) (w) (c:jQ b):Xp prog 141 #[Xi #[I6 a.fr,I6 a.tz,Xh a.rd,Xh a.wr,Xh a.sh,I6 a.file,I6 a.base],Xi #[I6 b.fr,I6 b.tz,Xh b.rd,Xh b.wr,Xh b.sh,I6 b.file,I6 b.base]] w fun e w'=>e= Xl (Xh (goB a b))/\zc w w':=by
 have d:∀W,Xp prog 162 #[Xi #[I6 b.fr,I6 b.tz,Xh b.rd,Xh b.wr,Xh b.sh,I6 b.file,I6 b.base],I6 b.tz] W fun e w'=>e= Xl (arA (Zw b b.tz))/\zc W w':=fun W=>zkD b b.tz W c (by have:=c;unfold jQ at this;omega)
 have f:=fun W=>zp8 a.fr b.tz a.tz a.tz a.rd b.rd a.wr b.wr a.sh b.sh a.file b.file a.base (Zw b b.tz).base W
 have g:=zo3 (a:=a) (b:=b);rw[show(⟨a.fr,a.tz,a.rd,a.wr,a.sh,a.file,a.base⟩:Ar)=a from rfl]at f
 rw[g]at f;rw[zg3]at d
 generalize(Zw b b.tz).base=nb at d f
 clear g c
 generalize goB a b=R at f⊢
 obtain⟨c,c⟩:=kB ((w.alloc (Xk #[I6 a.fr,I6 a.tz,Xh a.rd,Xh a.wr,Xh a.sh,I6 a.file,I6 a.base] 105)).alloc (Xk #[I6 b.fr,I6 b.tz,Xh b.rd,Xh b.wr,Xh b.sh,I6 b.file,I6 b.base] 105));have f:=gD2 c
 have j:=x2a c
 have h:=x2b c
 have g:=dD c;clear c
 go_enter func141,ntmps141
 go_upto_region 1 with fail;rw[g.out];have g:=h.c 1 rfl
 go_wp2_with (refine zK rfl 105 (.tmp 3) rfl (w.heap.size+1) rfl h underlying105 rfl zqA ?_)
 refine(d _).mono ?_;rintro e h ⟨rfl,c⟩;have i:=dD (f.trans c);have f:=dD (j.grew c);clear c d g;obtain⟨p,d⟩:=kA h.heap.size;have g:Xo (w.heap.size<p):=show _<_ by rw[<-d.out];exact f.lt
 go_upto_region 2 with fail;obtain⟨k,c⟩:=kB (h.alloc (Xk #[I6 b.tz,I6 b.tz,Xh b.rd,Xh b.wr,Xh b.sh,I6 b.file,I6 nb] 105));have j:=gT c i
 have h:=yA c f
 have f:=xP c d
 rw[c,d.out];clear c;have l:=h.c 1 rfl;have m:=f.c 1 rfl;have n:=f.f;go_upto_region 3 with fail;obtain⟨d,c⟩:=kB (k.setCell ⟨p,1,Xb⟩ (I6 a.tz));have i:Xo (zc w d):=dD<|by rw[<-c];exact zq j (by have:=g.out;simp;omega) _
 have j:Xo (Box d w.heap.size [I6 a.fr,I6 a.tz,Xh a.rd,Xh a.wr,Xh a.sh,I6 a.file,I6 a.base]):=dD<|by rw[<-c];exact h.other (by have:=g.out;simp;omega) _
 have g:Xo (Box d p [I6 b.tz,I6 a.tz,Xh b.rd,Xh b.wr,Xh b.sh,I6 b.file,I6 nb]):=dD<|by rw[<-c];exact f.set 1 _
 rw[c];clear c l m n
 go_wp2_with (first | refine zK rfl 105 (.tmp 5) rfl p rfl g underlying105 rfl zqA ?_ | refine zK rfl 105 (.tmp 2) rfl w.heap.size rfl j underlying105 rfl zqA ?_)
 go_ret;exact⟨rfl,i⟩
def inZ (a:Ar) (n:Int):Bool:=decide (a.fr<=n) && decide (n<a.tz)
theorem zoW (a) (n:Nat):inZ a (n:Int)=jX a n:=rfl
def zeA (l:List Ar) (n z:Int):Prop:=(∃(k:Nat) (a:Ar),z=k/\l[k]? =Xa a/\inZ a n=Xc)\/(z=-1/\∀a∈l,inZ a n=Xd)
theorem znX {k:Nat} (h:zeA l k z):decide (0<=z)=(zB l k).is:=by
 rcases h with⟨j,b,rfl,c,e⟩|⟨rfl,c⟩
 ·have:∀(m:List Ar),b∈m->(zB m k).is=Xc:=by
   intro m
   induction m with
   | nil=>intro a;cases a
   | cons f m g=>
    intro a
    by_cases d:jX f k=Xc
    ·rw[zB,kE d];rfl
    rw[zB,kF d]
    rcases mC.1 a with f|a
    ·rw[f,zoW]at e;exact absurd e d
    exact g a
  rw[this l (mG c)];simp
 rw[zaW (fun b a=>c b a)]
 rfl
theorem zl7 (a:Ar) (n:Int) (p:Nat) (w) (h:Box w p [I6 n]):
  Xp prog 118 #[Xi #[I6 a.fr,I6 a.tz,Xh a.rd,Xh a.wr,Xh a.sh,I6 a.file,I6 a.base],Xj (Xa ⟨p,0,Xb⟩)] w fun e w'=>e= Xl (Xh (inZ a n))/\zc w w':=by
 have H:Xo (inZ a n=(decide (a.fr<=n) && decide (n<a.tz))):=rfl;obtain⟨d,b⟩:=kB (w.alloc (Xk #[I6 a.fr,I6 a.tz,Xh a.rd,Xh a.wr,Xh a.sh,I6 a.file,I6 a.base] 105));have c:=gA b
 have f:=xA b
 have g:Xo (Box d p [I6 n]):=dD<|by rw[<-b];exact h.alloc _
 have d:=dD b;clear b h
 by_cases b:a.fr<=n
 ·by_cases b:n<a.tz
  ·go_enter func118,ntmps118
   go_upto_region 1 with fail;rw[d.out];have h:=f.c 0 rfl;have i:=f.c 1 rfl;have b:=g.c 0 rfl;go_wp2;go_ret;exact⟨by rw[H.out];simp[*],c⟩
  go_enter func118,ntmps118
  go_upto_region 1 with fail;rw[d.out];have h:=f.c 0 rfl;have i:=f.c 1 rfl;have b:=g.c 0 rfl;go_wp2;go_ret;exact⟨by rw[H.out];simp[*],c⟩
 go_enter func118,ntmps118
 go_upto_region 1 with fail;rw[d.out];have h:=f.c 0 rfl;have i:=f.c 1 rfl;have b:=g.c 0 rfl;go_wp2;go_ret;exact⟨by rw[H.out];simp;omega,c⟩
theorem zfc (v l) (m:Int) (p:Nat) (w) (d:Box w p [I6 m]) (c:zl arE w v l):
  Xp prog 117 #[v,.func (.func 118) #[] #[Xj (Xa ⟨p,0,Xb⟩)]] w fun e w'=>(∃z:Int,e= Xl (I6 z)/\zeA l m z)/\zc w w':=by
 have b:=c.short;obtain⟨a,a,rfl,a⟩:=c.ars;have k:=dD a;have h:=dD d;have f:=enters_of func118 Kr rfl
 clear a c d;obtain⟨n,x⟩:=kA l.length;rw[x.out]at b⊢;obtain⟨d,c⟩:∃d:Int->Prop,Xo (∀z,zeA l m z=d z):=⟨zeA l m,fun _=>rfl⟩
 simp only[c.out]
 go_enter func117,ntmps117
 go_wp2
 go_loopg [5,8] n (fun a _ f wr=>∃b:Nat,b<=n/\n - b<=a/\f=I6 b/\Xo (zc w wr)/\Xo (∀(j:Nat) (q:Ar),j<b->l[j]? =Xa q->inZ q m=Xd))
 exact⟨0,nZ _,Wm,rfl,zc.refl w,fun j q r=>absurd r (nL _)⟩
 obtain⟨b,a,a,rfl,i,A⟩:=hrel
 by_cases f:b<n
 ·have s:=kC f
  obtain⟨q,y⟩:∃q,Xo (l[b]? =Xa q):=⟨_,gE (Rx x.out f)⟩
  obtain⟨a,rfl,g⟩:=k.out b q y.out;obtain⟨z,B,C,D,E,F,G⟩:=g wr i.out;have a:=zl7 q m p wr (h.grew i);clear g
  cases h:inZ q m with
  | true=>
   rw[h]at a;have u:Xo (d (b:Int)):=dD<|by
    rw[<-c.out];exact .inl ⟨b,q,rfl,y,h⟩
   clear h;go_wp2_with fail;refine a.mono ?_;rintro e K ⟨rfl,k⟩;have t:=dD (i.trans k);clear k a z B C D E F G;go_wp2;go_ret;exact⟨⟨_,rfl,u⟩,t⟩
  | false=>
   rw[h]at a;have H:Xo (∀(j:Nat) (q:Ar),j<b+1->l[j]? =Xa q->inZ q m=Xd):=dD<|fun j q r g=>by
    by_cases e:j=b
    ·subst e;rw[y.out]at g;cases g;exact h
    exact A j q Wm g
   clear h;go_wp2_with fail;refine a.mono ?_;rintro e K ⟨rfl,k⟩;have t:=dD (i.trans k);clear k a z B C D E F G;go_wp2
   go_roundg (n -(b+1));exact⟨b+1,Wm,Wm,Gn,t,H⟩;omega
 have s:=kD f
 have:b=n:=Wm
 subst this;have u:Xo (d (-1:Int)):=dD<|by
  rw[<-c.out];refine .inr ⟨rfl,fun b a=>?_⟩
  obtain⟨j,r⟩:=Yb a;exact A j b (by rw[<-x.out];exact(gS.1 r).1) r
 go_wp2;go_ret;exact⟨⟨_,rfl,u⟩,i⟩
theorem znY (v l) (m:Int) (w) (b:zl arE w v l):
  Xp prog 80 #[v,I6 m] w fun e w'=>(∃z:Int,e= Xl (I6 z)/\zeA l m z)/\zc w w':=by
 have a:∀(c:Fn) (first a:Array Xq) (w:Xn),(Instr.makeFunc c first a).run prog w= .ok (.func c first a) w:=fun _ _ _ _=>rfl
 have a:Xp prog 117 #[v,.func (.func 118) #[] #[Xj (Xa ⟨w.heap.size,0,Xb⟩)]] (w.alloc (Xk #[I6 m] 3)) fun e w'=>(∃z:Int,e= Xl (I6 z)/\zeA l m z)/\zc (w.alloc (Xk #[I6 m] 3)) w':=zfc v l m _ _ (Box.top w _ _ rfl) (b.grew (za _ _))
 obtain⟨c,c,rfl,_⟩:=b.ars;clear b
 generalize l.length=n at a⊢
 go_enter func80,ntmps80
 go_wp2_with fail;refine a.mono ?_;rintro e f ⟨⟨z,rfl,c⟩,b⟩;have d:Xo (zc w f):=(za _ _).trans b;have f:=dD c;clear b a c;go_wp2;go_ret;exact⟨⟨_,rfl,f⟩,d⟩
def Qc (l:List Ar):Nat->Option Ar
 | 0=>Xb
 | k+1=>l[k]?
theorem zaI (p:Option Ar) (a:Ar) (l) (i:Nat):zbl p (a :: l) i=if arW a≠0 then(arW a,(i:Int))else match p with | some b=>if a.fr<b.tz\/goB a b=Xc then(2,(i:Int))else zbl (Xa a) l (i+1) | none=>zbl (Xa a) l (i+1):=by
 cases p <;> rfl
theorem zkP {k:Nat} {q:Ar} {r:Int × Int} (h:zbl (Qc l k) (l.drop k) k=r) (a:l[k]? =Xa q) (b:arW q≠0):r=(arW q,(k:Int)):=by
 rw[qS a,zaI,kE b]at h;exact h.symm
theorem zfC {q:Ar} {r:Int × Int} (h:zbl (Qc l 0) (l.drop 0) 0=r) (a:l[0]? =Xa q) (b:arW q=0):zbl (Qc l 1) (l.drop 1) 1=r:=by
 rw[qS a,zaI,kF (fun h=>h b)]at h
 simp only[Qc]at h⊢;rw[a];exact h
theorem zce {b q:Ar} {r:Int × Int} (h:zbl (Qc l (j+1)) (l.drop (j+1)) (j+1)=r) (a:l[j]? =Xa b) (d:l[j+1]? =Xa q) (e:arW q=0) (c:q.fr<b.tz\/goB q b=Xc):r=(2,((j+1:Nat):Int)):=by
 rw[qS d,zaI,kF (fun h=>h e)]at h
 simp only[Qc,a]at h;rw[kE c]at h;exact h.symm
theorem zir {b q:Ar} {r:Int × Int} (h:zbl (Qc l (j+1)) (l.drop (j+1)) (j+1)=r) (a:l[j]? =Xa b) (d:l[j+1]? =Xa q) (f:arW q=0) (e:¬q.fr<b.tz) (c:goB q b=Xd):zbl (Qc l (j+1+1)) (l.drop (j+1+1)) (j+1+1)=r:=by
 rw[qS d,zaI,kF (fun h=>h f)]at h
 simp only[Qc,a]at h;rw[kF (by rintro(a | a);exact e a;rw[c]at a;cases a)]at h
 simp only[Qc,d];exact h
theorem zkO {r:Int × Int} (h:zbl (Qc l l.length) (l.drop l.length) l.length=r):r=(0,0):=by
 rw[List.drop_length,zbl]at h;exact h.symm
theorem zfG (h:¬16<l.length):zbl (Qc l 0) (l.drop 0) 0=wrL l:=by
 unfold wrL;rw[kF h];rfl
theorem zhf (v l w) (a5:zl arE w v l):
  Xp prog 111 #[v] w fun e w'=>e= Xl (Xi #[I6 (wrL l).1,I6 (wrL l).2])/\zc w w':=by
 have a3:=a5.short;obtain⟨cd,ce,rfl,C⟩:=a5.ars;have Z:=dD C;have aw:Xo (∀(q:Ar) W,Xp prog 140 #[Xi #[I6 q.fr,I6 q.tz,Xh q.rd,Xh q.wr,Xh q.sh,I6 q.file,I6 q.base]] W fun e w'=>e= Xl (I6 (arW q))/\zc W w'):=fun q W=>zeI q W
 have aq:Xo (∀(q b:Ar) W,jQ b->Xp prog 141 #[Xi #[I6 q.fr,I6 q.tz,Xh q.rd,Xh q.wr,Xh q.sh,I6 q.file,I6 q.base],Xi #[I6 b.fr,I6 b.tz,Xh b.rd,Xh b.wr,Xh b.sh,I6 b.file,I6 b.base]] W fun e w'=>e= Xl (Xh (goB q b))/\zc W w'):=fun q b W a2=>zj2 q b W a2
 clear C a5;have ak:Xo (¬16<l.length->zbl (Qc l 0) (l.drop 0) 0=wrL l):=zfG;have ah:Xo (16<l.length->wrL l=(4,0)):=fun a2=>by unfold wrL;rw[kE a2]
 have V:Xo (∀T,zbl (Qc l l.length) (l.drop l.length) l.length=T->T=(0,0)):=fun T=>zkO
 obtain⟨n,R⟩:=kA l.length;rw[R.out]at a3⊢;have A:Xo (¬16<n->zbl (Qc l 0) (l.drop 0) 0=wrL l):=dD<|Ry R.out ak.out
 have z:Xo (16<n->wrL l=(4,0)):=dD<|Ry R.out ah.out
 have F:Xo (∀T,zbl (Qc l n) (l.drop n) n=T->T=(0,0)):=dD<|Ry R.out V.out
 skip
 generalize c5:wrL l=D at A z⊢
 clear c5;obtain⟨al,s⟩:=kB (w.alloc (Xk #[I6 0,I6 0] 122));have X:=gA s
 have a1:=xA s
 have I:Xo (_=al):=s;clear s
 by_cases a:16<n
 ·have m:=dD<|z.out a;have ar:=kC a
  go_enter func111,ntmps111
  go_upto_region 1 with fail;rw[I.out];have a8:=a1.c 0 rfl;have a9:=a1.c 1 rfl;have aa:=a1.f;have p:Xo (Box ((al.setCell ⟨w.heap.size,0,Xb⟩ (I6 4)).setCell ⟨w.heap.size,1,Xb⟩ (I6 0)) w.heap.size [I6 4,I6 0]):=dD<|(a1.set 0 _).set 1 _
  have r:Xo (zc w ((al.setCell ⟨w.heap.size,0,Xb⟩ (I6 4)).setCell ⟨w.heap.size,1,Xb⟩ (I6 0))):=dD<|zq (zq X Sm _) Sm _
  go_wp2;refine bodyPost_ret (zX (vs:=[I6 4,I6 0]) rfl _ rfl p underlying122 rfl zqB) rfl ⟨?_,r⟩;rw[m.out]
 have ar:=kD a
 have bn:=dD<|A.out a
 go_enter func111,ntmps111
 go_upto_region 1 with fail;rw[I.out];go_wp2
 go_loopg [12] n (fun c4 be wr=>∃c:Nat,c<=n/\n - c<=c4/\be=I6 c/\Xo (zc w wr)/\Xo (Box wr w.heap.size [I6 0,I6 0])/\Xo (zbl (Qc l c) (l.drop c) c=D)/\Xo (∀(j:Nat) q,j<c->l[j]? =Xa q->jQ q))
 exact⟨0,nZ _,Wm,rfl,X,a1,bn,fun j q bi=>absurd bi (nL _)⟩
 obtain⟨c,c9,c6,rfl,af,Q,S,bf⟩:=hrel
 by_cases M:c<n
 ·have a4:=kC M
  obtain⟨q,H⟩:∃q,Xo (l[c]? =Xa q):=⟨_,gE (Rx R.out M)⟩
  obtain⟨d,rfl,f⟩:=Z.out c q H.out;obtain⟨bp,bq,br,bs,bt,bu,bv⟩:=f wr af.out;have bo:=dD Q.lt;obtain⟨ae,aj⟩:=kA wr.heap.size;have Y:Xo (w.heap.size<ae):=show _<_ by rw[<-aj.out];exact bo.out
  clear f;go_upto_region 6 with fail;obtain⟨cc,i⟩:=kB (wr.alloc (Xk #[I6 q.fr,I6 q.tz,Xh q.rd,Xh q.wr,Xh q.sh,I6 q.file,I6 q.base] 105));have bl:=gT i af
  have bk:=yA i Q
  have bg:=xP i aj
  rw[i,aj.out];clear i bp bq br bs bt bu bv
  go_wp2_with (refine zK rfl 105 (.tmp 4) rfl ae rfl bg underlying105 rfl zqA ?_)
  refine(aw.out q _).mono ?_;rintro e h ⟨rfl,ab⟩;have g:=dD (bl.trans ab);have E:=dD (bk.grew ab);have B:=dD (bg.grew ab);clear ab;have bj:ae≠w.heap.size:=Hm Y.out
  have av:w.heap.size≠ae:=Hm Y.out
  by_cases N:arW q=0
  ·have a7:=dD N;have bd:(arW q != 0)=Xd:=by simp[N]
   have ai:=dD<|ZG.1 N;have a0:Xo (∀(j:Nat) P,j<c+1->l[j]? =Xa P->jQ P):=show∀(j:Nat) P,_ from fun j P bi x=>by
    by_cases e:j=c
    ·subst e;rw[H.out]at x;cases x;exact ai.out
    exact bf j P Wm x
   clear N;go_upto_region 9 with fail
   generalize arW q=cg
   cases c with
   | zero=>
    have G:=dD<|zfC S H a7.out;have bb:¬(0:Int)< ((0:Nat):Int):=Dc
    have bc:decide ((0:Int)< ((0:Nat):Int))=Xd:=Dc
    go_quiet (fail);go_wp2
    go_roundg (n - 1);exact⟨1,Wm,Wm,Gn,g.trans (show Below _ _ _ from bD (bR _ _) _),E.grew (show Below _ _ _ from bD (bR _ _) _),G,a0⟩;omega
   | succ j=>
    obtain⟨b,U⟩:∃b,Xo (l[j]? =Xa b):=⟨_,gE (by rw[R.out];omega)⟩
    have ag:Xo (jQ b):=bf.out j b Wm U.out
    have bb:(0:Int)< ((j+1:Nat):Int):=Wm
    have bc:decide ((0:Int)< ((j+1:Nat):Int))=Xc:=Sm
    have c7:((j+1:Nat):Int) - 1=(j:Int):=Wm
    have c8:(j:Int)< (n:Int):=Wm
    obtain⟨am,an,f⟩:=Z.out j b U.out;obtain rfl:d=am:=by cases an;rfl
    by_cases ac:q.fr<b.tz
    ·have m:Xo (D=(2,((j+1:Nat):Int))):=zce S U H a7 (.inl ac);have ao:decide (q.fr<b.tz)=Xc:=Si ac
     obtain⟨bw,bx,bz,c0,c1,c2,c3⟩:=f h g.out;have ca:=B.c 0 rfl;clear f;go_quiet (fail);obtain⟨K,t⟩:=kB (h.drewN nq);have a6:Xo (zc w K):=dD<|by rw[<-t];exact g.trans (show Below _ _ _ from bD (bR _ _) _)
     have k:Xo (Box K w.heap.size [I6 0,I6 0]):=dD<|by rw[<-t];exact E.grew (show Below _ _ _ from bD (bR _ _) _)
     rw[t];clear t bw bx bz c0 c1 c2 c3 ca;have a8:=k.c 0 rfl;have a9:=k.c 1 rfl;have aa:=k.f;have p:Xo (Box ((K.setCell ⟨w.heap.size,0,Xb⟩ (I6 2)).setCell ⟨w.heap.size,1,Xb⟩ (I6 ((j+1:Nat):Int))) w.heap.size [I6 2,I6 ((j+1:Nat):Int)]):=dD<|(k.set 0 _).set 1 _
     have r:Xo (zc w ((K.setCell ⟨w.heap.size,0,Xb⟩ (I6 2)).setCell ⟨w.heap.size,1,Xb⟩ (I6 ((j+1:Nat):Int)))):=dD<|zq (zq a6 Sm _) Sm _
     go_wp2;refine bodyPost_ret (zX (vs:=[I6 2,I6 ((j+1:Nat):Int)]) rfl _ rfl p underlying122 rfl zqB) rfl ⟨?_,r⟩;rw[m.out]
    have ao:decide (q.fr<b.tz)=Xd:=Si ac
    have bm:=dD ac;have ax:=B.gw 0 rfl
    have ay:=B.gw 1 rfl
    have az:=B.gw 2 rfl
    have b0:=B.gw 3 rfl
    have b1:=B.gw 4 rfl
    have b2:=B.gw 5 rfl
    have b3:=B.gw 6 rfl
    have b4:∀y:ze h,y.world.cell? (d.add (j*7))=Xa (I6 b.fr):=fun y=>(f _ (g.trans y.grew)).1
    have b5:∀y:ze h,y.world.cell? { block:=(d.add (j*7)).block,off:=(d.add (j*7)).off+1 }=Xa (I6 b.tz):=fun y=>(f _ (g.trans y.grew)).2.1
    have b6:∀y:ze h,y.world.cell? { block:=(d.add (j*7)).block,off:=(d.add (j*7)).off+2 }=Xa (Xh b.rd):=fun y=>(f _ (g.trans y.grew)).2.2.1
    have b7:∀y:ze h,y.world.cell? { block:=(d.add (j*7)).block,off:=(d.add (j*7)).off+3 }=Xa (Xh b.wr):=fun y=>(f _ (g.trans y.grew)).2.2.2.1
    have b8:∀y:ze h,y.world.cell? { block:=(d.add (j*7)).block,off:=(d.add (j*7)).off+4 }=Xa (Xh b.sh):=fun y=>(f _ (g.trans y.grew)).2.2.2.2.1
    have b9:∀y:ze h,y.world.cell? { block:=(d.add (j*7)).block,off:=(d.add (j*7)).off+5 }=Xa (I6 b.file):=fun y=>(f _ (g.trans y.grew)).2.2.2.2.2.1
    have ba:∀y:ze h,y.world.cell? { block:=(d.add (j*7)).block,off:=(d.add (j*7)).off+6 }=Xa (I6 b.base):=fun y=>(f _ (g.trans y.grew)).2.2.2.2.2.2
    have au:Nonempty (ze h):=⟨⟨_,zc.refl _⟩⟩;clear f;refine ju [(19,⟨fun v=>v= Xh (goB q b),fun _ _=>True⟩)] z6 Kr ?_ ?_ ?_
    ·intro P x
     simp at x
     subst x;exact⟨_,rfl⟩
    ·intro P x
     simp at x
     subst x;exact fun _ _ _ _ a2=>a2
    iterate 19 refine zg ?_
    refine zx rfl rfl (fun w' c6 bh=>?_) (fun cf a5=>?_)
    ·refine zJ.call [Xi #[I6 q.fr,I6 q.tz,Xh q.rd,Xh q.wr,Xh q.sh,I6 q.file,I6 q.base],Xi #[I6 b.fr,I6 b.tz,Xh b.rd,Xh b.wr,Xh b.sh,I6 b.file,I6 b.base]] rfl func141 rfl rfl rfl ?_;refine(aq.out q b w' ag).mono ?_;rintro e cb ⟨rfl,ap⟩;exact⟨_,rfl,ap,rfl,trivial⟩
    subst a5;refine Uq ?_;iterate 2 refine zg ?_
    refine qd fun K L bh=>?_
    have a6:=dD (g.trans L);have k:=dD (E.grew L);clear L bh ax ay az b0 b1 b2 b3 b4 b5 b6 b7 b8 b9 ba au
    cases u:goB q b with
    | true=>
     have m:Xo (D=(2,((j+1:Nat):Int))):=zce S U H a7 (.inr u);clear u;have a8:=k.c 0 rfl;have a9:=k.c 1 rfl;have aa:=k.f;have p:Xo (Box ((K.setCell ⟨w.heap.size,0,Xb⟩ (I6 2)).setCell ⟨w.heap.size,1,Xb⟩ (I6 ((j+1:Nat):Int))) w.heap.size [I6 2,I6 ((j+1:Nat):Int)]):=show Box _ _ _ from(k.set 0 _).set 1 _
     have r:Xo (zc w ((K.setCell ⟨w.heap.size,0,Xb⟩ (I6 2)).setCell ⟨w.heap.size,1,Xb⟩ (I6 ((j+1:Nat):Int)))):=dD<|zq (zq a6 Sm _) Sm _
     go_wp2;refine bodyPost_ret (zX (vs:=[I6 2,I6 ((j+1:Nat):Int)]) rfl _ rfl p underlying122 rfl zqB) rfl ⟨?_,r⟩;rw[m.out]
    | false=>
     have G:=dD<|zir S U H a7 bm u;clear u;go_wp2
     go_roundg (n -(j+1+1));exact⟨j+1+1,Wm,Wm,Gn,a6,k,G,a0⟩;omega
  have m:=dD<|zkP S H N;have bd:(arW q != 0)=Xc:=by simp[N]
  clear N;have a8:=E.c 0 rfl;have a9:=E.c 1 rfl;have aa:=E.f;have p:Xo (Box ((h.setCell ⟨w.heap.size,0,Xb⟩ (I6 (arW q))).setCell ⟨w.heap.size,1,Xb⟩ (I6 (c:Int))) w.heap.size [I6 (arW q),I6 (c:Int)]):=dD<|(E.set 0 _).set 1 _
  have r:Xo (zc w ((h.setCell ⟨w.heap.size,0,Xb⟩ (I6 (arW q))).setCell ⟨w.heap.size,1,Xb⟩ (I6 (c:Int)))):=dD<|zq (zq g Sm _) Sm _
  go_wp2;refine bodyPost_ret (zX (vs:=[I6 (arW q),I6 (c:Int)]) rfl _ rfl p underlying122 rfl zqB) rfl ⟨?_,r⟩;rw[m.out]
 have a4:=kD M
 have:c=n:=Wm
 subst this;have m:=dD<|F.out _ S.out;have a8:=Q.c 0 rfl;have a9:=Q.c 1 rfl;have aa:=Q.f;have p:Xo (Box ((wr.setCell ⟨w.heap.size,0,Xb⟩ (I6 0)).setCell ⟨w.heap.size,1,Xb⟩ (I6 0)) w.heap.size [I6 0,I6 0]):=show Box _ _ _ from(Q.set 0 _).set 1 _
 have r:Xo (zc w ((wr.setCell ⟨w.heap.size,0,Xb⟩ (I6 0)).setCell ⟨w.heap.size,1,Xb⟩ (I6 0))):=dD<|zq (zq af Sm _) Sm _
 go_wp2;refine bodyPost_ret (zX (vs:=[I6 0,I6 0]) rfl _ rfl p underlying122 rfl zqB) rfl ⟨?_,r⟩;rw[m.out]
theorem zfk (e) (l:List En):esW (e :: l)=if enW e=0 then esW l else enW e:=rfl
theorem ziw (h:List En) (t:List (List En)):tbW (h :: t)=if haW h=0 then tbW t else haW h:=rfl
theorem zlM {h:List En} (a:h.length=8):haW h=if esW h=0 then(if Zn h=Xc then 0 else 2)else esW h:=by
 unfold haW;rw[kF Wm,kE a]
theorem zeE (v) (fs:List En) (w) (hv:zl enE w v fs):
  Xp prog 142 #[v] w fun e w'=>e= Xl (I6 (haW fs))/\zc w w':=by
 have hbig:=hv.short;have HV:=dD hv;obtain⟨a,c,rfl,hrow⟩:=hv.ens;have HR:=dD hrow;clear hrow hv;obtain⟨n,HN⟩:=kA fs.length;obtain⟨Z,HZ⟩:=kA (haW fs);rw[HN.out]at hbig HV⊢;rw[HZ.out]
 by_cases h0:n=0
 ·have HF:Xo (Z=0):=dD<|by rw[<-HZ.out];unfold haW;rw[kE (Rx HN.out h0)]
  subst h0
  go_enter func142,ntmps142
  go_wp2;go_ret;exact⟨Rr HF.out,zc.refl _⟩
 have h0b:((n:Int) == 0)=Xd:=Si h0
 by_cases h8:n=8
 ·have H8:=dD (HN.trans h8);have h8b:((n:Int) != 8)=Xd:=by simp[h8]
  clear h0 h8;have hcon:=fun W (hW:zc w W)=>Zv (O a n c) fs W (HV.grew hW)
  go_enter func142,ntmps142
  go_wp2
  go_loopg [14] n (fun gg s14 wr=>∃kk:Nat,kk<=n/\n - kk<=gg/\s14=I6 kk/\Xo (zc w wr)/\Xo (esW (fs.drop kk)=esW fs))
  exact⟨0,nZ _,Wm,rfl,zc.refl w,rfl⟩
  obtain⟨kk,hkk,hg,rfl,BW,AW⟩:=hrel
  by_cases hlt:kk<n
  ·have hltz:=kC hlt
   obtain⟨q,HQ⟩:∃q,Xo (fs[kk]? =Xa q):=⟨_,gE (Rx HN.out hlt)⟩
   obtain⟨ad,rfl,hl⟩:=HR.out kk q HQ.out;obtain⟨d0,d1,d2⟩:=hl wr BW.out;obtain⟨W2,hW2⟩:=kB (wr.alloc (Xk #[I6 q.kind,I6 q.n,Xh q.wr] 75));have GA:=gT hW2 BW
   have HW2:=dD hW2;have hcall:=zaf q.kind q.n q.wr W2;have HST:Xo (esW (fs.drop kk)=if enW ⟨q.kind,q.n,q.wr⟩=0 then esW (fs.drop (kk+1))else enW ⟨q.kind,q.n,q.wr⟩):=show _=_ by rw[qS HQ.out,zfk]
   clear hl hW2
   generalize enW ⟨q.kind,q.n,q.wr⟩=z at hcall HST
   by_cases hz:z=0
   ·have HA:Xo (esW (fs.drop (kk+1))=esW fs):=dD<|by rw[<-AW.out,HST.out,kE hz]
    subst hz;go_wp2_with fail;rw[HW2.out];refine hcall.mono ?_;rintro e W3 ⟨rfl,k1⟩;have G3:=dD (GA.trans k1);clear k1 hcall d0 d1 d2;go_wp2
    go_roundg (n -(kk+1));exact⟨kk+1,Wm,Wm,Gn,G3,HA⟩;omega
   have hzb:(z != 0)=Xc:=Si hz
   have HF:Xo (Z=z):=dD<|by
    have h1:=AW.out;rw[HST.out,kF hz]at h1;rw[<-HZ.out,zlM H8.out,<-h1,kF hz]
   go_wp2_with fail;rw[HW2.out];refine hcall.mono ?_;rintro e W3 ⟨rfl,k1⟩;have G3:=dD (GA.trans k1);clear k1 hcall d0 d1 d2;go_wp2;go_ret;exact⟨Rr HF.out,G3⟩
  have hltz:=kD hlt
  have:kk=n:=Wm
  subst this;have HE:Xo (esW fs=0):=dD<|by
   rw[<-AW.out,Xt (by rw[HN.out];exact nR _)]
   rfl
  have hcall:=hcon wr BW.out;have HST:Xo (Z=if Zn fs=Xc then 0 else 2):=dD<|by rw[<-HZ.out,zlM H8.out,HE.out,kE rfl]
  generalize Zn fs=A at hcall HST
  clear hcon
  cases A with
  | true=>
   go_wp2_with fail;refine hcall.mono ?_;rintro e W3 ⟨rfl,k1⟩;have G3:=dD (BW.trans k1);clear k1 hcall;go_wp2;go_ret;exact⟨Rr HST.out,G3⟩
  | false=>
   go_wp2_with fail;refine hcall.mono ?_;rintro e W3 ⟨rfl,k1⟩;have G3:=dD (BW.trans k1);clear k1 hcall;go_wp2;go_ret;exact⟨Rr HST.out,G3⟩
 have h8b:((n:Int) != 8)=Xc:=by simp;omega
 have HF:Xo (Z=2):=dD<|by rw[<-HZ.out];unfold haW;rw[kF (Rx HN.out h0),kF (Rx HN.out h8)]
 clear h0 h8
 go_enter func142,ntmps142
 go_wp2;go_ret;exact⟨Rr HF.out,zc.refl _⟩
theorem zcr (vs:List Xq) (t:List (List En)) (w) (a:Je w vs t):
  Xp prog 112 #[Xi vs.toArray] w fun e w'=>e= Xl (I6 (tbW t))/\zc w w':=by
 have p:=dD a;have d:=dD a.len;clear a;obtain⟨Z,n⟩:=kA (tbW t);rw[n.out];obtain⟨a,a⟩:=kB (w.alloc (Xk vs.toArray 72));have c:=gA a
 have f:=xA a
 have b:=dD a;clear a
 go_enter func112,ntmps112
 go_upto_region 1 with fail;rw[b.out]
 go_wp2_with (refine qt rfl (.tmp 1) rfl w.heap.size rfl f d.out ?_)
 go_loopg [7] 8 (fun a d wr=>∃b:Nat,b<=8/\8 - b<=a/\d=I6 b/\Xo (zc w wr)/\Xo (tbW (t.drop b)=tbW t))
 exact⟨0,nZ _,Wm,rfl,c,rfl⟩
 obtain⟨b,a,a,rfl,i,k⟩:=hrel
 by_cases f:b<8
 ·have g:(b:Int)<8:=Wm
  obtain⟨c,r,q,j,h,l⟩:=p.half f;have m:=dD j;have d:=dD h;have a:=zeE (O c q.length r) q wr (l.grew i);have c:Xo (tbW (t.drop b)=if haW q=0 then tbW (t.drop (b+1))else haW q):=show _=_ by rw[qS m.out,ziw]
  clear j h l
  generalize haW q=z at a c
  generalize q.length=nq at a d
  by_cases j:z=0
  ·have m:Xo (tbW (t.drop (b+1))=tbW t):=dD<|by rw[<-k.out,c.out,kE j]
   subst j
   go_wp2_with (refine zcx rfl (.tmp 6) (.tmp 7) rfl vs rfl b rfl f d.out ?_)
   refine a.mono ?_;rintro e r ⟨rfl,h⟩;have l:=dD (i.trans h);clear h a;go_wp2
   go_roundg (8 -(b+1));exact⟨b+1,Wm,Wm,Gn,l,m⟩;omega
  have m:(z != 0)=Xc:=Si j
  have m:Xo (Z=z):=dD<|by
   have q:=k.out;rw[c.out,kF j]at q;rw[<-n.out,<-q]
  skip
  go_wp2_with (refine zcx rfl (.tmp 6) (.tmp 7) rfl vs rfl b rfl f d.out ?_)
  refine a.mono ?_;rintro e r ⟨rfl,h⟩;have l:=dD (i.trans h);clear h a;go_wp2;go_ret;exact⟨Rr m.out,l⟩
 have g:¬(b:Int)<8:=Wm
 have:b=8:=Wm
 subst this;have m:Xo (Z=0):=dD<|by
  rw[<-n.out,<-k.out,Xt (by rw[p.tlen];exact nR _)]
  rfl
 go_wp2;go_ret;exact⟨Rr m.out,i⟩
def enV (e:En):Xq:= Xi #[Xe Xf e.kind,Xe Xf e.n,Xh e.wr]
theorem zd7 {n:Int} (a:0<=n) (b:n<64):∃i k:Nat,i<8/\k<8/\n=8*i+k/\n / 8=(i:Int)/\n % 8=(k:Int)/\n.tdiv 8=(i:Int)/\n.tmod 8=(k:Int)/\n.toNat / 8=i/\n.toNat % 8=k:=by
 refine⟨n.toNat / 8,n.toNat % 8,Wm,Wm,Wm,Wm,Wm,?_,?_,rfl,rfl⟩
 ·rw[Int.tdiv_eq_ediv_of_nonneg a];omega
 rw[Int.tmod_eq_emod_of_nonneg a];omega
theorem JQ (vs:List Xq) (t:List (List En)) (n:Int) (w) (a:Je w vs t):
  Xp prog 82 #[Xi vs.toArray,I6 n] w fun e w'=>e= Xl (enV (zeh t n))/\zc w w':=by
 have j:=dD a;have b:=dD a.len;clear a;obtain⟨Z,s⟩:=kA (zeh t n);rw[s.out];obtain⟨C,a⟩:=kB ((w.alloc (Xk vs.toArray 72)).alloc (Xk #[I6 0,I6 0,Xh Xd] 75));have b:=gD2 a
 have B:=x2a a
 have g:=x2b a
 have f:=dD a;clear a;have a:∀(W:Xn) (u c x:Xq),Box W (w.heap.size+1) [I6 0,I6 0,Xh Xd]->zc w W->zc w (((W.setCell ⟨w.heap.size+1,0,Xb⟩ u).setCell ⟨w.heap.size+1,1,Xb⟩ c).setCell ⟨w.heap.size+1,2,Xb⟩ x):=fun W u c x _ c=>
  Below.setCell (Below.setCell (Below.setCell c (p:=⟨w.heap.size+1,0,Xb⟩) Sm _) (p:=⟨w.heap.size+1,1,Xb⟩) Sm _) (p:=⟨w.heap.size+1,2,Xb⟩) Sm _
 have r:=dD a;clear a;obtain⟨a,a,a⟩:=g.c3;have a:=g.f
 by_cases q:0<=n/\n<64
 ·obtain⟨a,d⟩:=q;obtain⟨y,k,D,c,h,c,c,c,c,z,A⟩:=zd7 a d;have l:=fun W=>QP (m:=n) (n:=64) a d W
  obtain⟨c,c,i,u,c,x⟩:=j.half D;have j:Xo (Z=i[k]?.getD en0):=dD<|by
   rw[<-s.out];unfold zeh;rw[kE ⟨a,d⟩,z,A];unfold zaC;rw[u];rfl
  have D:=B.c y c;obtain⟨_,_,d,a⟩:=x.ens;cases d;have B:=dD a;have d:(y:Int)<8:=Wm
  clear a x u c z A h;obtain⟨nq,d⟩:=kA i.length;rw[d.out]at D
  by_cases h:k<nq
  ·obtain⟨e,a⟩:∃e,Xo (i[k]? =Xa e):=⟨_,gE (Rx d.out h)⟩
   obtain⟨c,rfl,u⟩:=B.out k e a.out;obtain⟨c,c,c⟩:=u C b.out;have c:Xo (Z=e):=dD<|by rw[j.out,a.out];rfl
   have i:¬(nq:Int)<=(k:Int):=Wm
   have a:decide ((nq:Int)<=(k:Int))=Xd:=decide_eq_false i;have a:=kC h
   clear u
   go_enter func82,ntmps82
   go_wp2_with fail;rw[f.out];refine(l _).mono ?_;rintro e w' ⟨rfl,a⟩;rw[a];clear a w';go_wp2;refine bodyPost_ret (v:= Xi #[I6 e.kind,I6 e.n,Xh e.wr]) (by simp[results,Tryz.results82,go_sem, *]) rfl ⟨?_,?_⟩
   ·rw[c.out];rfl
   exact r _ _ _ _ g b.out
  have c:Xo (Z=en0):=dD<|by rw[j.out,gN (by rw[d.out];omega)];rfl
  have i:(nq:Int)<=(k:Int):=Wm
  go_enter func82,ntmps82
  go_wp2_with fail;rw[f.out];refine(l _).mono ?_;rintro e w' ⟨rfl,a⟩;rw[a];clear a w';go_wp2;refine bodyPost_ret (v:= Xi #[I6 0,I6 0,Xh Xd]) (by simp[results,Tryz.results82,go_sem, *]) rfl ⟨?_,?_⟩
  ·rw[c.out];rfl
  exact r _ _ _ _ g b.out
 have l:=fun W=>zbj (m:=n) (n:=64) q W
 have j:Xo (Z=en0):=dD<|by rw[<-s.out];unfold zeh;rw[kF q]
 clear q
 go_enter func82,ntmps82
 go_wp2_with fail;rw[f.out];refine(l _).mono ?_;rintro e w' ⟨rfl,a⟩;rw[a];clear a w';go_wp2;refine bodyPost_ret (v:= Xi #[I6 0,I6 0,Xh Xd]) (by simp[results,Tryz.results82,go_sem, *]) rfl ⟨?_,?_⟩
 ·rw[j.out];rfl
 exact r _ _ _ _ g b.out
def zbO (_:En):Bool:=true
def zkK (k n:Int) (e:En):Bool:=(e.kind == k) &&(e.n == n)
theorem zjC (k n:Int) (b:Bool) (w):
  Xp prog 116 #[Xi #[I6 k,I6 n,Xh b]] w fun e w'=>e= Xl (Xh Xc)/\zc w w':=by
 go_enter func116,ntmps116
 go_wp2;go_ret;exact⟨rfl,za _ _⟩
theorem zl8 (a c:Int) (b:Bool) (k n:Int) (d f:Nat) (w) (g:Box w d [I6 k]) (h:Box w f [I6 n]):
  Xp prog 177 #[Xi #[I6 a,I6 c,Xh b],Xj (Xa ⟨d,0,Xb⟩),Xj (Xa ⟨f,0,Xb⟩)] w fun e w'=>e= Xl (Xh (zkK k n ⟨a,c,b⟩))/\zc w w':=by
 have H:Xo (zkK k n ⟨a,c,b⟩=((a == k) &&(c == n))):=rfl
 generalize zkK k n ⟨a,c,b⟩=F at H⊢
 have b:∀b:Obj,(w.alloc b).cell? ⟨d,0,Xb⟩=Xa (I6 k):=fun b=>(g.alloc b).c 0 rfl
 have d:∀b:Obj,(w.alloc b).cell? ⟨f,0,Xb⟩=Xa (I6 n):=fun b=>(h.alloc b).c 0 rfl
 clear g h
 by_cases d:a=k
 ·have b:(a == k)=Xc:=Si d
  have f:Xo (F=(c == n)):=dD<|by rw[H.out,b];rfl
  clear d
  go_enter func177,ntmps177
  go_wp2;go_ret;exact⟨Rr f.out,za _ _⟩
 have b:(a == k)=Xd:=Si d
 have f:Xo (F=Xd):=dD<|by rw[H.out,b];rfl
 clear d
 go_enter func177,ntmps177
 go_wp2;go_ret;exact⟨Rr f.out,za _ _⟩
theorem zeL (vs:List Xq) (t:List (List En)) (w:Xn) (a:Je w vs t):
  Xp prog 115 #[Xi vs.toArray,.func (.func 116) #[] #[]] w fun e w'=>∃v,e= Xl v/\zb blE w.heap.size w' v (jj t zbO 64)/\zc w w':=by
 have i:=dD a;have p:=dD a.len;clear a;obtain⟨l,a⟩:=kB (w.alloc (Xk vs.toArray 72));have h:=gA a
 have j:=xA a
 have f:=dD a;clear a;obtain⟨b,a⟩:=kA (jj t zbO);have c:Xo (b 0=[]):=show _=_ by rw[<-a.out];rfl
 have d:Xo (∀m:Nat,m<64->b (m+1)=if enS (zeh t (m:Int)) && zbO (zeh t (m:Int))then b m++ [(m:Int)]else b m):=dD<|fun m g=>by
  rw[<-a.out,JF];have:zeh t (m:Int)=zaC t (m / 8) (m % 8):=by unfold zeh;rw[kE Wm,tN]
  rw[this]
 have A:Xo (∀m,(b m).length<=m):=dD<|fun m=>by rw[<-a.out];exact zau _ _ _
 rw[a.out];have a:=enters_of func116 Kr rfl
 go_enter func115,ntmps115
 go_upto_region 1 with fail;rw[f.out];go_wp2
 go_loopg [5,8] 64 (fun f g k wr=>∃(a:Nat) (m:Option Addr) (q n:Nat),a<=64/\64 - a<=f/\k=I6 a/\g= O m q n/\Xo (zc l wr)/\Xo (zb blE l.heap.size wr (O m q n) (b a)))
 exact⟨0,Xb,0,0,nZ _,Wm,rfl,rfl,zc.refl _,by rw[c.out];exact zb.nil _ _ _⟩
 obtain⟨a,m,q,n,c,K,rfl,rfl,s,G⟩:=hrel
 by_cases g:a<64
 ·have r:(a:Int)<64:=Wm
  have c:=JQ vs t (a:Int) wr (i.grew (h.trans s));have u:=dD (j.grew s);have f:=d.out a g;obtain⟨x,d⟩:=kA (zeh t (a:Int));rw[d.out]at c f;have d:=dD f;obtain⟨j,k,i⟩:=x
  go_wp2_with (refine qt rfl (.tmp 2) rfl w.heap.size rfl u p.out ?_)
  refine c.mono ?_;rintro e p ⟨rfl,f⟩;have u:=dD (s.trans f);have x:=dD (G.grew f);clear f c;simp only[enV];go_upto_region 6 with fail;obtain⟨y,f⟩:=kB p.heap.size;obtain⟨g,c⟩:=kB (p.alloc (Xk #[I6 j,I6 k,Xh i] 75));have D:=gT c u
  have F:Xo (zb blE l.heap.size g (O m q n) (b a)):=dD<|by rw[<-c];exact x.grew (za _ _)
  have H:Xo (Box g y [I6 j,I6 k,Xh i]):=dD<|by rw[<-c];exact Box.top _ _ _ f.symm
  rw[c];rw[f];clear c f;obtain⟨u,x,y⟩:=H.c3;have c:=zbC j k i g
  cases p:enS ⟨j,k,i⟩with
  | false=>
   have f:Xo (b (a+1)=b a):=dD<|by rw[d.out,p];rfl
   rw[p]at c;clear p;go_wp2_with fail;refine c.mono ?_;rintro e C ⟨rfl,g⟩;have z:=dD (D.trans g);have B:Xo (zb blE l.heap.size C (O m q n) (b (a+1))):=show zb _ _ _ _ _ by rw[f.out];exact F.grew g
   clear g c u x y;go_wp2
   go_roundg (64 -(a+1));exact⟨a+1,m,q,n,Wm,Wm,Gn,rfl,z,B⟩;omega
  | true=>
   rw[p]at c;have f:Xo (b (a+1)=if zbO ⟨j,k,i⟩=Xc then b a++ [(a:Int)]else b a):=dD<|by rw[d.out,p];rfl
   clear p;go_wp2_with fail;refine c.mono ?_;rintro e C ⟨rfl,g⟩;have z:=dD (D.trans g);have B:=dD (F.grew g);have d:=dD (H.grew g);clear g c u x y;obtain⟨u,x,y⟩:=d.c3;have c:=zjC j k i C;rw[kE (show zbO ⟨j,k,i⟩=Xc from rfl)]at f
   go_wp2_with fail;refine c.mono ?_;rintro e d ⟨rfl,g⟩;have i:=dD (z.trans g);have j:=dD (B.grew g);clear g c u x y;have c:Xo (zl blE (d.alloc (Xk #[I6 (a:Int)] 3)) (O (Xa ⟨d.heap.size,0,Xb⟩) 1 1) [(a:Int)]):=qN blE d (a:Int) _ _ rfl Dc
   go_wp2_with (at_builtin;refine zn (E:=blE) rfl (.tmp 21) (.tmp 23) rfl l.heap.size _ (b a) rfl (j.grew (za _ _)) _ [(a:Int)] rfl c.out ?qb ?qc ?_)
   case qb=>
    have:=A.out a
    show(_+1)*8<=_
    omega
   case qc=>
    have:=bS i.out;simp;omega
   intro c k c d;obtain⟨m,n,rfl⟩:=c.form;have g:Xo (zb blE l.heap.size k (.slice m (b a++ [(a:Int)]).length n) (b (a+1))):=dD<|Rx f.out c
   have b:=dD<|zT (i.trans (za _ _)) d (fun f K=>(j.lt f K).1)
   clear c d;go_wp2
   go_roundg (64 -(a+1));exact⟨a+1,_,_,_,Wm,Wm,Gn,rfl,b,g⟩;omega
 have r:¬(a:Int)<64:=Wm
 have:a=64:=Wm
 subst this;have b:=dD<|G.base (bS h);have a:=dD (h.trans s);go_wp2;go_ret;exact⟨_,rfl,b,a⟩
theorem zfO (vs:List Xq) (t:List (List En)) (k n:Int) (H K:Nat) (w:Xn) (a:Je w vs t) (b:Box w H [I6 k]) (c:Box w K [I6 n]):
  Xp prog 115 #[Xi vs.toArray,.func (.func 177) #[] #[Xj (Xa ⟨H,0,Xb⟩),Xj (Xa ⟨K,0,Xb⟩)]] w fun e w'=>∃v,e= Xl v/\zb blE w.heap.size w' v (jj t (zkK k n) 64)/\zc w w':=by
 have q:=dD a;have s:=dD a.len;clear a;have R:=dD b;have D:=dD c;clear b c;obtain⟨p,a⟩:=kB (w.alloc (Xk vs.toArray 72));have f:=gA a
 have r:=xA a
 have d:=dD a;clear a;obtain⟨c,a⟩:=kA (jj t (zkK k n));have b:Xo (c 0=[]):=show _=_ by rw[<-a.out];rfl
 have g:Xo (∀m:Nat,m<64->c (m+1)=if enS (zeh t (m:Int)) &&(zkK k n) (zeh t (m:Int))then c m++ [(m:Int)]else c m):=dD<|fun m h=>by
  rw[<-a.out,JF];have:zeh t (m:Int)=zaC t (m / 8) (m % 8):=by unfold zeh;rw[kE Wm,tN]
  rw[this]
 have F:Xo (∀m,(c m).length<=m):=dD<|fun m=>by rw[<-a.out];exact zau _ _ _
 rw[a.out];have a:=enters_of func177 Kr rfl
 go_enter func115,ntmps115
 go_upto_region 1 with fail;rw[d.out];go_wp2
 go_loopg [5,8] 64 (fun d j m wr=>∃(a:Nat) (h:Option Addr) (l i:Nat),a<=64/\64 - a<=d/\m=I6 a/\j= O h l i/\Xo (zc p wr)/\Xo (zb blE p.heap.size wr (O h l i) (c a)))
 exact⟨0,Xb,0,0,nZ _,Wm,rfl,rfl,zc.refl _,by rw[b.out];exact zb.nil _ _ _⟩
 obtain⟨a,h,l,i,b,Q,rfl,rfl,B,N⟩:=hrel
 by_cases j:a<64
 ·have x:(a:Int)<64:=Wm
  have b:=JQ vs t (a:Int) wr (q.grew (f.trans B));have u:=dD (r.grew B);have d:=g.out a j;obtain⟨j,g⟩:=kA (zeh t (a:Int));rw[g.out]at b d;have g:=dD d;obtain⟨q,r,m⟩:=j
  go_wp2_with (refine qt rfl (.tmp 2) rfl w.heap.size rfl u s.out ?_)
  refine b.mono ?_;rintro e s ⟨rfl,d⟩;have u:=dD (B.trans d);have y:=dD (N.grew d);clear d b;simp only[enV];go_upto_region 6 with fail;obtain⟨z,d⟩:=kB s.heap.size;obtain⟨j,b⟩:=kB (s.alloc (Xk #[I6 q,I6 r,Xh m] 75));have L:=gT b u
  have M:Xo (zb blE p.heap.size j (O h l i) (c a)):=dD<|by rw[<-b];exact y.grew (za _ _)
  have P:Xo (Box j z [I6 q,I6 r,Xh m]):=dD<|by rw[<-b];exact Box.top _ _ _ d.symm
  rw[b];rw[d];clear b d;obtain⟨y,z,A⟩:=P.c3;have d:=zbC q r m j
  cases u:enS ⟨q,r,m⟩with
  | false=>
   have b:Xo (c (a+1)=c a):=dD<|by rw[g.out,u];rfl
   rw[u]at d;clear u;go_wp2_with fail;refine d.mono ?_;rintro e G ⟨rfl,j⟩;have s:=dD (L.trans j);have C:Xo (zb blE p.heap.size G (O h l i) (c (a+1))):=show zb _ _ _ _ _ by rw[b.out];exact M.grew j
   clear j d y z A;go_wp2
   go_roundg (64 -(a+1));exact⟨a+1,h,l,i,Wm,Wm,Gn,rfl,s,C⟩;omega
  | true=>
   rw[u]at d;have b:Xo (c (a+1)=if(zkK k n) ⟨q,r,m⟩=Xc then c a++ [(a:Int)]else c a):=dD<|by rw[g.out,u];rfl
   clear u;go_wp2_with fail;refine d.mono ?_;rintro e G ⟨rfl,j⟩;have s:=dD (L.trans j);have C:=dD (M.grew j);have g:=dD (P.grew j);clear j d y z A;obtain⟨y,z,A⟩:=g.c3;have d:=zl8 q r m k n H K G (R.grew (f.trans s)) (D.grew (f.trans s))
   generalize zkK k n ⟨q,r,m⟩=g at d b
   cases g with
   | true=>
    rw[kE rfl]at b;go_wp2_with fail;refine d.mono ?_;rintro e m ⟨rfl,g⟩;have r:=dD (s.trans g);have u:=dD (C.grew g);clear g d y z A;have j:Xo (zl blE (m.alloc (Xk #[I6 (a:Int)] 3)) (O (Xa ⟨m.heap.size,0,Xb⟩) 1 1) [(a:Int)]):=qN blE m (a:Int) _ _ rfl Dc
    go_wp2_with (at_builtin;refine zn (E:=blE) rfl (.tmp 21) (.tmp 23) rfl p.heap.size _ (c a) rfl (u.grew (za _ _)) _ [(a:Int)] rfl j.out ?qb ?qc ?_)
    case qb=>
     have:=F.out a
     show(_+1)*8<=_
     omega
    case qc=>
     have:=bS r.out;simp;omega
    intro j D j q;obtain⟨G,H,rfl⟩:=j.form;have F:Xo (zb blE p.heap.size D (.slice G (c a++ [(a:Int)]).length H) (c (a+1))):=dD<|Rx b.out j
    have D:=dD<|zT (r.trans (za _ _)) q (fun G Q=>(u.lt G Q).1)
    clear j q;go_wp2
    go_roundg (64 -(a+1));exact⟨a+1,_,_,_,Wm,Wm,Gn,rfl,D,F⟩;omega
   | false=>
    rw[kF Dc]at b
    go_wp2_with fail;refine d.mono ?_;rintro e m ⟨rfl,g⟩;have r:=dD (s.trans g);have u:Xo (zb blE p.heap.size m (O h l i) (c (a+1))):=show zb _ _ _ _ _ by rw[b.out];exact C.grew g
    clear g d y z A;go_wp2
    go_roundg (64 -(a+1));exact⟨a+1,h,l,i,Wm,Wm,Gn,rfl,r,u⟩;omega
 have x:¬(a:Int)<64:=Wm
 have:a=64:=Wm
 subst this;have b:=dD<|N.base (bS f);have a:=dD (f.trans B);go_wp2;go_ret;exact⟨_,rfl,b,a⟩
theorem zav (vs:List Xq) (t:List (List En)) (w:Xn) (f:Je w vs t):
  Xp prog 79 #[Xi vs.toArray] w fun e w'=>∃v,e= Xl v/\zb blE w.heap.size w' v (jj t zbO 64)/\zc w w':=by
 have g:=dD f.len;obtain⟨d,b⟩:=kB (w.alloc (Xk vs.toArray 72));have c:=gA b
 have h:=xA b
 have a:=zeL vs t d (f.grew c);have d:=dD b;clear b f
 generalize jj t zbO 64=b at a⊢
 go_enter func79,ntmps79
 go_upto_region 1 with fail;rw[d.out]
 go_wp2_with (refine qt rfl (.tmp 1) rfl w.heap.size rfl h g.out ?_)
 refine a.mono ?_;rintro e b ⟨v,rfl,d,b⟩;have g:=dD<|d.base (bS c);have f:=dD (c.trans b);clear d b a;go_wp2;go_ret;exact⟨v,rfl,g,f⟩
theorem zka (vs:List Xq) (t:List (List En)) (k n:Int) (w:Xn) (f:Je w vs t):
  Xp prog 165 #[Xi vs.toArray,I6 k,I6 n] w fun e w'=>∃v,e= Xl v/\zb blE w.heap.size w' v (jj t (zkK k n) 64)/\zc w w':=by
 have a:∀(b:Fn) (first a:Array Xq) (w:Xn),(Instr.makeFunc b first a).run prog w= .ok (.func b first a) w:=fun _ _ _ _=>rfl
 have h:=dD f.len;obtain⟨d,b⟩:=kB (((w.alloc (Xk vs.toArray 72)).alloc (Xk #[I6 k] 3)).alloc (Xk #[I6 n] 3));have c:Xo (zc w d):=show zc w d by rw[<-b];exact((za _ _).trans (za _ _)).trans (za _ _)
 have j:Xo (Box d w.heap.size vs):=dD<|by rw[<-b];exact((Box.top w _ _ rfl).alloc _).alloc _
 have g:Xo (Box d (w.heap.size+1) [I6 k]):=dD<|by rw[<-b];exact(Box.top _ _ _ Sm).alloc _
 have i:Xo (Box d (w.heap.size+2) [I6 n]):=dD<|by rw[<-b];exact Box.top _ _ _ Sm
 have a:=zfO vs t k n (w.heap.size+1) (w.heap.size+2) d (f.grew c) g i.out;have d:=dD b;clear b f
 generalize jj t (zkK k n) 64=b at a⊢
 go_enter func165,ntmps165
 go_upto_region 1 with fail;rw[d.out]
 go_wp2_with (refine qt rfl (.tmp 3) rfl w.heap.size rfl j h.out ?_)
 refine a.mono ?_;rintro e b ⟨v,rfl,d,b⟩;have g:=dD<|d.base (bS c);have f:=dD (c.trans b);clear d b a;go_wp2;go_ret;exact⟨v,rfl,g,f⟩
theorem zlf (a b:Int) (W):(Instr.field 122 (Xi #[I6 a,I6 b]) 0).run prog W= .ok (I6 a) W:=by
 kernel_rfl
theorem Q0 (s:Sp):jj s.tb zbO 64=(qU s).map fun(n:Nat)=>(n:Int):=by
 unfold jj qU zm zbO;simp
theorem zmZ {s:Sp} (c:s.tb.length=8):spE s=if zw [(wrL s.ars).1,tbW s.tb]=0 then(if s.live=Xd/\(0<s.ars.length\/0< (jj s.tb zbO 64).length)then 7 else 0)else zw [(wrL s.ars).1,tbW s.tb]:=by
 unfold spE;simp only[jE,zbI]
 by_cases a:(wrL s.ars).1=0
 ·by_cases b:tbW s.tb=0
  ·simp only[a,b,ne_eq,not_true,if_false,if_true];have d:(0< (jj s.tb zbO 64).length)↔¬s.tb.all (·.isEmpty)=Xc:=by
    rw[Q0,List.length_map,<-zf6 b c,Ys]
   have c:(0<s.ars.length)↔¬s.ars.isEmpty=Xc:=by
    rw[Ys];simp
   simp only[d,c]
   cases s.live <;> cases s.ars.isEmpty <;> cases s.tb.all (·.isEmpty) <;> simp
  simp[a,b]
 simp[a]
theorem zdC (x:SpV) (s w) (n:jO w x s):
  Xp prog 76 #[Xi #[Xh x.live,x.ar.x,x.t0.x,x.t1.x,x.t2.x,x.t3.x,x.t4.x,x.t5.x,x.t6.x,x.t7.x]] w fun e w'=>e= Xl (I6 (spE s))/\zc w w':=by
 have K:=dD<|fun W (B:zc w W)=>zhf _ s.ars W (n.grew B).ar
 have L:=dD<|fun W (B:zc w W)=>zcr x.tab s.tb W (n.grew B).tb
 have u:=dD<|fun W (B:zc w W)=>zav x.tab s.tb W (n.grew B).tb
 have b:=n.live;have aj:=n.ar.n;rw[zmZ n.tb.tlen,<-b,<-aj];clear n;obtain⟨r,y⟩:=kA (zw [(wrL s.ars).1,tbW s.tb]);obtain⟨H,A⟩:=kA (jj s.tb zbO 64);rw[y.out,A.out];rw[A.out]at u;clear b aj;obtain⟨ag,f⟩:=kB (w.alloc (Xk #[Xh x.live,x.ar.x,x.t0.x,x.t1.x,x.t2.x,x.t3.x,x.t4.x,x.t5.x,x.t6.x,x.t7.x] 79));have g:=gA f
 have d:=xA f
 have N:=dD f;clear f;obtain⟨Z,c⟩:=kA (if r=0 then(if x.live=Xd/\(0<x.ar.n\/0<H.length)then 7 else 0)else r);rw[c.out]
 go_enter func76,ntmps76
 go_upto_region 1 with fail;rw[N.out];have X:=d.gw 1 rfl
 have Y:=d.gw 2 rfl
 have I:=d.gw 3 rfl
 have a0:=d.gw 4 rfl
 have a1:=d.gw 5 rfl
 have a2:=d.gw 6 rfl
 have a3:=d.gw 7 rfl
 have a4:=d.gw 8 rfl
 have a5:=d.gw 9 rfl
 have V:Nonempty (ze ag):=⟨⟨_,zc.refl _⟩⟩;have U:=fun(ap:ze ag)=>zlf (wrL s.ars).1 (wrL s.ars).2 ap.world
 refine ju [(2,⟨fun a=>a= Xi #[I6 (wrL s.ars).1,I6 (wrL s.ars).2],fun a w'=>True⟩),(6,⟨fun a=>a=I6 (tbW s.tb),fun a w'=>True⟩),(7,⟨fun a=>∃am,a= O (Xa ⟨am,0,Xb⟩) 2 2,fun a w'=>zl zkL w' a [(wrL s.ars).1,tbW s.tb]⟩),(8,⟨fun a=>a=I6 (zw [(wrL s.ars).1,tbW s.tb]),fun a w'=>True⟩)] z6 Kr (Sd ⟨_,rfl⟩ ⟨_,rfl⟩ ⟨_,0,rfl⟩ ⟨_,rfl⟩) ?hp ?_
 case hp=>
  intro x E;simp only[mC,nM,or_false]at E
  rcases E with rfl|rfl|rfl|rfl
  ·exact fun _ _ _ _ h=>h
  ·exact fun _ _ _ _ h=>h
  ·exact fun _ _ _ k h=>zl.grew h k
  exact fun _ _ _ _ h=>h
 iterate 2 refine zg ?_
 refine zx rfl rfl (fun w' k q=>?_) (fun a6 p=>?_)
 ·refine zJ.call [x.ar.x] rfl func111 rfl rfl rfl ?_;refine(K w' (g.trans k)).mono ?_;rintro e G ⟨rfl,m⟩;exact⟨_,rfl,m,rfl,trivial⟩
 subst p;refine Uq ?_;iterate 3 refine zg ?_
 refine zx rfl rfl (fun w' k q=>?_) (fun a6 p=>?_)
 ·refine zJ.call [Xi #[x.t0.x,x.t1.x,x.t2.x,x.t3.x,x.t4.x,x.t5.x,x.t6.x,x.t7.x]] rfl func112 rfl rfl rfl ?_;refine(L w' (g.trans k)).mono ?_;rintro e G ⟨rfl,m⟩;exact⟨_,rfl,m,rfl,trivial⟩
 subst p;refine Uq ?_;refine zx rfl rfl (fun w' k q=>?_) (fun a6 p=>?_)
 ·have D:zl zkL (w'.alloc (Xk #[I6 ((wrL s.ars).1),I6 (tbW s.tb)] 44)) (O (Xa ⟨w'.heap.size,0,Xb⟩) 2 2) [(wrL s.ars).1,tbW s.tb]:=zbq zkL w' [(wrL s.ars).1,tbW s.tb] _ rfl (show 2*8<=140737488355328 by decide)
  refine zJ.step (v:= O (Xa ⟨w'.heap.size,0,Xb⟩) 2 2) (w':=w'.alloc (Xk #[I6 ((wrL s.ars).1),I6 (tbW s.tb)] 44)) (by simp only[execOp];go_simp) ⟨za _ _,⟨_,rfl⟩,D⟩
 obtain⟨ai,rfl⟩:=p;refine Uq ?_;refine zx rfl rfl (fun w' k q=>?_) (fun a6 p=>?_)
 ·have an:zl zkL w' (O (Xa ⟨ai,0,Xb⟩) 2 2) [(wrL s.ars).1,tbW s.tb]:=q 7 Kr
  refine zJ.call [O (Xa ⟨ai,0,Xb⟩) 2 2] rfl func63 rfl rfl rfl ?_;refine(zcR _ _ w' an).mono ?_;rintro e G ⟨rfl,rfl⟩;exact⟨_,rfl,zc.refl _,rfl,trivial⟩
 subst p;refine Uq ?_;refine zg ?_
 refine qd fun ak l q=>?_
 have t:=dD (g.trans l);have al:=dD (d.grew l);clear l q X Y I a0 a1 a2 a3 a4 a5 V U;rw[y.out]
 by_cases j:r=0
 ·have P:(r != 0)=Xd:=by simp[j]
  rw[kE j]at c;have aq:=dD j;clear j;obtain⟨a7,ao,a8,a9,aa,ab,ac,ad,ae,af⟩:=al.c10
  cases b:x.live with
  | true=>
   rw[b]at c a7;have i:Xo (Z=0):=dD<|by rw[<-c.out,kF Sm]
   clear a8 a9 aa ab ac ad ae af;go_wp2;go_ret;exact⟨Rr i.out,t⟩
  | false=>
   rw[b]at c a7
   by_cases Q:0<x.ar.n
   ·have R:(0:Int)< (x.ar.n:Int):=Wm
    have i:Xo (Z=7):=dD<|by rw[<-c.out,kE ⟨rfl,.inl Q⟩]
    clear a8 a9 aa ab ac ad ae af;go_wp2;go_ret;exact⟨Rr i.out,t⟩
   have R:¬(0:Int)< (x.ar.n:Int):=Wm
   have C:=u.out ak t.out;have M:=dD Q;clear Q;go_wp2_with fail;refine C.mono ?_;clear C a7 ao a8 a9 aa ab ac ad ae af;rintro e ar ⟨a,rfl,F,ah⟩;have z:=dD (t.trans ah);obtain⟨au,av,rfl⟩:=F.form;clear F ah
   by_cases S:0<H.length
   ·have T:(0:Int)< (H.length:Int):=Wm
    have i:Xo (Z=7):=dD<|by rw[<-c.out,kE (by first | exact⟨rfl,.inr S⟩ | exact⟨trivial,.inr S⟩)]
    go_wp2;go_ret;exact⟨Rr i.out,z⟩
   have T:¬(0:Int)< (H.length:Int):=Wm
   have i:Xo (Z=0):=dD<|by rw[<-c.out,kF (fun h=>h.2.elim M.out S)]
   go_wp2;go_ret;exact⟨Rr i.out,z⟩
 have P:(r != 0)=Xc:=by simp[j]
 rw[kF j]at c;clear j;go_wp2;go_ret;exact⟨by rw[<-c.out];rfl,t⟩
def zja (W:Xn) (y:Addr) (x:SpV):Prop:=W.cell? y=Xa (Xh x.live)/\W.cell? { block:=y.block,off:=y.off+1 }=Xa (O x.ar.a x.ar.n x.ar.c)/\W.cell? { block:=y.block,off:=y.off+2 }=Xa (O x.t0.a x.t0.n x.t0.c)/\W.cell? { block:=y.block,off:=y.off+3 }=Xa (O x.t1.a x.t1.n x.t1.c)/\W.cell? { block:=y.block,off:=y.off+4 }=Xa (O x.t2.a x.t2.n x.t2.c)/\W.cell? { block:=y.block,off:=y.off+5 }=Xa (O x.t3.a x.t3.n x.t3.c)/\W.cell? { block:=y.block,off:=y.off+6 }=Xa (O x.t4.a x.t4.n x.t4.c)/\W.cell? { block:=y.block,off:=y.off+7 }=Xa (O x.t5.a x.t5.n x.t5.c)/\W.cell? { block:=y.block,off:=y.off+8 }=Xa (O x.t6.a x.t6.n x.t6.c)/\W.cell? { block:=y.block,off:=y.off+9 }=Xa (O x.t7.a x.t7.n x.t7.c)
theorem jP.sp10 {y:Addr} {x:SpV} (h:jP W y (spv x)):zja W y x:=⟨h 0 _ rfl,h 1 _ rfl,h 2 _ rfl,h 3 _ rfl,h 4 _ rfl,h 5 _ rfl,h 6 _ rfl,h 7 _ rfl,h 8 _ rfl,h 9 _ rfl⟩
theorem zy.spaces {w:Xn} (h:zy w V m):∃a:List SpV,a.length=m.sp.length/\(∀(j:Nat) x,a[j]? =Xa x->∃ad,V.sp.a=Xa ad/\∀W,zc w W->zja W (ad.add (j*10)) x)/\∀(i:Nat) x s,a[i]? =Xa x->m.sp[i]? =Xa s->jO w x s:=by
 obtain⟨a,b,c,d⟩:=h.sp;refine⟨a,c,fun j x e=>?_,d⟩
 obtain⟨ad,a,c⟩:=b.rowsAt j x e;exact⟨ad,a,fun W a=>(c W a).sp10⟩
theorem zct (V m w) (N:zy w V m):
  Xp prog 42 #[Xi (mL V m).toArray] w fun e w'=>e= Xl (I6 (Zp m))/\zc w w':=by
 obtain⟨am,an,Y,I,U,W,X,T,⟨R,a,S⟩⟩:=V;dsimp only[mL];obtain⟨-,-,-,-,-,-,-,-,P⟩:=N.ns;dsimp only at P;obtain⟨ao,A,h,z⟩:=N.spaces;have G:=dD A;have a5:=dD h;have F:=dD z;have D:=dD P.symm;obtain⟨Z,a1⟩:=kA (Zp m);rw[a1.out];have r:Xo ((if 4<a then 4 else zw (m.sp.map spE))=Z):=show _=_ by rw[<-a1.out,<-D.out];rfl
 clear N A h z P;obtain⟨ap,f⟩:=kB (w.alloc (Xk #[am.x,I6 m.hand,an.x,Y.x,I.x,U.x,W.x,X.x,I6 m.cnt,T.x,O R a S] 41));have n:=gA f
 have a2:=xA f
 have q:=dD f;clear f
 by_cases u:4<a
 ·have M:=kC u
  have l:Xo (Z=4):=dD<|by rw[<-r.out,kE u]
  go_enter func42,ntmps42
  go_upto_region 1 with fail;rw[q.out];have B:=a2.c 10 rfl;go_wp2;go_ret;exact⟨Rr l.out,n⟩
 have M:=kD u
 have al:a<=4:=Wm
 have t:Xo (zw (m.sp.map spE)=Z):=dD<|by rw[<-r.out,kF u]
 clear u
 go_enter func42,ntmps42
 go_upto_region 1 with fail;rw[q.out];have B:=a2.c 10 rfl;go_wp2;clear B
 go_loopg [13] a (fun ai Q wr=>∃c:Nat,c<=a/\a - c<=ai/\Q=I6 c/\Xo (zc w wr)/\Xo (∀(j:Nat) s,j<c->m.sp[j]? =Xa s->spE s=0))
 exact⟨0,nZ _,Wm,rfl,n,fun j s a3=>absurd a3 (nL _)⟩
 obtain⟨c,ak,aj,rfl,C,H⟩:=hrel
 by_cases g:c<a
 ·have y:=kC g
  obtain⟨s,E⟩:∃s,Xo (m.sp[c]? =Xa s):=⟨_,gE (Rx D.out g)⟩
  obtain⟨x,a0⟩:∃x,Xo (ao[c]? =Xa x):=⟨_,gE (by rw[G.out,D.out];exact g)⟩
  obtain⟨ar,rfl,a4⟩:=a5.out c x a0.out;obtain⟨a6,a7,a8,a9,aa,ab,ac,ae,af,ag⟩:=a4 wr C.out;have b:=zdC x s _ ((F c x s a0 E).grew (C.trans (za wr (Xk #[Xh x.live,x.ar.x,x.t0.x,x.t1.x,x.t2.x,x.t3.x,x.t4.x,x.t5.x,x.t6.x,x.t7.x] 79))));clear a4;obtain⟨e,d⟩:=kA (spE s);rw[d.out]at b;go_upto_region 6 with fail;clear a6 a7 a8 a9 aa ab ac ae af ag;go_wp2_with fail;refine b.mono ?_;clear b;rintro au aq ⟨rfl,v⟩;have p:=dD ((C.trans (za _ _)).trans v);clear v
  by_cases i:e=0
  ·have L:(e != 0)=Xd:=by simp[i]
   have K:Xo (∀(j:Nat) s,j<c+1->m.sp[j]? =Xa s->spE s=0):=dD<|fun j s a3 k=>by
    by_cases ah:j=c
    ·subst ah;rw[E.out]at k;cases k;rw[d.out];exact i
    exact H j s Wm k
   clear i;go_wp2
   go_roundg (a -(c+1));exact⟨c+1,Wm,Wm,Gn,p,K⟩;omega
  have L:(e != 0)=Xc:=by simp[i]
  have l:Xo (Z=e):=dD<|by rw[<-t.out,zdf E H (Rx d.out i)];exact d.out
  clear i;go_wp2;go_ret;exact⟨Rr l.out,p⟩
 have y:=kD g
 have:c=a:=Wm
 subst this;have l:Xo (Z=0):=dD<|by rw[<-t.out];exact zel fun j s k=>H.out j s (by rw[<-D.out];exact(gS.1 k).1) k
 go_wp2;go_ret;exact⟨Rr l.out,C⟩
def zbu (l:List Ca) (k:Nat):Option Ca:=match k with | 0=>Xb | k+1=>l[k]?
theorem zpn {p:Option Ca} {c:Ca} (h:caE m Xb c≠0):caE m p c=caE m Xb c:=by
 unfold caE at h⊢
 by_cases a:c.file<0\/(m.fl.length:Int)<=c.file\/c.idx<0\/bkN m c.file<=c.idx\/c.fr<0\/(m.fs.length:Int)<=c.fr
 ·simp only[kE a]
 simp only[kF a]at h⊢
 by_cases a:(zU m c.fr).r=0\/(zU m c.fr).f≠c.file\/(zU m c.fr).x≠c.idx
 ·simp only[kE a]
 simp only[kF a]at h;exact absurd rfl h
theorem zgX {q c:Ca} (h:caE m Xb c=0):caE m (Xa q) c=if qj c<=qj q then 2 else 0:=by
 unfold caE at h⊢
 split at h
 ·cases h
 rename_i a
 rw[kF a]
 split at h
 ·cases h
 rename_i a
 rw[kF a]
theorem zi6 {l:List Ca} {k:Nat} {c:Ca} {Z:Int} (h:zbf m (zbu l k) (l.drop k)=Z) (a:l[k]? =Xa c) (b:caE m (zbu l k) c≠0):Z=caE m (zbu l k) c:=by
 rw[qS a]at h;unfold zbf at h;rw[kF b]at h;exact h.symm
theorem zgW {l:List Ca} {k:Nat} {c:Ca} {Z:Int} (h:zbf m (zbu l k) (l.drop k)=Z) (a:l[k]? =Xa c) (b:caE m (zbu l k) c=0):zbf m (zbu l (k+1)) (l.drop (k+1))=Z:=by
 rw[qS a]at h;unfold zbf at h;rw[kE b]at h
 show zbf m (l[k]?) _=Z
 rw[a];exact h
theorem zdG (V m w) (N:zy w V m) (b2:zjc m):
  Xp prog 43 #[Xi (mL V m).toArray] w fun e w'=>e= Xl (I6 (zdX m))/\zc w w':=by
 have D:=dD<|fun (c:Ca) az (bl:zc w az)=>zcu V m c az (N.grew bl)
 obtain⟨b7,b8,T,W,Q,R,S,⟨F,a,G⟩,U⟩:=V;dsimp only[mL]at D⊢;obtain⟨-,-,-,-,-,-,-,ar,-⟩:=N.ns;dsimp only at ar;have aw:=dD N.cas;have a6:=dD ar.symm;have b4:a<=9223372036854775807:=Hm N.ca.short
 have a5:=dD<|fun c br (ac:caE m br c=0)=>zpm b2.st ac
 obtain⟨Z,ax⟩:=kA (zdX m);rw[ax.out];have a9:=dD ax.out;clear N ar b2;obtain⟨c8,p⟩:=kB (w.alloc (Xk #[b7.x,I6 m.hand,b8.x,T.x,W.x,Q.x,R.x,S.x,I6 m.cnt,O F a G,U.x] 41));have a4:=gA p
 have b0:=xA p
 have a8:=dD p;clear p
 go_enter func43,ntmps43
 go_upto_region 1 with fail;rw[a8.out];have av:=b0.c 9 rfl;go_wp2;clear av
 go_loopg [9] a (fun bk bs wr=>∃d:Nat,d<=a/\a - d<=bk/\bs=I6 d/\Xo (zc w wr)/\Xo (Box wr w.heap.size [b7.x,I6 m.hand,b8.x,T.x,W.x,Q.x,R.x,S.x,I6 m.cnt,O F a G,U.x])/\Xo (zbf m (zbu m.ca d) (m.ca.drop d)=Z)/\Xo (∀(j:Nat) c,j<d->m.ca[j]? =Xa c->0<=c.idx/\c.idx<100))
 exact⟨0,nZ _,Wm,rfl,a4,b0,a9,fun j c b5=>absurd b5 (nL _)⟩
 obtain⟨d,bp,bm,rfl,I,bb,x,ay⟩:=hrel
 by_cases t:d<a
 ·have M:=kC t
  obtain⟨c,u⟩:∃c,Xo (m.ca[d]? =Xa c):=⟨_,gE (Rx a6.out t)⟩
  obtain⟨v,rfl,s⟩:=aw.out d c u.out;obtain⟨bg,bh,bi⟩:=s wr I.out;clear s;go_upto_region 4 with fail;obtain⟨b9,i⟩:=kB (wr.alloc (Xk #[I6 c.file,I6 c.idx,I6 c.fr] 93));have B:=gT i I
  have b1:=yA i bb
  have a0:=xA i
  rw[i];clear i bg bh bi;obtain⟨cc,a7⟩:=kA wr.heap.size;rw[a7.out]at a0⊢;have f:=D.out c b9 B.out;obtain⟨e,n⟩:=kA (caE m Xb c);rw[n.out]at f;obtain⟨bv,bw,bx,bz,c3,c4,c5,c6,c7,av,au⟩:=b1.c11;obtain⟨bd,be,bf⟩:=a0.c3;go_wp2_with fail;refine f.mono ?_;clear f bv bw bx bz c3 c4 c5 c6 c7 av au bd be bf;rintro ca Y ⟨rfl,q⟩;have g:=dD (B.trans q);have aa:=dD (b1.grew q);have a1:=dD (a0.grew q);clear q
  by_cases r:e=0
  ·have ae:(e != 0)=Xd:=by simp[r]
   have l:Xo (caE m Xb c=0):=dD<|Rx n.out r
   have A:=dD<|a5.out c Xb l.out;have E:Xo (∀(j:Nat) c,j<d+1->m.ca[j]? =Xa c->0<=c.idx/\c.idx<100):=show∀(j:Nat) c,_ from fun j bc b5 af=>by
    by_cases bj:j=d
    ·subst bj;rw[u.out]at af;cases af;exact A.out
    exact ay j bc Wm af
   clear r;go_upto_region 7 with fail
   cases d with
   | zero=>
    have a2:=dD<|zgW x u l.out;have ap:¬(0:Int)< ((0:Nat):Int):=Dc
    have aq:decide ((0:Int)< ((0:Nat):Int))=Xd:=Dc
    go_quiet (fail);go_wp2
    go_roundg (a - 1);exact⟨1,Wm,Wm,Gn,g.trans (show Below _ _ _ from bD (bR _ _) _),aa.grew (show Below _ _ _ from bD (bR _ _) _),a2,E⟩;omega
   | succ j=>
    obtain⟨b,X⟩:∃b,Xo (m.ca[j]? =Xa b):=⟨_,gE (by rw[a6.out];omega)⟩
    have a3:Xo (0<=b.idx/\b.idx<100):=ay.out j b Wm X.out
    have ap:(0:Int)< ((j+1:Nat):Int):=Wm
    have aq:decide ((0:Int)< ((j+1:Nat):Int))=Xc:=Sm
    have bn:((j+1:Nat):Int) - 1=(j:Int):=Wm
    have bo:(j:Int)< (a:Int):=Wm
    obtain⟨ab,L,s⟩:=aw.out j b X.out;obtain rfl:v=ab:=by cases L;rfl
    have al:=aa.gw 9 rfl
    have ag:=a1.gw 0 rfl
    have ah:=a1.gw 1 rfl
    have ai:=a1.gw 2 rfl
    have am:∀y:ze Y,y.world.cell? (v.add (j*3))=Xa (I6 b.file):=fun y=>(s _ (g.trans y.grew)).1
    have an:∀y:ze Y,y.world.cell? { block:=(v.add (j*3)).block,off:=(v.add (j*3)).off+1 }=Xa (I6 b.idx):=fun y=>(s _ (g.trans y.grew)).2.1
    have ao:∀y:ze Y,y.world.cell? { block:=(v.add (j*3)).block,off:=(v.add (j*3)).off+2 }=Xa (I6 b.fr):=fun y=>(s _ (g.trans y.grew)).2.2
    have aj:Nonempty (ze Y):=⟨⟨_,zc.refl _⟩⟩;clear s L;have z:=dD<|zmE a3 A.out;refine ju [(10,⟨fun b6=>b6= Xh (QR b c),fun b6 w'=>True⟩)] z6 Kr (Sa ⟨_,rfl⟩) ?hp ?_
    case hp=>
     intro bu P;simp only[mC,nM,or_false]at P;subst P;exact fun _ _ _ _ ac=>ac
    iterate 10 refine zg ?_
    refine zx rfl rfl (fun w' cb b3=>?_) (fun cd bq=>?_)
    ·refine zJ.call [Xi #[I6 b.file,I6 b.idx,I6 b.fr],Xi #[I6 c.file,I6 c.idx,I6 c.fr]] rfl func78 rfl rfl rfl ?_;refine(zhM b c w').mono ?_;rintro e bt ⟨rfl,k⟩;exact⟨_,rfl,k,rfl,trivial⟩
    subst bq;refine Uq ?_;iterate 2 refine zg ?_
    refine qd fun c9 k b3=>?_
    have C:=dD (g.trans k);have ba:=dD (aa.grew k);clear k b3 al ag ah ai am an ao aj
    cases K:QR b c with
    | true=>
     have a2:Xo (zbf m (zbu m.ca (j+1+1)) (m.ca.drop (j+1+1))=Z):=zgW x u (by
      have ak:zbu m.ca (j+1)=Xa b:=X.out;rw[ak,zgX l.out,kF];have:=z.out;rw[K]at this
      simpa using this)
     go_wp2
     go_roundg (a -(j+1+1));exact⟨j+1+1,Wm,Wm,Gn,C,ba,a2,E⟩;omega
    | false=>
     have h:Xo (Z=2):=dD<|by
      have ak:zbu m.ca (j+1)=Xa b:=X.out;have H:caE m (zbu m.ca (j+1)) c=2:=by
       rw[ak,zgX l.out,kE];have:=z.out;rw[K]at this
       simpa using this
      rw[zi6 x u (by rw[H];decide),H]
     go_wp2;go_ret;exact⟨Rr h.out,C⟩
  have ae:(e != 0)=Xc:=by simp[r]
  have h:Xo (Z=e):=dD<|by
   have H:caE m (zbu m.ca d) c=e:=by rw[zpn (Rx n.out r),n.out]
   rw[zi6 x u (Rx H r),H]
  clear r;go_wp2;go_ret;exact⟨Rr h.out,g⟩
 have M:=kD t
 have:d=a:=Wm
 subst this;have h:Xo (Z=0):=dD<|by
  rw[<-x.out,Xt (by rw[a6.out];exact nR _)]
  cases zbu m.ca d <;> rfl
 go_wp2;go_ret;exact⟨Rr h.out,I⟩
structure Jv (lo hi:Nat) (w:Xn) (x:SpV) (s:Sp):Prop where
 live:x.live=s.live
 ar:zb arE lo w x.ar.v s.ars
 tb:jv lo w x.tab s.tb
 arh:∀g,x.ar.v.ownBlock=Xa g->g<hi
 tbh:∀(i:Nat) v,x.tab[i]? =Xa v->∀g,v.ownBlock=Xa g->g<hi
theorem Jv.grew {lo:Nat} {w:Xn} {x:SpV} {s:Sp} (h:Jv lo hi w x s) (k:zc w w'):Jv lo hi w' x s:=⟨h.live,h.ar.grew k,h.tb.grew k,h.arh,h.tbh⟩
theorem Jv.at {lo:Nat} {w:Xn} {x:SpV} {s:Sp} (h:Jv lo hi w x s):jO w x s:=⟨h.live,h.ar.at,h.ar.cap,h.tb.new.now⟩
theorem jv.grown {base:Nat} {w:Xn} {t:List (List En)} {g:Nat} (h:jv base w vs t) (b:w.grownBy w' (Xa g)) (c:∀(i:Nat) v,vs[i]? =Xa v->v.ownBlock≠Xa g):jv base w' vs t:=
 ⟨h.len,h.tlen,fun i v x a d=>(h.row i v x a d).grown b (fun b b e=>by cases e;exact c i v a b),h.two⟩
theorem Jv.beside {lo:Nat} {w:Xn} {x:SpV} {s:Sp} {g:Nat} {cs:Array Xq} (h:Jv lo hi w x s) (d:w.grownBy w' (Xa g)) (l:w.heap[g]? =Xa (Xk cs t (0,0))) (f:t≠arE.ty) (j:t≠enE.ty):Jv lo hi w' x s:=by
 have a:∀{b:Type} {E:Elt b} {c:Nat} {v:Xq} {e:List b},zb E c w v e->t≠E.ty->∀k,v.ownBlock=Xa k->Xa g≠Xa k:=fun m b k i e=>by
  cases e;obtain⟨c,c⟩:=m.obj i;rw[l]at c;cases c;exact b rfl
 refine⟨h.live,h.ar.grown d (a h.ar f),h.tb.grown d (fun i v b e=>?_),h.arh,h.tbh⟩
 obtain⟨y,c⟩:∃y,s.tb[i]? =Xa y:=⟨_,gE (by rw[h.tb.tlen,<-h.tb.len];exact(gS.1 b).1)⟩
 exact a (h.tb.row i v y b c) j g e rfl
def Jo (base:Nat) (w:Xn) (v:Xq) (ss:List Sp):Prop:=
 ∃(xs:List SpV) (B:Nat->Nat),zb ZC base w v xs/\xs.length=ss.length/\base<=B 0/\(∀i,B i<=B (i+1))/\∀(i:Nat) x s,xs[i]? =Xa x->ss[i]? =Xa s->Jv (B i) (B (i+1)) w x s
theorem Jo.grew {base:Nat} {w:Xn} {v:Xq} {a:List Sp} (h:Jo base w v a) (k:zc w w'):Jo base w' v a:=by
 obtain⟨f,B,a,b,c,d,e⟩:=h;exact⟨f,B,a.grew k,b,c,d,fun i x s b a=>(e i x s b a).grew k⟩
theorem Jo.base {base:Nat} {w:Xn} {v:Xq} {a:List Sp} (h:Jo base w v a) (e:base'<=base):Jo base' w v a:=by
 obtain⟨f,B,a,b,c,c,d⟩:=h;exact⟨f,B,a.base e,b,Wm,c,d⟩
structure zbP (base:Nat) (w:Xn) (kk:Nat) (xs ys:List SpV) (ss:List Sp) (B:Nat->Nat):Prop where
 len:ys.length=xs.length
 own:∀(i:Nat) y s,i<kk->ys[i]? =Xa y->ss[i]? =Xa s->Jv (B i) (B (i+1)) w y s
 rest:∀(i:Nat),kk<=i->ys[i]? =xs[i]?
 b0:base<=B 0
 mono:∀i,B i<=B (i+1)
 top:B kk<=w.heap.size
theorem zbP.grew {base:Nat} {w:Xn} {xs b:List SpV} {a:List Sp} {B:Nat->Nat} (h:zbP base w kk xs b a B) (k:zc w w'):zbP base w' kk xs b a B:=⟨h.len,fun i y s a c b=>(h.own i y s a c b).grew k,h.rest,h.b0,h.mono,nT h.top (bS k)⟩
theorem zeZ {B:Nat->Nat} (h:∀i,B i<=B (i+1)):∀{i j:Nat},i<=j->B i<=B j
 | i,0,a=>by rw[show i=0 from Wm];exact nR _
 | i,j+1,a=>by
  by_cases e:i=j+1
  ·subst e;exact nR _
  exact nT (zeZ h Wm) (h j)
theorem ZN:ZC.ty≠arE.ty/\ZC.ty≠enE.ty:=by decide
theorem zbP.step {base:Nat} {w:Xn} {xs c:List SpV} {a:List Sp} {B:Nat->Nat} {g:Nat} {cs:Array Xq} (h:zbP base w kk xs c a B) (f:w.grownBy w' (Xa g)) (k:w.heap[g]? =Xa (Xk cs ZC.ty (0,0))) (d:w'.heap.size=w.heap.size) {x:SpV} {s:Sp} (e:xs[kk]? =Xa x) (l:a[kk]? =Xa s)
  {y:SpV} (b:Jv (B kk) w.heap.size w' y s):zbP base w' (kk+1) xs (c.set kk y) a (fun i=>if i<=kk then B i else w.heap.size):=by
 have j:kk<c.length:=by rw[h.len];exact(gS.1 e).1
 refine⟨by simp[h.len],fun i z m e c a=>?_,fun i e=>?_,by simpa using h.b0,fun i=>?_,by rw[kF Wm,d];exact nR _⟩
 ·by_cases e:i=kk
  ·subst e;rw[sF j]at c;cases c;rw[l]at a;cases a;rw[kE (nR _),kF Wm]
   exact b
  rw[sN (fun h=>e h.symm)]at c
  have d:=(h.own i z m Wm c a).beside f k ZN.1 ZN.2
  have b:i<=kk:=Wm
  have a:i+1<=kk:=Wm
  simpa [b,a]using d
 ·rw[sN Wm]
  exact h.rest i Wm
 by_cases b:i+1<=kk
 ·rw[kE Wm,kE b]
  exact h.mono i
 rw[kF b]
 by_cases a:i<=kk
 ·rw[kE a];exact nT (zeZ h.mono a) h.top
 rw[kF a];exact nR _
theorem zbP.all {base:Nat} {w:Xn} {xs b:List SpV} {a:List Sp} {B:Nat->Nat} {v:Xq} (h:zbP base w xs.length xs b a B) (c:xs.length=a.length) (d:zb ZC base w v b):Jo base w v a:=
 ⟨b,B,d,h.len.trans c,h.b0,h.mono,fun i y s a b=>h.own i y s (by rw[<-h.len];exact(gS.1 a).1) a b⟩
theorem zmY {base:Nat} {w:Xn} {t:List (List En)} (h:jv base w us t):∃a t1 t2 b c d e f:Sli,us=[a.v,t1.v,t2.v,b.v,c.v,d.v,e.v,f.v]:=by
 obtain⟨u0,u1,u2,u3,u4,u5,u6,u7,rfl⟩:=zmi h.len;obtain⟨a,a,a,a,a,a,a,a,rfl⟩:=zmi h.tlen;obtain⟨a,j,rfl⟩:=(h.row 0 _ _ rfl rfl).form;obtain⟨b,k,rfl⟩:=(h.row 1 _ _ rfl rfl).form;obtain⟨c,l,rfl⟩:=(h.row 2 _ _ rfl rfl).form;obtain⟨d,m,rfl⟩:=(h.row 3 _ _ rfl rfl).form;obtain⟨e,n,rfl⟩:=(h.row 4 _ _ rfl rfl).form;obtain⟨f,p,rfl⟩:=(h.row 5 _ _ rfl rfl).form;obtain⟨g,q,rfl⟩:=(h.row 6 _ _ rfl rfl).form;obtain⟨i,r,rfl⟩:=(h.row 7 _ _ rfl rfl).form;exact⟨⟨a,_,j⟩,⟨b,_,k⟩,⟨c,_,l⟩,⟨d,_,m⟩,⟨e,_,n⟩,⟨f,_,p⟩,⟨g,_,q⟩,⟨i,_,r⟩,rfl⟩
theorem zeT (v m) (w:Xn) (ck:Jf w v m):
  Xp prog 90 #[v] w fun e w'=>∃bs,e= Xl bs/\Jo w.heap.size w' bs m/\zc w w':=by
 obtain⟨C,ak,bp,bq⟩:=ck;have bl:=dD ak;have bk:=dD bp;have b6:=dD bq;have a2:=ak.short;obtain⟨cx,cy,rfl,_⟩:=ak.rows;clear ak bp bq;obtain⟨n,N⟩:=kA C.length;rw[N.out]at a2 bl⊢;have a5:=zh5 _ C w bl.out
 go_enter func90,ntmps90
 go_wp2_with fail;refine a5.mono ?_;clear a5;rintro e c3 ⟨da,rfl,t,bn⟩;obtain⟨bt,aw,rfl⟩:=t.form;rw[N.out]at t⊢;have c1:=dD t;have bi:=dD bn;clear t bn;go_wp2
 go_loopg [10] n (fun cg bd wr=>∃(a:Nat) (b:List SpV) (B:Nat->Nat),a<=n/\n - a<=cg/\bd=I6 a/\Xo (zc w wr)/\Xo (zb ZC w.heap.size wr (O bt n aw) b)/\Xo (zbP w.heap.size wr a C b m B))
 exact⟨0,C,fun _=>c3.heap.size,nZ _,Wm,rfl,bi,c1,⟨rfl,fun i y cz a8=>absurd a8 (nL _),fun i _=>rfl,bS bi,fun i=>nR _,nR _⟩⟩
 obtain⟨a,b,B,cj,ci,rfl,bh,P,u⟩:=hrel
 by_cases f:a<n
 ·have a9:=kC f
  obtain⟨x,G⟩:∃x,Xo (C[a]? =Xa x):=⟨_,gE (Rx N.out f)⟩
  obtain⟨s,Y⟩:∃s,Xo (m[a]? =Xa s):=⟨_,gE (by rw[<-bk.out,N.out];exact f)⟩
  have D:=dD<|b6.out a x s G Y.out;have bm:Xo (b[a]? =Xa x):=show _=_ by rw[u.rest a (nR _)];exact G.out
  have H:Xo (b.length=n):=dD<|by rw[u.len,N.out]
  obtain⟨g,cw,a7⟩:=P.formS (by rw[H.out];omega)
  rw[H.out]at a7;cases a7;have a4:zja wr ((Addr.mk g 0 Xb).add (a*10)) x:=(P.one bm).sp10;rw[Yd,zA]at a4;obtain⟨c6,c7,c8,c9,ca,cb,cc,cd,ce,cf⟩:=a4;have U:Xo (w.heap.size<=g):=dD<|(P.lt g rfl).1
  go_upto_region 5 with fail;clear c6 c7 c8 c9 ca cb cc cd ce cf;obtain⟨ai,c⟩:=kB (wr.alloc (Xk #[Xh x.live,x.ar.x,x.t0.x,x.t1.x,x.t2.x,x.t3.x,x.t4.x,x.t5.x,x.t6.x,x.t7.x] 79));have S:=gT c bh
  have bb:=xA c
  have b8:Xo (zb ZC w.heap.size ai (O (Xa ⟨g,0,Xb⟩) n aw) b):=dD<|by rw[<-c];exact P.grew (za _ _)
  have bj:Xo (zbP w.heap.size ai a C b m B):=dD<|by rw[<-c];exact u.grew (za _ _)
  have V:=dD<|(P.lt g rfl).2
  rw[c];clear c;obtain⟨cl,b3⟩:=kA wr.heap.size;rw[b3.out]at bb V⊢;have cm:=bb.c 1 rfl;have a3:=zh7 (x.ar.x) s.ars ai (D.ar.grew S);go_wp2_with fail;refine a3.mono ?_;clear a3 cm;rintro e c4 ⟨db,rfl,h,Q⟩;have c0:=dD h.cap;obtain⟨j,k,rfl⟩:=h.form;obtain⟨l,b4⟩:=kA s.ars.length;rw[b4.out]at h⊢;have bf:=dD h;have ay:=dD (S.trans Q);have c2:=dD (bb.grew Q);have K:=dD (b8.grew Q);have bv:=dD (bj.grew Q);have F:=dD bj.top;have W:=dD<|bS Q
  clear h Q
  go_wp2_with (refine zD (E:=ZC) rfl (.tmp 21) (.tmp 19) 77 rfl w.heap.size _ b K g a 1 rfl x { x with ar:=⟨j,l,k⟩ } bm.out [O j l k] ?s1 rfl ?s2 ?s3 ⟨g,a*10+1,Xb⟩ rfl rfl (O j l k) rfl rfl ?_)
  case s1=>kernel_rfl
  case s2=>show 1+1<=10;omega
  case s3=>simp;rfl
  intro p ac d af;have b1:Xo (∃a0,c4.heap[g]? =Xa (Xk a0 ZC.ty (0,0))):=K.obj rfl;have T:=dD<|zd ay d U.out
  have z:Xo (Box p cl [Xh x.live,x.ar.x,x.t0.x,x.t1.x,x.t2.x,x.t3.x,x.t4.x,x.t5.x,x.t6.x,x.t7.x]):=c2.grown d (Hm V.out)
  have b9:Xo (zb ZC w.heap.size p (O (Xa ⟨g,0,Xb⟩) n aw) (b.set a { x with ar:=⟨j,l,k⟩ })):=ac;have bu:Xo (zb arE ai.heap.size p (O j l k) s.ars):=bf.grown d (fun aj a1 e=>by
   cases e;exact K.apart bf ZN.1 g rfl a1)
  have bw:Xo (∀(i:Nat) y M,i<a->b[i]? =Xa y->m[i]? =Xa M->Jv (B i) (B (i+1)) p y M):=dD<|fun i y M a8 ab bc=>by
   obtain⟨a0,r⟩:=b1.out;exact(bv.own i y M a8 ab bc).beside d r ZN.1 ZN.2
  have X:=dD af;clear ac d af;have a6:=zf9 x.tab s.tb p (D.grew T).tb;have A:Xp prog 126 #[Xi #[x.t0.x,x.t1.x,x.t2.x,x.t3.x,x.t4.x,x.t5.x,x.t6.x,x.t7.x]] p fun e w'=>∃be,e= Xl (Xi be.toArray)/\jv (p.heap.size+2) w' be s.tb/\zc p w'/\p.heap.size+2<=w'.heap.size:=a6
  clear a6;have cn:=z.c 2 rfl;have co:=z.c 3 rfl;have cp:=z.c 4 rfl;have cq:=z.c 5 rfl;have cr:=z.c 6 rfl;have ct:=z.c 7 rfl;have cu:=z.c 8 rfl;have cv:=z.c 9 rfl;go_wp2_with fail;refine A.mono ?_;clear A cn co cp cq cr ct cu cv;rintro e I ⟨be,rfl,L,R,_⟩;obtain⟨al,am,an,ao,ap,aq,au,av,rfl⟩:=zmY L;have ah:=dD L;have az:=dD (T.trans R);have Z:=dD (b9.grew R);have bg:=dD (bu.grew R);have bx:=dD<|fun (i:Nat) y M (a8:i<a) (ab:b[i]? =Xa y) (bc:m[i]? =Xa M)=>(bw i y M a8 ab bc).grew R
  have b5:=dD<|bS R
  clear L R;have b7:Xo ((b.set a { x with ar:=⟨j,l,k⟩ })[a]? =Xa { x with ar:=⟨j,l,k⟩ }):=dD<|sF (Rx H.out f)
  go_wp2_with (refine zD (E:=ZC) rfl (.tmp 28) (.tmp 26) 72 rfl w.heap.size _ _ Z g a 2 rfl { x with ar:=⟨j,l,k⟩ } ⟨x.live,⟨j,l,k⟩,al,am,an,ao,ap,aq,au,av⟩ b7.out [al.v,am.v,an.v,ao.v,ap.v,aq.v,au.v,av.v] ?s1 rfl ?s2 ?s3 ⟨g,a*10+2,Xb⟩ rfl rfl _ rfl rfl ?_)
  case s1=>kernel_rfl
  case s2=>show 2+8<=10;omega
  case s3=>
   intro br aa;simp only[mC,nM,or_false]at aa
   rcases aa with rfl|rfl|rfl|rfl|rfl|rfl|rfl|rfl <;> rfl
  intro c5 ad q ag;have b2:Xo (∃a0,I.heap[g]? =Xa (Xk a0 ZC.ty (0,0))):=Z.obj rfl;have b0:=dD<|zd az q U.out
  have ba:=dD ad;have ax:Xo (zbP w.heap.size c5 (a+1) C (b.set a ⟨x.live,⟨j,l,k⟩,al,am,an,ao,ap,aq,au,av⟩) m (fun i=>if i<=a then B i else I.heap.size)):=show zbP _ _ _ _ _ _ _ by
   obtain⟨a0,r⟩:=b2.out;have ch:zbP w.heap.size I a C b m B:=⟨u.len,bx,u.rest,u.b0,u.mono,by have:=F.out;have:=W.out;have:=X.out;have:=b5.out;omega⟩
   refine ch.step q r ag G Y.out ?_;have ae:Jv (B a) I.heap.size I ⟨x.live,⟨j,l,k⟩,al,am,an,ao,ap,aq,au,av⟩ s:=⟨D.live,bg.base F,ah.base (by have:=F.out;have:=W.out;have:=X.out;omega),fun aj a1=>(bg.lt aj a1).2,fun i br aa aj a1=>by
    obtain⟨y,ab⟩:∃y,s.tb[i]? =Xa y:=⟨_,gE (by rw[ah.tlen,<-ah.len];exact(gS.1 aa).1)⟩
    exact((ah.row i br y aa ab).lt aj a1).2⟩
   exact ae.beside q r ZN.1 ZN.2
  clear ad q ag;go_wp2
  go_roundg (n -(a+1));exact⟨a+1,_,_,Wm,Wm,Gn,b0,ba,ax⟩;omega
 have a9:=kD f
 have:a=n:=Wm
 subst this;have bz:Xo (Jo w.heap.size wr (O bt a aw) m):=dD<|by
  have bo:=u.out;rw[<-N.out]at bo;exact bo.all bk P.out
 go_wp2;go_ret;exact⟨_,rfl,bz,bh⟩
theorem zdt (v fs) (w:Xn) (h:zl qA w v fs):
  Xp prog 122 #[v] w fun e w'=>∃g,e= Xl g/\zb qA w.heap.size w' g fs/\zc w w':=by
 have j:=dD h;obtain⟨⟨d,f,rfl,b,c⟩,a⟩:=h;have h:∀(w:Xn) (d:Option Addr) (n f i h:Nat),(binOp .eql 26 (O d n f) (O Xb i h)).run prog w= .ok (Xh d.isNone) w:=fun w d n f i h=>Lib.run_eql_slice_nil w _ _ d n f i h underlying26
 cases d with
 | none=>
  have d:=b rfl;subst d;clear c b a
  go_enter func122,ntmps122
  go_wp2;go_ret;exact⟨_,rfl,zb.nil qA _ _,zc.refl w⟩
 | some x=>
  have d:=dD a;clear c b a
  go_enter func122,ntmps122
  go_wp2_with (at_builtin;refine zn (E:=qA) rfl (.tmp 5) (.tmp 6) rfl w.heap.size _ [] rfl (zb.made qA w) _ fs rfl (j.grew (za _ _)) ?qb Sm ?_)
  case qb=>rw[Xy,zA];exact d.out
  intro g a b a;go_wp2;go_ret;exact⟨g,rfl,Si b,((bR _ w).alloc (nR _) _).grown a Sm (by intro k a;simp[Value.ownBlock]at a;omega)⟩
theorem J7 (a) (c:Nat) (fs:List Fr) (h:Int) (w:Xn) (i:zl qA w (O a fs.length c) fs):
  Xp prog 86 #[Xi #[O a fs.length c,I6 h]] w fun e w'=>∃b,e= Xl (Xi #[b,I6 h])/\zb qA w.heap.size w' b fs/\zc w w':=by
 have r:=dD i;clear i;obtain⟨n,d⟩:=kA fs.length;rw[d.out]at r⊢
 go_enter func86,ntmps86
 go_wp2;obtain⟨g,d⟩:=kB ((w.alloc (Xk #[O a n c,I6 h] 28)).alloc (Xk #[eS,I6 0] 28));have f:=gD2 d
 have l:Xo (g.heap.size=w.heap.size+2):=dD<|by rw[<-d];simp
 have j:=x2a d
 have s:=x2b d
 rw[d];clear d;have m:∀x:ze g,x.world.cell? ⟨w.heap.size,0,Xb⟩=Xa (O a n c):=fun x=>(j.grew x.grew).c 0 rfl
 have q:∀x:ze g,x.world.cell? ⟨w.heap.size,1,Xb⟩=Xa (I6 h):=fun x=>(j.grew x.grew).c 1 rfl
 have k:Nonempty (ze g):=⟨⟨_,zc.refl _⟩⟩;refine jb 6 [(2,⟨fun g=>∃a n c,g= O a n c,fun g w'=>zb qA (w.heap.size+2) w' g fs⟩)] z6 Kr rfl rfl Dc ?_ ?_ ?_
 ·intro x d
  simp at d
  subst d;exact⟨_,Xb,0,0,rfl⟩
 ·intro x d
  simp at d
  subst d;intro g d d d h;exact h.grew d
 simp only[Yq,Yr];iterate 2 refine zg ?_
 refine zx rfl rfl (fun w' d j=>?_) (fun g i=>?_)
 ·refine zJ.call [O a n c] rfl func122 rfl rfl rfl ?_;refine(zdt _ fs w' (r.grew (f.out.trans d))).mono ?_;rintro e g ⟨g,rfl,n,g⟩;obtain⟨r,r,rfl⟩:=n.form;exact⟨_,rfl,g,⟨_,_,_,rfl⟩,n.base (by have:=bS d;rw[l.out]at this;exact this)⟩
 obtain⟨l,r,n,rfl⟩:=i;refine Uq ?_;iterate 3 refine zg ?_
 refine qd fun w' d j=>?_
 have i:=dD<|j 2;have g:=s.grew d;have s:=g.c 0 rfl;have s:=g.c 1 rfl;have s:=g.f;have g:=dD (f.out.trans d);clear j m q d k;go_wp2;refine bodyPost_ret (v:= Xi #[O l r n,I6 h]) (by simp[results,Tryz.results86,go_sem, *]) rfl ⟨_,rfl,((i.out.setCell Sm _).setCell Sm _).base Wm,?_⟩
 exact Below.setCell (Below.setCell g (p:=⟨w.heap.size+1,0,Xb⟩) Sm _) (p:=⟨w.heap.size+1,1,Xb⟩) Sm _
def isZ (z:Int):Bool:=z == 0
def zoj (fs:List Int):Int:=if fs.findIdx isZ<fs.length then(fs.findIdx isZ:Int)else -1
theorem zjW (v fs w) (s:zl slE w v fs):
  Xp prog 146 #[v,I6 0] w fun e w'=>e= Xl (I6 (zoj fs))/\zc w w':=by
 have g:=s.short;obtain⟨E,G,rfl,c⟩:=s.sls;have y:=dD c;clear c s;obtain⟨n,m⟩:=kA fs.length;rw[m.out]at g⊢
 go_enter func146,ntmps146
 go_wp2
 go_loopg [5,8] n (fun z _ D wr=>∃a:Nat,a<=n/\n - a<=z/\D=I6 a/\Xo (zc w wr)/\Xo (∀j q,j<a->fs[j]? =Xa q->isZ q=Xd))
 exact⟨0,nZ _,Wm,rfl,zc.refl w,fun j q h=>absurd h (nL _)⟩
 obtain⟨a,B,K,rfl,l,A⟩:=hrel
 by_cases b:a<n
 ·have i:=kC b
  obtain⟨q,r⟩:∃q,Xo (fs[a]? =Xa q):=⟨_,gE (Rx m.out b)⟩
  obtain⟨F,rfl,u⟩:=y.out a q r.out;have H:=u wr l.out;clear u
  by_cases f:q=0
  ·have p:Xo (zoj fs=(a:Int)):=dD<|by unfold zoj;rw[znW r (by simp[isZ,f]) A,m,kE b]
   have t:(q == 0)=Xc:=by simp[f]
   have k:((0:Int) == q)=Xc:=by simp[f]
   clear f;go_wp2;go_ret;exact⟨Rr p.out,l⟩
  have x:Xo (∀(j:Nat) q,j<a+1->fs[j]? =Xa q->isZ q=Xd):=dD<|fun j C h d=>by
   by_cases e:j=a
   ·subst e;rw[r.out]at d;cases d
    simpa [isZ]using f
   exact A j C Wm d
  have t:(q == 0)=Xd:=by simp[f]
  have k:((0:Int) == q)=Xd:=by simp;omega
  clear f;go_wp2
  go_roundg (n -(a+1));exact⟨a+1,Wm,Wm,Gn,l,x⟩;omega
 have i:=kD b
 have:a=n:=Wm
 subst this;have p:Xo (zoj fs=-1):=dD<|by
  unfold zoj;rw[znV (fun j q h=>A.out j q (by rw[<-m.out];exact(gS.1 h).1) h),kF (Nat.lt_irrefl _)]
 go_wp2;go_ret;exact⟨Rr p.out,l⟩
theorem zeq (v fs) (w:Xn) (h:zl slE w v fs):
  Xp prog 87 #[v] w fun e w'=>∃g,e= Xl g/\zb slE w.heap.size w' g fs/\zc w w':=by
 have j:=dD h;obtain⟨⟨d,f,rfl,b,c⟩,a⟩:=h;have h:∀(w:Xn) (d:Option Addr) (n f i h:Nat),(binOp .eql 30 (O d n f) (O Xb i h)).run prog w= .ok (Xh d.isNone) w:=fun w d n f i h=>Lib.run_eql_slice_nil w _ _ d n f i h underlying30
 cases d with
 | none=>
  have d:=b rfl;subst d;clear c b a
  go_enter func87,ntmps87
  go_wp2;go_ret;exact⟨_,rfl,zb.nil _ _ _,zc.refl w⟩
 | some x=>
  have d:=dD a;clear c b a
  go_enter func87,ntmps87
  go_wp2_with (at_builtin;refine zn (E:=slE) rfl (.tmp 5) (.tmp 6) rfl w.heap.size _ [] rfl (zb.made slE w) _ fs rfl (j.grew (za _ _)) ?qb Sm ?_)
  case qb=>rw[Xy,zA];exact d.out
  intro g a b a;go_wp2;go_ret;exact⟨g,rfl,Si b,((bR _ w).alloc (nR _) _).grown a Sm (by intro k a;simp[Value.ownBlock]at a;omega)⟩
section
variable(I:Xn->Prop) (P:Program) (ops:Array Oper) (S:Nat->Option (Xq->Prop)) (R:Nat->Bool)
def jl (i:Nat) (F:Xn->Prop) (a:Act) (K:(Xn->Prop)->Act->Prop):Prop:=
 match ops[i]? with
 | none=>False
 | some o=>
  if Xs o (yielded ops a.tmps)then
   match S i with
   | none=>∃v,(∀w,I w->(R i=Xc->F w)->(execOp a.eval o).run P w= .ok (.value v) w)/\K F (a.put o.dst v)
   | some s=>∃p:Xq->Xn->Prop,(∀w,I w->F w->zJ P o a w fun v w'=>I w'/\s v/\p v w')/\∀v,s v->K (p v) (a.put o.dst v)
  else K F (a.put o.dst undef)
end
section
variable{I:Xn->Prop} {P:Program} {ops:Array Oper} {S:Nat->Option (Xq->Prop)} {R:Nat->Bool} {T:Nat}
theorem jl.mono {i:Nat} {F:Xn->Prop} {a:Act} {K d:(Xn->Prop)->Act->Prop}
  (h:∀c e,K c e->d c e) (b:jl I P ops S R i F a K):jl I P ops S R i F a d:=by
 unfold jl at*
 split
 ·rename_i c;simp only[c]at b
 rename_i d c
 simp only[c]at b
 split
 ·rename_i d
  simp only[d,if_true]at b
  split
  ·rename_i c
   simp only[c]at b;obtain⟨v,e,f⟩:=b;exact⟨v,e,h _ _ f⟩
  rename_i s c
  simp only[c]at b;obtain⟨p,c,b⟩:=b;exact⟨p,c,fun v c=>h _ _ (b v c)⟩
 rename_i d
 simp only[d]at b;exact h _ _ b
theorem jl.swap {i:Nat} {c:Oper} {F:Xn->Prop} {a:Act} {K:(Xn->Prop)->Act->Prop} {w:Xn}
  (hi:ops[i]? =Xa c) (t:ops[j]? =Xa oj) (f:c.apart ops oj=Xc)
  (g:∀cs b,c.op≠.select cs b) (k:∀cs b,oj.op≠.select cs b)
  (l:anc ops 9 i j=Xd) (m:anc ops 9 j i=Xd) (hS:∀s,S i=Xa s->∃v,s v) (n:S i≠Xb->(S j≠Xb\/R j=Xc)->anc ops 9 i j=Xc\/anc ops 9 j i=Xc) (x:R i=Xc->S j≠Xb->anc ops 9 i j=Xc\/anc ops 9 j i=Xc)
  (q:I w)
  (h:jl I P ops S R i F a fun d e=>jl I P ops S R j d e K):jl I P ops S R j F a fun d e=>jl I P ops S R i d e K:=by
 obtain⟨e,r,p⟩:=Oper.apart_spec f;have d:∀v,execOp (a.put oj.dst v).eval c=execOp a.eval c:=fun v=>execOp_put c g a oj.dst v p
 have f:∀v,execOp (a.put c.dst v).eval oj=execOp a.eval oj:=fun v=>execOp_put oj k a c.dst v e
 have y:∀v,Xs c (yielded ops (a.put oj.dst v).tmps)=Xs c (yielded ops a.tmps):=fun v=>wanted_put c a oj.dst v p
 have z:∀v,Xs oj (yielded ops (a.put c.dst v).tmps)=Xs oj (yielded ops a.tmps):=fun v=>wanted_put oj a c.dst v e
 have g:∀v w K,zJ P c (a.put oj.dst v) w K=zJ P c a w K:=fun v w K=>by unfold zJ;rw[d]
 have k:∀v w K,zJ P oj (a.put c.dst v) w K=zJ P oj a w K:=fun v w K=>by unfold zJ;rw[f]
 have p:∀v u,(a.put c.dst v).put oj.dst u=(a.put oj.dst u).put c.dst v:=fun v u=>Act.put_comm a v u r
 unfold jl at h⊢;simp only[hi,t,d,f,y,z,g,k,p]at h⊢
 cases d:Xs c (yielded ops a.tmps) <;> cases c:Xs oj (yielded ops a.tmps) <;>
  simp only[d,c,if_true,if_false,Yu]at h⊢
 ·exact h
 ·cases c:S j with
  | none=>simp only[c]at h⊢;exact h
  | some s=>simp only[c]at h⊢;exact h
 ·cases d:S i with
  | none=>simp only[d]at h⊢;exact h
  | some s=>simp only[d]at h⊢;exact h
 cases d:S i with
 | none=>
  simp only[d]at h;obtain⟨r,k,h⟩:=h
  cases c:S j with
  | none=>
   simp only[c]at h⊢;obtain⟨p,g,h⟩:=h;exact⟨p,g,r,k,h⟩
  | some s=>
   simp only[c]at h⊢;obtain⟨y,u,z⟩:=h;have t:R i≠Xc:=fun f=>by
    rcases x f (by rw[c];simp)with e|e
    ·rw[l]at e;cases e
    rw[m]at e;cases e
   exact⟨y,u,fun p u=>⟨r,fun w x _=>k w x (fun f=>absurd f t),z p u⟩⟩
 | some k=>
  simp only[d]at h;obtain⟨y,t,h⟩:=h;obtain⟨z,u⟩:=hS k d
  cases c:S j with
  | none=>
   simp only[c]at h⊢;have k:R j≠Xc:=fun f=>by
    rcases n (by rw[d];simp) (.inr f)with e|e
    ·rw[l]at e;cases e
    rw[m]at e;cases e
   obtain⟨p,g,_⟩:=h z u;refine⟨p,fun w x _=>g w x (fun f=>absurd f k),y,t,fun r t=>?_⟩
   obtain⟨p,p,u⟩:=h r t;have h:=g w q (fun f=>absurd f k)
   have g:=p w q (fun f=>absurd f k)
   rw[h]at g;simp only[Result.ok.injEq,Next.value.injEq,and_true]at g;subst g;exact u
  | some f=>
   exfalso
   rcases n (by rw[d];simp) (.inl (by rw[c];simp))with e|e
   ·rw[l]at e;cases e
   rw[m]at e;cases e
theorem zqg (hS:∀k s,S k=Xa s->∃v,s v) (b:∀i k,i<k->(S i≠Xb/\(S k≠Xb\/R k=Xc))\/(R i=Xc/\S k≠Xb)->anc ops 9 i k=Xc):
  Way P ops (jl I P ops S R) (fun _ _=>∃w,I w) (fun _ F _ w=>I w/\F w) where
 mono h:=jl.mono fun c d=>h c d fun _ _ h=>h
 swap hi hj hlt hap hsi hsj hij hji:=fun⟨_,d⟩=>jl.swap hi hj hap hsi hsj hij hji (hS _) (fun c e=> .inl (b _ _ hlt (.inl ⟨c,e⟩))) (fun c e=> .inl (b _ _ hlt (.inr ⟨c,e⟩))) d
 lean _ h:=⟨_,h.1⟩
 step {listed F a w j oj K N Q} hsz hoj h0 hc hok hcm hN:=by
  obtain⟨d,e⟩:=hok;simp only[jl,hoj]at hcm
  split
  ·rename_i b
   simp only[b,if_true]at hcm
   cases f:S j with
   | none=>
    simp only[f]at hcm;obtain⟨v,c,g⟩:=hcm;unfold Oper.wp;rw[c w d fun _=>e]
    exact hN F _ w ⟨d,e⟩ g
   | some s=>
    simp only[f]at hcm;obtain⟨p,c,g⟩:=hcm;exact(c w d e).wp fun v l ⟨f,h,c⟩=>hN (p v) _ l ⟨f,c⟩ (g v h)
  rename_i b
  simp only[b]at hcm;exact hN F _ w ⟨d,e⟩ hcm
variable{Q:Act->Xn->Prop}
variable(I P ops S R Q)in
abbrev Ju:List Oper->Nat->(Xn->Prop)->Act->Prop:=zg5 ops (jl I P ops S R) fun F a=>∀w,I w->F w->Q a w
theorem Zg {Q:Exit->Act->Xn->Prop} {a:Act} {w:Xn} {L l r:List Oper} (T:Nat) (S:List (Nat ×(Xq->Prop))) (b:List Nat) (F:Xn->Prop) (f:I w.drew) (d:F w.drew) (n:P.follows .mixedOrders=Xc) (c:Qu L.toArray T=Xc) (m:L.take T=l) (p:L.drop T=r) (j:T<=L.length)
  (hS:∀x∈S,∃v,x.2 v) (g:((S.map (·.1)++b).all fun i=>(S.map (·.1)++b).all fun k=>!decide (i<k) || anc L.toArray 9 i k || (b.contains i && b.contains k))=Xc) (e:(b.all fun i=>(S.lookup i).isNone)=Xc)
  (h:Ju I P L.toArray (fun k=>S.lookup k) (fun k=>b.contains k) (fun a w=>wpList P L.toArray Q r a w) l 0 F a):(Code.region id L.toArray Xc).wp P Q a w:=by
 refine zhi (zqg ?_ ?_) T n c m p j (fun _=>⟨f,d⟩) (fun _ _ _ _ c h=>h _ c.1 c.2) h
 ·intro k s d;obtain⟨x,f,rfl,_⟩:=Q3 d;exact hS x f
 intro i k h m;have c:∀k,S.lookup k≠Xb->k∈S.map (·.1)++b/\b.contains k=Xd:=fun k d=>by
  obtain⟨s,j⟩:=Option.ne_none_iff_exists'.1 d;obtain⟨x,f,_,rfl⟩:=Q3 j;refine⟨Yc.2 (.inl (Yl.2 ⟨x,f,rfl⟩)),?_⟩
  cases f:b.contains x.1 with
  | false=>rfl
  | true=>
   have:=Yi.1 e x.1 (Si f)
   rw[j]at this;cases this
 have f:∀k,b.contains k=Xc->k∈S.map (·.1)++b:=fun k d=>Yc.2 (.inr (Si d))
 have e:i∈S.map (·.1)++b->k∈S.map (·.1)++b->(b.contains i && b.contains k)=Xd->anc L.toArray 9 i k=Xc:=fun b d j=>by
  have:=Yi.1 (Yi.1 g i b) k d;rw[j]at this
  simpa [h]using this
 rcases m with⟨b,d|d⟩|⟨b,d⟩
 ·exact e (c i b).1 (c k d).1 (by rw[(c i b).2];rfl)
 ·exact e (c i b).1 (f k d) (by rw[(c i b).2];rfl)
 exact e (f i b) (c k d).1 (by rw[(c k d).2,Bool.and_false])
variable{o:Oper} {rest:List Oper} {k:Nat} {F:Xn->Prop} {a:Act}
theorem zcY (h:ops[k]? =Xa o->jl I P ops S R k F a (Ju I P ops S R Q rest (k+1))):Ju I P ops S R Q (o :: rest) k F a:=zg5.cons (fun h=>jl.mono h) h
theorem za4 (e:Xs o (yielded ops a.tmps)=Xc) (hS:S k=Xb) {v:Xq} (c:∀w,I w->(R k=Xc->F w)->(execOp a.eval o).run P w= .ok (.value v) w) (d:Ju I P ops S R Q rest (k+1) F (a.put o.dst v)):Ju I P ops S R Q (o :: rest) k F a:=zcY fun b=>by
 simp only[jl,b,e,if_true,hS];exact⟨v,c,d⟩
theorem zY (ht:zmW o=Xc) (b:Xs o (yielded ops a.tmps)=Xc) (hS:S k=Xb)
  (h:∀K:Act->Prop,(∀a,Ju I P ops S R Q rest (k+1) F a->K a)->o.quiet P a (fun w'=>∃x:zj I,w'=x.world) K):Ju I P ops S R Q (o :: rest) k F a:=by
 obtain⟨v,c,d⟩:=zaT ht (h _ fun _ h=>h)
 exact za4 b hS (fun w b _=>c w ⟨⟨w,b⟩,rfl⟩) d
theorem Za{P Q:Prop}(k:Q)(h:Go.RowKit.Hid Q->P:=by intro h;refine zY rfl rfl rfl (fun K a=>?_);go_big_quiet_op;exact a _ h.out):P:=h k
theorem QI (b:Xs o (yielded ops a.tmps)=Xc) (hS:S k=Xb) (f:R k=Xc) (v) (c:∀w,I w->F w->(execOp a.eval o).run P w= .ok (.value v) w) (d:Ju I P ops S R Q rest (k+1) F (a.put o.dst v)):Ju I P ops S R Q (o :: rest) k F a:=za4 b hS (fun w b e=>c w b (e f)) d
theorem JI (c:Xs o (yielded ops a.tmps)=Xd) (h:Ju I P ops S R Q rest (k+1) F (a.put o.dst undef)):Ju I P ops S R Q (o :: rest) k F a:=zcY fun b=>by
 simp only[jl,b,c,Yu,if_false];exact h
theorem QH {s:Xq->Prop} (d:Xs o (yielded ops a.tmps)=Xc) (hS:S k=Xa s) (p:Xq->Xn->Prop)
  (h:∀w,I w->F w->zJ P o a w fun v w'=>I w'/\s v/\p v w')
  (c:∀v,s v->Ju I P ops S R Q rest (k+1) (p v) (a.put o.dst v)):Ju I P ops S R Q (o :: rest) k F a:=zcY fun b=>by
 simp only[jl,b,d,if_true,hS];exact⟨p,h,c⟩
theorem ZT (x p) (b:o.op= .nilCheck x) (d:a.eval x= Xj (Xa p)) (c:Xs o (yielded ops a.tmps)=Xc) (hS:S k=Xb) (h:Ju I P ops S R Q rest (k+1) F (a.put o.dst (Xj (Xa p)))):Ju I P ops S R Q (o :: rest) k F a:=za4 c hS (fun _ _ _=>ziz x p b d) h
theorem Qq (h:∀w,I w->F w->Q a w):Ju I P ops S R Q [] k F a:=⟨fun _=>h⟩
end
section
variable{I:Xn->Prop} {P:Program} {ops:Array Oper} {S:Nat->Option (Xq->Prop)} {Q:Act->Xn->Prop}
variable(I P ops S Q)in
structure zg6 (l:List Oper) (k:Nat) (F:Nat->Xn->Prop) (a:Act):Prop where
 out:(∀i w w',zc w w'->F i w->F i w')->Ju I P ops S (fun _=>Xd) Q l k (fun w=>∀i,F i w) a
theorem Qj {Q:Exit->Act->Xn->Prop} {a:Act} {w:Xn} {L l r:List Oper} (T:Nat) (S:List (Nat ×(Xq->Prop))) (d:I w.drew) (g:P.follows .mixedOrders=Xc) (c:Qu L.toArray T=Xc) (f:L.take T=l) (j:L.drop T=r) (e:T<=L.length)
  (hS:∀x∈S,∃v,x.2 v) (b:((S.map (·.1)).all fun i=>(S.map (·.1)).all fun k=>!decide (i<k) || anc L.toArray 9 i k)=Xc)
  (h:zg6 I P L.toArray (fun k=>S.lookup k) (fun a w=>wpList P L.toArray Q r a w) l 0 (fun _ _=>True) a):(Code.region id L.toArray Xc).wp P Q a w:=
 Zg T S [] _ d (fun _=>trivial) g c f j e hS (Si b) rfl (h.out fun _ _ _ _ h=>h)
variable{o:Oper} {rest:List Oper} {k:Nat} {F:Nat->Xn->Prop} {a:Act}
theorem QJ (ht:zmW o=Xc) (b:Xs o (yielded ops a.tmps)=Xc) (hS:S k=Xb)
  (h:∀K:Act->Prop,(∀a,zg6 I P ops S Q rest (k+1) F a->K a)->o.quiet P a (fun w'=>∃x:zj I,w'=x.world) K):zg6 I P ops S Q (o :: rest) k F a:=⟨fun e=>by
 obtain⟨v,c,d⟩:=zaT ht (h _ fun _ h=>h)
 exact za4 b hS (fun w b _=>c w ⟨⟨w,b⟩,rfl⟩) (d.out e)⟩
theorem jw{P Q:Prop}(k:Q)(h:Go.RowKit.Hid Q->P:=by intro h;refine QJ rfl rfl rfl (fun K a=>?_);go_big_quiet_op;exact a _ h.out):P:=h k
theorem ZV {s:Xq->Prop} (b:Xs o (yielded ops a.tmps)=Xc) (hS:S k=Xa s) (p:Xq->Xn->Prop) (hp:∀v w w',zc w w'->p v w->p v w')
  (h:∀w,I w->(∀m,anc ops 9 m k=Xc->F m w)->zJ P o a w fun v w'=>I w'/\zc w w'/\s v/\p v w')
  (e:∀v,s v->zg6 I P ops S Q rest (k+1) (zda F k (p v)) (a.put o.dst v)):zg6 I P ops S Q (o :: rest) k F a:=⟨fun c=>QH b hS (fun v w=>∀i,zda F k (p v) i w) (fun w d b=>(h w d fun m _=>b m).mono fun v w' ⟨d,f,g,h⟩=>⟨d,g,fun i=>by
 unfold zda
 split
 ·exact h
 ·exact c i w w' f (b i)⟩) fun v b=>(e v b).out fun i w w' b=>by
 unfold zda
 split
 ·exact hp v w w' b
 exact c i w w' b⟩
theorem zcj (h:∀w,I w->(∀i,F i w)->Q a w):zg6 I P ops S Q [] k F a:=⟨fun _=>Qq h⟩
theorem zc0 (x p) (c:o.op= .nilCheck x) (e:a.eval x= Xj (Xa p)) (d:Xs o (yielded ops a.tmps)=Xc) (hS:S k=Xb) (h:zg6 I P ops S Q rest (k+1) F (a.put o.dst (Xj (Xa p)))):zg6 I P ops S Q (o :: rest) k F a:=⟨fun b=>ZT x p c e d hS (h.out b)⟩
end
structure zoy (base:Nat) (w:Xn) (V:MaV) (m:Ma):Prop where
 fs:zb qA base w (O V.f.a V.f.n V.f.c) m.fs
 sl:zb slE base w (O V.s.a V.s.n V.s.c) m.sl
 sb:zh base w (O V.sb.a V.sb.n V.sb.c) m.sb
 sq:zt base w (O V.sq.a V.sq.n V.sq.c) m.sq
 db:zh base w (O V.db.a V.db.n V.db.c) m.db
 dq:zt base w (O V.dq.a V.dq.n V.dq.c) m.dq
 fl:∃lo,jg lo w (O V.fl.a V.fl.n V.fl.c) m.fl/\base<=lo/\∀g,(O V.s.a V.s.n V.s.c).ownBlock=Xa g->g<lo
 ca:zb jG base w (O V.ca.a V.ca.n V.ca.c) m.ca
 sp:Jo base w (O V.sp.a V.sp.n V.sp.c) m.sp
 ap:∀g,(O V.sb.a V.sb.n V.sb.c).ownBlock=Xa g->(O V.db.a V.db.n V.db.c).ownBlock≠Xa g
theorem jo.now0 {w:Xn} {v:Xq} {fs:List Fl} (h:jo B0 B1 w v fs):qg w v fs:=by
 obtain⟨a,e,b,d,c⟩:=h;exact⟨a,e,b.now.s0,d,fun i x f b a=>⟨(c i x f b a).1,(c i x f b a).2.now.s0⟩⟩
theorem ziG {base:Nat} {w:Xn} {v:Xq} {l:List (List Int)} (h:zh base w v l):∀g,v.ownBlock=Xa g->base<=g/\g<w.heap.size:=h.1.lt
theorem ZP {w:Xn} {base a n g:Nat} {e:TypeId} {v:Xq} (h:w.ownsRow base e a v n xs) (j:w.grownBy w' (Xa g)) (b:g<base):w'.ownsRow base e a v n xs:=by
 refine⟨h.1,?_⟩
 rcases h.2 with f|⟨c,a,b,rfl,h,d,i⟩
 ·exact .inl f
 exact .inr ⟨c,a,b,rfl,h,by rw[j.block c (aS.1 d).1 (fun e=>by cases e;omega)];exact d,i⟩
theorem zb.low {α:Type} {E:Elt α} {base g:Nat} {w:Xn} {v:Xq} {l:List α} (h:zb E base w v l) (b:w.grownBy w' (Xa g)) (a:g<base):zb E base w' v l:=⟨ZP h.1 b a,h.2⟩
theorem Jv.low {lo g:Nat} {w:Xn} {x:SpV} {s:Sp} (h:Jv lo hi w x s) (b:w.grownBy w' (Xa g)) (a:g<lo):Jv lo hi w' x s:=
 ⟨h.live,h.ar.low b a,⟨h.tb.len,h.tb.tlen,fun i v y c d=>(h.tb.row i v y c d).low b a,h.tb.two⟩,h.arh,h.tbh⟩
theorem zoy.below {base g:Nat} {w:Xn} (h:zoy base w V m) (b:w.grownBy w' (Xa g)) (a:g<base) (c:base'<=base):zoy base' w' V m:=by
 obtain⟨i,⟨j,d,f,e,l⟩,k,n⟩:=h.fl;obtain⟨s,B,p,q,k,k,r⟩:=h.sp;refine⟨(h.fs.low b a).base c,(h.sl.low b a).base c,⟨qZ (ZP h.sb.1 b a) c,h.sb.2⟩,⟨qZ (ZP h.sq.1 b a) c,h.sq.2⟩,⟨qZ (ZP h.db.1 b a) c,h.db.2⟩,⟨qZ (ZP h.dq.1 b a) c,h.dq.2⟩,⟨i,⟨j,d.low b Wm,f,fun i x f d j=>⟨(e i x f d j).1,(e i x f d j).2.low b Wm⟩,l⟩,Wm,n⟩,(h.ca.low b a).base c,⟨s,B,(p.low b a).base c,q,Wm,k,fun i x s d a=>(r i x s d a).low b ?_⟩,h.ap⟩
 have:=zeZ k (nZ i);omega
theorem zne (V m) (w:Xn) (b:zy w V m):
  Xp prog 46 #[Xi (mL V m).toArray] w fun e w'=>∃V':MaV,e= Xl (Xi (mL V' m).toArray)/\zoy w.heap.size w' V' m/\zc w w':=by
 obtain⟨c,C,-⟩:=b.ns;have a:=dD b;have i:Xo (∀W,zc w W->Xp prog 86 #[Xi #[V.f.x,I6 m.hand]] W fun e w'=>∃f,e= Xl (Xi #[f,I6 m.hand])/\zb qA W.heap.size w' f m.fs/\zc W w'):=show∀W,_ from fun W a=>by
  have k:=(b.grew a).fs;(try simp only[Sli.x]at k⊢);rw[c]at k⊢;exact J7 _ _ m.fs m.hand W k
 have y:=dD<|fun W (a:zc w W)=>zeq _ m.sl W (b.grew a).sl
 have D:=dD<|fun W (a:zc w W)=>zcP _ m.sb m.sq W ⟨_,_,rfl,(b.grew a).sb,(b.grew a).sq⟩
 have T:=dD<|fun W (a:zc w W)=>zcP _ m.db m.dq W ⟨_,_,rfl,(b.grew a).db,(b.grew a).dq⟩
 have X:=dD<|fun W (a:zc w W)=>zcQ _ m.fl m.cnt W (b.grew a).fl
 have Y:=dD<|fun W (a:zc w W)=>zh6 _ m.ca W (b.grew a).ca
 have Z:=dD<|fun W (a:zc w W)=>zeT _ m.sp W (b.grew a).sp
 clear b c C;obtain⟨g,a⟩:=kB ((w.alloc (Xk (mL V m).toArray 41)).alloc (Xk zM.toArray 41));have h:=gD2 a
 have b:=x2a a
 have ad:=x2b a
 have d:Xo (g.heap.size=(w.heap.size+1+1)):=dD<|by rw[<-a];simp
 have c:=dD a;clear a
 go_enter func46,ntmps46
 go_upto_region 1 with fail;rw[c.out];obtain⟨a,j⟩:∃a:Xn->Prop,a=fun u=>zc g u:=⟨_,rfl⟩
 have c:Xo (∀u,a u↔zc g u):=dD<|fun u=>by rw[j]
 clear j;have B:=(c _).2 (gW _)
 have a1:=b.h c 0 rfl
 have a4:=b.h c 1 rfl
 have a5:=b.h c 2 rfl
 have a6:=b.h c 3 rfl
 have a7:=b.h c 4 rfl
 have a8:=b.h c 5 rfl
 have a9:=b.h c 6 rfl
 have aa:=b.h c 7 rfl
 have ab:=b.h c 8 rfl
 have ac:=b.h c 9 rfl
 have P:=b.h c 10 rfl
 have a0:Nonempty (zj a):=⟨⟨_,B⟩⟩;have r:Xo (∀u,a u->(w.heap.size+1+1)<=u.heap.size):=dD<|fun u n=>by rw[<-d.out];exact bS ((c _).1 n)
 refine Qj (I:=a) 22 [(2,fun v=>∃s:Sli,v= Xi #[s.x,I6 m.hand]),(5,fun v=>∃s:Sli,v=s.x),(8,fun v=>∃f q:Sli,v= Xi #[f.x,q.x]),(11,fun v=>∃f q:Sli,v= Xi #[f.x,q.x]),(14,fun v=>∃s:Sli,v= Xi #[s.x,I6 m.cnt]),(17,fun v=>∃s:Sli,v=s.x),(20,fun v=>∃s:Sli,v=s.x)] B z6 Kr rfl rfl Dc ?hS Kr ?_
 case hS=>
  intro x a;simp only[mC,nM,or_false]at a
  rcases a with rfl|rfl|rfl|rfl|rfl|rfl|rfl
  ·exact⟨_,zG,rfl⟩
  ·exact⟨_,zG,rfl⟩
  ·exact⟨_,zG,zG,rfl⟩
  ·exact⟨_,zG,zG,rfl⟩
  ·exact⟨_,zG,rfl⟩
  ·exact⟨_,zG,rfl⟩
  exact⟨_,zG,rfl⟩
 simp only[Yq,Yr];iterate 2 refine jw ?_
 refine ZV rfl rfl (fun v w'=>∃s:Sli,v= Xi #[s.x,I6 m.hand]/\zb qA (w.heap.size+1+1) w' (s.x) m.fs) (fun v u H n k=>by obtain⟨s,x,z⟩:=k;exact⟨s,x,z.grew n⟩) (fun w' a l=>?_) (fun K p=>?_)
 ·have g:=h.trans ((c _).1 a);have d:=r.out w' a;refine zJ.call [Xi #[V.f.x,I6 m.hand]] rfl func86 rfl rfl rfl ?_;refine(i w' g).mono ?_;rintro e t ⟨f,rfl,A,b⟩;obtain⟨i,j,rfl⟩:=A.form;exact⟨_,rfl,(c _).2 (((c _).1 a).trans b),b,⟨⟨i,_,j⟩,rfl⟩,⟨i,_,j⟩,rfl,A.base d⟩
 obtain⟨U,rfl⟩:=p;refine Uq ?_;iterate 2 refine jw ?_
 refine ZV rfl rfl (fun v w'=>zb slE (w.heap.size+1+1) w' v m.sl) (fun v u H n k=>zb.grew k n) (fun w' a l=>?_) (fun K p=>?_)
 ·have g:=h.trans ((c _).1 a);have d:=r.out w' a;refine zJ.call [V.s.x] rfl func87 rfl rfl rfl ?_;refine(y w' g).mono ?_;rintro e t ⟨f,rfl,A,b⟩;obtain⟨i,j,rfl⟩:=A.form;exact⟨_,rfl,(c _).2 (((c _).1 a).trans b),b,⟨⟨i,_,j⟩,rfl⟩,A.base d⟩
 obtain⟨G,rfl⟩:=p;refine Uq ?_;iterate 2 refine jw ?_
 refine ZV rfl rfl (fun v w'=>∃f q:Sli,v= Xi #[f.x,q.x]/\zh (w.heap.size+1+1) w' (f.x) m.sb/\zt (w.heap.size+1+1) w' (q.x) m.sq) (fun v u H n k=>by obtain⟨f,q,x,z,N⟩:=k;exact⟨f,q,x,z.grew n,N.grew n⟩) (fun w' a l=>?_) (fun K p=>?_)
 ·have g:=h.trans ((c _).1 a);have d:=r.out w' a;refine zJ.call [Xi #[V.sb.x,V.sq.x]] rfl func88 rfl rfl rfl ?_;refine(D w' g).mono ?_;rintro e t ⟨D,rfl,⟨f,q,rfl,E,R⟩,b⟩;obtain⟨i,C,j,rfl⟩:=E.slice;obtain⟨L,Q,M,rfl⟩:=R.slice;exact⟨_,rfl,(c _).2 (((c _).1 a).trans b),b,⟨⟨i,C,j⟩,⟨L,Q,M⟩,rfl⟩,⟨i,C,j⟩,⟨L,Q,M⟩,rfl,E.base d,R.base d⟩
 obtain⟨F,S,rfl⟩:=p;refine Uq ?_;iterate 2 refine jw ?_
 refine ZV rfl rfl (fun v w'=>∃f q:Sli,v= Xi #[f.x,q.x]/\zh (w.heap.size+1+1) w' (f.x) m.db/\zt (w.heap.size+1+1) w' (q.x) m.dq/\∀y,(F.x).ownBlock=Xa y->(f.x).ownBlock≠Xa y) (fun v u H n k=>by obtain⟨f,q,x,z,N,W⟩:=k;exact⟨f,q,x,z.grew n,N.grew n,W⟩) (fun w' a l=>?_) (fun K p=>?_)
 ·have g:=h.trans ((c _).1 a);have d:=r.out w' a;refine zJ.call [Xi #[V.db.x,V.dq.x]] rfl func88 rfl rfl rfl ?_;refine(T w' g).mono ?_;rintro e t ⟨D,rfl,⟨f,q,rfl,E,R⟩,b⟩;obtain⟨i,C,j,rfl⟩:=E.slice;obtain⟨L,Q,M,rfl⟩:=R.slice;obtain⟨ae,af,D,T,_⟩:∃f q:Sli,(Value.agg #[F.x,S.x])= Xi #[f.x,q.x]/\zh (w.heap.size+1+1) w' (f.x) m.sb/\zt (w.heap.size+1+1) w' (q.x) m.sq:=l 8 Kr
  refine⟨_,rfl,(c _).2 (((c _).1 a).trans b),b,⟨⟨i,C,j⟩,⟨L,Q,M⟩,rfl⟩,⟨i,C,j⟩,⟨L,Q,M⟩,rfl,E.base d,R.base d,fun y x z=>?_⟩
  simp only[Value.agg.injEq,Array.mk.injEq,List.cons.injEq]at D;rw[D.1]at x;have q:=(ziG T y x).2;have q:=(ziG E y z).1;omega
 obtain⟨C,E,rfl⟩:=p;refine Uq ?_;iterate 2 refine jw ?_
 refine ZV rfl rfl (fun v w'=>∃s:Sli,v= Xi #[s.x,I6 m.cnt]/\∃q,jg q w' (s.x) m.fl/\(w.heap.size+1+1)<=q/\∀y,(G.x).ownBlock=Xa y->y<q) (fun v u H n k=>by obtain⟨s,x,q,z,N,W⟩:=k;exact⟨s,x,q,z.grew n,N,W⟩) (fun w' a l=>?_) (fun K p=>?_)
 ·have g:=h.trans ((c _).1 a);have d:=r.out w' a;refine zJ.call [Xi #[V.fl.x,I6 m.cnt]] rfl func36 rfl rfl rfl ?_;refine(X w' g).mono ?_;rintro e t ⟨f,rfl,L,b,_⟩;have s:=L;obtain⟨M,z,_⟩:=L;obtain⟨i,j,rfl⟩:=z.form;have L:zb slE (w.heap.size+1+1) w' (G.x) m.sl:=l 5 Kr
  exact⟨_,rfl,(c _).2 (((c _).1 a).trans b),b,⟨⟨i,_,j⟩,rfl⟩,⟨i,_,j⟩,rfl,w'.heap.size+2,s,Wm,fun y x=>Hm ((L.lt y x).2)⟩
 obtain⟨x,rfl⟩:=p;refine Uq ?_;iterate 2 refine jw ?_
 refine ZV rfl rfl (fun v w'=>zb jG (w.heap.size+1+1) w' v m.ca) (fun v u H n k=>zb.grew k n) (fun w' a l=>?_) (fun K p=>?_)
 ·have g:=h.trans ((c _).1 a);have d:=r.out w' a;refine zJ.call [V.ca.x] rfl func89 rfl rfl rfl ?_;refine(Y w' g).mono ?_;rintro e t ⟨f,rfl,A,b⟩;obtain⟨i,j,rfl⟩:=A.form;exact⟨_,rfl,(c _).2 (((c _).1 a).trans b),b,⟨⟨i,_,j⟩,rfl⟩,A.base d⟩
 obtain⟨s,rfl⟩:=p;refine Uq ?_;iterate 2 refine jw ?_
 refine ZV rfl rfl (fun v w'=>Jo (w.heap.size+1+1) w' v m.sp) (fun v u H n k=>Jo.grew k n) (fun w' a l=>?_) (fun K p=>?_)
 ·have g:=h.trans ((c _).1 a);have d:=r.out w' a;refine zJ.call [V.sp.x] rfl func90 rfl rfl rfl ?_;refine(Z w' g).mono ?_;rintro e t ⟨f,rfl,g,b⟩;have f:=g;obtain⟨M,k,z,_⟩:=g;obtain⟨i,j,rfl⟩:=z.form;exact⟨_,rfl,(c _).2 (((c _).1 a).trans b),b,⟨⟨i,_,j⟩,rfl⟩,f.base d⟩
 obtain⟨k,rfl⟩:=p;refine Uq ?_;refine jw ?_
 refine zcj fun g f l=>?_
 have b:=(c _).1 f;have a:=l 2;have L:=l 5;have c:=l 8;have d:=l 11;have n:=l 14;have r:=l 17;have t:=l 20;have u:Xo (zoy (w.heap.size+1+1) g ⟨U,G,F,S,C,E,x,s,k⟩ m):=dD<|by
  obtain⟨g,A,H⟩:=a;obtain⟨ae,af,D,T,K⟩:=c;obtain⟨a,a,a,g,j,c⟩:=d;obtain⟨d,d,q,i,z,y⟩:=n;simp only[Value.agg.injEq,Array.mk.injEq,List.cons.injEq]at A D a d;rw[<-A.1]at H;rw[<-D.1]at T;rw[<-D.2.1]at K;rw[<-a.1]at g c;rw[<-a.2.1]at j;rw[<-d.1]at i;exact⟨H,L,T,K,g,j,⟨q,i,z,y⟩,r,t,c⟩
 have a:=dD (ad.grew b);have c:=dD (h.trans b);clear l f b a1 a4 a5 a6 a7 a8 a9 aa ab ac P a0 B
 go_wp2_with (refine zr rfl 41 (.tmp 2) (.tmp 24) rfl (w.heap.size+1) rfl [U.x,I6 m.hand,G.x,F.x,S.x,C.x,E.x,x.x,I6 m.cnt,s.x,k.x] rfl a rfl Kr (fun v p=>by
    simp only[mC,nM,or_false]at p
    rcases p with rfl|rfl|rfl|rfl|rfl|rfl|rfl|rfl|rfl|rfl|rfl <;> rfl) ?_)
 intro f d a b;have b:Xo (zc w f):=dD<|zd c a Wm
 have c:Xo (zoy w.heap.size f ⟨U,G,F,S,C,E,x,s,k⟩ m):=dD<|u.below a Wm Wm
 go_wp2;refine bodyPost_ret (zX rfl _ rfl d underlying41 rfl Kr) rfl ⟨⟨U,G,F,S,C,E,x,s,k⟩,rfl,c,b⟩
theorem zqH:(Tryz.prog.info? 76).map (·.size)=Xa 192:=by kernel_rfl
def qr (l:List En):List Xq:=l.flatMap env
theorem ZK (l:List En):(qr l).length=l.length*3:=qQ l (fun _ _=>rfl)
theorem zeu (l:List En):∀v∈qr l,v.oneCell'=Xc:=je enE.one l
theorem zdu {l:List En} {e:En} (h:l[j]? =Xa e):(qr l)[j*3]? =Xa (I6 e.kind)/\(qr l)[j*3+1]? =Xa (I6 e.n)/\(qr l)[j*3+2]? =Xa (Xh e.wr):=
 ⟨qM (enc:=env) (k:=3) l j e (fun _ _=>rfl) h 0 _ rfl,qM (enc:=env) (k:=3) l j e (fun _ _=>rfl) h 1 _ rfl,qM (enc:=env) (k:=3) l j e (fun _ _=>rfl) h 2 _ rfl⟩
theorem zk5 {cs:List Xq} (a b c) (h:j+3<=cs.length):((cs.set j a).set (j+1) b).set (j+2) c=splice cs j [a,b,c]:=by
 apply Xz
 intro i;unfold splice
 by_cases d:i<j
 ·rw[sN Wm,sN Wm,sN Wm,List.getElem?_append_left (by simp;omega),Yh d]
 have d:(cs.take j).length=j:=by simp;omega
 rw[aR Wm,d]
 by_cases d:i=j
 ·subst d;rw[sN Wm,sN Wm,sF Wm,Nat.sub_self]
  rfl
 by_cases d:i=j+1
 ·subst d;rw[sN Wm,sF (by simp;omega),show j+1 - j=1 by omega]
  rfl
 by_cases d:i=j+2
 ·subst d;rw[sF (by simp;omega),show j+2 - j=2 by omega]
  rfl
 rw[sN Wm,sN Wm,sN Wm,aR (by simp;omega),List.getElem?_drop]
 congr 1
 simp;omega
theorem zky {l:List En} (e:En) (h:j<l.length):(((qr l).set (j*3) (I6 e.kind)).set (j*3+1) (I6 e.n)).set (j*3+2) (Xh e.wr)=qr (l.set j e):=by
 rw[zk5 _ _ _ (by rw[ZK];omega)]
 exact Qz (enc:=env) (k:=3) e rfl l j (fun _ _=>rfl) h
def zgF:List En:=Xr 64 en0
theorem zj9:(Tryz.prog.info? 76).map (·.zero)=Xa (Xa (Xi (qr zgF).toArray)):=by kernel_rfl
theorem zfX (w):(zeroValue 76).run prog w= .ok (Xi (qr zgF).toArray) w:=by
 have h:=zj9
 cases a:Tryz.prog.info? 76 with
 | none=>simp[a]at h
 | some i=>
  simp[a]at h
  simp[zeroValue,typeInfo,a,h]
def zio (t:List (List En)) (i k:Nat) (l:List En):Prop:=l.length=64/\∀a b,a<8->b<8->l[8*a+b]? =Xa (if a<i\/(a=i/\b<k)then zaC t a b else en0)
theorem zio.zero (t:List (List En)):zio t 0 0 zgF:=⟨by simp[zgF],fun a b a a=>by
 rw[kF Wm,zgF,List.getElem?_replicate,kE Wm]⟩
theorem zio.step {t:List (List En)} {i k:Nat} {l:List En} (h:zio t i k l) (hi:i<8) (a:k<8):zio t i (k+1) (l.set (8*i+k) (zaC t i k)):=by
 refine⟨by simp[h.1],fun a b c d=>?_⟩
 by_cases e:a=i/\b=k
 ·obtain⟨rfl,rfl⟩:=e;rw[sF (by rw[h.1];omega),kE Wm]
 rw[sN Wm,h.2 a b c d]
 by_cases c:a<i\/(a=i/\b<k)
 ·rw[kE c,kE Wm]
 rw[kF c,kF Wm]
theorem zio.next {t:List (List En)} {i:Nat} {l:List En} {n:Nat} (h:zio t i n l) (e:∀b,n<=b->zaC t i b=en0):zio t (i+1) 0 l:=by
 refine⟨h.1,fun a b c d=>?_⟩
 rw[h.2 a b c d]
 by_cases c:a<i\/(a=i/\b<n)
 ·rw[kE c,kE Wm]
 rw[kF c]
 by_cases c:a=i
 ·subst c;rw[kE Wm,e b Wm]
 rw[kF Wm]
theorem zio.all {t:List (List En)} {l:List En} (h:zio t 8 0 l):l=JT t:=by
 apply Xz
 intro j
 by_cases a:j<64
 ·have:=h.2 (j / 8) (j % 8) Wm Wm
  rw[kE Wm,show 8*(j / 8)+j % 8=j by omega]at this
  rw[this,zcn t a]
 rw[gN (by rw[h.1];omega),gN (by rw[zgE];omega)]
theorem zbG (vs:List Xq) (t:List (List En)) (w) (hv:Je w vs t) (hok:∀h∈t,h.length<=8):
  Xp prog 28 #[Xi vs.toArray] w fun e w'=>e= Xl (Xi (qr (JT t)).toArray)/\zc w w':=by
 have HV:=dD hv;have HL:=dD hv.len;have HOK:=dD hok;clear hv hok;have hz:=zfX;obtain⟨Z0,HZ0⟩:=kA (qr zgF);rw[HZ0.out]at hz;have HZL:Xo (Z0.length=192):=show _=_ by rw[<-HZ0.out,ZK];rfl
 obtain⟨C,HC⟩:=kA (qr (JT t));rw[HC.out];obtain⟨W0,hW0⟩:=kB (((w.alloc (Xk vs.toArray 72)).alloc (Xk Z0.toArray 76)).alloc (Xk Z0.toArray 76));have HG0:Xo (zc w W0):=dD<|by rw[<-hW0];exact((za _ _).trans (za _ _)).trans (za _ _)
 have X0:Xo (Box W0 w.heap.size vs):=dD<|by rw[<-hW0];exact((Box.top w _ _ rfl).alloc _).alloc _
 have Y0:Xo (Box W0 (w.heap.size+1) Z0):=dD<|by rw[<-hW0];exact(Box.top _ _ _ Sm).alloc _
 have L0:Xo (Box W0 (w.heap.size+2) (qr zgF)):=dD<|by rw[<-hW0,HZ0.out];exact Box.top _ _ _ Sm
 have HW0:=dD hW0;clear hW0
 go_enter func28,ntmps28
 go_upto_region 2 with fail;rw[HW0.out];clear hz
 go_wp2_with (refine qt rfl (.tmp 1) rfl w.heap.size rfl X0 HL.out ?_)
 go_loopg [9] 8 (fun gg s9 wr=>∃(kk:Nat) (l:List En),kk<=8/\8 - kk<=gg/\s9=I6 kk/\Xo (zc w wr)/\Xo (Box wr (w.heap.size+1) Z0)/\Xo (Box wr (w.heap.size+2) (qr l))/\Xo (zio t kk 0 l))
 exact⟨0,zgF,nZ _,Wm,rfl,HG0,Y0,L0,zio.zero t⟩
 obtain⟨kk,l,hkk,hg,rfl,BW,YW,LW,DW⟩:=hrel
 by_cases hlt:kk<8
 ·have hltz:(kk:Int)<8:=Wm
  obtain⟨xa,xc,q,hq,hvk,hr⟩:=HV.half hlt;have hq8:=HOK.out q (mG hq);have HGN:Xo (∀b,zaC t kk b=q[b]?.getD en0):=dD<|fun b=>by unfold zaC;rw[hq];rfl
  obtain⟨_,_,heq,hens⟩:=hr.ens;cases heq;have HE:=dD hens;obtain⟨nq,HNQ⟩:=kA q.length;rw[HNQ.out]at hvk hq8;have HVK:=dD hvk;clear hens hr hq hvk
  go_wp2_with (refine zcx rfl (.tmp 8) (.tmp 9) rfl vs rfl kk rfl hlt HVK.out ?_)
  go_loopg [15] nq (fun g2 s15 wr2=>∃(k2:Nat) (l2:List En),k2<=nq/\nq - k2<=g2/\s15=I6 k2/\Xo (zc w wr2)/\Xo (Box wr2 (w.heap.size+1) Z0)/\Xo (Box wr2 (w.heap.size+2) (qr l2))/\Xo (zio t kk k2 l2))
  exact⟨0,l,nZ _,Wm,rfl,BW,YW,LW,DW⟩
  obtain⟨k2,l2,hk2,hg2,rfl,BW2,YW2,LW2,DW2⟩:=hrel
  by_cases hlt2:k2<nq
  ·have hltz2:=kC hlt2
   obtain⟨z,HZ⟩:∃z,Xo (q[k2]? =Xa z):=⟨_,gE (by rw[HNQ.out];exact hlt2)⟩
   obtain⟨ad,rfl,hl2⟩:=HE.out k2 z HZ.out;obtain⟨d0,d1,d2⟩:=hl2 wr BW2.out;clear hl2;go_upto_region 8 with fail;obtain⟨px,hpx⟩:=kB wr.heap.size;obtain⟨W3,hW3⟩:=kB (wr.alloc (Xk #[I6 z.kind,I6 z.n,Xh z.wr] 75));have G3:=gT hW3 BW2
   have P3:Xo (Box W3 px [I6 z.kind,I6 z.n,Xh z.wr]):=dD<|by rw[<-hW3];exact Box.top _ _ _ hpx.symm
   have Y3:=yA hW3 YW2
   have L3:=yA hW3 LW2
   rw[hW3];rw[hpx];clear hW3 hpx d0 d1 d2;obtain⟨p0,p1,p2⟩:=P3.c3;have hidx:(8:Int)*(kk:Int)+(k2:Int)=((8*kk+k2:Nat):Int):=Wm
   have hi64:8*kk+k2<64:=Wm
   obtain⟨ix,HIX⟩:=kA (8*kk+k2);rw[HIX.out]at hidx hi64;have hi64z:(ix:Int)<64:=Wm
   obtain⟨z0,hz0⟩:∃z0,l2[ix]? =Xa z0:=⟨_,gE (by rw[DW2.1];exact hi64)⟩
   obtain⟨c0,c1,c2⟩:=zdu hz0;have l0:=L3.c _ c0;have l1:=L3.c _ c1;have l2':=L3.c _ c2;have lf:=L3.f;clear c0 c1 c2 hz0;go_upto_region 9 with fail;obtain⟨W4,hW4⟩:=kB (((W3.setCell ⟨w.heap.size+2,ix*3,Xb⟩ (I6 z.kind)).setCell ⟨w.heap.size+2,ix*3+1,Xb⟩ (I6 z.n)).setCell ⟨w.heap.size+2,ix*3+2,Xb⟩ (Xh z.wr));have L4:Xo (Box W4 (w.heap.size+2) (qr (l2.set ix z))):=dD<|by
    rw[<-hW4,<-zky z (by rw[DW2.1];exact hi64)]
    exact((L3.set _ _).set _ _).set _ _
   have Y4:Xo (Box W4 (w.heap.size+1) Z0):=dD<|by
    rw[<-hW4];exact((Y3.other Sm _).other Sm _).other Sm _
   have G4:Xo (zc w W4):=dD<|by
    rw[<-hW4];exact Below.setCell (Below.setCell (Below.setCell G3 (p:=⟨w.heap.size+2,ix*3,Xb⟩) Sm _) (p:=⟨w.heap.size+2,ix*3+1,Xb⟩) Sm _) (p:=⟨w.heap.size+2,ix*3+2,Xb⟩) Sm _
   have D4:Xo (zio t kk (k2+1) (l2.set ix z)):=dD<|by
    have h1:=DW2.step hlt (show k2<8 by omega)
    rw[HGN.out,HZ.out,HIX.out]at h1;exact h1
   rw[hW4];clear hW4 l0 l1 l2' lf p0 p1 p2 hidx;go_wp2
   go_roundg (nq -(k2+1));exact⟨k2+1,_,Wm,Wm,Gn,G4,Y4,L4,D4⟩;omega
  have hltz2:=kD hlt2
  have:k2=nq:=Wm
  subst this;have D4:Xo (zio t (kk+1) 0 l2):=DW2.next (fun b hb=>by rw[HGN.out,gN (Rx HNQ.out hb)];rfl)
  go_wp2
  go_roundg (8 -(kk+1));exact⟨kk+1,l2,Wm,Wm,Gn,BW2,YW2,LW2,D4⟩;omega
 have hltz:¬(kk:Int)<8:=Wm
 have:kk=8:=Wm
 subst this;have LE:Xo (Box wr (w.heap.size+2) C):=dD<|by rw[<-HC.out,<-DW.all];exact LW.out
 have HFL:Xo (C.length=192):=dD<|by rw[<-HC.out,ZK,zgE]
 have HFO:Xo (∀v∈C,v.oneCell'=Xc):=dD<|by rw[<-HC.out];exact zeu _
 go_wp2_with (first | refine zK rfl 76 (.tmp 3) rfl (w.heap.size+2) rfl LE underlying76 rfl (Rx HFL.out zqH) ?_ | refine zr rfl 76 (.tmp 2) (.tmp 28) rfl (w.heap.size+1) rfl C rfl YW (by rw[HFL.out,HZL.out]) (Rx HZL.out zqH) HFO.out ?_)
 intro W3 b3 g3 s3;have G3:Xo (zc w W3):=dD<|zd BW g3 Sm
 have B3:=dD b3;clear b3 g3 s3;go_wp2;refine bodyPost_ret (zX rfl _ rfl B3 underlying76 rfl (Rx HFL.out zqH)) rfl ⟨rfl,G3⟩
theorem zjv {w:Xn} {l:List En} (i:Nat) (hi:i<64) {e:En} (g:l[i]? =Xa e):(Instr.index 76 (Xi (qr l).toArray) (I6 (i:Int))).run prog w= .ok (Xi #[I6 e.kind,I6 e.n,Xh e.wr]) w:=by
 have f:(isAgg 75).run prog w= .ok Xc w:=by
  unfold isAgg;rw[Xu,run_underlying underlying75 w];rfl
 have h:(Go.sizeOf 75).run prog w= .ok 3 w:=by
  obtain⟨a,c,d⟩:∃a,Tryz.prog.info? 75=Xa a/\a.size=3:=by
   have:(Tryz.prog.info? 75).map (·.size)=Xa 3:=Kr
   cases b:Tryz.prog.info? 75 with
   | none=>rw[b]at this;cases this
   | some a=>rw[b]at this;exact⟨a,rfl,by simpa using this⟩
  simp[Go.sizeOf,typeInfo,c,d]
 have a:(0:Int)<=(i:Int)/\(i:Int)< ((64:Nat):Int):=Wm
 obtain⟨c,d,b⟩:=zdu g;have g:(qr l).toArray.extract (i*3) (i*3+3)=#[I6 e.kind,I6 e.n,Xh e.wr]:=by
  apply Array.ext_getElem?
  intro j;rw[Array.getElem?_extract];have hlen:i*3+3<=(qr l).toArray.size:=by
   have:=(gS.1 b).1;simp;omega
  by_cases k:j<3
  ·rw[kE Wm]
   obtain rfl|rfl|rfl:j=0\/j=1\/j=2:=Wm
   ·simpa using c
   ·simpa using d
   simpa using b
  rw[kF Wm]
  simp;omega
 simp only[Instr.index,asIntOf,Xu,Xv,rA,run_underlying underlying76];rw[kE a];simp only[Xu,h,rA,part,f,if_true,tN,Xv,g]
theorem zaL {rest:List Oper} {a:Act} {w:Xn} (b:o.guard=Xb) (x ix) (f:o.op= .index 76 x ix) (l:List En) (g:a.eval x= Xi (qr l).toArray) (i:Nat) (c:a.eval ix=I6 (i:Int)) (hi:i<64) {e:En} (d:l[i]? =Xa e)
  (h:wpList prog ops Q rest (a.put o.dst (Xi #[I6 e.kind,I6 e.n,Xh e.wr])) w):wpList prog ops Q (o :: rest) a w:=by
 refine wpList_plain b fun K b=>?_
 unfold Oper.wp execOp;simp only[f,g,c,Xu,Xv,rA,zjv i hi d];exact b _ _ h
def qf:List Xq:=[O Xb 0 0,Xe Xf 0,O Xb 0 0,O Xb 0 0,O Xb 0 0,O Xb 0 0,O Xb 0 0,O Xb 0 0,Xe Xf 0,O Xb 0 0,O Xb 0 0]
theorem zqI:(Tryz.prog.info? 5).map (fun i=>(i.zero,i.size,i.bytes))=Xa (Xa (U8 0),1,1):=by kernel_rfl
def byE:Elt Int where
 enc:=fun z=>[Xe Xg z]
 k:=1
 ty:=5
 st:=24
 bytes:=1
 zv:= Xe Xg 0
 zero:=0
 len:=fun _=>rfl
 one:=fun a u hu=>by
  simp only[mC,nM,or_false]at hu;rw[hu];rfl
 und:=underlying24
 info:=zqI
 zok:=rfl
 few:=by decide
 pos:=by decide
theorem zqJ:(Tryz.prog.info? 76).map (fun i=>(i.zero,i.size,i.bytes))=Xa (Xa (Xi (qr (tab fun _=>en0)).toArray),192,1536):=by kernel_rfl
def zb7:Elt (Nat->En) where
 enc:=fun f=>qr (tab f)
 k:=192
 ty:=76
 st:=56
 bytes:=1536
 zv:= Xi (qr (tab fun _=>en0)).toArray
 zero:=fun _=>en0
 len:=fun f=>by rw[ZK,Qs]
 one:=fun f=>zeu _
 und:=underlying56
 info:=zqJ
 zok:=rfl
 few:=by decide
 pos:=by decide
def J2 (fs:List Fr):Prop:=∀f∈fs,f.f=-1->f.d=Xd
def zqb (m:Ma) (f:Fr):Prop:=(f.f=-1->f.d=Xd)/\(f.r≠0->f.f≠-1->jV (pgL f.p) f.x (Qb m f.f)=pgL f.p/\(f.d=Xd->Qh m f.f f.x=pgL f.p))
def zez (m:Ma):Prop:=∀f∈m.fs,zqb m f
theorem zez.clean (h:zez m):J2 m.fs:=fun f a=>(h f a).1
theorem zez.set (h:zez m) {x:Fr} (b:zqb m x) (k:Nat):zez { m with fs:=m.fs.set k x }:=fun f a=>by
 rcases Yf a with e|e
 ·exact h f e
 rw[e];exact b
theorem zez.free (b:J2 m.fs) (c:∀f∈m.fs,f.r=0):zez m:=fun f a=>⟨b f a,fun e=>absurd (c f a) e⟩
theorem zez.bare (h:zez m) (b:∀f∈m.fs,f.r=0) (a:m'.fs=m.fs):zez m':=zez.free (Rx a h.clean) (Rx a b)
theorem zez.inc (h:zez m) (c:qK m T) {k:Nat} {fr:Fr} (a:m.fs[k]? =Xa fr):zez { m with fs:=m.fs.set k { fr with r:=fr.r+1 } }:=
 h.set (x:={ fr with r:=fr.r+1 }) ⟨(h fr (mG a)).1,fun _ b=>(h fr (mG a)).2 (fun e=>b (by rw[(c.fok fr (mG a)).2.2.2.1 e];rfl)) b⟩ k
structure MkR (base hi:Nat) (w:Xn) (V:MaV) (m:Ma) (vt:Sli) (T:List (Nat->En)):Prop where
 hw:hi<=w.heap.size
 bh:base<=hi
 fs:zb qA base w (O V.f.a V.f.n V.f.c) m.fs
 sl:zb slE base w (O V.s.a V.s.n V.s.c) m.sl
 slh:∀g,(O V.s.a V.s.n V.s.c).ownBlock=Xa g->g<hi
 sb:zh base w (O V.sb.a V.sb.n V.sb.c) m.sb
 sbh:∀g,(O V.sb.a V.sb.n V.sb.c).ownBlock=Xa g->g<hi
 sq:V.sq=zG/\m.sq=[]
 db:zh base w (O V.db.a V.db.n V.db.c) m.db
 dbh:∀g,(O V.db.a V.db.n V.db.c).ownBlock=Xa g->g<hi
 dq:zt base w (O V.dq.a V.dq.n V.dq.c) m.dq
 fl:∃xs:List FlV,zb fvE base w (O V.fl.a V.fl.n V.fl.c) xs/\xs.length=m.fl.length/\∀(i:Nat) x f,xs[i]? =Xa x->m.fl[i]? =Xa f->x.size=f.size/\zb blE hi w x.v f.bl
 ca:zb jG base w (O V.ca.a V.ca.n V.ca.c) m.ca
 sp:∃xs:List SpV,zb ZC base w (O V.sp.a V.sp.n V.sp.c) xs/\xs.length=m.sp.length/\∀(i:Nat) x s,xs[i]? =Xa x->m.sp[i]? =Xa s->x.live=s.live/\zb arE base w x.ar.v s.ars/\x.tab=QF/\s.tb=qG
 tt:zb zb7 base w (O vt.a vt.n vt.c) T
 ap:(∀g,(O V.sb.a V.sb.n V.sb.c).ownBlock=Xa g->(O V.db.a V.db.n V.db.c).ownBlock≠Xa g)/\zez m
section
variable{base hi:Nat} {w w':Xn} {V:MaV} {m:Ma} {vt:Sli} {T:List (Nat->En)}
theorem MkR.grew (h:MkR base hi w V m vt T) (k:zc w w'):MkR base hi w' V m vt T:=by
 obtain⟨f,a,d,b⟩:=h.fl;obtain⟨j,e,g,c⟩:=h.sp;exact⟨nT h.hw (bS k),h.bh,h.fs.grew k,h.sl.grew k,h.slh,h.sb.grew k,h.sbh,h.sq,h.db.grew k,h.dbh,h.dq.grew k,⟨f,a.grew k,d,fun i x f a d=>⟨(b i x f a d).1,(b i x f a d).2.grew k⟩⟩,h.ca.grew k,⟨j,e.grew k,g,fun i x s a b=>⟨(c i x s a b).1,(c i x s a b).2.1.grew k,(c i x s a b).2.2⟩⟩,h.tt.grew k,h.ap⟩
theorem zb.kind {α:Type} {E:Elt α} {g:Nat} {v:Xq} {l:List α} {cs:Array Xq} (h:zb E b w v l) (a:w.grownBy w' (Xa g)) (d:w.heap[g]? =Xa (Xk cs t (0,0))) (ht:t≠E.ty):zb E b w' v l:=h.grown a fun k c e=>by
 cases e;obtain⟨a,a⟩:=h.obj c;rw[d]at a;cases a;exact ht rfl
theorem QE {a n g:Nat} {e:TypeId} {v:Xq} (h:w.ownsRow b e a v n xs) (l:w.grownBy w' (Xa g)) (d:v.ownBlock≠Xa g):w'.ownsRow b e a v n xs:=by
 refine⟨h.1,?_⟩
 rcases h.2 with h|⟨k,a,c,rfl,i,f,j⟩
 ·exact .inl h
 exact .inr ⟨k,a,c,rfl,i,by rw[l.block k (aS.1 f).1 (fun e=>by cases e;exact d rfl)];exact f,j⟩
theorem qC {a n g:Nat} {e:TypeId} {cs:Array Xq} {v:Xq} (h:w.ownsRow b e a v n xs) (j:w.grownBy w' (Xa g)) (k:w.heap[g]? =Xa (Xk cs t (0,0))) (ht:t≠e):w'.ownsRow b e a v n xs:=by
 refine QE h j fun c=>?_
 rcases h.2 with⟨rfl,_⟩|⟨p,f,i,rfl,l,d,m⟩
 ·cases c
 simp only[Value.ownBlock,Option.some.injEq]at c;subst c;rw[k]at d;cases d;exact ht rfl
theorem MkR.kept (h:MkR base hi w V m vt T) {g:Nat} {cs:Array Xq} (b:w.grownBy w' (Xa g)) (d:w.heap[g]? =Xa (Xk cs t (0,0))):
  (t≠62->zb qA base w' (V.f.x) m.fs)/\(t≠3\/hi<=g->zb slE base w' (V.s.x) m.sl)/\
  (t≠60\/hi<=g\/(V.sb.x).ownBlock≠Xa g->zh base w' (V.sb.x) m.sb)/\(t≠60\/hi<=g\/(V.db.x).ownBlock≠Xa g->zh base w' (V.db.x) m.db)/\
  (t≠69->zt base w' (V.dq.x) m.dq)/\
  (t≠65->(t≠3\/g<hi)->∃e:List FlV,zb fvE base w' (V.fl.x) e/\e.length=m.fl.length/\∀(i:Nat) x f,e[i]? =Xa x->m.fl[i]? =Xa f->x.size=f.size/\zb blE hi w' x.v f.bl)/\
  (t≠93->zb jG base w' (V.ca.x) m.ca)/\
  (t≠79->t≠105->∃e:List SpV,zb ZC base w' (V.sp.x) e/\e.length=m.sp.length/\∀(i:Nat) x s,e[i]? =Xa x->m.sp[i]? =Xa s->x.live=s.live/\zb arE base w' x.ar.v s.ars/\x.tab=QF/\s.tb=qG)/\
  (t≠76->zb zb7 base w' (vt.x) T):=by
 obtain⟨e,j,l,k⟩:=h.fl;obtain⟨r,p,q,n⟩:=h.sp;refine⟨fun a=>h.fs.kind b d a,fun a=>?_,fun a=>?_,fun a=>?_,fun a=>⟨qC h.dq.1 b d a,h.dq.2⟩,fun a c=>⟨e,j.kind b d a,l,fun i x f e l=>⟨(k i x f e l).1,?_⟩⟩,fun a=>h.ca.kind b d a,fun a c=>⟨r,p.kind b d a,q,fun i x s e j=>⟨(n i x s e j).1,(n i x s e j).2.1.kind b d c,(n i x s e j).2.2⟩⟩,fun a=>h.tt.kind b d a⟩
 ·rcases a with a|a
  ·exact h.sl.kind b d a
  exact h.sl.grown b fun p n j=>by cases j;have:=h.slh _ n;omega
 ·rcases a with a|a|a
  ·exact⟨qC h.sb.1 b d a,h.sb.2⟩
  ·exact⟨QE h.sb.1 b fun j=>Hm (h.sbh _ j),h.sb.2⟩
  exact⟨QE h.sb.1 b a,h.sb.2⟩
 ·rcases a with a|a|a
  ·exact⟨qC h.db.1 b d a,h.db.2⟩
  ·exact⟨QE h.db.1 b fun j=>Hm (h.dbh _ j),h.db.2⟩
  exact⟨QE h.db.1 b a,h.db.2⟩
 rcases c with c|c
 ·exact(k i x f e l).2.kind b d c
 exact(k i x f e l).2.grown b fun p n j=>by cases j;have:=((k i x f e l).2.lt _ n).1;omega
theorem MkR.var (h:MkR base hi w V m vt T) {g:Nat} {cs:Array Xq} (p:w.grownBy w' (Xa g)) (q:w.heap[g]? =Xa (Xk cs t (0,0))) (b:w.heap.size<=w'.heap.size) (a:t=58\/(t=60/\hi<=g)):MkR base hi w' V m vt T:=by
 obtain⟨c,d,e,f,i,j,k,l,n⟩:=h.kept p q
 rcases a with rfl|⟨rfl,a⟩
 ·exact⟨nT h.hw b,h.bh,c Dc,d (.inl Dc),h.slh,e (.inl Dc),h.sbh,h.sq,f (.inl Dc),h.dbh,i Dc,j Dc (.inl Dc),k Dc,l Dc Dc,n Dc,h.ap⟩
 exact⟨nT h.hw b,h.bh,c Dc,d (.inl Dc),h.slh,e (.inr (.inl a)),h.sbh,h.sq,f (.inr (.inl a)),h.dbh,i Dc,j Dc (.inl Dc),k Dc,l Dc Dc,n Dc,h.ap⟩
theorem MkR.setF (h:MkR base hi w V m vt T) {g:Nat} (f:(V.f.x).ownBlock=Xa g) (c:w.grownBy w' (Xa g)) (e:w'.heap.size=w.heap.size) {fs:List Fr} (d:zb qA base w' (V.f.x) fs) (a:zez { m with fs:=fs }):MkR base hi w' V { m with fs:=fs } vt T:=by
 obtain⟨b,b⟩:=h.fs.obj f;obtain⟨f,f,i,j,k,l,n,p,q⟩:=h.kept c b;exact⟨Rx e h.hw,h.bh,d,f (.inl Dc),h.slh,i (.inl Dc),h.sbh,h.sq,j (.inl Dc),h.dbh,k Dc,l Dc (.inl Dc),n Dc,p Dc Dc,q Dc,⟨h.ap.1,a⟩⟩
theorem MkR.setS (h:MkR base hi w V m vt T) {g:Nat} (a:(V.s.x).ownBlock=Xa g) (c:w.grownBy w' (Xa g)) (e:w'.heap.size=w.heap.size) {b:List Int} (d:zb slE base w' (V.s.x) b):MkR base hi w' V { m with sl:=b } vt T:=by
 obtain⟨b,b⟩:=h.sl.obj a;obtain⟨f,i,i,j,k,l,n,p,q⟩:=h.kept c b;exact⟨Rx e h.hw,h.bh,f Dc,d,h.slh,i (.inl Dc),h.sbh,h.sq,j (.inl Dc),h.dbh,k Dc,l Dc (.inr (h.slh g a)),n Dc,p Dc Dc,q Dc,h.ap⟩
theorem MkR.setSb (h:MkR base hi w V m vt T) {g:Nat} {cs:Array Xq} (b:w.heap[g]? =Xa (Xk cs 60 (0,0))) (f:(V.sb.x).ownBlock=Xa g) (c:w.grownBy w' (Xa g)) (e:w'.heap.size=w.heap.size) {a:List (List Int)} (d:zh base w' (V.sb.x) a):MkR base hi w' V { m with sb:=a } vt T:=by
 obtain⟨a,i,j,j,k,l,n,p,q⟩:=h.kept c b;exact⟨Rx e h.hw,h.bh,a Dc,i (.inl Dc),h.slh,d,h.sbh,h.sq,j (.inr (.inr (h.ap.1 g f))),h.dbh,k Dc,l Dc (.inl Dc),n Dc,p Dc Dc,q Dc,h.ap⟩
theorem MkR.setDb (h:MkR base hi w V m vt T) {g:Nat} {cs:Array Xq} (c:w.heap[g]? =Xa (Xk cs 60 (0,0))) (j:(V.db.x).ownBlock=Xa g) (d:w.grownBy w' (Xa g)) (e:w'.heap.size=w.heap.size) {b:List (List Int)} (a:∀f∈m.fs,f.r=0) (i:zh base w' (V.db.x) b):MkR base hi w' V { m with db:=b } vt T:=by
 obtain⟨b,k,l,n,n,p,q,r,s⟩:=h.kept d c;exact⟨Rx e h.hw,h.bh,b Dc,k (.inl Dc),h.slh,l (.inr (.inr (fun e=>h.ap.1 g e j))),h.sbh,h.sq,i,h.dbh,n Dc,p Dc (.inl Dc),q Dc,r Dc Dc,s Dc,⟨h.ap.1,h.ap.2.bare a rfl⟩⟩
theorem MkR.setT (h:MkR base hi w V m vt T) {g:Nat} (e:(vt.x).ownBlock=Xa g) (b:w.grownBy w' (Xa g)) (d:w'.heap.size=w.heap.size) {a:List (Nat->En)} (c:zb zb7 base w' (vt.x) a):MkR base hi w' V m vt a:=by
 obtain⟨a,a⟩:=h.tt.obj e;obtain⟨e,f,i,j,k,l,n,p,q⟩:=h.kept b a;exact⟨Rx d h.hw,h.bh,e Dc,f (.inl Dc),h.slh,i (.inl Dc),h.sbh,h.sq,j (.inl Dc),h.dbh,k Dc,l Dc (.inl Dc),n Dc,p Dc Dc,c,h.ap⟩
end
structure Mk (w0:Xn) (hi:Nat) (w:Xn) (b:Nat) (vl:Sli) (L:List Int) (V:MaV) (m:Ma) (vt:Sli) (T:List (Nat->En)):Prop where
 gr:zc w0 w
 hb:w0.heap.size<=b
 box:zo w b 58 [O vl.a vl.n vl.c,O V.f.a V.f.n V.f.c,Xe Xf m.hand,O V.s.a V.s.n V.s.c,O V.sb.a V.sb.n V.sb.c,O V.sq.a V.sq.n V.sq.c,O V.db.a V.db.n V.db.c,O V.dq.a V.dq.n V.dq.c,O V.fl.a V.fl.n V.fl.c,Xe Xf m.cnt,O V.ca.a V.ca.n V.ca.c,O V.sp.a V.sp.n V.sp.c,O vt.a vt.n vt.c]
 lr:zl byE w0 (O vl.a vl.n vl.c) L
 lc:vl.n<=vl.c
 lb:∀z∈L,0<=z/\z<256
 rows:MkR w0.heap.size hi w V m vt T
theorem Mk.grew {w:Xn} (h:Mk w0 hi w b vl L V m vt T) (k:zc w w'):Mk w0 hi w' b vl L V m vt T:=⟨h.gr.trans k,h.hb,h.box.grew k,h.lr,h.lc,h.lb,h.rows.grew k⟩
theorem MkR.at {base:Nat} {w:Xn} (h:MkR base hi w V m vt T):zy w V m:=by
 obtain⟨f,a,c,b⟩:=h.fl;obtain⟨l,g,j,k⟩:=h.sp;obtain⟨d,e⟩:=h.sq;refine⟨h.fs.at,h.sl.at,h.sb.at,?_,h.db.at,h.dq.at,⟨a.cap,f,a.at.s0,c,fun i x f a c=>⟨(b i x f a c).1,(b i x f a c).2.at.s0⟩⟩,h.ca.at,⟨l,g.at,j,fun i x s a f=>?_⟩⟩
 ·rw[d,e];exact⟨⟨Xb,0,rfl,fun _=>rfl,fun x a=>by cases a⟩,Sm,Sm⟩
 obtain⟨c,b,d,e⟩:=k i x s a f;exact⟨c,b.at,b.cap,by rw[d,e];exact Qw.nil 0 0 w⟩
def frH (q:Fr) (n:Int):Fr:=if q.r+n=0 then frF else{ q with r:=q.r+n }
def zgw (fs:List Fr) (h k n:Int):Int:=if Zt fs h=0 then(if inB k fs.length && !((fs.getD k.toNat fr0).r == 0)then(if -(fs.getD k.toNat fr0).r<=n/\n<=1000 -(fs.getD k.toNat fr0).r then 0 else 3)else 5)else Zt fs h
def zfe (fs:List Fr) (h k n:Int):List Fr:=if zgw fs h k n=0 then fs.set k.toNat (frH (fs.getD k.toNat fr0) n)else []
def zpR (fs:List Fr) (h k n:Int):Int:=if zgw fs h k n=0 then h else 0
theorem ziU:∀{fs:List Fr},zbU fs=0->∀q∈fs,frW q=0
 | [],_,_,c=>by cases c
 | a :: l,h,q,c=>by
  unfold zbU at h
  by_cases b:frW a=0
  ·rw[kE b]at h
   rcases mC.1 c with rfl|c
   ·exact b
   exact ziU h q c
  rw[kF b]at h;exact absurd h b
theorem j0 {fs:List Fr} {h:Int} (a:Zt fs h=0):fs.length<=40/\(∀q∈fs,frW q=0)/\0<=h/\h<max (fs.length:Int) 1:=by
 unfold Zt at a
 by_cases b:40<fs.length
 ·rw[kE b]at a;omega
 rw[kF b]at a
 by_cases b:zbU fs=0
 ·rw[kE b]at a
  cases c:inB h (max fs.length 1)with
  | false=>rw[c]at a;simp at a
  | true=>
   unfold inB at c
   simp at c
   exact⟨Wm,ziU b,Wm,Wm⟩
 rw[kF b]at a;exact absurd a b
theorem za9 {q:Fr} (h:frW q=0):0<=q.r/\q.r<=1000:=by
 unfold frW at h
 by_cases a:(inB q.r 1001 && inB q.x 12)=Xd
 ·rw[kE a]at h;omega
 have b:inB q.r 1001=Xc:=by
  cases c:inB q.r 1001 with
  | true=>rfl
  | false=>rw[c]at a;simp at a
 unfold inB at b
 simp at b
 omega
theorem zb.frc {base:Nat} {w:Xn} {g n c:Nat} {fs:List Fr} (h:zb qA base w (O (Xa ⟨g,0,Xb⟩) n c) fs) {i:Nat} {q:Fr} (hq:fs[i]? =Xa q) (j:Nat) {u:Xq} (hu:(frv q)[j]? =Xa u):w.cell? ⟨g,i*13+j,Xb⟩=Xa u:=by
 obtain⟨a',c',he,hr⟩:=h.at.rows;obtain⟨ad,he2,hc⟩:=hr i q hq;cases he;cases he2;have:=hc w (zc.refl _) j u hu;rw[zS,Yd,zA]at this;exact this
def jW (s:List Int) (n:Int):Int:=if slW s=0 then(if 1<=n/\n<=1000 then(if s.findIdx isZ<s.length then 0 else 10)else 3)else slW s
def Ql (s:List Int) (n:Int):List Int:=if jW s n=0 then s.set (s.findIdx isZ) n else []
def zbR (s:List Int) (n:Int):Int:=if jW s n=0 then(s.findIdx isZ:Int)else 0
theorem zeM {s:List Int} {n:Int} (h:jW s n=z) (a:z≠0):Ql s n=[]/\zbR s n=0:=by
 have:jW s n≠0:=Rx h a
 exact⟨kF this,kF this⟩
theorem zcz (s:List Int) (m:Int):
  (slW s≠0/\jW s m=slW s/\Ql s m=[]/\zbR s m=0)\/(slW s=0/\¬(1<=m/\m<=1000)/\jW s m=3/\Ql s m=[]/\zbR s m=0)\/
  (slW s=0/\(1<=m/\m<=1000)/\¬s.findIdx isZ<s.length/\jW s m=10/\Ql s m=[]/\zbR s m=0)\/
  (slW s=0/\(1<=m/\m<=1000)/\s.findIdx isZ<s.length/\jW s m=0/\Ql s m=s.set (s.findIdx isZ) m/\zbR s m=(s.findIdx isZ:Int)):=by
 by_cases a:slW s=0
 ·by_cases b:1<=m/\m<=1000
  ·by_cases c:s.findIdx isZ<s.length
   ·have h:jW s m=0:=by unfold jW;rw[kE a,kE b,kE c]
    exact .inr (.inr (.inr ⟨a,b,c,h,kE h,kE h⟩))
   have h:jW s m=10:=by unfold jW;rw[kE a,kE b,kF c]
   exact .inr (.inr (.inl ⟨a,b,c,h,zeM h Dc⟩))
  have h:jW s m=3:=by unfold jW;rw[kE a,kF b]
  exact .inr (.inl ⟨a,b,h,zeM h Dc⟩)
 have h:jW s m=slW s:=by unfold jW;rw[kF a]
 exact .inl ⟨a,h,zeM h a⟩
theorem zkY (a) (c:Nat) (s:List Int) (m:Int) (w:Xn) (f:zl slE w (O a s.length c) s):
  Xp prog 127 #[O a s.length c,I6 m] w fun e w'=>∃b d,e= Xl (Xm #[.slice b (Ql s m).length d,I6 (zbR s m),I6 (jW s m)])/\qE slE w.heap.size w' (.slice b (Ql s m).length d) (Ql s m)/\zc w w':=by
 have d:=zdS a c s w f;have n:∀W,zc w W->Xp prog 146 #[O a s.length c,I6 0] W fun e w'=>e= Xl (I6 (zoj s))/\zc W w':=fun W b=>zjW _ s W (f.grew b)
 have A:∀W,zc w W->Xp prog 87 #[O a s.length c] W fun e w'=>∃y,e= Xl y/\zb slE W.heap.size w' y s/\zc W w':=fun W b=>zeq _ s W (f.grew b)
 have b:=f.short;obtain⟨B,i⟩:=kA s.length
 rcases zcz s m with⟨h,j,k,l⟩|⟨h,f,j,k,l⟩|⟨h,f,p,j,k,l⟩|⟨h,f,p,j,k,l⟩
 ·rw[j,k,l]
  generalize slW s=z at d h⊢
  have f:(z != 0)=Xc:=Si h
  rw[i.out]at d b⊢
  go_enter func127,ntmps127
  go_wp2_with fail;refine d.mono ?_;rintro e u ⟨rfl,g⟩;have f:=dD g;go_wp2;refine bodyPost_ret (v:= Xm #[eS,I6 0,I6 z]) (by simp[results,Tryz.results127,go_sem, *]) rfl ⟨Xb,0,rfl,qE.nil _ _ _,f⟩
 ·rw[h]at d;rw[j,k,l];rw[i.out]at d b⊢
  by_cases r:m<1
  ·go_enter func127,ntmps127
   go_wp2_with fail;refine d.mono ?_;rintro e u ⟨rfl,g⟩;have f:=dD g;go_wp2;refine bodyPost_ret (v:= Xm #[eS,I6 0,I6 3]) (by simp[results,Tryz.results127,go_sem, *]) rfl ⟨Xb,0,rfl,qE.nil _ _ _,f⟩
  have t:1000<m:=Wm
  go_enter func127,ntmps127
  go_wp2_with fail;refine d.mono ?_;rintro e u ⟨rfl,g⟩;have f:=dD g;go_wp2;refine bodyPost_ret (v:= Xm #[eS,I6 0,I6 3]) (by simp[results,Tryz.results127,go_sem, *]) rfl ⟨Xb,0,rfl,qE.nil _ _ _,f⟩
 ·rw[h]at d;rw[show zoj s=-1 from kF p]at n
  rw[j,k,l];rw[i.out]at d n b⊢;have r:¬m<1:=Wm
  have t:¬1000<m:=Wm
  go_enter func127,ntmps127
  go_wp2_with fail;refine d.mono ?_;rintro e u ⟨rfl,g⟩;have f:=dD g;go_wp2_with fail;refine(n _ f).mono ?_;rintro e z ⟨rfl,x⟩;have q:=dD (f.trans x);go_wp2;refine bodyPost_ret (v:= Xm #[eS,I6 0,I6 10]) (by simp[results,Tryz.results127,go_sem, *]) rfl ⟨Xb,0,rfl,qE.nil _ _ _,q⟩
 rw[h]at d;rw[show zoj s=(s.findIdx isZ:Int)from kE p]at n
 rw[j,k,l,Xx];obtain⟨h,j⟩:=kA (s.findIdx isZ);rw[j.out]at p n⊢;rw[i.out]at d n A p b⊢;have r:¬m<1:=Wm
 have t:¬1000<m:=Wm
 have b:(h:Int)< (B:Int):=Wm
 go_enter func127,ntmps127
 go_wp2_with fail;refine d.mono ?_;rintro e u ⟨rfl,g⟩;have f:=dD g;go_wp2_with fail;refine(n _ f).mono ?_;rintro e z ⟨rfl,x⟩;have q:=dD (f.trans x);go_wp2_with fail;refine(A _ q).mono ?_;rintro e b ⟨y,rfl,b,d⟩;obtain⟨g,l,rfl⟩:=b.formS (by rw[i.out];omega)
 rw[i.out]at b⊢;have j:=dD b;have k:=dD d
 go_wp2_with (refine qF (E:=slE) rfl (.tmp 30) (.tmp 29) rfl z.heap.size _ s j g h rfl m (Rx i.out p) _ rfl (by simp[slE]) _ rfl rfl ?_)
 intro b i d _;have f:=(j.lt g rfl).1;have b:=dD i;have i:=dD<|zd k d f;go_wp2;refine bodyPost_ret (v:= Xm #[O (Xa ⟨g,0,Xb⟩) B l,I6 (h:Int),I6 0]) (by simp[results,Tryz.results127,go_sem, *]) rfl ⟨_,_,rfl,b.new.base (bS q),q.trans i⟩
theorem zeK (y) (j:Nat) (h:List En) (k:Nat) (S:k<8) (x:En) (base:Nat) (w:Xn) (a:zb enE base w (O y h.length j) h) (c:base<=w.heap.size) (v:h.length=0\/h.length=8):
  Xp prog 178 #[O y h.length j,I6 (k:Int),Xi #[I6 x.kind,I6 x.n,Xh x.wr]] w fun e w'=>∃b B,e= Xl (.slice b (mk ((za7 h).set k x)).length B)/\zb enE base w' (.slice b (mk ((za7 h).set k x)).length B) (mk ((za7 h).set k x))/\w.grownBy w' (O y h.length j).ownBlock/\(∀g,(Value.slice b (mk ((za7 h).set k x)).length B).ownBlock=Xa g->(O y h.length j).ownBlock=Xa g\/w.heap.size<=g):=by
 have d:=dD a;have t:=dD c;have b:Xo (mk ((za7 h).set k x)=if Zn ((za7 h).set k x)=Xc then(za7 h).set k x else []):=rfl;clear a c;obtain⟨f,a⟩:=kB (w.alloc (Xk #[I6 x.kind,I6 x.n,Xh x.wr] 75));have p:=gA a
 have R:=xA a
 have m:=sA a
 have A:=dD a;clear a;have a:(k:Int)<8:=Wm
 rcases v with c|v
 ·have a:=List.length_eq_zero_iff.1 c;subst a;obtain⟨L,l⟩:=kA ((za7 []).set k x);have q:Xo (L.length=8):=dD<|by rw[<-l.out];simp[za7]
  rw[l.out]at b⊢
  generalize mk L=M at b⊢
  simp only[Xy]at d⊢;clear c
  go_enter func178,ntmps178
  go_upto_region 1 with fail;rw[A.out]
  go_wp2_with (refine jA enE rfl (.const (I6 8)) rfl 8 rfl Dc ?_)
  intro C s
  show wpList _ _ _ _ _ (f.alloc (Xk C 75))
  have a:zb enE f.heap.size (f.alloc (Xk C 75)) (O (Xa ⟨f.heap.size,0,Xb⟩) 8 8) (za7 []):=s;obtain⟨c,c⟩:=kB (f.alloc (Xk C 75));have r:=gA c
  rw[c]at a⊢;obtain⟨g,i⟩:=kA f.heap.size;rw[i.out]at a⊢;have D:=dD a;have f:=dD (R.grew r);have n:Xo (base<=g/\w.heap.size<=g):=show _/\_ by
   have:=m.out;have:=t.out;have:=i.out
   constructor <;> omega
  clear c s a;obtain⟨N,P,Q⟩:=f.c3
  go_wp2_with (refine qF (E:=enE) rfl (.tmp 14) (.tmp 13) rfl g _ (za7 []) D g k rfl x ?t1 ⟨g,k*3,Xb⟩ rfl rfl (Xi #[I6 x.kind,I6 x.n,Xh x.wr]) rfl rfl ?_)
  case t1=>exact S
  intro H c i u;rw[l.out]at c;have F:=dD<|c.base n.1;have z:=dD<|zd (p.trans r) i n.2
  have a:=Zv _ L H c.at;clear c i u N P Q
  generalize Zn L=C at a b
  cases C with
  | true=>
   have r:Xo (M=L):=dD<|by rw[b.out,kE rfl]
   go_wp2_with fail;refine a.mono ?_;rintro e s ⟨rfl,f⟩;have m:Xo (w.grownBy s _):=show World.grownBy _ _ (Value.ownBlock (O y 0 j))from zbE (z.trans f) _
   have G:=dD (F.grew f);clear f a;go_wp2;go_ret;rw[r.out,q.out];exact⟨Xa ⟨g,0,Xb⟩,8,rfl,G,m,fun K t=> .inr (by cases t;exact n.2)⟩
  | false=>
   have r:Xo (M=[]):=dD<|by rw[b.out,kF Dc]
   go_wp2_with fail;refine a.mono ?_;rintro e s ⟨rfl,f⟩;have m:Xo (w.grownBy s _):=show World.grownBy _ _ (Value.ownBlock (O y 0 j))from zbE (z.trans f) _
   clear f a;go_wp2;go_ret;rw[r.out];exact⟨Xb,0,rfl,zb.nil _ _ _,m,fun K t=>by cases t⟩
 obtain⟨L,l⟩:=kA ((za7 h).set k x);have n:Xo (za7 h=h):=dD<|by unfold za7;rw[kF Wm]
 have q:Xo (L.length=8):=dD<|by rw[<-l.out,n.out];simp[v]
 rw[l.out]at b⊢
 generalize mk L=M at b⊢
 have y:=dD v;obtain⟨g,B,B⟩:=d.formS Wm
 cases B;rw[v]at d⊢;clear v
 go_enter func178,ntmps178
 go_upto_region 1 with fail;rw[A.out];have D:=dD (d.grew p);obtain⟨N,P,Q⟩:=R.c3
 go_wp2_with (refine qF (E:=enE) rfl (.tmp 14) (.tmp 13) rfl base _ h D g k rfl x ?t1 ⟨g,k*3,Xb⟩ rfl rfl (Xi #[I6 x.kind,I6 x.n,Xh x.wr]) rfl rfl ?_)
 case t1=>rw[y.out];exact S
 intro H c i u;rw[n.out]at l;rw[l.out]at c;have F:=dD c;have z:=dD<|jD (zbE p _) i
 have a:=Zv _ L H c.at;clear c i u N P Q
 generalize Zn L=C at a b
 cases C with
 | true=>
  have r:Xo (M=L):=dD<|by rw[b.out,kE rfl]
  go_wp2_with fail;refine a.mono ?_;rintro e s ⟨rfl,f⟩;have m:Xo (w.grownBy s _):=show World.grownBy _ _ (Value.ownBlock (O (Xa ⟨g,0,Xb⟩) 8 j))from jD z (zbE f _)
  have G:=dD (F.grew f);clear f a;go_wp2;go_ret;rw[r.out,q.out];exact⟨Xa ⟨g,0,Xb⟩,j,rfl,G,m,fun K t=> .inl t⟩
 | false=>
  have r:Xo (M=[]):=dD<|by rw[b.out,kF Dc]
  go_wp2_with fail;refine a.mono ?_;rintro e s ⟨rfl,f⟩;have m:Xo (w.grownBy s _):=show World.grownBy _ _ (Value.ownBlock (O (Xa ⟨g,0,Xb⟩) 8 j))from jD z (zbE f _)
  clear f a;go_wp2;go_ret;rw[r.out];exact⟨Xb,0,rfl,zb.nil _ _ _,m,fun K t=>by cases t⟩
theorem zeY:∀v∈QF,v.oneCell'=Xc:=fun v a=>by
 rw[QF,List.mem_replicate]at a;rw[a.2];rfl
theorem zk6 (t:List (List En)) (n:Int) (x):
  (tbW t≠0/\zg9 t n x=tbW t/\zhr t n x=qG)\/
  (tbW t=0/\¬(0<=n/\n<64)/\zg9 t n x=3/\zhr t n x=qG)\/
  (tbW t=0/\(0<=n/\n<64)/\enW x≠0/\zg9 t n x=enW x/\zhr t n x=qG)\/
  (tbW t=0/\(0<=n/\n<64)/\enW x=0/\zg9 t n x=0/\zhr t n x=zkH t n.toNat x):=by
 by_cases a:tbW t=0
 ·by_cases b:0<=n/\n<64
  ·have e:zg9 t n x=enW x:=by unfold zg9;rw[kE a,kE b]
   by_cases c:enW x=0
   ·exact .inr (.inr (.inr ⟨a,b,c,e.trans c,by unfold zhr;rw[kE (e.trans c)]⟩))
   exact .inr (.inr (.inl ⟨a,b,c,e,by unfold zhr;rw[kF (Rx e c)]⟩))
  have e:zg9 t n x=3:=by unfold zg9;rw[kE a,kF b]
  exact .inr (.inl ⟨a,b,e,by unfold zhr;rw[kF (by rw[e];decide)]⟩)
 have e:zg9 t n x=tbW t:=by unfold zg9;rw[kF a]
 exact .inl ⟨a,e,by unfold zhr;rw[kF (Rx e a)]⟩
theorem zk7 (vs:List Xq) (t:List (List En)) (n:Int) (x:En) (w:Xn) (r:Je w vs t):
  Xp prog 166 #[Xi vs.toArray,I6 n,Xi #[I6 x.kind,I6 x.n,Xh x.wr]] w fun e w'=>∃k,e= Xl (Xm #[Xi k.toArray,I6 (zg9 t n x)])/\Qw 0 w.heap.size w' k (zhr t n x)/\zc w w':=by
 have G:=dD r.len;have H:=dD r.tlen;have j:∀W,zc w W->Xp prog 112 #[Xi vs.toArray] W fun e w'=>e= Xl (I6 (tbW t))/\zc W w':=fun W a=>zcr vs t W (r.grew a)
 have N:∀W,zc w W->Xp prog 126 #[Xi vs.toArray] W fun e w'=>∃k,e= Xl (Xi k.toArray)/\jv (W.heap.size+2) w' k t/\zc W w'/\W.heap.size+2<=w'.heap.size:=fun W a=>zf9 vs t W (r.grew a)
 have v:=fun W=>zaf x.kind x.n x.wr W
 clear r;obtain⟨z,a⟩:=kB (((w.alloc (Xk vs.toArray 72)).alloc (Xk #[I6 x.kind,I6 x.n,Xh x.wr] 75)).alloc (Xk #[eS,eS,eS,eS,eS,eS,eS,eS] 72));have b:Xo (zc w z):=dD<|by rw[<-a];exact((za _ _).trans (za _ _)).trans (za _ _)
 have A:Xo (Box z w.heap.size vs):=dD<|by rw[<-a];exact((Box.top w _ _ rfl).alloc _).alloc _
 have S:Xo (Box z (w.heap.size+1) [I6 x.kind,I6 x.n,Xh x.wr]):=dD<|by rw[<-a];exact(Box.top _ _ _ Sm).alloc _
 have V:Xo (Box z (w.heap.size+2) QF):=dD<|by rw[<-a];exact Box.top _ QF _ Sm
 have y:=dD a;clear a
 rcases zk6 t n x with⟨l,d,f⟩|⟨l,g,d,f⟩|⟨l,g,R,d,f⟩|⟨l,g,R,d,f⟩
 ·rw[d,f];have q:(tbW t != 0)=Xc:=Si l
  clear d f l N v
  generalize tbW t=s at j q⊢
  go_enter func166,ntmps166
  go_upto_region 1 with fail;rw[y.out]
  go_wp2_with (refine qt rfl (.tmp 3) rfl w.heap.size rfl A G.out ?_)
  refine(j z b).mono ?_;rintro e K ⟨rfl,a⟩;have C:=dD (b.trans a);have M:=dD (A.grew a);have B:=dD (S.grew a);have D:=dD (V.grew a);clear a j
  go_wp2_with (refine zr rfl 72 (.tmp 6) (.tmp 15) rfl (w.heap.size+2) rfl QF rfl D rfl zqy zeY ?_)
  intro L h i P;have E:=dD h;have F:Xo (zc w L):=show zc _ _ from zd C i Sm
  clear h i P;go_wp2;refine bodyPost_ret (qL rfl _ rfl E underlying72 rfl zqy) rfl ⟨QF,rfl,Qw.nil _ _ _,F⟩
 ·rw[d,f];rw[l]at j;have Q:=fun W=>zbj (m:=n) (n:=64) g W
  clear d f l g N v
  go_enter func166,ntmps166
  go_upto_region 1 with fail;rw[y.out]
  go_wp2_with (refine qt rfl (.tmp 3) rfl w.heap.size rfl A G.out ?_)
  refine(j z b).mono ?_;rintro e K ⟨rfl,a⟩;have C:=dD (b.trans a);have M:=dD (A.grew a);have B:=dD (S.grew a);have D:=dD (V.grew a);clear a j;go_wp2_with fail;refine(Q _).mono ?_;rintro e w' ⟨rfl,c⟩;rw[c];clear c w'
  go_wp2_with (refine zr rfl 72 (.tmp 6) (.tmp 20) rfl (w.heap.size+2) rfl QF rfl D rfl zqy zeY ?_)
  intro L h i P;have E:=dD h;have F:Xo (zc w L):=show zc _ _ from zd C i Sm
  clear h i P;go_wp2;refine bodyPost_ret (qL rfl _ rfl E underlying72 rfl zqy) rfl ⟨QF,rfl,Qw.nil _ _ _,F⟩
 ·rw[d,f];rw[l]at j;have Q:=fun W=>QP (m:=n) (n:=64) g.1 g.2 W
  change ∀W,Xp prog 163 _ W fun e w'=>e= Xl (I6 (enW x))/\zc W w' at v
  have q:(enW x != 0)=Xc:=Si R
  clear d f l g R N
  generalize enW x=s at v q⊢
  go_enter func166,ntmps166
  go_upto_region 1 with fail;rw[y.out]
  go_wp2_with (refine qt rfl (.tmp 3) rfl w.heap.size rfl A G.out ?_)
  refine(j z b).mono ?_;rintro e K ⟨rfl,a⟩;have C:=dD (b.trans a);have M:=dD (A.grew a);have B:=dD (S.grew a);have D:=dD (V.grew a);clear a j;go_wp2_with fail;refine(Q _).mono ?_;rintro e w' ⟨rfl,c⟩;rw[c];clear c w';obtain⟨Z,d,f⟩:=B.c3;go_wp2_with fail;refine(v K).mono ?_;rintro e s ⟨rfl,u⟩;have U:=dD (C.trans u);have a3:=dD (M.grew u);have a0:=dD (B.grew u);have X:=dD (D.grew u);clear u v Z d f
  go_wp2_with (refine zr rfl 72 (.tmp 6) (.tmp 25) rfl (w.heap.size+2) rfl QF rfl X rfl zqy zeY ?_)
  intro L h i P;have E:=dD h;have F:Xo (zc w L):=show zc _ _ from zd U i Sm
  clear h i P;go_wp2;refine bodyPost_ret (qL rfl _ rfl E underlying72 rfl zqy) rfl ⟨QF,rfl,Qw.nil _ _ _,F⟩
 rw[d,f];rw[l]at j;have Q:=fun W=>QP (m:=n) (n:=64) g.1 g.2 W
 change ∀W,Xp prog 163 _ W fun e w'=>e= Xl (I6 (enW x))/\zc W w' at v
 rw[R]at v;obtain⟨i,W,Y,ag,F,h,h,h,h,L,a4⟩:=zd7 g.1 g.2;obtain⟨q,E⟩:∃q,Xo (t[i]? =Xa q):=⟨_,gE (Rx H.out Y)⟩
 have ae:Xo (q.length=0\/q.length=8):=dD<|by
  rcases Zd.1 l q (mG E)with h|⟨h,_⟩
  ·exact .inl (Rr h)
  exact .inr h
 have P:Xo (zkH t n.toNat x=t.set i (mk ((za7 q).set W x))):=dD<|by
  unfold zkH;rw[L,a4,E.out];rfl
 rw[P.out];obtain⟨T,P⟩:=kA (mk ((za7 q).set W x));rw[P.out];have a5:=g.1;have a5:(i:Int)<8:=Wm
 clear d f l g R F L a4
 go_enter func166,ntmps166
 go_upto_region 1 with fail;rw[y.out]
 go_wp2_with (refine qt rfl (.tmp 3) rfl w.heap.size rfl A G.out ?_)
 refine(j z b).mono ?_;rintro e K ⟨rfl,a⟩;have C:=dD (b.trans a);have M:=dD (A.grew a);have B:=dD (S.grew a);have D:=dD (V.grew a);clear a j;go_wp2_with fail;refine(Q _).mono ?_;rintro e w' ⟨rfl,c⟩;rw[c];clear c w';obtain⟨Z,d,f⟩:=B.c3;go_wp2_with fail;refine(v K).mono ?_;rintro e s ⟨rfl,u⟩;have U:=dD (C.trans u);have a3:=dD (M.grew u);have a0:=dD (B.grew u);have X:=dD (D.grew u);clear u v Z d f
 go_wp2_with (refine qt rfl (.tmp 3) rfl w.heap.size rfl a3 G.out ?_)
 refine(N s U).mono ?_;rintro e g ⟨k,rfl,b,d,j⟩;have a:=dD b;have f:=dD d;have D:=dD j;have c:=dD X.lt;clear b d j N;obtain⟨K,d⟩:=kA g.heap.size
 go_wp2_with (refine zr rfl 72 (.tmp 10) (.tmp 28) rfl g.heap.size rfl k rfl (Box.top g QF 72 rfl) a.len zqy a.new.one ?_)
 intro u j l v;rw[d.out]at j l⊢;have aa:=dD j;have b:Xo (zc g u):=show zc _ _ from zd (za g _) l (by rw[d.out];exact nR _)
 have F:=dD j.lt;clear j l v;have G:=dD (a.grew b);have A:=dD ((a0.grew f).grew b);have af:=dD ((X.grew f).grew b);have ad:=dD ((U.trans f).trans b);have N:Xo (∀(j:Nat) C,k[j]? =Xa C->∀g,C.ownBlock=Xa g->s.heap.size+2<=g/\g<K):=show∀(j:Nat) C,_ from fun j C S g b=>by
  obtain⟨y,M⟩:∃y,t[j]? =Xa y:=⟨_,gE (by rw[H.out,<-a.len];exact(gS.1 S).1)⟩
  rw[<-d.out];exact(a.row j C y S M).lt g b
 obtain⟨v,z,f,a,l,b⟩:=G.half Y;obtain rfl:q=f:=by rw[E.out]at a;cases a;rfl
 have f:=dD l;have a9:=dD b;clear a l b;go_upto_region 10 with fail;obtain⟨g,H,a,a,Q⟩:∃g,(∀a,(O v q.length z).ownBlock=Xa a->a=g)/\g≠K/\s.heap.size+2<=g/\((O v q.length z).ownBlock=Xb->u.heap.size<=g):=by
  cases U:(O v q.length z).ownBlock with
  | none=>exact⟨u.heap.size,fun a h=>(by cases h),Hm F.out,by have:=F.out;have:=d.out;have:=D.out;omega,fun _=>nR _⟩
  | some g=>
   have:=N.out i _ f g U;exact⟨g,fun a h=>by cases h;rfl,Wm,Wm,fun h=>by cases h⟩
 have X:Xo (s.heap.size+2<=u.heap.size):=dD<|by have:=F.out;have:=d.out;have:=D.out;omega
 obtain⟨b,E⟩:=Wq fun w=>Out g (g+1) u w
 obtain⟨nq,L⟩:=kA q.length;rw[L.out]at H Q f a9;have a5:∀y:zj b,y.world.cell? ⟨K,i,Xb⟩=Xa (O v nq z):=fun y=>(aa.out.out ((E _).1 y.holds) Wm).c i f.out
 have l:w.heap.size+1<g:=Hm c.out
 have a6:∀y:zj b,y.world.cell? ⟨w.heap.size+1,0,Xb⟩=Xa (I6 x.kind):=fun y=>(A.out.out ((E _).1 y.holds) Wm).c 0 rfl
 have a7:∀y:zj b,y.world.cell? ⟨w.heap.size+1,1,Xb⟩=Xa (I6 x.n):=fun y=>(A.out.out ((E _).1 y.holds) Wm).c 1 rfl
 have a8:∀y:zj b,y.world.cell? ⟨w.heap.size+1,2,Xb⟩=Xa (Xh x.wr):=fun y=>(A.out.out ((E _).1 y.holds) Wm).c 2 rfl
 have R:Nonempty (zj b):=⟨⟨u,(E _).2 (Out.refl _ _ _)⟩⟩;obtain⟨B,V⟩:=kA T.length;refine qX (I:=b) 11 [(9,⟨fun A=>∃Z a4,A= O Z B a4,fun A w'=>zb enE (s.heap.size+2) w' A T/\∀a,A.ownBlock=Xa a->(O v nq z).ownBlock=Xa a\/u.heap.size<=a,fun w w'=>w.grownBy w' (O v nq z).ownBlock,fun w=>zb enE (s.heap.size+2) w (O v nq z) q/\u.heap.size<=w.heap.size⟩)] ((E _).2 (Out.drew _)) z6 Kr rfl rfl Dc ?hS ?hp ?hpre ?hpr0 ?_
 case hS=>
  intro y M
  simp at M
  subst M;exact⟨_,Xb,0,rfl⟩
 case hp=>
  intro ab ah j ac b M l _ A w w' y a0;have a0:=(zbz b).1;have a3:=(zbz M).1;exact absurd (a3.trans a0.symm) l
 case hpre=>
  intro j ac ab ah M b l w w' y y;have a0:=(zbz b).1;have a3:=(zbz M).1;exact absurd (a3.trans a0.symm) l
 case hpr0=>
  intro ab ac b;obtain⟨rfl,rfl⟩:=zbz b;exact⟨a9.grew (gW _),nR _⟩
 simp only[Yq,Yr];iterate 9 refine zN ?_
 refine zV rfl rfl (fun w' a3 y a0=>?_) (fun b r=>?_)
 ·refine zJ.call [O v nq z,I6 (W:Int),Xi #[I6 x.kind,I6 x.n,Xh x.wr]] rfl func178 rfl rfl rfl ?_;have l:zb enE (s.heap.size+2) w' (O v nq z) q/\u.heap.size<=w'.heap.size:=y;have b:=zeK v z q W ag x (s.heap.size+2) w' (Rx L.out l.1) (nT X l.2) ae.out
  rw[L.out,P.out,V.out]at b;refine b.mono ?_;rintro e b ⟨Z,a4,rfl,q,b,U⟩;refine⟨_,rfl,(E _).2 (((E _).1 a3).trans (Out.grown b (fun a h=>Hm (H a h)))),b,⟨Z,a4,rfl⟩,q,fun a b=>?_⟩
  rcases U a b with h|h
  ·exact .inl h
  exact .inr (nT l.2 h)
 obtain⟨y,L,rfl⟩:=r;refine Uq ?_;refine zN ?_
 refine j2 fun P V a0=>?_
 have W:zb enE (s.heap.size+2) P (O y B L) T/\∀a,(O y B L).ownBlock=Xa a->(O v nq z).ownBlock=Xa a\/u.heap.size<=a:=a0 9;have l:Xo (Out g (g+1) u P):=(E _).1 V;have q:Xo (jv (s.heap.size+2) P (k.set i (O y B L)) (t.set i T)):=G.one Y f (by
  cases U:(O v nq z).ownBlock with
  | none=>exact⟨l.os,l.tape,l.output,l.size,fun j M _=>l.block j M (.inl (Ye M (Q U)))⟩
  | some g=>
   have:=H g U;subst this;exact⟨l.os,l.tape,l.output,l.size,fun j M R=>l.block j M (by
    have:j≠g:=fun e=>R (by rw[e])
    omega)⟩) W.1 W.2
 have u:Xo (∀(j:Nat) C,(k.set i (O y B L))[j]? =Xa C->∀a,C.ownBlock=Xa a->K≠a):=dD<|fun j C S a b=>by
  by_cases e:j=i
  ·subst e;rw[sF (by rw[G.len];exact Y)]at S
   cases S
   rcases W.2 a b with h|h
   ·have:=N.out j _ f a h;omega
   have:=F.out;omega
  rw[sN (fun h=>e h.symm)]at S
  have:=N.out j C S a b;omega
 have v:Xo (Box P K k):=aa.out.out l Wm
 have E:Xo (Box P (w.heap.size+2) QF):=af.out.out l (Hm c.out)
 have z:Xo (zc w P):=dD<|Out.grew_of ad (Hm c.out) l.out
 clear a0 a5 a6 a7 a8 V R W H Q;have H:=v.c i f.out;have M:=v.f;go_upto_region 11 with fail;have hlen:(k.set i (O y B L)).length=8:=Rx Xx G.len
 have g:=dD hlen;clear hlen;obtain⟨l,f⟩:=kB (P.setCell ⟨K,i,Xb⟩ (O y B L));have C:Xo (Box l K (k.set i (O y B L))):=show Box _ _ _ by rw[<-f];exact v.set i _
 have F:Xo (Box l (w.heap.size+2) QF):=dD<|by rw[<-f];exact E.other (by have:=d.out;have:=D.out;have:=c.out;simp;omega) _
 have v:Xo (zc w l):=dD<|by rw[<-f];exact Below.setCell z (p:=⟨K,i,Xb⟩) (by have:=d.out;have:=D.out;have:=c.out;simp;omega) _
 have d:Xo (jv (s.heap.size+2) l (k.set i (O y B L)) (t.set i T)):=dD<|by
  rw[<-f];exact⟨q.len,q.tlen,fun j A h r l=>(q.row j A h r l).setOther (fun a b=>u.out j A r a b) _,q.two⟩
 rw[f];clear f H M
 go_wp2_with (first | refine qt rfl (.tmp 10) rfl K rfl C g.out ?_ | refine zr rfl 72 (.tmp 6) (.tmp 40) rfl (w.heap.size+2) rfl _ rfl F g zqy d.new.one ?_)
 intro q s f C;have u:=dD s;have z:Xo (zc w q):=show zc _ _ from zd v f Sm
 have v:Xo (Qw 0 w.heap.size q (k.set i (O y B L)) (t.set i T)):=show Qw _ _ _ _ _ from
  ⟨d.len,d.tlen,fun j A h r l=>(((d.row j A h r l).grown f (fun a b e=>by
   cases e;have:=((d.row j A h r l).lt _ b).1;have:=c.out
   omega)).new.stays).less (nR _) (Hm c.out)⟩
 clear s f C;go_wp2;refine bodyPost_ret (qL rfl _ rfl u underlying72 rfl (Rx g.out zqy)) rfl ⟨_,rfl,v,z⟩
def chL (V:MaV) (m:Ma):List Xq:=[O V.f.a V.f.n V.f.c,Xe Xf m.hand,O V.s.a V.s.n V.s.c,O V.sb.a V.sb.n V.sb.c,O V.sq.a V.sq.n V.sq.c,O V.db.a V.db.n V.db.c,O V.dq.a V.dq.n V.dq.c,O V.fl.a V.fl.n V.fl.c,Xe Xf m.cnt,O V.ca.a V.ca.n V.ca.c,O V.sp.a V.sp.n V.sp.c]
theorem qD.grown {D:Nat->Prop} {w:Xn} (a:w.grownBy w' (Xa b)) (h:D b):qD D w w':=
 ⟨a.os,a.tape,a.output,a.size,fun k d c=>a.block k d (fun e=>by cases e;exact c h)⟩
theorem zo.outD {D:Nat->Prop} {w:Xn} {cs:List Xq} (h:zo w b t cs) (k:qD D w w') (a:¬D b):zo w' b t cs:=(k.block b h.box.lt a).trans h
theorem Qw.outD {D:Nat->Prop} {w:Xn} {t:List (List En)} (h:Qw 0 B w us t) (a:∀k,D k->k<B) (k:qD D w W):Je W us t:=
 (h.out ⟨k.os,k.tape,k.output,k.size,fun i b c=>k.block i b (fun e=>Hm (a i e))⟩).now
def zpW (m:Ma) (q:Nat) (n:Int):En:=zeh (m.sp.getD q ⟨Xd,[],[]⟩).tb n
def JU (m:Ma) (q:Nat) (n:Int) (e:En):Ma:={ m with sp:=m.sp.set q { m.sp.getD q ⟨Xd,[],[]⟩with tb:=zhr (m.sp.getD q ⟨Xd,[],[]⟩).tb n e } }
theorem Sp.getD_of {l:List Sp} {q:Nat} {s d:Sp} (h:l[q]? =Xa s):l.getD q d=s:=by
 rw[gD,h];rfl
section
variable{I:Xn->Prop} {P:Program} {ops:Array Oper} {S:Nat->Option (Xq->Prop)} {Q:Act->Xn->Prop}
variable(I P ops S Q)in
abbrev zcd:List Oper->Nat->(Xn->Prop)->Act->Prop:=Ju I P ops S (fun _=>Xd) Q
theorem zQ {Q:Exit->Act->Xn->Prop} {a:Act} {w:Xn} {L l r:List Oper} (T:Nat) (S:List (Nat ×(Xq->Prop))) (F:Xn->Prop) (e:I w.drew) (d:F w.drew) (j:P.follows .mixedOrders=Xc) (c:Qu L.toArray T=Xc) (g:L.take T=l) (m:L.drop T=r) (f:T<=L.length)
  (hS:∀x∈S,∃v,x.2 v) (b:((S.map (·.1)).all fun i=>(S.map (·.1)).all fun k=>!decide (i<k) || anc L.toArray 9 i k)=Xc)
  (h:zcd I P L.toArray (fun k=>S.lookup k) (fun a w=>wpList P L.toArray Q r a w) l 0 F a):(Code.region id L.toArray Xc).wp P Q a w:=
 Zg T S [] F e d j c g m f hS (Si b) rfl h
variable{o:Oper} {rest:List Oper} {k:Nat} {F:Xn->Prop} {a:Act}
theorem zL (ht:zmW o=Xc) (b:Xs o (yielded ops a.tmps)=Xc) (hS:S k=Xb)
  (h:∀K:Act->Prop,(∀a,zcd I P ops S Q rest (k+1) F a->K a)->o.quiet P a (fun w'=>∃x:zj I,w'=x.world) K):zcd I P ops S Q (o :: rest) k F a:=zY ht b hS h
theorem zz{P Q:Prop}(k:Q)(h:Go.RowKit.Hid Q->P:=by intro h;refine zL rfl rfl rfl (fun K a=>?_);go_big_quiet_op;exact a _ h.out):P:=h k
theorem ZU (b:Xs o (yielded ops a.tmps)=Xd) (h:zcd I P ops S Q rest (k+1) F (a.put o.dst undef)):zcd I P ops S Q (o :: rest) k F a:=JI b h
theorem zI {s:Xq->Prop} (c:Xs o (yielded ops a.tmps)=Xc) (hS:S k=Xa s) (p:Xq->Xn->Prop)
  (h:∀w,I w->F w->zJ P o a w fun v w'=>I w'/\s v/\p v w')
  (b:∀v,s v->zcd I P ops S Q rest (k+1) (p v) (a.put o.dst v)):zcd I P ops S Q (o :: rest) k F a:=QH c hS p h b
theorem z4 (x p) (b:o.op= .nilCheck x) (d:a.eval x= Xj (Xa p)) (c:Xs o (yielded ops a.tmps)=Xc) (hS:S k=Xb) (h:zcd I P ops S Q rest (k+1) F (a.put o.dst (Xj (Xa p)))):zcd I P ops S Q (o :: rest) k F a:=ZT x p b d c hS h
theorem qJ (h:∀w,I w->F w->Q a w):zcd I P ops S Q [] k F a:=Qq h
theorem znD (v) (b:Xs o (yielded ops a.tmps)=Xc) (hS:S k=Xb) (h:∀w,I w->(execOp a.eval o).run P w= .ok (.value v) w) (c:zcd I P ops S Q rest (k+1) F (a.put o.dst v)):zcd I P ops S Q (o :: rest) k F a:=za4 b hS (fun w b _=>h w b) c
end
def QT (L L':List Int):Prop:=L=[]->L'=[]
theorem QT.refl (L):QT L L:=fun h=>h
theorem QT.trans {A B C:List Int} (h:QT A B) (k:QT B C):QT A C:=fun e=>k (h e)
theorem zqK:(Tryz.prog.info? 5).map (·.size)=Xa 1:=by kernel_rfl
theorem ziy {w:Xn} {ad:Addr} {n c:Nat}:(Instr.sliceAt 24 (O (Xa ad) (n+1) c) (Xa (I6 1)) Xb Xb).run prog w= .ok (O (Xa (if c=1 then ad else ad.add 1)) n (c - 1)) w:=by
 have f:(Go.sizeOf 5).run prog w= .ok 1 w:=by
  obtain⟨a,b,e⟩:∃a,Tryz.prog.info? 5=Xa a/\a.size=1:=by
   have:=zqK
   cases d:Tryz.prog.info? 5 with
   | none=>rw[d]at this;cases this
   | some a=>rw[d]at this;exact⟨a,rfl,by simpa using this⟩
  simp[Go.sizeOf,typeInfo,b,e]
 have b:(0:Int)<=1/\(1:Int)<=((n+1:Nat):Int):=Wm
 simp only[Instr.sliceAt,Instr.slice,Instr.sliceBounds,Instr.sliceBound,asIntOf,Xu,Xv,rA,run_underlying underlying24];rw[kE b];simp only[Xv,rA,f]
 by_cases a:c=1
 ·simp[a]
 simp[a]
theorem qB {w:Xn} (n:Int) (j:Mk w0 hi w b vl L V m vt T):
  Xp prog 15 #[Xj (Xa ⟨b,0,Xb⟩),I6 n] w fun e w'=>∃G g x,e= Xl (I6 x)/\Mk w0 hi w' b G g V m vt T/\w.grownBy w' (Xa b)/\w'.heap.size=w.heap.size/\0<=x/\(x=0\/x<n)/\(L=[]->x=0)/\QT L g:=by
 have d:=dD j;have p:=j.box.box;have a2:=p.c 0 rfl;have a9:=p.f;have h:=j.lr.n;clear p;obtain⟨⟨a5,v,f⟩,E⟩:∃a1:Sli,vl=a1:=⟨_,rfl⟩;subst E;dsimp only[Sli.x]at a2 h d;clear j
 by_cases y:v=0
 ·subst y;clear h
  go_enter func15,ntmps15
  go_wp2;go_ret;exact⟨_,L,0,rfl,d,World.grownBy.rfl' _ _,rfl,Int.le_refl _,.inl rfl,fun _=>rfl,QT.refl L⟩
 have R:((v:Int) == 0)=Xd:=by simp;omega
 have S:(v == 0)=Xd:=by simp[y]
 by_cases a4:n<1
 ·clear y h
  go_enter func15,ntmps15
  go_wp2;go_ret;exact⟨_,L,0,rfl,d,World.grownBy.rfl' _ _,rfl,Int.le_refl _,.inl rfl,fun _=>rfl,QT.refl L⟩
 obtain⟨z,g,rfl⟩:∃z g,L=z :: g:=by
  cases L with
  | nil=>simp at h;omega
  | cons z g=>exact⟨z,g,rfl⟩
 have X:=d.lb z Sm
 obtain⟨Y,Z⟩:=X;obtain⟨r,rfl,K⟩:=d.lr.rowsAt 0 z rfl;have a3:w.cell? r=Xa (U8 z):=by
  have:=K w d.gr 0 _ rfl;rw[zS]at this
  simpa [byE,Addr.add]using this
 obtain⟨k,rfl⟩:∃k,v=k+1:=⟨v - 1,Wm⟩
 have s:k+1<=f:=d.lc;have u:=ziy (w:=w) (ad:=r) (n:=k) (c:=f);clear y K;have W:(0:Int)< ((k+1:Nat):Int):=Wm
 obtain⟨a,i⟩:∃a,(if f=1 then r else r.add 1)=a:=⟨_,rfl⟩;rw[i]at u;have C:Xo (zl byE w0 (O (Xa a) k (f - 1)) g):=dD<|by
  obtain⟨⟨a7,a8,M,a6,I⟩,N⟩:=d.lr;dsimp only[Sli.x]at M;cases M;have a0:=I r rfl;refine⟨⟨Xa a,f - 1,rfl,fun j=>(by cases j),fun Q F=>?_⟩,?_⟩
  ·cases F
   by_cases U:f=1
   ·have:g=[]:=by
     have:g.length=0:=Wm
     exact eN this
    subst this;intro A P t
    simp at t
   rw[kF U]at i;subst i;intro A P t;rw[zS,Nat.add_comm 1 A];exact a0 (A+1) P (by simpa [byE]using t)
  have:byE.bytes=1:=rfl;rw[this]at N⊢
  simp at N⊢
  omega
 have B:Xo (zo (w.setCell ⟨b,0,Xb⟩ (O (Xa a) k (f - 1))) b 58 [O (Xa a) k (f - 1),V.f.x,I6 m.hand,V.s.x,V.sb.x,V.sq.x,V.db.x,V.dq.x,V.fl.x,I6 m.cnt,V.ca.x,V.sp.x,vt.x]):=d.box.set 0 _;have l:Xo (w.grownBy (w.setCell ⟨b,0,Xb⟩ (O (Xa a) k (f - 1))) (Xa b)):=⟨rfl,rfl,rfl,by simp[World.setCell],fun A _ t=>Below.heap_setCell _ _ _ _ (fun e=>t (by rw[e]))⟩
 have q:Xo ((w.setCell ⟨b,0,Xb⟩ (O (Xa a) k (f - 1))).heap.size=w.heap.size):=dD<|by simp[World.setCell]
 have D:Xo (Mk w0 hi (w.setCell ⟨b,0,Xb⟩ (O (Xa a) k (f - 1))) b ⟨Xa a,k,f - 1⟩ g V m vt T):=show Mk _ _ _ _ _ _ _ _ _ _ from
  ⟨zd d.gr l d.hb,d.hb,B,C,(show k<=f - 1 by omega),fun Q F=>d.lb Q (by simp[F]),d.rows.var l d.box (Nat.le_of_eq q.symm) (.inl rfl)⟩
 have H:Xo (0<=z % n/\z % n<n):=dD<|⟨Int.emod_nonneg _ Wm,Int.emod_lt_of_pos _ Wm⟩
 clear h s i
 go_enter func15,ntmps15
 go_wp2;go_ret;exact⟨_,g,z % n,rfl,D,l,q,H.1,.inr H.2,fun j=>(by cases j)⟩
theorem zcL (q:List Int) (i:Nat) (z:Int):pgc (q.set i z)=(pgc q).set i (U8 z):=by
 unfold pgc;rw[List.map_set]
theorem zd5 {q:List Int} {i:Nat} (h:q[i]? =Xa z):(pgc q)[i]? =Xa (U8 z):=by
 unfold pgc;rw[Yx,h];rfl
theorem zqL:(Tryz.prog.info? 60).map (·.size)=Xa 8:=by kernel_rfl
theorem zch {w:Xn} (j:Mk w0 hi w b vl L V m vt T):
  Xp prog 18 #[Xj (Xa ⟨b,0,Xb⟩)] w fun e w'=>∃c f q,e= Xl (Xi (pgc q).toArray)/\q.length=8/\Mk w0 hi w' b c f V m vt T/\w.grownBy w' (Xa b)/\QT L f:=by
 have y:=dD j;obtain⟨g,a⟩:=kB ((w.alloc (Xk #[U8 0,U8 0,U8 0,U8 0,U8 0,U8 0,U8 0,U8 0] 60)).alloc (Xk #[U8 0,U8 0,U8 0,U8 0,U8 0,U8 0,U8 0,U8 0] 60));have d:=gD2 a
 have h:Xo (zo g w.heap.size 60 (pgc zp)):=dD<|by rw[<-a];exact(zo.top _ (pgc zp) _ rfl).grew (za _ _)
 have i:Xo (zo g (w.heap.size+1) 60 (pgc zp)):=dD<|by rw[<-a];exact zo.top _ (pgc zp) _ Sm
 have s:=dD j.box.box.lt
 have C:=dD j.rows.hw
 have g:=dD a;clear a j
 go_enter func18,ntmps18
 go_upto_region 2 with fail;rw[g.out];go_wp2
 go_loopg [5] 8 (fun g k wr=>∃(a:Nat) (c:Sli) (f q:List Int),a<=8/\8 - a<=g/\k=I6 a/\Xo (w.grownBy wr (Xa b))/\Xo (Mk w0 hi wr b c f V m vt T)/\Xo (zo wr w.heap.size 60 (pgc zp))/\Xo (zo wr (w.heap.size+1) 60 (pgc q))/\Xo (q.length=8)/\Xo (QT L f))
 exact⟨0,vl,L,zp,nZ _,Wm,rfl,zbE d _,y.grew d,h,i,(show zp.length=8 from rfl),QT.refl L⟩
 obtain⟨a,c,f,q,d,d,rfl,i,g,A,F,t,E⟩:=hrel
 by_cases r:a<8
 ·have l:(a:Int)<8:=Wm
  have d:=qB 4 g.out;go_wp2_with fail;refine d.mono ?_;clear d;rintro e h ⟨p,D,x,rfl,n,d,B,k,H,M,G⟩;have k:x<4:=by rcases H with j|j <;> omega
  have j:=dD n;have k:=dD<|jD i d;have K:Xo (zo h w.heap.size 60 (pgc zp)):=A.beside d (fun v e=>by cases e;have:=s.out;omega)
  have u:Xo (zo h (w.heap.size+1) 60 (pgc q)):=F.beside d (fun v e=>by cases e;have:=s.out;omega)
  have z:=dD (E.trans G);clear n d B H M G;obtain⟨d,B⟩:∃d,q[a]? =Xa d:=⟨_,gE (Rx t.out r)⟩
  have d:=u.box.c a (zd5 B);have d:=u.box.f;have r:Xo (h.grownBy (h.setCell ⟨w.heap.size+1,a,Xb⟩ (U8 x)) (Xa (w.heap.size+1))):=⟨rfl,rfl,rfl,by simp[World.setCell],fun n _ d=>Below.heap_setCell _ _ _ _ (fun e=>d (by rw[e]))⟩
  have M:Xo (zo (h.setCell ⟨w.heap.size+1,a,Xb⟩ (U8 x)) (w.heap.size+1) 60 (pgc (q.set a x))):=dD<|by rw[zcL];exact u.set a _
  have H:Xo (zo (h.setCell ⟨w.heap.size+1,a,Xb⟩ (U8 x)) w.heap.size 60 (pgc zp)):=K.beside r (fun v e=>by cases e;omega)
  have G:Xo (Mk w0 hi (h.setCell ⟨w.heap.size+1,a,Xb⟩ (U8 x)) b p D V m vt T):=show Mk _ _ _ _ _ _ _ _ _ _ from
   ⟨zd j.gr r (Hm (bS y.gr)),j.hb,j.box.beside r (fun v e=>by cases e;have:=s.out;omega),j.lr,j.lc,j.lb,j.rows.var r u (by simp[World.setCell]) (.inr ⟨rfl,Hm C.out⟩)⟩
  have j:Xo (w.grownBy (h.setCell ⟨w.heap.size+1,a,Xb⟩ (U8 x)) (Xa b)):=dD<|⟨k.os,k.tape,k.output,by simp[World.setCell];exact k.size,fun n d r=>by
   rw[Below.heap_setCell _ _ _ _ (by simp;omega)]
   exact k.block n d r⟩
  clear B;go_wp2
  go_roundg (8 -(a+1));exact⟨a+1,p,D,q.set a x,Wm,Wm,Gn,j,G,H,M,(show _=_ by rw[Xx];exact t),z⟩;omega
 have l:¬(a:Int)<8:=Wm
 have:a=8:=Wm
 subst this;have h:Xo ((pgc q).length=8):=dD<|Rx Zr t.out
 go_wp2_with (first | (refine zK rfl 60 (.tmp 3) rfl (w.heap.size+1) rfl F.box underlying60 rfl (Rx h.out zqL) ?_) | (refine zr rfl 60 (.tmp 2) (.tmp 14) rfl w.heap.size rfl (pgc q) rfl A.box (Rr h.out) zqL (jd q) ?_))
 intro l j a k;have p:Xo (Mk w0 hi l b c f V m vt T):=show Mk _ _ _ _ _ _ _ _ _ _ from
  ⟨zd g.gr a (bS y.gr),g.hb,g.box.beside a (fun v e=>by cases e;have:=s.out;omega),g.lr,g.lc,g.lb,g.rows.var a A (Nat.le_of_eq k.symm) (.inr ⟨rfl,C⟩)⟩
 have g:Xo (w.grownBy l (Xa b)):=dD<|⟨a.os.trans i.os,a.tape.trans i.tape,a.output.trans i.output,nT i.size a.size,fun n d r=>by
  rw[a.block n (Ye d i.size) (fun e=>by cases e;omega)]
  exact i.block n d r⟩
 go_wp2;refine bodyPost_ret (zX rfl _ rfl j underlying60 rfl (Rx h.out zqL)) rfl ⟨c,f,q,rfl,t,p,g,E⟩
def Loc (hi p:Nat) (t:TypeId):Prop:=t≠58/\t≠62/\t≠3/\t≠69/\t≠65/\t≠93/\t≠79/\t≠76/\(t=60->hi<=p)
def zC (hi:Nat) (w w':Xn):Prop:=(∀p t cs,zo w p t cs->Loc hi p t->zo w' p t cs)/\w.heap.size<=w'.heap.size
theorem zC.trans {a b c:Xn} (h:zC hi a b) (k:zC hi b c):zC hi a c:=⟨fun p t d f e=>k.1 p t d (h.1 p t d f e) e,nT h.2 k.2⟩
theorem zC.grew {a b:Xn} (h:zc a b):zC hi a b:=⟨fun _ _ _ c _=>c.grew h,bS h⟩
theorem zC.kind {g:Nat} {w:Xn} {cs:Array Xq} (c:w.grownBy w' (Xa g)) (i:w.heap[g]? =Xa (Xk cs t (0,0))) (h:∀p,Loc hi p t->p≠g):zC hi w w':=⟨fun p u d b f=>b.beside c (fun k e=>by
 cases e;intro a;subst a;have a:w.heap[p]? =Xa (Xk d.toArray u (0,0)):=b;rw[i]at a;simp only[Option.some.injEq,Obj.cells.injEq]at a;obtain⟨_,rfl,_⟩:=a;exact h p f rfl),c.size⟩
theorem Mk.keeps {w:Xn} (h:Mk w0 hi w b vl L V m vt T) (a:w.grownBy w' (Xa b)):zC hi w w':=zC.kind a h.box (fun _ a=>absurd rfl a.1)
def MkE (w0:Xn) (hi b:Nat) (w:Xn) (L:List Int) (V:MaV) (m:Ma) (vt:Sli) (T:List (Nat->En)) (w':Xn):Prop:=∃vl' L',Mk w0 hi w' b vl' L' V m vt T/\QT L L'/\zC hi w w'
theorem zpg {a n:Nat} (h:0<n):((a:Int) %(n:Int))=((a % n:Nat):Int)/\a % n<n:=⟨Wm,Yv _ h⟩
theorem zgx {w:Xn} (f) (h:Mk w0 hi w b vl L V m vt T) (c:zqb m f):
  Xp prog 70 #[Xj (Xa ⟨b,0,Xb⟩),Xi (frv f).toArray] w fun e w'=>(e= Xl (Xe Xf (-1))/\MkE w0 hi b w L V m vt T w')\/∃(j:Nat) (q:Fr),e= Xl (Xe Xf (j:Int))/\m.fs[j]? =Xa q/\q.r=0/\MkE w0 hi b w L V { m with fs:=m.fs.set j f } vt T w':=by
 have d:=dD h;have H:=dD c
 clear c;obtain⟨p,c⟩:=kB (w.alloc (Xk #[Xe Xg f.p.b0,Xe Xg f.p.b1,Xe Xg f.p.b2,Xe Xg f.p.b3,Xe Xg f.p.b4,Xe Xg f.p.b5,Xe Xg f.p.b6,Xe Xg f.p.b7,Xe Xf f.r,Xh f.u,Xh f.d,Xe Xf f.f,Xe Xf f.x] 62));have l:=gA c
 have D:Xo (zo p w.heap.size 62 (frv f)):=dD<|by rw[<-c];exact zo.top _ (frv f) _ rfl
 have x:=dD<|h.grew l.out;have r:=dD h.rows.fs.n;have k:V.f.n<=140737488355328:=by
  have i:=h.rows.fs.2;have d:qA.bytes=40:=rfl;rw[d]at i;have:=h.rows.fs.n;omega
 have C:=dD h.box.box.lt
 have z:=dD<|fun i (d:(O V.f.a V.f.n V.f.c).ownBlock=Xa i)=>(h.rows.fs.lt i d).2
 have d:Xo (_=p):=c;clear c h
 go_enter func70,ntmps70
 go_upto_region 1 with fail;have c:w.alloc (Xk (frv f).toArray 62)=p:=d.out;try rw[c]
 try rw[d.out]
 clear c;have s:=x.box.box.c 1 rfl;go_upto_region 2 with fail;clear s;obtain⟨d,v⟩:=kA V.f.n;rw[v.out]at k⊢;have c:=qB (d:Int) x.out;go_wp2_with fail;refine c.mono ?_;clear c;rintro e A ⟨t,N,u,rfl,p,c,y,F,s,G,B⟩;obtain⟨k,rfl⟩:∃k:Nat,u=(k:Int):=⟨u.toNat,Wm⟩
 have u:k<=d:=by rcases s with h | h <;> omega
 have u:=dD p;have a5:=dD<|(zC.grew l).trans (x.keeps c);have l:Xo (zo A w.heap.size 62 (frv f)):=D.beside c (fun i e=>by cases e;have:=C.out;omega)
 have x:=dD B;clear p c y s G B F;go_wp2
 go_loopg [20] d (fun h c wr=>∃p:Nat,p<=d/\d - p<=h/\c= Xe Xf p/\wr=A)
 exact⟨0,nZ _,Wm,rfl,rfl⟩
 obtain⟨p,c,c,rfl,rfl⟩:=hrel
 by_cases D:p<d
 ·have F:=kC D
  have c:¬(d:Int)=0:=Wm
  have c:((d:Int) == 0)=Xd:=by simp;omega
  obtain⟨j,c⟩:∃j:Nat,(k+p) % d=j:=⟨_,rfl⟩;have h:((k:Int)+(p:Int)) %(d:Int)=(j:Int):=by
   rw[<-c];have:=(zpg (a:=k+p) (n:=d) Wm).1
   rw[<-this];rfl
  have C:j<d:=by rw[<-c];exact Yv _ Wm
  have h:(j:Int)< (d:Int):=Wm
  clear c;obtain⟨q,a4⟩:∃q,Xo (m.fs[j]? =Xa q):=⟨_,gE (by rw[<-r.out,v.out];exact C)⟩
  obtain⟨i,A,h⟩:=u.rows.fs.formS (by rw[<-r.out,v.out];omega)
  have y:m.fs.length=d:=by rw[<-r.out,v.out]
  rw[y]at h;have k:Xo (O V.f.a V.f.n V.f.c= O (Xa ⟨i,0,Xb⟩) d A):=h;have s:=u.box.box.c 1 rfl;rw[k.out]at s;have c:=u.rows.fs;rw[k.out]at c;have M:=dD c;have s:Xo (i<w.heap.size):=z.out i (by rw[k.out];rfl)
  have s:=c.one a4.out;have z:wr.cell? ⟨i,j*13+8,Xb⟩=Xa (Xe Xf q.r):=by
   have:=s 8 _ rfl;rw[zS,Yd,zA]at this;exact this
  clear s c h y
  by_cases G:q.r=0
  ·have a2:(q.r == 0)=Xc:=by simp[G]
   have K:=dD G;clear G;go_upto_region 8 with fail;clear z;obtain⟨c,y⟩:∃c:Xn->Prop,c=fun s=>zc wr s:=⟨_,rfl⟩
   have h:Xo (∀s,c s↔zc wr s):=dD<|fun s=>by rw[y]
   clear y;have s:=(h _).2 (gW _)
   have a3:∀y:zj c,y.world.cell? ⟨b,1,Xb⟩=Xa (O (Xa ⟨i,0,Xb⟩) d A):=fun y=>by rw[<-k.out];exact(u.box.box.grew ((h _).1 y.holds)).c 1 rfl
   have P:∀y:zj c,y.world.cell? ⟨w.heap.size,0,Xb⟩=Xa (Xe Xg f.p.b0):=fun y=>(l.box.grew ((h _).1 y.holds)).c 0 rfl
   have Q:∀y:zj c,y.world.cell? ⟨w.heap.size,1,Xb⟩=Xa (Xe Xg f.p.b1):=fun y=>(l.box.grew ((h _).1 y.holds)).c 1 rfl
   have R:∀y:zj c,y.world.cell? ⟨w.heap.size,2,Xb⟩=Xa (Xe Xg f.p.b2):=fun y=>(l.box.grew ((h _).1 y.holds)).c 2 rfl
   have S:∀y:zj c,y.world.cell? ⟨w.heap.size,3,Xb⟩=Xa (Xe Xg f.p.b3):=fun y=>(l.box.grew ((h _).1 y.holds)).c 3 rfl
   have U:∀y:zj c,y.world.cell? ⟨w.heap.size,4,Xb⟩=Xa (Xe Xg f.p.b4):=fun y=>(l.box.grew ((h _).1 y.holds)).c 4 rfl
   have W:∀y:zj c,y.world.cell? ⟨w.heap.size,5,Xb⟩=Xa (Xe Xg f.p.b5):=fun y=>(l.box.grew ((h _).1 y.holds)).c 5 rfl
   have X:∀y:zj c,y.world.cell? ⟨w.heap.size,6,Xb⟩=Xa (Xe Xg f.p.b6):=fun y=>(l.box.grew ((h _).1 y.holds)).c 6 rfl
   have Y:∀y:zj c,y.world.cell? ⟨w.heap.size,7,Xb⟩=Xa (Xe Xg f.p.b7):=fun y=>(l.box.grew ((h _).1 y.holds)).c 7 rfl
   have Z:∀y:zj c,y.world.cell? ⟨w.heap.size,8,Xb⟩=Xa (Xe Xf f.r):=fun y=>(l.box.grew ((h _).1 y.holds)).c 8 rfl
   have a0:∀y:zj c,y.world.cell? ⟨w.heap.size,9,Xb⟩=Xa (Xh f.u):=fun y=>(l.box.grew ((h _).1 y.holds)).c 9 rfl
   have z:∀y:zj c,y.world.cell? ⟨w.heap.size,10,Xb⟩=Xa (Xh f.d):=fun y=>(l.box.grew ((h _).1 y.holds)).c 10 rfl
   have A:∀y:zj c,y.world.cell? ⟨w.heap.size,11,Xb⟩=Xa (Xe Xf f.f):=fun y=>(l.box.grew ((h _).1 y.holds)).c 11 rfl
   have B:∀y:zj c,y.world.cell? ⟨w.heap.size,12,Xb⟩=Xa (Xe Xf f.x):=fun y=>(l.box.grew ((h _).1 y.holds)).c 12 rfl
   have a1:Nonempty (zj c):=⟨⟨_,s⟩⟩;refine Qj (I:=c) 9 [] s z6 Kr rfl rfl Dc Sm Kr ?_
   simp only[Yq,Yr];refine jw ?_
   refine zc0 (.tmp 39) ⟨b,0,Xb⟩ rfl rfl rfl rfl ?_;refine Uq ?_;iterate 7 refine jw ?_
   refine zcj fun c l a7=>?_
   have c:=(h _).1 l;have a6:=dD (u.grew c);have y:=dD (M.grew c);have M:=dD (a5.trans (zC.grew c));clear c l a7 a3 P Q R S U W X Y Z a0 z A B a1 s;refine qF (E:=qA) rfl (.tmp 47) (.tmp 46) rfl w0.heap.size _ m.fs y i j rfl f (by rw[<-r.out,v.out];exact C) ⟨i,j*13,Xb⟩ rfl rfl (Xi (frv f).toArray) rfl rfl ?_
   intro v l c r;have z:Xo (Mk w0 hi v b t N V { m with fs:=m.fs.set j f } vt T):=dD<|by
    have s:(O V.f.a V.f.n V.f.c).ownBlock=Xa i:=by rw[k.out];rfl
    have h:=a6.out;refine⟨zd h.gr c (y.lt i rfl).1,h.hb,h.box.beside c (fun A e=>?_),h.lr,h.lc,h.lb,h.rows.setF s c r (by (first|rw[k.out]|(simp only[Sli.x];rw[k.out]));exact l) (h.rows.ap.2.set H j)⟩
    cases e;exact y.ne h.box Dc i rfl
   have k:Xo (zC hi w v):=dD<|by
    obtain⟨h,h⟩:=y.obj (g:=i) rfl;exact M.trans (zC.kind c h (fun _ h=>absurd rfl h.2.1))
   clear l c r;go_wp2;go_ret;exact .inr ⟨j,q,rfl,a4,K,t,N,z,x,k⟩
  have a2:(q.r == 0)=Xd:=by simp[G]
  clear G;go_wp2
  go_roundg (d -(p+1));exact⟨p+1,Wm,Wm,Gn,rfl⟩;omega
 have F:=kD D
 go_wp2;go_ret;exact .inl ⟨rfl,t,N,u,x,a5⟩
theorem zhG {a:List (List Int)} {i:Nat} {l:List Int} (h:∀p∈a,p.length=8) (b:l.length=8):∀p∈a.set i l,p.length=8:=fun p a=>by
 rcases Yf a with a|a
 ·exact h p a
 rw[a];exact b
theorem jH {w:Xn} {rest:List Oper} {a:Act} (e:o.guard=Xb) (p x) (k:o.op= .store 60 p x)
  (base:Nat) (v:Xq) (c:List (List Int)) (b:zh base w v c) (g i:Nat) (j:v.ownBlock=Xa g) (hi:i<c.length) (l:List Int) (f:l.length=8)
  (ad:Addr) (hp:a.eval p= Xj (Xa ad)) (d:ad=⟨g,i*8,Xb⟩) (m:a.eval x= Xi (pgc l).toArray)
  (h:∀w',zh base w' v (c.set i l)->w.grownBy w' (Xa g)->w'.heap.size=w.heap.size->wpList prog ops Q rest (a.put o.dst undef) w'):wpList prog ops Q (o :: rest) a w:=by
 refine zb1 e p x 60 k 8 Kr base v c.length _ b.1 g i j hi (pgc l) (by rw[Zr,f]) (jd l) ad hp d m fun w' d e j=>?_
 rw[Qz l (by rw[Zr,f]) c i (fun c k=>by rw[Zr,b.2.1 c k]) hi]at d
 refine h w' ⟨Rx Xx d,zhG b.2.1 f,Rx Xx b.2.2⟩ e j
def jc (keep:Nat->Bool):List (Int × List Int)->Nat->List (List Int)->List (List Int)
 | [],_,ps=>ps
 | q :: r,j,ps=>jc keep r (j+1) (if keep j then ps.set q.1.toNat q.2 else ps)
def JL (keep:Nat->Bool) (ps:List (List Int)) (qs:List (Int × List Int)):List (List Int):=if zF ps.length qs=0 then jc keep qs 0 ps else []
def zil (g:Nat) (lb:Array Xq) (keep:Nat->Bool) (w:Xn):Prop:=
 ∀W (j:Nat),zc w W->j<=400->Xp prog g (#[Xe Xf (j:Int)]++lb) W fun e W'=>e= Xl (Xh (keep j))/\zc W W'
theorem jp {n:Nat} {a:List (Int × List Int)} (h:zF n a=0):n<=80/\a.length<=400/\∀q∈a,∃i:Nat,q.1=(i:Int)/\i<n:=by
 unfold zF at h
 by_cases b:80<n
 ·rw[kE b]at h;omega
 rw[kF b]at h
 by_cases b:400<a.length
 ·rw[kE b]at h;omega
 rw[kF b]at h
 by_cases b:(a.any fun q=>!jn q.1 n)=Xc
 ·rw[kE b]at h;omega
 refine⟨Wm,Wm,fun q d=>?_⟩
 have a:jn q.1 n=Xc:=by
  cases c:jn q.1 n with
  | true=>rfl
  | false=>exact absurd (List.any_eq_true.2 ⟨q,d,by simp[c]⟩) b
 unfold jn at a
 simp at a
 obtain⟨i,b⟩:=Int.eq_ofNat_of_zero_le a.1;exact⟨i,b,Wm⟩
theorem zeX (base:Nat) (w):qa base w (Xi #[eS,eS]) [] []:=
 ⟨_,_,rfl,⟨⟨Xb,0,rfl,fun _=>rfl,fun x a=>by cases a⟩,Sm,Sm⟩,⟨⟨Xb,0,rfl,fun _=>rfl,fun x a=>by cases a⟩,Sm,Sm⟩,Zj _,Zj _⟩
theorem zls (w):jz w (eS) []:=⟨⟨Xb,0,rfl,fun _=>rfl,fun x a=>by cases a⟩,Sm,Sm⟩
theorem zd1 (a:Nat->Bool) (g:Nat) (lb:Array Xq) (dl:∀H w,(callFunc g H).run prog w= .ok (.enter g H) w) (d) (m:List (List Int)) (h:List (Int × List Int)) (w:Xn) (cf:ZB w d m h) (bp:zil g lb a w):
  Xp prog 57 #[d,.func (.func g) #[] lb] w fun e w'=>∃bl,e= Xl (Xm #[bl,I6 (zF m.length h)])/\qa w.heap.size w' bl (JL a m h) []/\zc w w':=by
 obtain⟨db,F,rfl,bf,bg⟩:=cf;have bx:=dD bf;have c0:=dD bg;have c4:=dD bp;obtain⟨V,X,rfl,_⟩:=bf.rows;obtain⟨af,ar,rfl,K⟩:=bg.rows;have c1:=dD K;clear bf bg bp K;have T:Xo (JL a m h=if zF m.length h=0 then jc a h 0 m else []):=rfl;obtain⟨C,r⟩:=kA m.length;obtain⟨nq,s⟩:=kA h.length;have q:∀W,zc w W->Xp prog 73 #[Xi #[O V C X,O af nq ar]] W fun e w'=>e= Xl (I6 (zF m.length h))/\zc W w':=fun W be=>by
  rw[<-r.out,<-s.out];exact zaH V m.length X _ h W (c0.grew be)
 have n:∀W,zc w W->Xp prog 98 #[O V C X] W fun e w'=>∃br,e= Xl br/\zh W.heap.size w' br m/\zc W w':=fun W be=>by
  rw[<-r.out];exact zak _ m W (bx.grew be)
 rw[r.out,s.out];obtain⟨ax,ae⟩:=kA (zF m.length h);rw[ae.out]at T;simp only[ae.out]at q;have ba:Xo (zF C h=ax):=dD<|Ry r.out ae.out
 rw[ba.out];have D:Xo (zc w ((w.alloc (Xk #[O V C X,O af nq ar] 34)).alloc (Xk #[eS,eS] 34))):=dD<|(za _ _).trans (za _ _)
 by_cases bh:ax=0
 ·subst bh;rw[kE rfl]at T;obtain⟨ac,z,Z⟩:=jp ae.out;have b9:=dD Z;have cl:nq<=400:=Ry s.out z
  clear Z z ac
  go_enter func57,ntmps57
  go_wp2_with (first
   | (go_at_call 73;refine(q _ D).mono ?_;rintro e l ⟨rfl,b⟩;have ca:l.cell? ⟨w.heap.size,0,Xb⟩=Xa (O V C X):=(Below.cell b (by simp;omega)).trans Sm;have bc:l.cell? ⟨w.heap.size,1,Xb⟩=Xa (O af nq ar):=(Below.cell b (by simp;omega)).trans Sm;have E:Xo (zc w l):=D.trans b)
   | (go_at_call 98;refine(n _ E).mono ?_;rintro e G ⟨v,rfl,bq,k⟩;have cm:G.cell? ⟨w.heap.size,1,Xb⟩=Xa (O af nq ar):=(Below.cell k (World.block_lt_of_cell? _ _ bc)).trans bc;have c5:Xo (zh l.heap.size G v m):=bq;have az:Xo (zc w G):=E.trans k))
  have j:Xo (w.heap.size+2<=l.heap.size):=dD<|by have:=bS b;simpa using this
  have N:=dD<|bS k;have ao:G.cell? ⟨w.heap.size+1,0,Xb⟩=Xa (eS):=(Below.cell (b.trans k) Sm).trans Sm
  have ap:G.cell? ⟨w.heap.size+1,1,Xb⟩=Xa (eS):=(Below.cell (b.trans k) Sm).trans Sm
  have au:G.frozen? ⟨w.heap.size+1,0,Xb⟩=Xd:=(Below.frozen (b.trans k) Sm).trans Sm
  have aw:G.frozen? ⟨w.heap.size+1,1,Xb⟩=Xd:=(Below.frozen (b.trans k) Sm).trans Sm
  have bt:=dD ao;have bu:=dD ap;have bv:=dD au;have bw:=dD aw;have bz:Xo (∀(ad:Nat) F,h[ad]? =Xa F->h.drop ad=F :: h.drop (ad+1)):=show∀(ad:Nat) F,_ from fun ad F cd=>by
   obtain⟨x,rfl⟩:=gS.1 cd;exact List.drop_eq_getElem_cons x
  clear ca bc cm b k ao ap au aw q n bq
  go_loopg [8,9,22] nq (fun cc _ _ bj wr=>∃(f:Nat) (A:List (List Int)),f<=nq/\nq - f<=cc/\bj=I6 f/\Xo (Below l.heap.size G wr)/\Xo (zh l.heap.size wr v A)/\Xo (A.length=C)/\Xo (jc a (h.drop f) f A=jc a h 0 m))
  exact⟨0,m,nZ _,Wm,rfl,bR _ _,c5,r,rfl⟩
  obtain⟨f,A,cj,cg,rfl,B,R,U,P⟩:=hrel;have ay:Xo (zc w wr):=dD<|Below.trans az (B.mono (Hm j.out))
  by_cases x:f<nq
  ·have a9:=kC x
   obtain⟨F,M⟩:∃F,Xo (h[f]? =Xa F):=⟨_,gE (Rx s.out x)⟩
   obtain⟨bs,dn,ag,ah,ai,aj,ak,al,am,an,rfl,rfl,bo⟩:=c1.out f F M.out;obtain⟨dc,dd,de,df,dg,dh,di,dj,dk⟩:=bo wr ay.out;obtain⟨L,aa,bn⟩:=b9.out _ (mG M);simp only at aa;subst aa;have I:L<C:=Ry r.out bn
   have ci:(L:Int)< (C:Int):=Wm
   have ch:(0:Int)<=(L:Int):=Wm
   have i:=c4.out (wr.alloc (Xk #[I6 (L:Int),U8 ag,U8 ah,U8 ai,U8 aj,U8 ak,U8 al,U8 am,U8 an] 69)) f (ay.trans (za _ _)) Wm
   have y:=bz.out f _ M.out;have bk:=dD y;clear bo y bn;obtain⟨Q,u,rfl,Y⟩:∃Q u,v= O (Xa ⟨Q,0,Xb⟩) C u/\l.heap.size<=Q:=by
    rcases R.1.2 with⟨_,bm⟩|⟨Q,u,c8,bm,ce,_⟩
    ·have:=U.out;omega
    exact⟨Q,u,by rw[bm,U.out],ce⟩
   have b8:=dD Y;clear Y
   cases S:a f with
   | true=>
    rw[S]at i
    go_wp2_with (first
     | (
      go_at_fn g;refine i.mono ?_;rintro e t ⟨rfl,c⟩
      have cs:t.cell? ⟨wr.heap.size,0,Xb⟩=Xa (I6 (L:Int)):=(Below.cell c Sm).trans Sm
      have ct:t.cell? ⟨wr.heap.size,1,Xb⟩=Xa (U8 ag):=(Below.cell c Sm).trans Sm
      have cu:t.cell? ⟨wr.heap.size,2,Xb⟩=Xa (U8 ah):=(Below.cell c Sm).trans Sm
      have cw:t.cell? ⟨wr.heap.size,3,Xb⟩=Xa (U8 ai):=(Below.cell c Sm).trans Sm
      have cx:t.cell? ⟨wr.heap.size,4,Xb⟩=Xa (U8 aj):=(Below.cell c Sm).trans Sm
      have cy:t.cell? ⟨wr.heap.size,5,Xb⟩=Xa (U8 ak):=(Below.cell c Sm).trans Sm
      have cz:t.cell? ⟨wr.heap.size,6,Xb⟩=Xa (U8 al):=(Below.cell c Sm).trans Sm
      have d9:t.cell? ⟨wr.heap.size,7,Xb⟩=Xa (U8 am):=(Below.cell c Sm).trans Sm
      have da:t.cell? ⟨wr.heap.size,8,Xb⟩=Xa (U8 an):=(Below.cell c Sm).trans Sm
      have bb:Xo (zh l.heap.size t (O (Xa ⟨Q,0,Xb⟩) C u) A):=R.grew ((za _ _).trans c))
     | (refine jH rfl (.tmp 35) (.tmp 34) rfl l.heap.size _ A bb Q L rfl (Rx U.out I) [ag,ah,ai,aj,ak,al,am,an] rfl _ rfl Sm rfl ?_;intro cr bi bd cp))
    go_roundg (nq -(f+1))
    case measure=>omega
    refine⟨f+1,A.set L [ag,ah,ai,aj,ak,al,am,an],Wm,Wm,Gn,?_,bi,(show Xo _ from Rx Xx U),?_⟩
    ·exact Below.grown (zi8 B (by have:=B.size;have:=N.out;omega) ((za _ _).trans c)) bd (by have:=B.size;have:=N.out;have:=bS ((za wr _).trans c);omega) (fun dm S=>by cases S;exact b8)
    show jc a (h.drop (f+1)) (f+1) (A.set L _)=_
    rw[<-P.out,bk.out]
    simp[jc,S]
   | false=>
    rw[S]at i
    go_wp2_with (go_at_fn g;refine i.mono ?_;rintro e t ⟨rfl,c⟩)
    go_roundg (nq -(f+1))
    case measure=>omega
    refine⟨f+1,A,Wm,Wm,Gn,?_,R.grew ((za _ _).trans c),U,?_⟩
    ·exact zi8 B (by have:=B.size;have:=N.out;omega) ((za _ _).trans c)
    show jc a (h.drop (f+1)) (f+1) A=_
    rw[<-P.out,bk.out]
    simp[jc,S]
  have a9:=kD x
  have:f=nq:=Wm
  subst this;have ao:wr.cell? ⟨w.heap.size+1,0,Xb⟩=Xa (eS):=(Below.cell B (p:=⟨w.heap.size+1,0,Xb⟩) (by have:=j.out;show w.heap.size+1<_;omega)).trans bt.out
  have ap:wr.cell? ⟨w.heap.size+1,1,Xb⟩=Xa (eS):=(Below.cell B (p:=⟨w.heap.size+1,1,Xb⟩) (by have:=j.out;show w.heap.size+1<_;omega)).trans bu.out
  have au:wr.frozen? ⟨w.heap.size+1,0,Xb⟩=Xd:=(Below.frozen B (p:=⟨w.heap.size+1,0,Xb⟩) (by have:=j.out;show w.heap.size+1<_;omega)).trans bv.out
  have aw:wr.frozen? ⟨w.heap.size+1,1,Xb⟩=Xd:=(Below.frozen B (p:=⟨w.heap.size+1,1,Xb⟩) (by have:=j.out;show w.heap.size+1<_;omega)).trans bw.out
  obtain⟨c6,co,c9,rfl⟩:=R.slice;go_wp2;refine bodyPost_ret (v:= Xm #[Xi #[O c6 co c9,eS],I6 0]) (by simp[results,Tryz.results57,go_sem, *]) rfl ⟨_,rfl,⟨_,_,rfl,?_,zls _,fun bs cn c7 e=>nT (Hm j.out) (R.fresh bs cn c7 e),Zj _⟩,?_⟩
  ·rw[T.out];have e:jc a h 0 m=A:=by
    rw[<-P.out,Xt (by rw[s.out];exact nR _)]
    rfl
   rw[e];exact((R.setCell (by have:=j.out;show w.heap.size+1<_;omega) _).setCell (by have:=j.out;show w.heap.size+1<_;omega) _).at
  exact Below.setCell (Below.setCell ay (p:=⟨w.heap.size+1,0,Xb⟩) Sm _) (p:=⟨w.heap.size+1,1,Xb⟩) Sm _
 have ck:(ax != 0)=Xc:=Si bh
 rw[kF bh]at T
 go_enter func57,ntmps57
 go_wp2_with (
  go_at_call 73;refine(q _ D).mono ?_;rintro e l ⟨rfl,b⟩
  have ao:l.cell? ⟨w.heap.size+1,0,Xb⟩=Xa (eS):=(Below.cell b Sm).trans Sm
  have ap:l.cell? ⟨w.heap.size+1,1,Xb⟩=Xa (eS):=(Below.cell b Sm).trans Sm
  have au:l.frozen? ⟨w.heap.size+1,0,Xb⟩=Xd:=(Below.frozen b Sm).trans Sm
  have aw:l.frozen? ⟨w.heap.size+1,1,Xb⟩=Xd:=(Below.frozen b Sm).trans Sm
  have E:Xo (zc w l):=D.trans b)
 refine bodyPost_ret (v:= Xm #[Xi #[eS,eS],I6 ax]) (by simp[results,Tryz.results57,go_sem, *]) rfl ⟨_,rfl,?_,?_⟩
 ·rw[T.out];exact zeX _ _
 exact Below.setCell (Below.setCell E (p:=⟨w.heap.size+1,0,Xb⟩) Sm _) (p:=⟨w.heap.size+1,1,Xb⟩) Sm _
def Jk (n:Int):Int:=if 0<=n/\n<=80 then 0 else 4
def zkJ (n:Int):List (List Int):=if 0<=n/\n<=80 then Xr n.toNat zp else []
theorem zea (n:Nat):(madeCells #[U8 0,U8 0,U8 0,U8 0,U8 0,U8 0,U8 0,U8 0] (n*8)).toList=(Xr n zp).flatMap pgc:=by
 have g:((Xr n zp).flatMap pgc).length=n*8:=by rw[qQ (k:=8) _ (fun e b=>by rw[Xw b];rfl)];simp
 apply Xz
 intro j
 rcases Nat.lt_or_ge j (n*8)with h|h
 ·have f:j=j / 8*8+j % 8:=Wm
  have a:j % 8<8:=Yv _ Dc
  have i:j / 8<n:=Wm
  have l:(pgc zp)[j % 8]? =Xa (U8 0):=by
   generalize j % 8=c at a
   match c,a with
   | 0,_=>rfl
   | 1,_=>rfl
   | 2,_=>rfl
   | 3,_=>rfl
   | 4,_=>rfl
   | 5,_=>rfl
   | 6,_=>rfl
   | 7,_=>rfl
  have d:=qM (enc:=pgc) (k:=8) (Xr n zp) (j / 8) zp (fun e b=>by rw[Xw b];rfl) (by simp[i]) (j % 8) _ l
  rw[<-f]at d;rw[d];have:(#[U8 0,U8 0,U8 0,U8 0,U8 0,U8 0,U8 0,U8 0]:Array Xq)[j % 8]! =U8 0:=by
   generalize j % 8=c at a
   match c,a with
   | 0,_=>rfl
   | 1,_=>rfl
   | 2,_=>rfl
   | 3,_=>rfl
   | 4,_=>rfl
   | 5,_=>rfl
   | 6,_=>rfl
   | 7,_=>rfl
  simp[madeCells,h]
  simpa using this
 rw[gN (by simp[madeCells];exact h),gN (Rx g h)]
theorem zbm {w:Xn} {rest:List Oper} {a:Act} (b:o.guard=Xb) (l) (j:o.op= .makeSlice 31 l l) (n:Nat) (i:a.eval l=I6 n) (c:n<=80)
  (h:∀C,zh w.heap.size (w.alloc (Xk C 60)) (O (Xa ⟨w.heap.size,0,Xb⟩) n n) (Xr n zp)->wpList prog ops Q rest (a.put o.dst (O (Xa ⟨w.heap.size,0,Xb⟩) n n)) (w.alloc (Xk C 60))):wpList prog ops Q (o :: rest) a w:=by
 refine wpList_plain b fun K f=>?_
 obtain⟨m,g,c,d,e⟩:=info_parts zqs;have b:=run_make (P:=prog) w 31 60 m _ underlying31 g c .i64 .i64 n n Wm (Int.le_refl _) (by rw[e];omega) Wm
 rw[d,tN]at b;unfold Oper.wp;simp only[execOp,j,i,Xu,b,Result.andThen,Xv,Oper.upon];refine f _ _ (h _ ⟨⟨?_,.inr ⟨w.heap.size,n,madeCells #[U8 0,U8 0,U8 0,U8 0,U8 0,U8 0,U8 0,U8 0] (n*8),by rw[lR],nR _,?_,?_,?_,?_,?_⟩⟩,fun p b=>by rw[Xw b];rfl,by rw[lR];omega⟩)
 ·rw[qQ (k:=8) _ (fun a b=>by rw[Xw b];rfl)]
 ·show(w.heap.push _)[w.heap.size]? =_
  simp[Value.cells]
 ·rw[lR];exact nR _
 ·exact qO Wm
 ·rw[size_madeCells]
 rw[lR]
 show(madeCells #[U8 0,U8 0,U8 0,U8 0,U8 0,U8 0,U8 0,U8 0] (n*8)).toList.take (n*8)=_
 rw[Yk (by simp[madeCells]),zea]
theorem zoR (n:Int) (w:Xn):
  Xp prog 61 #[I6 n] w fun e w'=>∃a,e= Xl (Xm #[a,I6 (Jk n)])/\qa w.heap.size w' a (zkJ n) []/\zc w w':=by
 by_cases h:0<=n/\n<=80
 ·have b:Xo (Jk n=0):=dD<|by unfold Jk;rw[kE h]
  have a:Xo (zkJ n=Xr n.toNat zp):=dD<|by unfold zkJ;rw[kE h]
  obtain⟨k,rfl⟩:=Int.eq_ofNat_of_zero_le h.1;have g:¬(k:Int)<0:=Wm
  have i:¬(80:Int)< (k:Int):=Wm
  have c:k<=80:=Wm
  have d:Xo (zc w (w.alloc (Xk #[eS,eS] 34))):=za _ _;rw[b.out]
  go_enter func61,ntmps61
  go_wp2_with (refine zbm rfl (.tmp 11) rfl k rfl c ?_;intro C d;have f:Xo (zh (w.alloc (Xk #[eS,eS] 34)).heap.size ((w.alloc (Xk #[eS,eS] 34)).alloc (Xk C 60)) (O (Xa ⟨(w.alloc (Xk #[eS,eS] 34)).heap.size,0,Xb⟩) k k) (Xr k zp)):=d;clear d)
  refine bodyPost_ret (v:= Xm #[Xi #[O (Xa ⟨w.heap.size+1,0,Xb⟩) k k,eS],I6 0]) (by simp[results,Tryz.results61,go_sem, *]) rfl ⟨_,rfl,?_,?_⟩
  ·rw[a.out];have d:=f.out;rw[World.size_alloc]at d;exact⟨_,_,rfl,zh.at (base:=w.heap.size+1) ⟨zf7 d.1 (fun k c=>zij w _ _ _ k c),d.2⟩,zls _,fun x n c e=>by cases e;simp,Zj _⟩
  exact(za _ _).trans (za _ _)
 have b:Xo (Jk n=4):=dD<|by unfold Jk;rw[kF h]
 have a:Xo (zkJ n=[]):=dD<|by unfold zkJ;rw[kF h]
 rw[b.out,a.out]
 by_cases g:n<0
 ·clear h
  go_enter func61,ntmps61
  go_wp2;refine bodyPost_ret (v:= Xm #[Xi #[eS,eS],I6 4]) (by simp[results,Tryz.results61,go_sem]) rfl ⟨_,rfl,zeX _ _,?_⟩
  exact za _ _
 have i:(80:Int)<n:=Wm
 clear h
 go_enter func61,ntmps61
 go_wp2;refine bodyPost_ret (v:= Xm #[Xi #[eS,eS],I6 4]) (by simp[results,Tryz.results61,go_sem]) rfl ⟨_,rfl,zeX _ _,?_⟩
 exact za _ _
end
section
open Go.RowKit Go.Shelf
section
attribute [local go_sem] Oper.semAt_some
structure P9 where
  (i m b0 b1 b2 b3 b4 b5 b6 b7 : Int)
def P9.q (x : P9) : Int × List Int := (x.m, [x.b0, x.b1, x.b2, x.b3, x.b4, x.b5, x.b6, x.b7])
def P9.encs (x : P9) : Array Value := #[.int .i64 x.i, .agg #[.int .i64 x.m, .int .u8 x.b0, .int .u8 x.b1, .int .u8 x.b2, .int .u8 x.b3, .int .u8 x.b4, .int .u8 x.b5, .int .u8 x.b6, .int .u8 x.b7]]
theorem zi1 {α : Type} (l : List α) (k : Nat) (q : α) (h : l[k]? = Xa q) : (l.drop k).reverse = (l.drop (k + 1)).reverse ++ [q] := by
  obtain ⟨hlt, rfl⟩ := List.getElem?_eq_some_iff.1 h
  rw [List.drop_eq_getElem_cons hlt, List.reverse_cons]
theorem zn2 {α : Type} (l : List α) (k : Nat) : (l.drop k).reverse <+: l.reverse := by
  refine ⟨(l.take k).reverse, ?_⟩
  rw [<- List.reverse_append, List.take_append_drop]
theorem zob (F : Fence) (n : Nat) (hF : F.fn 179) (hro : F.round = Xb) (hn : 1 <= n) (l Bs n₀ : Nat) (w : Xn) (a) (c : Nat) (qs : List (Int × List Int)) (hr : zdz w a qs) (hbig : qs.length <= 9223372036854775807) (hw : w.heap.size <= n₀) (hBn : Bs < n₀) (J Jx : List P9 -> Xn -> Prop)
    (hY : ∀ pre x W, J pre W -> pre.length < qs.length -> YieldAt F (n - 1) Tryz.prog l (P9.encs x) W fun e W' =>
      (e = .returned (.bool true) /\ J (pre ++ [x]) W' /\ Below n₀ W W') \/ (e = .returned (.bool false) /\ Jx (pre ++ [x]) W'))
    (W : Xn) (hgW : zc w W) (hBs : W.cell? ⟨Bs, 0, Xb⟩ = Xa (O a qs.length c)) (h0 : J [] W) :
    CallsIn F n Tryz.prog 179 #[.func (.yield l) #[] #[], .pointer (some ⟨Bs, 0, none⟩)] W fun e W' => (∃ v, e = .returned v) /\
      ((∃ ys, ys.map P9.q = qs.reverse /\ J ys W') \/ (∃ pre, pre.map P9.q <+: qs.reverse /\ Jx pre W')) := by
  have HR : Xo (zdz w a qs) := hr
  have HY : Hid _ := hY
  obtain ⟨nq, HN⟩ : ∃ nq, Hid (qs.length = nq) := ⟨_, rfl⟩
  rw [HN.out] at hbig hBs
  have HBS : Hid (W.cell? ⟨Bs, 0, none⟩ = some (.slice a nq c)) := hBs
  have HGW : Xo (zc w W) := hgW
  clear hr hY hgW
  refine callsIn_of_wp Tryz.func179 rfl hF ?_ hro
  simp only [Tryz.ntmps179, List.size_toArray, List.length_cons, List.length_nil, Nat.reduceAdd, Nat.reduceSub, Array.replicate_succ, Array.replicate_zero, List.push_toArray, List.append_toArray, List.nil_append, List.cons_append]
  gi_wp2
  clear hBs
  gi_loopw [3] (fun p wr => ∃ (r : Nat) (pre : List P9), r <= nq /\ p = .int .i64 ((r : Int) - 1) /\ Hid (pre.map P9.q = (qs.drop r).reverse) /\ Hid (J pre wr) /\ Hid (Below n₀ W wr))
    (fun p _ => ((intOf p) + 1).toNat)
  case atStart => exact ⟨nq, [], Nat.le_refl _, by go_num, (show Hid _ from by rw [List.drop_of_length_le (by rw [HN.out]; exact Nat.le_refl _)]; rfl), h0, Below.refl _ _⟩
  case round =>
    obtain ⟨r, pre, hrn, rfl, HP, HJ, HB⟩ := hrel
    cases r with
    | zero =>
      gi_wp2
      go_end0
      exact ⟨⟨_, rfl⟩, .inl ⟨pre, by rw [HP.out]; rfl, HJ.out⟩⟩
    | succ k =>
      obtain ⟨q, HQ⟩ : ∃ q, Hid (qs[k]? = some q) := ⟨_, List.getElem?_eq_getElem (by rw [HN.out]; omega)⟩
      obtain ⟨x, m, b0, b1, b2, b3, b4, b5, b6, b7, rfl, rfl, hl⟩ := HR.out k q HQ.out
      obtain ⟨d0, d1, d2, d3, d4, d5, d6, d7, d8⟩ := hl wr (Below.trans HGW.out (HB.out.mono hw))
      have hbs : wr.cell? ⟨Bs, 0, none⟩ = some (.slice (some x) nq c) := (HB.out.cell (p := ⟨Bs, 0, none⟩) hBn).trans HBS.out
      have hlen : pre.length < qs.length := by
        have := congrArg List.length HP.out
        rw [List.length_map, List.length_reverse, List.length_drop] at this
        have := HN.out
        omega
      obtain ⟨fn, tmps, assign, body, hy, hR⟩ := HY.out pre ⟨k, m, b0, b1, b2, b3, b4, b5, b6, b7⟩ wr HJ.out hlen
      simp only [P9.encs] at hy
      have hk1 : ((k + 1 : Nat) : Int) - 1 = (k : Int) := by omega
      have hkn : (k : Int) < (nq : Int) := by omega
      rw [hk1]
      clear hl
      gi_wp2
      refine hR.mono ?_
      rintro e W3 (⟨rfl, hJ3, hk3⟩ | ⟨rfl, hJx3⟩)
      · gi_wp2
        go_roundw
        case rel => exact ⟨k, _, by omega, by go_num, (show Xo _ from by rw [List.map_append, HP.out, zi1 qs k _ HQ.out]; rfl), hJ3, (show Xo _ from HB.out.trans hk3)⟩
        case measure => simp [intOf]
      · gi_wp2
        refine bodyPost_ret (results_none rfl _ _ _) rfl ?_
        refine ⟨⟨_, rfl⟩, .inr ⟨_, ?_, hJx3⟩⟩
        rw [List.map_append, HP.out]
        have := zn2 qs k
        rw [zi1 qs k _ HQ.out] at this
        exact this
theorem zpp (F : Fence) (n : Nat) (hF : F.fn 168) (hro : F.round = Xb) (a : Option Addr) (len cap : Nat) (w : Xn) :
    CallsIn F n Tryz.prog 168 #[.slice a len cap] w fun e w' => e = .returned (.func (.func 179) #[] #[.pointer (some ⟨w.heap.size, 0, none⟩)]) /\ w' = w.alloc (.cells #[.slice a len cap] 32) := by
  refine callsIn_of_wp Tryz.func168 rfl hF ?_ hro
  simp only [Tryz.ntmps168, List.size_toArray, List.length_cons, List.length_nil, Nat.reduceAdd, Nat.reduceSub, Array.replicate_succ, Array.replicate_zero, List.push_toArray, List.append_toArray, List.nil_append, List.cons_append]
  gi_wp2
  go_ret
  exact ⟨rfl, rfl⟩
theorem zkE (F : Fence) (n : Nat) (hF : F.fn 179) (hro : F.round = Xb) (hn : 1 <= n) (Bs n₀ : Nat) (w0 a) (c : Nat) (qs : List (Int × List Int)) (hr : zdz w0 a qs) (hbig : qs.length <= 9223372036854775807) (w : Xn) (hg : zc w0 w) (hBs : Bs < n₀) (hn₀ : n₀ = w.heap.size)
    (hc : w.cell? ⟨Bs, 0, none⟩ = some (.slice a qs.length c)) :
    SeqStopsK F n Tryz.prog 179 #[.pointer (some ⟨Bs, 0, none⟩)] P9.encs (Below n₀) (fun ys => ys.map P9.q = qs.reverse) (fun pre => pre.map P9.q <+: qs.reverse) qs.length w := fun l J Jx W hW _ _ hY h0 => by
  subst hn₀
  exact zob F n hF hro hn l Bs w.heap.size w0 a c qs hr hbig (Below.size hg) hBs J Jx hY W (hg.trans hW) ((hW.cell (p := ⟨Bs, 0, Xb⟩) hBs).trans hc) h0
end
section
attribute [local go_sem] Oper.semAt_some
theorem zfr {a:Type} (B:Nat) (f:a->List Xq):Own (fun s W=>Box W B (f s)):=fun s X Y a c d a=>by
 have b:=c.lt;obtain⟨t,h⟩:=c;refine⟨t,?_⟩;rw[d.block B b (fun e=>?_)]
 ·exact h
 obtain⟨b,b,c⟩:=a B e.symm;rw[h]at b;cases b;cases c
theorem Box.put {D:Nat} {cs:List Xq} {o:Obj} (h:Box W b cs) (o':Obj) (hD:W.heap[D]? =Xa o) (ho:o.isCells=Xd):Box (W.putObj D o') b cs:=
 zfr b (fun _:Unit=>cs) () W _ (Xa D) h (grownBy_putObj' W D o') (fun r e=>by cases e;exact⟨o,hD,ho⟩)
theorem jR {A B:Xn} (h:KeepsOthers A B) (a u):KeepsOthers A (B.setCell a u):=h.trans (KeepsOthers.setCell _ _ _)
theorem zl6 {b:List (Int × List Int)} {c:List P9} {m:Int} (h:c.map P9.q=b.reverse) (a:∀x∈c,x.m≠m):b.reverse.find? (fun q=>q.1 == m)=Xb:=by
 rw[<-h,Yw];intro q b;obtain⟨x,c,rfl⟩:=Yl.1 b
 simpa [P9.q]using a x c
theorem zl5 {c:List (Int × List Int)} {a:List P9} {x:P9} {m:Int} (h:(a++ [x]).map P9.q<+:c.reverse) (b:∀y∈a,y.m≠m) (d:x.m=m):c.reverse.find? (fun q=>q.1 == m)=Xa x.q:=by
 obtain⟨t,c⟩:=h;rw[<-c,List.map_append,Yz,List.find?_append];have c:(a.map P9.q).find? (fun q=>q.1 == m)=Xb:=by
  rw[Yw];intro q a;obtain⟨y,e,rfl⟩:=Yl.1 a
  simpa [P9.q]using b y e
 rw[c]
 simp[P9.q,d]
theorem qo {n:Nat} {b:List (Int × List Int)} {m:Int} (h:zk n b m=0):zF n b=0/\∃i:Nat,m=(i:Int)/\i<n:=by
 unfold zk at h
 by_cases a:zF n b=0
 ·rw[kE a]at h;refine⟨a,?_⟩
  cases b:jn m n with
  | false=>rw[b]at h;simp at h
  | true=>
   unfold jn at b
   simp at b
   obtain⟨i,c⟩:=Int.eq_ofNat_of_zero_le b.1;exact⟨i,c,Wm⟩
 rw[kF a]at h;exact absurd h a
theorem zm6 (d) (ps:List (List Int)) (qs:List (Int × List Int)) (m:Int) (w) (hd:ZB w d ps qs):
  Xp prog 155 #[d,I6 m] w fun e w'=>e= Xl (Xm #[Xi (pgc (qv ps qs m)).toArray,I6 (zk ps.length qs m)])/\zc w w':=by
 obtain⟨b,q,rfl,hb,hq⟩:=hd;have HB:=dD hb;have HQ:=dD hq;obtain⟨ab,cb,rfl,hrb⟩:=hb.rows;obtain⟨aq,cq,rfl,hrq⟩:=hq.rows;have HRB:=dD hrb;have HRQ:=dD hrq;clear hb hq hrb hrq;have HL:Xo (qv ps qs m=if zk ps.length qs m=0 then(match qs.reverse.find? (fun q=>q.1 == m)with|some q=>q.2|none=>ps.getD m.toNat zp)else zp):=rfl
 obtain⟨W0,hW0⟩:=kB ((((w.alloc (Xk #[O ab ps.length cb,O aq qs.length cq] 34)).alloc (Xk #[I6 m] 3)).alloc (Xk #[U8 0,U8 0,U8 0,U8 0,U8 0,U8 0,U8 0,U8 0] 60)).alloc (Xk #[I6 0] 44));have HG0:Xo (zc w W0):=dD<|by rw[<-hW0];exact(((za _ _).trans (za _ _)).trans (za _ _)).trans (za _ _)
 have X0:Xo (Box W0 w.heap.size [O ab ps.length cb,O aq qs.length cq]):=dD<|by rw[<-hW0];exact(((Box.top w [O ab ps.length cb,O aq qs.length cq] _ rfl).alloc _).alloc _).alloc _
 have X1:Xo (Box W0 (w.heap.size+1) [I6 m]):=dD<|by rw[<-hW0];exact((Box.top _ [I6 m] _ Sm).alloc _).alloc _
 have X2:Xo (Box W0 (w.heap.size+1+1) [U8 0,U8 0,U8 0,U8 0,U8 0,U8 0,U8 0,U8 0]):=dD<|by rw[<-hW0];exact(Box.top _ [U8 0,U8 0,U8 0,U8 0,U8 0,U8 0,U8 0,U8 0] _ Sm).alloc _
 have X3:Xo (Box W0 (w.heap.size+1+1+1) [I6 0]):=dD<|by rw[<-hW0];exact Box.top _ [I6 0] _ Sm
 have hcon:=QV ab ps.length cb (O aq qs.length cq) qs m W0 (HQ.grew HG0);have hqbig:qs.length<=9223372036854775807:=Hm HQ.2.2
 obtain⟨r,HW⟩:=kA (zk ps.length qs m);rw[HW.out]at hcon HL⊢;obtain⟨nb,HNB⟩:=kA ps.length;obtain⟨nq,HNQ⟩:=kA qs.length;rw[HNB.out,HNQ.out]at hcon hW0 X0⊢;have HW0:=dD hW0;clear hW0
 by_cases hr:r=0
 ·subst hr;rw[kE rfl]at HL;refine(callsIn_wide (n:=5)).1 ?_;refine callsIn_of_wp_marks func155 rfl trivial ?_ rfl;simp only[ntmps155,Yg,Ya,Xy,Nat.reduceAdd,Nat.reduceSub,Yo,Yp,Oa,Yt,Ym,List.cons_append]
  gi_wp2_with (first
   | (
    refine⟨trivial,?_⟩;gi_at_call 147;rw[HW0.out];refine(callsIn_wide.2 hcon).mono ?_;rintro e W1 ⟨rfl,hg1⟩;have HG1:Xo (zc W0 W1):=hg1;have e0:=(X0.grew hg1).c 0 rfl;have e1:=(X0.grew hg1).c 1 rfl)
   | (
    refine⟨trivial,?_⟩;gi_at_call 168;refine(zpp Fence.wide _ trivial rfl _ _ _ _).mono ?_;rintro e W2 ⟨rfl,hW2⟩;have HW2:Xo (W2=W1.alloc (Xk #[O aq nq cq] 32)):=hW2;clear hW2))
  have HG2:Xo (zc w W2):=dD<|by rw[HW2.out];exact(HG0.trans HG1).trans (za _ _)
  have HGW2:Xo (zc W0 W2):=dD<|by rw[HW2.out];exact HG1.trans (za _ _)
  have HSZ:Xo (w.heap.size+4<=W1.heap.size/\W2.heap.size=W1.heap.size+1):=dD<|⟨by have h1:=bS HG1.out;have h2:=X3.lt;omega,by rw[HW2.out];simp⟩
  have bS:Box W2 W1.heap.size [O aq nq cq]:=by rw[HW2.out];exact Box.top _ [O aq nq cq] _ rfl
  have HC:=bS.c 0 rfl;obtain⟨_,i,hmi,hib⟩:=qo HW.out;have HI:Xo (m=(i:Int)/\i<ps.length):=⟨hmi,hib⟩;clear e0 e1 hcon hg1 hmi hib bS;refine wpIn_rangeFunc_ownH rfl Dc (gf:=179) (lb:=#[Xj (Xa ⟨W1.heap.size,0,Xb⟩)]) rfl trivial (enters_of func179 Kr rfl)
   (zkE Fence.wide 4 trivial rfl Dc W1.heap.size W2.heap.size w aq cq qs HRQ hqbig W2 HG2 (Hm HSZ.2) rfl (Rx HNQ.out HC)) belowK_t (belowK_b (nR _)) (bR _ _) (fun _=>rfl)
   (fun pre W=>(∀x∈pre,x.m≠m)/\Below W2.heap.size W2 W)
   (fun c pre W=>(c= .ret/\∃ini last,pre=ini++ [last]/\(∀x∈ini,x.m≠m)/\last.m=m/\Box W (w.heap.size+1+1) [U8 last.b0,U8 last.b1,U8 last.b2,U8 last.b3,U8 last.b4,U8 last.b5,U8 last.b6,U8 last.b7]/\Box W (w.heap.size+1+1+1) [I6 0])/\Below w.heap.size w W)
   (OwnFrom.and (fun s X Y row hs hg hr=>hs) (ownFrom_below (nR _) (nR _)))
   (fun c=>OwnFrom.and (Own.from (fun s X Y row hs hg hr=>by
    obtain⟨hc,ini,last,e1,e2,e3,e4,e5⟩:=hs;exact⟨hc,ini,last,e1,e2,e3,zfr _ (fun _:Unit=>_) () X Y row e4 hg hr,zfr _ (fun _:Unit=>_) () X Y row e5 hg hr⟩) _) (ownFrom_below (nR _) (bS HG2)))
   ⟨Sm,bR _ _⟩
   (fun x a' W=>∃Bx,W2.heap.size<=Bx/\Box W Bx [I6 x.m,U8 x.b0,U8 x.b1,U8 x.b2,U8 x.b3,U8 x.b4,U8 x.b5,U8 x.b6,U8 x.b7]/\
    a'={ tmps:=#[Xi #[O ab nb cb,O aq nq cq],I6 m,Xj (Xa ⟨w.heap.size,0,Xb⟩),Xj (Xa ⟨w.heap.size+1,0,Xb⟩),Xj (Xa ⟨w.heap.size+1+1,0,Xb⟩),Xj (Xa ⟨w.heap.size+1+1+1,0,Xb⟩),I6 0,undef,Xj (Xa ⟨Bx,0,Xb⟩),
     Xi #[O ab nb cb,O aq nq cq],I6 m,I6 0,I6 0,Xh Xd,undef,undef,Xj (Xa ⟨w.heap.size,1,Xb⟩),O aq nq cq,.func (.func 179) #[] #[Xj (Xa ⟨W1.heap.size,0,Xb⟩)],I6 x.i,
     Xi #[I6 x.m,U8 x.b0,U8 x.b1,U8 x.b2,U8 x.b3,U8 x.b4,U8 x.b5,U8 x.b6,U8 x.b7],undef,undef,undef,undef,undef,undef,undef,undef,undef,undef,undef],defers:=[] })
   (fun x a' _ X Y row hs hg hr=>by obtain⟨Bx,h1,h2,h3⟩:=hs;exact⟨Bx,h1,zfr Bx (fun _:Unit=>_) () X Y row h2 hg (fun r e=>(hr r e).2),h3⟩)
   ?assign ?body ?done ?stop
  case assign=>
   rintro l pre x W K ⟨hp,hB⟩ hK;simp only[P9.encs]
   gi_wp2
   exact hK _ _ ((KeepsOthers.alloc _ _).from _) ((bR _ W).alloc hB.size _) ⟨hp,hB.alloc hB.size _⟩ ⟨W.heap.size,hB.size,Box.top W [I6 x.m,U8 x.b0,U8 x.b1,U8 x.b2,U8 x.b3,U8 x.b4,U8 x.b5,U8 x.b6,U8 x.b7] _ rfl,rfl⟩
  case body=>
   rintro l pre x a' W hl ⟨rr,hrr⟩ ⟨hp,hB⟩ ⟨Bx,hBx,bX,rfl⟩ hlt;have Z1:=(X1.grew HGW2).below hB ((X1.grew HGW2).lt);have Z2:=(X2.grew HGW2).below hB ((X2.grew HGW2).lt);have Z3:=(X3.grew HGW2).below hB ((X3.grew HGW2).lt);have HZ2:=dD Z2;have HZ3:=dD Z3;have HBW:=dD hB;obtain⟨c0,c1,c2,c3,c4,c5,c6,c7⟩:=Z2.c8;have f0:=Z2.f;have c8:=Z3.c 0 rfl;have f1:=Z3.f 0;have cm:=Z1.c 0 rfl;have x0:=bX.c 0 rfl;have x1:=bX.c 1 rfl;have x2:=bX.c 2 rfl;have x3:=bX.c 3 rfl;have x4:=bX.c 4 rfl;have x5:=bX.c 5 rfl;have x6:=bX.c 6 rfl;have x7:=bX.c 7 rfl;have x8:=bX.c 8 rfl;have HP:=dD hp;clear hp bX hB hrr
   by_cases hx:x.m=m
   ·have hxb:(x.m == m)=Xc:=Si hx
    gi_wp2
    refine⟨KeepsOthers.from ?_ _,⟨rfl,pre,x,rfl,HP,hx,?_,?_⟩,?_⟩
    ·iterate 9 (refine jR ?_ _ _)
     exact KeepsOthers.refl _
    ·exact((((((((HZ2.set 0 _).set 1 _).set 2 _).set 3 _).set 4 _).set 5 _).set 6 _).set 7 _).other Sm _
    ·refine Box.set (cs:=[I6 0]) ?_ 0 _;iterate 8 (refine Box.other ?_ Sm _)
     exact HZ3.out
    iterate 9 (refine zq ?_ (by simp;omega) _)
    exact Below.trans HG2 (HBW.mono (bS HG2))
   have hxb:(x.m == m)=Xd:=Si hx
   gi_wp2
   exact⟨KeepsFrom.refl _ _,bR _ _,fun y hy=>(Yc.1 hy).elim (HP y) (fun e=>by simp at e;subst e;exact hx),HBW⟩
  case done=>
   rintro D ys W hD hS ⟨hp,hB⟩ hK;have Z0:=(X0.grew HGW2).below hB ((X0.grew HGW2).lt);have Z1:=(X1.grew HGW2).below hB ((X1.grew HGW2).lt);have Z2:=(X2.grew HGW2).below hB ((X2.grew HGW2).lt);have Z3:=(X3.grew HGW2).below hB ((X3.grew HGW2).lt);have HZ2:=dD Z2;have HZ3:=dD Z3;have HGW:=dD<|Below.trans HG2 (hB.mono (bS HG2))
   have HF:=zl6 hS hp;obtain⟨rfl,hib⟩:=HI.out;obtain⟨pg,hpg⟩:∃pg,ps[i]? =Xa pg:=⟨_,gE hib⟩;obtain⟨xa,b0,b1,b2,b3,b4,b5,b6,b7,rfl,rfl,hl⟩:=HRB.out i pg hpg;obtain⟨d0,d1,d2,d3,d4,d5,d6,d7⟩:=hl W HGW.out;have hib':(i:Int)< (nb:Int):=by rw[<-HNB.out];omega
   rw[HF,show ps.getD (Int.toNat (i:Int)) zp=[b0,b1,b2,b3,b4,b5,b6,b7]from by simp[hpg]]at HL
   have z0:=Z0.c 0 rfl;have z1:=Z1.c 0 rfl;obtain⟨c0,c1,c2,c3,c4,c5,c6,c7⟩:=Z2.c8;have f0:=Z2.f;have c8:=Z3.c 0 rfl;have f1:=Z3.f 0;have HKD:=dD hK;clear hl hpg hib hS hp hK hB
   gi_wp2
   clear c0 c1 c2 c3 c4 c5 c6 c7 c8 f0 f1 z0 z1 d0 d1 d2 d3 d4 d5 d6 d7;have hK':=(show KeepsOthers W _ from jR (jR (jR (jR (jR (jR (jR (jR (jR (KeepsOthers.refl W) ⟨w.heap.size+1+1,0,Xb⟩ (U8 b0)) ⟨w.heap.size+1+1,1,Xb⟩ (U8 b1)) ⟨w.heap.size+1+1,2,Xb⟩ (U8 b2)) ⟨w.heap.size+1+1,3,Xb⟩ (U8 b3)) ⟨w.heap.size+1+1,4,Xb⟩ (U8 b4)) ⟨w.heap.size+1+1,5,Xb⟩ (U8 b5)) ⟨w.heap.size+1+1,6,Xb⟩ (U8 b6)) ⟨w.heap.size+1+1,7,Xb⟩ (U8 b7)) ⟨w.heap.size+1+1+1,0,Xb⟩ (I6 0)).same D _ HKD rfl
   refine⟨Sm,.inl ⟨_,_,rfl,run_takeDeferred hK',?_⟩⟩
   have B2:=(((((((((HZ2.set 0 (U8 b0)).set 1 (U8 b1)).set 2 (U8 b2)).set 3 (U8 b3)).set 4 (U8 b4)).set 5 (U8 b5)).set 6 (U8 b6)).set 7 (U8 b7)).other (a:=⟨w.heap.size+1+1+1,0,Xb⟩) Sm (I6 0)).put (.deferred Xb) hK' rfl
   have B3:=((((((((((HZ3.other (a:=⟨w.heap.size+1+1,0,Xb⟩) Sm (U8 b0)).other (a:=⟨w.heap.size+1+1,1,Xb⟩) Sm (U8 b1)).other (a:=⟨w.heap.size+1+1,2,Xb⟩) Sm (U8 b2)).other (a:=⟨w.heap.size+1+1,3,Xb⟩) Sm (U8 b3)).other (a:=⟨w.heap.size+1+1,4,Xb⟩) Sm (U8 b4)).other (a:=⟨w.heap.size+1+1,5,Xb⟩) Sm (U8 b5)).other (a:=⟨w.heap.size+1+1,6,Xb⟩) Sm (U8 b6)).other (a:=⟨w.heap.size+1+1,7,Xb⟩) Sm (U8 b7)).set 0 (I6 0)).put (.deferred Xb) hK' rfl)
   obtain⟨r0,r1,r2,r3,r4,r5,r6,r7⟩:=B2.c8;have r8:=B3.c 0 rfl;refine⟨Xm #[Xi #[U8 b0,U8 b1,U8 b2,U8 b3,U8 b4,U8 b5,U8 b6,U8 b7],I6 0],by simp[results,Tryz.f155,go_sem,r0,r1,r2,r3,r4,r5,r6,r7,r8],?_,?_⟩
   ·rw[HL.out];rfl
   refine Below.trans ?_ (belowK_b (w:=W2) (n₀:=w.heap.size) (bS HG2) _ D _ _ hD hK' rfl rfl);iterate 9 (refine zq ?_ (by simp;omega) _)
   exact HGW.out
  rintro D c pre W hD hS ⟨⟨rfl,ini,last,e1,e2,e3,b2,b3⟩,hB⟩ hK
  gi_wp2
  have B2:=b2.put (.deferred Xb) hK rfl;have B3:=b3.put (.deferred Xb) hK rfl;obtain⟨r0,r1,r2,r3,r4,r5,r6,r7⟩:=B2.c8;have r8:=B3.c 0 rfl;refine⟨Sm,.inl ⟨_,_,rfl,run_takeDeferred hK,?_⟩⟩
  refine⟨Xm #[Xi #[U8 last.b0,U8 last.b1,U8 last.b2,U8 last.b3,U8 last.b4,U8 last.b5,U8 last.b6,U8 last.b7],I6 0],by simp[results,Tryz.f155,go_sem,r0,r1,r2,r3,r4,r5,r6,r7,r8],?_,?_⟩
  ·subst e1;rw[HL.out,zl5 hS e2 e3];rfl
  exact Below.trans hB (belowK_b (w:=W2) (n₀:=w.heap.size) (bS HG2) W D _ _ hD hK rfl rfl)
 have hne:(r != 0)=Xc:=Si hr
 rw[kF hr]at HL;rw[HL.out];refine(callsIn_wide (n:=5)).1 ?_;refine callsIn_of_wp_marks func155 rfl trivial ?_ rfl;simp only[ntmps155,Yg,Ya,Xy,Nat.reduceAdd,Nat.reduceSub,Yo,Yp,Oa,Yt,Ym,List.cons_append]
 gi_wp2_with (
  refine⟨trivial,?_⟩;gi_at_call 147;rw[HW0.out];refine(callsIn_wide.2 hcon).mono ?_;rintro e W1 ⟨rfl,hg1⟩;have Y2:=dD (X2.grew hg1);have Y3:=dD (X3.grew hg1);obtain⟨c0,c1,c2,c3,c4,c5,c6,c7⟩:=Y2.c8;have f0:=Y2.f;have c8:=Y3.c 0 rfl;have f1:=Y3.f 0)
 refine⟨Xm #[Xi #[U8 0,U8 0,U8 0,U8 0,U8 0,U8 0,U8 0,U8 0],I6 r],by simp[results,Tryz.f155,go_sem, *],rfl,?_⟩
 have HG1:=HG0.trans hg1;iterate 9 (refine zq ?_ (by simp;omega) _)
 exact HG1
end
end
section
open Go.RowKit
theorem zt.block {base:Nat} {w:Xn} {g n cap:Nat} {b:List (Int × List Int)} (h:zt base w (O (Xa ⟨g,0,Xb⟩) n cap) b):
  n=b.length/\base<=g/\b.length<=cap/\cap<=maxLen/\∃a,w.heap[g]? =Xa (Xk a 69 (0,0))/\a.size=cap*9/\a.toList.take (b.length*9)=b.flatMap ptc:=by
 rcases h.1.2 with⟨b,_⟩|⟨c,c,a,b,c,d,e,f,h,i⟩
 ·cases b
 cases b;exact⟨rfl,c,e,f,a,d,h,i⟩
theorem zt.mk {base:Nat} {w:Xn} {g cap:Nat} {c:List (Int × List Int)} {a:Array Xq} (e:base<=g) (f:w.heap[g]? =Xa (Xk a 69 (0,0))) (i:c.length<=cap) (h:cap<=maxLen) (j:a.size=cap*9) (ht:a.toList.take (c.length*9)=c.flatMap ptc)
  (d:∀q∈c,q.2.length=8) (b:c.length*16<=140737488355328):zt base w (O (Xa ⟨g,0,Xb⟩) c.length cap) c:=
 ⟨⟨qQ c fun q c=>by rw[zbt,d q c],.inr ⟨g,cap,a,rfl,e,f,i,h,j,ht⟩⟩,d,b⟩
theorem zar {w:Xn} {rest:List Oper} {a:Act} (c:o.guard=Xb) (s x) (D:o.op= .call { callee:= .builtin .append,args:=#[s,x],argTypes:=#[32,32] })
  (base g cap n:Nat) (j:Int × List Int) (r:List (Int × List Int)) (b:zt base w (O (Xa ⟨g,0,Xb⟩) n cap) (j :: r)) (E:a.eval s= O (Xa ⟨g,0,Xb⟩) 0 cap) (m:Nat) (F:a.eval x= O (Xa ⟨g,9,Xb⟩) r.length m)
  (y:∀w',zt base w' (O (Xa ⟨g,0,Xb⟩) r.length cap) r->w.grownBy w' (Xa g)->w'.heap.size=w.heap.size->wpList prog ops Q rest (a.put o.dst (O (Xa ⟨g,0,Xb⟩) r.length cap)) w'):wpList prog ops Q (o :: rest) a w:=by
 refine wpList_plain c fun K z=>?_
 obtain⟨c,A,c,C,e,i,d,v⟩:=b.block;obtain⟨G,B,d,l,d⟩:=info_parts zqt;have h:=b.2.1;have f:(r.flatMap ptc).length=r.length*9:=qQ r fun q k=>by rw[zbt,h q (by simp[k])]
 have d:(ptc j).length=9:=by rw[zbt,h j Sm]
 simp only[Ya]at c v;have c:∀j u,(r.flatMap ptc)[j]? =Xa u->w.cell? ((⟨g,9,Xb⟩:Addr).add j)=Xa u:=fun j u t=>by
  have p:j<r.length*9:=by rw[<-f];exact(gS.1 t).1
  rw[Yd];have p:(e.toList.take ((r.length+1)*9))[9+j]? =Xa u:=by
   rw[v,List.flatMap_cons,aR Wm,d]
   simpa using t
  rw[Yh Wm]at p
  simp only[World.cell?,i]
  simpa using p
 have d:=run_append_room (P:=prog) w 32 o.type 69 G underlying32 B g 0 cap e i ⟨g,9,Xb⟩ r.length m (r.flatMap ptc) (Rx l f) c (je zcK r) Wm (by rw[f];simp;omega)
 simp only[Nat.zero_mul,List.take_zero,Ym,zA]at d;unfold Oper.wp execOp;simp only[D,resolve,invoke,builtin,Xu,Xv,rA,Yj,mP,Ob,E,F,d];refine z _ _ (y _ (zt.mk A (setRow_heap w g e _ 69 _ i) Wm C ?_ ?_ (fun q k=>h q (by simp[k])) (by have:=b.2.2;simp at this;omega)) (Zh _ _ _) (by simp[World.setRow]))
 ·simp[f];omega
 rw[<-f];simp
theorem zeC (n:Nat):∀u∈(Builtin.zeroCells #[I6 0,U8 0,U8 0,U8 0,U8 0,U8 0,U8 0,U8 0,U8 0] n).toList,u.oneCell'=Xc:=fun u a=>by
 simp only[Builtin.zeroCells,Array.toList_map,Yl,Array.toList_range,List.mem_range]at a;obtain⟨i,_,rfl⟩:=a;have a:i % 9<9:=Yv _ Dc
 show(#[I6 0,U8 0,U8 0,U8 0,U8 0,U8 0,U8 0,U8 0,U8 0]:Array Xq)[i % 9]!.oneCell'=Xc
 generalize i % 9=k at a
 match k,a with
 | 0,_=>rfl
 | 1,_=>rfl
 | 2,_=>rfl
 | 3,_=>rfl
 | 4,_=>rfl
 | 5,_=>rfl
 | 6,_=>rfl
 | 7,_=>rfl
 | 8,_=>rfl
theorem zb2 {w:Xn} {rest:List Oper} {a:Act} (c:o.guard=Xb) (x) (t:o.op= .call { callee:= .builtin .clear,args:=#[x],argTypes:=#[32] })
  (base g cap n:Nat) (e:List (Int × List Int)) (b:zt base w (O (Xa ⟨g,0,Xb⟩) n cap) e) (ad:Addr) (k l:Nat) (u:a.eval x= O (Xa ad) k l) (d:e.length+k<=cap) (f:0<k->ad=⟨g,e.length*9,Xb⟩)
  (q:∀w',zt base w' (O (Xa ⟨g,0,Xb⟩) n cap) e->w.grownBy w' (Xa g)->w'.heap.size=w.heap.size->wpList prog ops Q rest (a.put o.dst (Xm #[])) w'):wpList prog ops Q (o :: rest) a w:=by
 refine wpList_plain c fun K r=>?_
 cases k with
 | zero=>
  have d:(Builtin.clear_ #[32] o.type #[O (Xa ad) 0 l]).run prog w= .ok (Xm #[]) w:=by
   simp[Builtin.clear_,run_underlying underlying32]
  unfold Oper.wp execOp;simp only[t,resolve,invoke,builtin,Xu,Xv,rA,Yj,mP,Ob,u,d];exact r _ _ (q w b (World.grownBy.rfl' _ _) rfl)
 | succ k=>
  have c:=f Wm
  subst c;obtain⟨z,v,p,y,c,s,i,A⟩:=b.block;obtain⟨Z,m⟩:=kB ((Builtin.zeroCells #[I6 0,U8 0,U8 0,U8 0,U8 0,U8 0,U8 0,U8 0,U8 0] (k+1)).toList);have j:Z.length=(k+1)*9:=by
   rw[<-m,Array.length_toList,size_zeroCells];rfl
  have f:∀h∈Z,h.oneCell'=Xc:=by rw[<-m];exact zeC _
  have h:=run_storeCells_at prog g (e.length*9) 69 Z 0 c w s (by rw[j,i];omega) f
  simp only[Nat.add_zero]at h;have d:(Builtin.clear_ #[32] o.type #[O (Xa ⟨g,e.length*9,Xb⟩) (k+1) l]).run prog w= .ok (Xm #[]) (w.setRow g (c.toList.take (e.length*9)++Z++c.toList.drop (e.length*9+Z.length)).toArray):=by
   simp only[Builtin.clear_]
   simp[run_underlying underlying32,Tryz.zeroValue69,Value.cells,m,h]
  unfold Oper.wp execOp;simp only[t,resolve,invoke,builtin,Xu,Xv,rA,Yj,mP,Ob,u,d];subst z;have d:c.toList.length=cap*9:=Si i
  refine r _ _ (q _ (zt.mk v (setRow_heap w g c _ 69 _ s) p y ?_ ?_ b.2.1 b.2.2) (Zh _ _ _) (by simp[World.setRow]))
  ·simp only[Yg,lA,List.length_take,List.length_drop,j,d];omega
  rw[Yz,List.take_left' (by rw[List.length_take,d];omega)]
  exact A
theorem zc8 {a b c:Xn} {g:Nat} (h:zc a b) (k:b.grownBy c (Xa g)):a.grownBy c (Xa g):=
 ⟨k.os.trans h.os,k.tape.trans h.tape,k.output.trans h.output,nT h.size k.size,fun i e d=>(k.block i (Ye e h.size) d).trans (h.block i e)⟩
theorem zgL (base g cap:Nat) (j:Int × List Int) (r:List (Int × List Int)) (w:Xn) (b:zt base w (O (Xa ⟨g,0,Xb⟩) (r.length+1) cap) (j :: r)) (l:1<=r.length) (f:r.length<=400):
  Xp prog 148 #[O (Xa ⟨g,0,Xb⟩) (r.length+1) cap,I6 0,I6 1] w fun e w'=>e= Xl (O (Xa ⟨g,0,Xb⟩) r.length cap)/\zt base w' (O (Xa ⟨g,0,Xb⟩) r.length cap) r/\w.grownBy w' (Xa g):=by
 obtain⟨_,_,a,c,_⟩:=b.block;have i:=dD b;simp only[Ya]at a;obtain⟨k,d⟩:=kA r.length;have h:cap<=9223372036854775807:=by simpa [maxLen]using c
 rw[d.out]at a l f i⊢;clear b c;have b:¬cap=1:=Wm
 have b:((k+1:Nat):Int)=(k:Int)+1:=Wm
 have b:(k:Int)+1<=(cap:Int):=Wm
 have b:(1:Int)<=(k:Int):=Wm
 go_enter func148,ntmps148
 go_wp2;have f:Nonempty (ze w):=⟨⟨_,zc.refl _⟩⟩;refine jb 6 [] z6 Kr rfl rfl Dc Sm Sm ?_
 simp only[Yq,Yr];iterate 6 refine zg ?_
 refine qd fun w' c _=>?_
 have b:=dD (i.grew c);have l:=dD c;clear c f
 go_wp2_with (first
  | (refine zar rfl (.tmp 22) (.tmp 25) rfl base g cap (k+1) j r b rfl (cap - 1) (Rr d.out) ?_;intro h c b f;have j:Xo (zt base h (O (Xa ⟨g,0,Xb⟩) r.length cap) r):=c;have i:Xo (w'.grownBy h (Xa g)):=b;clear c b f;rw[d.out])
  | (refine zb2 rfl (.tmp 31) rfl base g cap _ r j _ 1 _ rfl (Rx d.out a) (fun _=>by rw[d.out]) ?_;intro f b a c;have k:Xo (zt base f (O (Xa ⟨g,0,Xb⟩) r.length cap) r):=b;have j:Xo (h.grownBy f (Xa g)):=a;clear b a c))
 go_ret;exact⟨rfl,Ry d.out k,zc8 l (jD i j)⟩
theorem zh.beside {base:Nat} {w:Xn} {a c:Xq} {b:List (List Int)} {d:List (Int × List Int)} (h:zh base w a b) (k:zt base' w c d) (i:w.grownBy w' c.ownBlock):zh base w' a b:=by
 refine⟨⟨h.1.1,?_⟩,h.2⟩
 rcases h.1.2 with d|⟨g,a,b,rfl,e,c,f⟩
 ·exact .inl d
 refine .inr ⟨g,a,b,rfl,e,?_,f⟩;rw[i.block g (aS.1 c).1 (fun e=>?_)]
 ·exact c
 rcases k.1.2 with⟨rfl,_⟩|⟨a,a,a,rfl,_,a,_⟩
 ·cases e
 simp only[Value.ownBlock,Option.some.injEq]at e;subst e;rw[c]at a;cases a
theorem zt.beside {base:Nat} {w:Xn} {a c:Xq} {d:List (List Int)} {b:List (Int × List Int)} (k:zt base' w c b) (h:zh base w a d) (i:w.grownBy w' a.ownBlock):zt base' w' c b:=by
 refine⟨⟨k.1.1,?_⟩,k.2⟩
 rcases k.1.2 with d|⟨g,a,b,rfl,e,c,f⟩
 ·exact .inl d
 refine .inr ⟨g,a,b,rfl,e,?_,f⟩;rw[i.block g (aS.1 c).1 (fun e=>?_)]
 ·exact c
 rcases h.1.2 with⟨rfl,_⟩|⟨a,a,a,rfl,_,a,_⟩
 ·cases e
 simp only[Value.ownBlock,Option.some.injEq]at e;subst e;rw[c]at a;cases a
theorem zt.lt {base:Nat} {w:Xn} {v:Xq} {a:List (Int × List Int)} (h:zt base w v a):∀g,v.ownBlock=Xa g->base<=g/\g<w.heap.size:=h.1.lt
theorem zh.lt {base:Nat} {w:Xn} {v:Xq} {a:List (List Int)} (h:zh base w v a):∀g,v.ownBlock=Xa g->base<=g/\g<w.heap.size:=h.1.lt
theorem zt.ne {base:Nat} {w:Xn} {v:Xq} {a:List (Int × List Int)} (h:zt base w v a) {cs:List Xq} (d:zo w b 34 cs):∀g,v.ownBlock=Xa g->b≠g:=fun g a e=>by
 subst e
 rcases h.1.2 with⟨rfl,_⟩|⟨c,c,c,rfl,_,c,_⟩
 ·cases a
 simp only[Value.ownBlock,Option.some.injEq]at a;subst a;rw[d]at c;cases c
theorem zh.ne {base:Nat} {w:Xn} {v:Xq} {a:List (List Int)} (h:zh base w v a) {cs:List Xq} (d:zo w b 34 cs):∀g,v.ownBlock=Xa g->b≠g:=fun g a e=>by
 subst e
 rcases h.1.2 with⟨rfl,_⟩|⟨c,c,c,rfl,_,c,_⟩
 ·cases a
 simp only[Value.ownBlock,Option.some.injEq]at a;subst a;rw[d]at c;cases c
theorem zh.setOther {base:Nat} {w:Xn} {v:Xq} {b:List (List Int)} (h:zh base w v b) {a:Addr} (c:∀g,v.ownBlock=Xa g->a.block≠g) (u):zh base (w.setCell a u) v b:=⟨Zs h.1 c u,h.2⟩
theorem zt.setOther {base:Nat} {w:Xn} {v:Xq} {b:List (Int × List Int)} (h:zt base w v b) {a:Addr} (c:∀g,v.ownBlock=Xa g->a.block≠g) (u):zt base (w.setCell a u) v b:=⟨Zs h.1 c u,h.2⟩
theorem zh.form {base:Nat} {w:Xn} {v:Xq} {b:List (List Int)} (h:zh base w v b):∃a c,v= O a b.length c:=by
 obtain⟨a,c,b,_⟩:=h.at.rows;exact⟨a,c,b⟩
theorem zt.form {base:Nat} {w:Xn} {v:Xq} {b:List (Int × List Int)} (h:zt base w v b):∃a c,v= O a b.length c:=by
 obtain⟨a,c,b,_⟩:=h.at.rows;exact⟨a,c,b⟩
theorem zt.snoc {base:Nat} {w:Xn} {v:Xq} {a:List (Int × List Int)} {q:Int × List Int} (h:w.ownsRow base 69 9 v (a.length+1) (a.flatMap ptc++ptc q)) (b:∀x∈a,x.2.length=8) (d:q.2.length=8) (c:(a.length+1)*16<=140737488355328):zt base w v (a++ [q]):=by
 refine⟨Si h,fun x a=>?_,Si c⟩
 rcases Yc.1 a with a|a
 ·exact b x a
 simp at a;subst a;exact d
theorem zl9 {base d R:Nat} {w:Xn} {c b:Xq} {f:List (List Int)} {g:List (Int × List Int)} {cs:List Xq} (hp:zh base w c f) (i:zt base w b g) (h:zo w d 34 cs) (e:R<base) (j:base'<=base):
  qa base' (((w.setCell ⟨d,1,Xb⟩ b).setCell ⟨R,0,Xb⟩ c).setCell ⟨R,1,Xb⟩ b) (Xi #[c,b]) f g:=by
 have f:=((hp.setOther (a:=⟨d,1,Xb⟩) (hp.ne h) b).setCell (a:=⟨R,0,Xb⟩) e c).setCell (a:=⟨R,1,Xb⟩) e b;have g:=((i.setOther (a:=⟨d,1,Xb⟩) (i.ne h) b).setCell (a:=⟨R,0,Xb⟩) e c).setCell (a:=⟨R,1,Xb⟩) e b;exact qa.base (zaG.new ⟨_,_,rfl,f,g⟩) j
theorem zt.head {base:Nat} {w:Xn} {g n cap:Nat} {m b c d e f h i k:Int} {r:List (Int × List Int)} (l:zt base w (O (Xa ⟨g,0,Xb⟩) n cap) ((m,[b,c,d,e,f,h,i,k]) :: r)):
  w.cell? ⟨g,0,Xb⟩=Xa (I6 m)/\w.cell? ⟨g,1,Xb⟩=Xa (U8 b)/\w.cell? ⟨g,2,Xb⟩=Xa (U8 c)/\w.cell? ⟨g,3,Xb⟩=Xa (U8 d)/\w.cell? ⟨g,4,Xb⟩=Xa (U8 e)/\w.cell? ⟨g,5,Xb⟩=Xa (U8 f)/\w.cell? ⟨g,6,Xb⟩=Xa (U8 h)/\w.cell? ⟨g,7,Xb⟩=Xa (U8 i)/\w.cell? ⟨g,8,Xb⟩=Xa (U8 k):=by
 have a:∀(j:Nat) u,(((m,[b,c,d,e,f,h,i,k]) :: r).flatMap ptc)[j]? =Xa u->w.cell? ⟨g,j,Xb⟩=Xa u:=fun j u b=>by
  have:=l.1.cells rfl j u b;rwa [Yd,zA]at this
 exact⟨a 0 _ rfl,a 1 _ rfl,a 2 _ rfl,a 3 _ rfl,a 4 _ rfl,a 5 _ rfl,a 6 _ rfl,a 7 _ rfl,a 8 _ rfl⟩
def qW (ps:List (List Int)) (qs:List (Int × List Int)):List (List Int):=if qs.length=400 then ps.set (qs.headD (0,[])).1.toNat (qs.headD (0,[])).2 else ps
def qT (qs:List (Int × List Int)) (m:Int) (p:List Int):List (Int × List Int):=(if qs.length=400 then qs.tail else qs)++ [(m,p)]
def ja (ps:List (List Int)) (qs:List (Int × List Int)) (m:Int):List (List Int):=if zk ps.length qs m=0 then qW ps qs else []
def jh (ps:List (List Int)) (qs:List (Int × List Int)) (m:Int) (p:List Int):List (Int × List Int):=if zk ps.length qs m=0 then qT qs m p else []
theorem zkR (d) (b:List (List Int)) (a:List (Int × List Int)) (m:Int) (p:List Int) (hp:p.length=8) (w:Xn) (h:ZB w d b a) (B:¬zk b.length a m=0):
  Xp prog 128 #[d,I6 m,Xi (pgc p).toArray] w fun e w'=>∃z,e= Xl (Xm #[z,I6 (zk b.length a m)])/\qa w.heap.size w' z (ja b a m) (jh b a m p)/\zc w w':=by
 obtain⟨f,q,r,s,t,u,x,y,rfl⟩:=zdB p hp;have C:=dD h;obtain⟨c,c,rfl,g,c⟩:=h;have D:=dD c;obtain⟨j,l,rfl,_⟩:=g.rows;obtain⟨k,n,rfl,_⟩:=c.rows;clear g c hp
 show Xp prog 128 #[Xi #[O j b.length l,O k a.length n],I6 m,Xi #[U8 f,U8 q,U8 r,U8 s,U8 t,U8 u,U8 x,U8 y]] w _
 have A:Xo (ja b a m=if zk b.length a m=0 then qW b a else []):=rfl;have h:Xo (jh b a m [f,q,r,s,t,u,x,y]=if zk b.length a m=0 then qT a m [f,q,r,s,t,u,x,y]else []):=rfl;obtain⟨i,c⟩:=kB (((w.alloc (Xk #[O j b.length l,O k a.length n] 34)).alloc (Xk #[U8 f,U8 q,U8 r,U8 s,U8 t,U8 u,U8 x,U8 y] 60)).alloc (Xk #[eS,eS] 34));have g:Xo (zc w i):=show zc w i by rw[<-c];exact((za _ _).trans (za _ _)).trans (za _ _)
 have E:Xo (Box i w.heap.size [O j b.length l,O k a.length n]):=dD<|by rw[<-c];exact((Box.top w [O j b.length l,O k a.length n] _ rfl).alloc _).alloc _
 have F:Xo (Box i (w.heap.size+1) [U8 f,U8 q,U8 r,U8 s,U8 t,U8 u,U8 x,U8 y]):=dD<|by rw[<-c];exact(Box.top _ [U8 f,U8 q,U8 r,U8 s,U8 t,U8 u,U8 x,U8 y] _ Sm).alloc _
 have s:Xo (Box i (w.heap.size+1+1) [eS,eS]):=dD<|by rw[<-c];exact Box.top _ [eS,eS] _ Sm
 have f:=QV j b.length l (O k a.length n) a m i (D.grew g);have q:∀W,zc i W->Xp prog 88 #[Xi #[O j b.length l,O k a.length n]] W fun e w'=>∃z,e= Xl z/\zaG W.heap.size w' z b a/\zc W w':=fun W i=>zcP _ b a W (C.grew (g.trans i))
 obtain⟨r,j⟩:=kA (zk b.length a m);rw[j.out]at f A h⊢;obtain⟨i,i⟩:=kA b.length;obtain⟨nq,b⟩:=kA a.length;rw[i.out,b.out]at f c E⊢;simp only[i.out,b.out]at q;have a:=dD c;clear c;have b:¬r=0:=fun e=>B (j.trans e)
 have c:(r != 0)=Xc:=Si b
 rw[kF b]at A h;rw[A.out,h.out]
 go_enter func128,ntmps128
 go_wp2_with (
  go_at_call 147;rw[a.out];refine f.mono ?_;rintro e a ⟨rfl,a⟩
  have b:=s.grew a;have c:=b.c 0 rfl;have c:=b.c 1 rfl;have c:=b.f)
 refine bodyPost_ret (v:= Xm #[Xi #[eS,eS],I6 r]) (by simp[results,Tryz.results128,go_sem, *]) rfl ⟨_,rfl,zeX _ _,?_⟩
 have b:=g.trans a;iterate 2 (refine zq ?_ (by simp;omega) _)
 exact b
theorem zkQ (d) (b:List (List Int)) (a:List (Int × List Int)) (m:Int) (p:List Int) (hp:p.length=8) (w:Xn) (c:ZB w d b a) (H:zk b.length a m=0) (Q:¬a.length=400):
  Xp prog 128 #[d,I6 m,Xi (pgc p).toArray] w fun e w'=>∃D,e= Xl (Xm #[D,I6 (zk b.length a m)])/\qa w.heap.size w' D (ja b a m) (jh b a m p)/\zc w w':=by
 obtain⟨g,h,i,j,k,l,n,q,rfl⟩:=zdB p hp;have C:=dD c;obtain⟨f,f,rfl,r,f⟩:=c;have x:=dD f;obtain⟨c,z,rfl,_⟩:=r.rows;obtain⟨y,A,rfl,_⟩:=f.rows;clear r f hp
 show Xp prog 128 #[Xi #[O c b.length z,O y a.length A],I6 m,Xi #[U8 g,U8 h,U8 i,U8 j,U8 k,U8 l,U8 n,U8 q]] w _
 have B:Xo (ja b a m=if zk b.length a m=0 then qW b a else []):=rfl;have t:Xo (jh b a m [g,h,i,j,k,l,n,q]=if zk b.length a m=0 then qT a m [g,h,i,j,k,l,n,q]else []):=rfl;obtain⟨u,f⟩:=kB (((w.alloc (Xk #[O c b.length z,O y a.length A] 34)).alloc (Xk #[U8 g,U8 h,U8 i,U8 j,U8 k,U8 l,U8 n,U8 q] 60)).alloc (Xk #[eS,eS] 34));have r:Xo (zc w u):=show zc w u by rw[<-f];exact((za _ _).trans (za _ _)).trans (za _ _)
 have E:Xo (Box u w.heap.size [O c b.length z,O y a.length A]):=dD<|by rw[<-f];exact((Box.top w [O c b.length z,O y a.length A] _ rfl).alloc _).alloc _
 have T:Xo (Box u (w.heap.size+1) [U8 g,U8 h,U8 i,U8 j,U8 k,U8 l,U8 n,U8 q]):=dD<|by rw[<-f];exact(Box.top _ [U8 g,U8 h,U8 i,U8 j,U8 k,U8 l,U8 n,U8 q] _ Sm).alloc _
 have G:Xo (Box u (w.heap.size+1+1) [eS,eS]):=dD<|by rw[<-f];exact Box.top _ [eS,eS] _ Sm
 have s:=QV c b.length z (O y a.length A) a m u (x.grew r);have x:∀W,zc u W->Xp prog 88 #[Xi #[O c b.length z,O y a.length A]] W fun e w'=>∃D,e= Xl D/\zaG W.heap.size w' D b a/\zc W w':=fun W c=>zcP _ b a W (C.grew (r.trans c))
 obtain⟨c,y⟩:=kA (zk b.length a m);rw[y.out]at s B t⊢;obtain⟨F,A⟩:=kA b.length;obtain⟨nq,c⟩:=kA a.length;rw[A.out,c.out]at s f E⊢;simp only[A.out,c.out]at x;have C:=dD f;clear f;have f:=y.symm.trans H;subst f;rw[kE rfl]at B t;obtain⟨z,f,K,H⟩:=qo y.out;obtain⟨y,f,L⟩:=jp z;obtain⟨X,W,M,N,P⟩:=info_parts zqt;rw[B.out,t.out];clear K H;have t:¬nq=400:=fun e=>Q (c.trans e)
 have B:((nq:Int) == 400)=Xd:=by simp;omega
 have H:Xo (qW b a=b):=dD<|by unfold qW;rw[kF (Rx c.out t)]
 have K:Xo (qT a m [g,h,i,j,k,l,n,q]=a++ [(m,[g,h,i,j,k,l,n,q])]):=dD<|by unfold qT;rw[kF (Rx c.out t)]
 have t:=dD f;clear f L y z
 go_enter func128,ntmps128
 go_wp2_with (first
  | (
   go_at_call 147;rw[C.out];refine s.mono ?_;rintro e C ⟨rfl,B⟩
   have y:Xo (zc u C):=B;have U:=(E.grew B).c 0 rfl;have V:=(E.grew B).c 1 rfl)
  | (
   go_at_call 88;refine(x C y).mono ?_;rintro e z ⟨D,rfl,f,E⟩
   obtain⟨s,s,rfl,Q,R⟩:=f;obtain⟨f,s,rfl⟩:=Q.form;obtain⟨u,x,rfl⟩:=R.form;have S:Xo (zh C.heap.size z (O f b.length s) b):=Q;have L:Xo (zt C.heap.size z (O u a.length x) a):=R;have D:Xo (zc C z):=E;rw[A.out]at S;rw[c.out]at L;rw[A.out,c.out];clear Q R B E U V;have b:=(T.grew y).grew D.out;have B:w.heap.size+1<z.heap.size:=b.lt;obtain⟨u0,u1,u2,u3,u4,u5,u6,u7⟩:=b.c8)
  | (
   at_builtin
   have A:=L.grew ((za z (Xk #[O f F s,O u nq x] 34)).trans (za _ (Xk #[I6 m,U8 g,U8 h,U8 i,U8 j,U8 k,U8 l,U8 n,U8 q] 69)));have Q:=S.grew ((za z (Xk #[O f F s,O u nq x] 34)).trans (za _ (Xk #[I6 m,U8 g,U8 h,U8 i,U8 j,U8 k,U8 l,U8 n,U8 q] 69)));have E:=(zo.top z [O f F s,O u nq x] 34 rfl).grew (za _ (Xk #[I6 m,U8 g,U8 h,U8 i,U8 j,U8 k,U8 l,U8 n,U8 q] 69));have R:=((((G.grew y).grew D).grew (za z (Xk #[O f F s,O u nq x] 34))).grew (za _ (Xk #[I6 m,U8 g,U8 h,U8 i,U8 j,U8 k,U8 l,U8 n,U8 q] 69)));refine wpList_append_own _ rfl (.tmp 40) (.tmp 44) 32 rfl C.heap.size 69 X _ 9 16 underlying32 W M N P rfl Dc _ _ _ rfl A.1 ⟨z.heap.size+1,0,Xb⟩ 1 1 (ptc (m,[g,h,i,j,k,l,n,q])) rfl rfl (jP.top _ (ptc (m,[g,h,i,j,k,l,n,q])) _ Sm) (zcK _) (qO (Hm t.out)) (Hm t.out) (by have:=bS D.out;simp;omega) ?_
   intro N x u b _;have M:Xo (zt C.heap.size x N (a++ [(m,[g,h,i,j,k,l,n,q])])):=zt.snoc u L.2.1 rfl (Hm t.out)
   have n:=dD<|Q.beside A b;have g:=dD<|E.beside b (A.ne E);have h:Xo (Box x (w.heap.size+1+1) [eS,eS]):=R.beside b (fun a i=>by have j:=(A.lt a i).1;have k:=(G.grew y).lt;omega)
   have l:Xo (zc w x):=zT (((r.trans y).trans D).trans ((za _ _).trans (za _ _))) b (fun a i=>by have j:=(A.lt a i).1;have k:=bS (r.trans y);omega)
   obtain⟨i,q,a⟩:=M.form;rw[lA,c.out,Yn]at a;subst a;have a:=g.box.c 0 rfl;have a:=g.box.c 1 rfl;have a:=g.box.f;have a:=h.c 0 rfl;have a:=h.c 1 rfl;have a:=h.f;have a:w.heap.size+1+1≠z.heap.size:=by have:=((G.grew y).grew D).lt;omega
   clear u b u0 u1 u2 u3 u4 u5 u6 u7 B))
 refine bodyPost_ret (v:= Xm #[Xi #[O f F s,O i (nq+1) q],I6 0]) (by simp[results,Tryz.results128,go_sem, *]) rfl ⟨_,rfl,?_,?_⟩
 ·rw[H.out,K.out];exact zl9 n M g (G.grew y).lt (bS (r.trans y))
 have j:=bS (r.trans y);have k:=bS D.out;iterate 3 (refine zq ?_ (by simp;omega) _)
 exact l.out
theorem zji (d) (g:List (List Int)) (f:List (Int × List Int)) (m:Int) (p:List Int) (hp:p.length=8) (w:Xn) (ck:ZB w d g f) (bw:zk g.length f m=0) (da:f.length=400):
  Xp prog 128 #[d,I6 m,Xi (pgc p).toArray] w fun e w'=>∃ak,e= Xl (Xm #[ak,I6 (zk g.length f m)])/\qa w.heap.size w' ak (ja g f m) (jh g f m p)/\zc w w':=by
 obtain⟨s,t,u,x,y,z,A,B,rfl⟩:=zdB p hp;have cw:=dD ck;obtain⟨dt,dw,rfl,cj,bt⟩:=ck;have cf:=dD bt;obtain⟨ag,ai,rfl,_⟩:=cj.rows;obtain⟨ah,aj,rfl,_⟩:=bt.rows;clear cj bt hp
 show Xp prog 128 #[Xi #[O ag g.length ai,O ah f.length aj],I6 m,Xi #[U8 s,U8 t,U8 u,U8 x,U8 y,U8 z,U8 A,U8 B]] w _
 have bc:Xo (ja g f m=if zk g.length f m=0 then qW g f else []):=rfl;have a8:Xo (jh g f m [s,t,u,x,y,z,A,B]=if zk g.length f m=0 then qT f m [s,t,u,x,y,z,A,B]else []):=rfl;obtain⟨Z,q⟩:=kB (((w.alloc (Xk #[O ag g.length ai,O ah f.length aj] 34)).alloc (Xk #[U8 s,U8 t,U8 u,U8 x,U8 y,U8 z,U8 A,U8 B] 60)).alloc (Xk #[eS,eS] 34));have k:Xo (zc w Z):=show zc w Z by rw[<-q];exact((za _ _).trans (za _ _)).trans (za _ _)
 have bj:Xo (Box Z w.heap.size [O ag g.length ai,O ah f.length aj]):=dD<|by rw[<-q];exact((Box.top w [O ag g.length ai,O ah f.length aj] _ rfl).alloc _).alloc _
 have b7:Xo (Box Z (w.heap.size+1) [U8 s,U8 t,U8 u,U8 x,U8 y,U8 z,U8 A,U8 B]):=dD<|by rw[<-q];exact(Box.top _ [U8 s,U8 t,U8 u,U8 x,U8 y,U8 z,U8 A,U8 B] _ Sm).alloc _
 have a9:Xo (Box Z (w.heap.size+1+1) [eS,eS]):=dD<|by rw[<-q];exact Box.top _ [eS,eS] _ Sm
 have K:=QV ag g.length ai (O ah f.length aj) f m Z (cf.grew k);have a7:∀af,zc Z af->Xp prog 88 #[Xi #[O ag g.length ai,O ah f.length aj]] af fun e w'=>∃ak,e= Xl ak/\zaG af.heap.size w' ak g f/\zc af w':=fun af db=>zcP _ g f af (cw.grew (k.trans db))
 obtain⟨G,be⟩:=kA (zk g.length f m);rw[be.out]at K bc a8⊢;obtain⟨X,C⟩:=kA g.length;obtain⟨nq,n⟩:=kA f.length;rw[C.out,n.out]at K q bj⊢;simp only[C.out,n.out]at a7;have bf:Xo (_=Z):=q;clear q;have dd:=be.symm.trans bw;subst dd;rw[kE rfl]at bc a8;obtain⟨ax,dv,bs,br⟩:=qo be.out;obtain⟨au,ae,ar⟩:=jp ax;obtain⟨de,dc,bx,bz,c8⟩:=info_parts zqt;rw[bc.out,a8.out];clear bs br;have an:=n.symm.trans da;subst an;obtain⟨b1,G,rfl⟩:∃b1 G,f=b1 :: G:=by
  cases f with
  | nil=>exact absurd (show _ from n.out) Sm
  | cons b1 G=>exact⟨b1,G,rfl⟩
 have a3:Xo (G.length=399):=dD<|by have:=n.out;simpa using this
 obtain⟨dq,cn⟩:=b1;obtain⟨N,P,Q,R,S,T,U,V,rfl⟩:=zdB cn (cf.2.1 (dq,cn) Sm)
 obtain⟨F,a6,a5⟩:=ar _ (List.mem_cons_self);simp only at a6;subst a6;have ap:F<X:=Ry C.out a5
 have cl:(F:Int)< (X:Int):=Wm
 have bb:Xo (qW g (((F:Int),[N,P,Q,R,S,T,U,V]) :: G)=g.set F [N,P,Q,R,S,T,U,V]):=dD<|by unfold qW;rw[kE n.out];rfl
 have bd:Xo (qT (((F:Int),[N,P,Q,R,S,T,U,V]) :: G) m [s,t,u,x,y,z,A,B]=G++ [(m,[s,t,u,x,y,z,A,B])]):=dD<|by unfold qT;rw[kE n.out];rfl
 clear ae ar au ax a5
 go_enter func128,ntmps128
 go_wp2_with (first
  | (
   go_at_call 147;rw[bf.out];refine K.mono ?_;rintro e I ⟨rfl,a1⟩
   have j:Xo (zc Z I):=a1;have d8:=(bj.grew a1).c 0 rfl;have d9:=(bj.grew a1).c 1 rfl)
  | (
   go_at_call 88;refine(a7 I j).mono ?_;rintro e i ⟨ak,rfl,bo,ao⟩
   obtain⟨d6,dr,rfl,cc,ay⟩:=bo;obtain⟨H,c,bn⟩:∃H c,d6= O (Xa ⟨H,0,Xb⟩) X c:=by
    rcases cc.1.2 with⟨_,al⟩|⟨bl,aa,bk,al,_⟩
    ·have:=C.out;omega
    exact⟨bl,aa,by rw[al,C.out]⟩
   subst bn;obtain⟨l,b,bu⟩:∃l b,dr= O (Xa ⟨l,0,Xb⟩) 400 b:=by
    rcases ay.1.2 with⟨_,al⟩|⟨bl,aa,bk,al,_⟩
    ·simp at al
    exact⟨bl,aa,by rw[al,n.out]⟩
   subst bu;have ch:Xo (zh I.heap.size i (O (Xa ⟨H,0,Xb⟩) X c) g):=cc;have cy:Xo (zt I.heap.size i (O (Xa ⟨l,0,Xb⟩) 400 b) (((F:Int),[N,P,Q,R,S,T,U,V]) :: G)):=ay;have Y:Xo (zc I i):=ao;obtain⟨df,dg,dh,di,dj,dk,dl,dm,dn⟩:=ay.head;have dp:l<i.heap.size:=(ay.lt l rfl).2;clear cc ay a1 ao d8 d9)
  | (
   refine jH rfl (.tmp 34) (.tmp 33) rfl I.heap.size _ g (ch.grew ((za i (Xk #[O (Xa ⟨H,0,Xb⟩) X c,O (Xa ⟨l,0,Xb⟩) 400 b] 34)).trans (za _ (Xk #[I6 (F:Int),U8 N,U8 P,U8 Q,U8 R,U8 S,U8 T,U8 U,U8 V] 69)))) H F rfl (Rx C.out ap) [N,P,Q,R,S,T,U,V] rfl _ rfl Sm rfl ?_
   intro b5 az D _;have cx:=cy.grew ((za i (Xk #[O (Xa ⟨H,0,Xb⟩) X c,O (Xa ⟨l,0,Xb⟩) 400 b] 34)).trans (za _ (Xk #[I6 (F:Int),U8 N,U8 P,U8 Q,U8 R,U8 S,U8 T,U8 U,U8 V] 69)));have bh:=ch.grew ((za i (Xk #[O (Xa ⟨H,0,Xb⟩) X c,O (Xa ⟨l,0,Xb⟩) 400 b] 34)).trans (za _ (Xk #[I6 (F:Int),U8 N,U8 P,U8 Q,U8 R,U8 S,U8 T,U8 U,U8 V] 69)));have cd:=(zo.top i [O (Xa ⟨H,0,Xb⟩) X c,O (Xa ⟨l,0,Xb⟩) 400 b] 34 rfl).grew (za _ (Xk #[I6 (F:Int),U8 N,U8 P,U8 Q,U8 R,U8 S,U8 T,U8 U,U8 V] 69));have bp:=bh.lt H rfl;have b4:=dD<|cx.beside bh D;have cz:=dD az;have b2:=dD<|cd.beside D (bh.ne cd);have d2:Xo (Box b5 (w.heap.size+1+1) [eS,eS]):=((((a9.grew j).grew Y).grew (za i _)).grew (za _ _)).beside D (fun a0 r=>by cases r;have W:=(a9.grew j).lt;omega)
   have cp:Xo (Box b5 (w.heap.size+1) [U8 s,U8 t,U8 u,U8 x,U8 y,U8 z,U8 A,U8 B]):=((((b7.grew j).grew Y).grew (za i _)).grew (za _ _)).beside D (fun a0 r=>by cases r;have W:=(b7.grew j).lt;omega)
   have cr:Xo (zc w b5):=zT (((k.trans j).trans Y).trans ((za _ _).trans (za _ _))) D (fun a0 r=>by cases r;have W:=bS (k.trans j);omega)
   have b8:=b2.box.c 0 rfl;have b9:=b2.box.c 1 rfl;clear az D df dg dh di dj dk dl dm dn dp bp)
  | (
   go_at_call 148
   have L:=zgL I.heap.size l b ((F:Int),[N,P,Q,R,S,T,U,V]) G b5 (Rx a3.out b4) (by rw[a3.out];decide) (by rw[a3.out];decide)
   rw[a3.out]at L;refine L.mono ?_;rintro e a4 ⟨rfl,b0,E⟩;have bq:=b4.lt l rfl;have bg:=dD b0;have ci:=dD<|cz.beside b4 E;have a2:=dD<|b2.beside E (b4.ne b2);have d3:Xo (Box a4 (w.heap.size+1+1) [eS,eS]):=d2.beside E (fun a0 r=>by cases r;have W:=(a9.grew j).lt;omega)
   have ba:Xo (Box a4 (w.heap.size+1) [U8 s,U8 t,U8 u,U8 x,U8 y,U8 z,U8 A,U8 B]):=cp.beside E (fun a0 r=>by cases r;have W:=(b7.grew j).lt;omega)
   have cs:Xo (zc w a4):=zT cr E (fun a0 r=>by cases r;have W:=bS (k.trans j);omega)
   clear L b0 E b8 b9 bq;have b8:=a2.box.c 0 rfl;have b9:=a2.box.c 1 rfl;have co:=a2.box.f;have ad:w.heap.size+1≠i.heap.size:=by have:=((b7.grew j).grew Y).lt;omega
   have c9:w.heap.size+1<a4.heap.size:=ba.lt;have ca:i.heap.size<a4.heap.size:=a2.box.lt;obtain⟨u0,u1,u2,u3,u4,u5,u6⟩:=ba.c7;have u7:=ba.c 7 rfl)
  | (
   at_builtin
   have ac:=za (a4.setCell ⟨i.heap.size,1,Xb⟩ (O (Xa ⟨l,0,Xb⟩) 399 b)) (Xk #[I6 m,U8 s,U8 t,U8 u,U8 x,U8 y,U8 z,U8 A,U8 B] 69);have am:=(bg.setOther (a:=⟨i.heap.size,1,Xb⟩) (bg.ne a2) (O (Xa ⟨l,0,Xb⟩) 399 b)).grew ac;have d0:=(ci.setOther (a:=⟨i.heap.size,1,Xb⟩) (ci.ne a2) (O (Xa ⟨l,0,Xb⟩) 399 b)).grew ac;have ce:=(a2.set 1 (O (Xa ⟨l,0,Xb⟩) 399 b)).grew ac;have d4:=(d3.other (a:=⟨i.heap.size,1,Xb⟩) (by have:=((a9.grew j).grew Y).lt;show w.heap.size+1+1≠i.heap.size;omega) (O (Xa ⟨l,0,Xb⟩) 399 b)).grew ac
   have ct:=(show zc w (a4.setCell ⟨i.heap.size,1,Xb⟩ (O (Xa ⟨l,0,Xb⟩) 399 b))from zq cs (by have:=bS ((k.trans j).trans Y);exact this) _).trans ac
   refine wpList_append_own _ rfl (.tmp 40) (.tmp 44) 32 rfl I.heap.size 69 de _ 9 16 underlying32 dc bx bz c8 rfl Dc _ _ _ rfl am.1 ⟨a4.heap.size,0,Xb⟩ 1 1 (ptc (m,[s,t,u,x,y,z,A,B])) rfl rfl (jP.top _ (ptc (m,[s,t,u,x,y,z,A,B])) _ Sm) (zcK _) (qO (by rw[a3.out];decide)) (by rw[a3.out];decide) (by have bm:=bS Y.out;have W:=bS ac;have du:=a2.box.lt;simp at W⊢;omega) ?_
   intro ds b6 M h _;have cg:Xo (zt I.heap.size b6 ds (G++ [(m,[s,t,u,x,y,z,A,B])])):=zt.snoc M bg.2.1 rfl (by rw[a3.out];decide)
   have d1:=dD<|d0.beside am h;have b3:Xo (zo b6 i.heap.size 34 [O (Xa ⟨H,0,Xb⟩) X c,O (Xa ⟨l,0,Xb⟩) 399 b]):=ce.beside h (am.ne ce);have bi:Xo (Box b6 (w.heap.size+1+1) [eS,eS]):=d4.beside h (fun a0 r=>by have bm:=(am.lt a0 r).1;have W:=(a9.grew j).lt;omega)
   have cu:Xo (zc w b6):=zT ct h (fun a0 r=>by have bm:=(am.lt a0 r).1;have W:=bS (k.trans j);omega)
   obtain⟨d5,d7,aw⟩:=cg.form;rw[lA,a3.out,Yn]at aw;subst aw;clear b8 b9 co;have b8:=b3.box.c 0 rfl;have b9:=b3.box.c 1 rfl;have co:=b3.box.f;have dx:=bi.c 0 rfl;have dy:=bi.c 1 rfl;have dz:=bi.f;have cm:w.heap.size+1+1≠i.heap.size:=by have:=((a9.grew j).grew Y).lt;omega
   clear ac M h u0 u1 u2 u3 u4 u5 u6 u7 c9 ca ad))
 refine bodyPost_ret (v:= Xm #[Xi #[O (Xa ⟨H,0,Xb⟩) X c,O d5 400 d7],I6 0]) (by simp[results,Tryz.results128,go_sem, *]) rfl ⟨_,rfl,?_,?_⟩
 ·rw[bb.out,bd.out];exact zl9 d1 cg b3 (a9.grew j).lt (bS (k.trans j))
 have bm:=bS (k.trans j);have W:=bS Y.out;iterate 3 (refine zq ?_ (by simp;omega) _)
 exact cu.out
theorem zfE (d) (b:List (List Int)) (a:List (Int × List Int)) (m:Int) (p:List Int) (hp:p.length=8) (w:Xn) (f:ZB w d b a):
  Xp prog 128 #[d,I6 m,Xi (pgc p).toArray] w fun e w'=>∃c,e= Xl (Xm #[c,I6 (zk b.length a m)])/\qa w.heap.size w' c (ja b a m) (jh b a m p)/\zc w w':=by
 by_cases c:zk b.length a m=0
 ·by_cases g:a.length=400
  ·exact zji d b a m p hp w f c g
  exact zkQ d b a m p hp w f c g
 exact zkR d b a m p hp w f c
def QN (m:Int) (j:Nat):Bool:=bits BinOp.and IntKind.i64 (m / 2 ^(j % 60)) 1 == 1
theorem zkr (m:Int) (B:Nat) (j:Nat) (b:j<=400) (w:Xn) (a:w.cell? ⟨B,0,Xb⟩=Xa (I6 m)):
  Xp prog 64 #[I6 (j:Int),Xj (Xa ⟨B,0,Xb⟩)] w fun e w'=>e= Xl (Xh (QN m j))/\zc w w':=by
 have H:Xo (QN m j=(bits BinOp.and IntKind.i64 (m / 2 ^(j % 60)) 1 == 1)):=rfl
 go_enter func64,ntmps64
 go_wp2;go_ret;rw[H.out];exact⟨rfl,zc.refl _⟩
theorem zfR (m:Int) (B:Nat) (w:Xn) (a:w.cell? ⟨B,0,Xb⟩=Xa (I6 m)):zil 64 #[Xj (Xa ⟨B,0,Xb⟩)] (QN m) w:=fun W j b c=>
 zkr m B j c W ((Below.cell b (World.block_lt_of_cell? _ _ a)).trans a)
theorem zmn (d) (f:List (List Int)) (b:List (Int × List Int)) (m:Int) (w:Xn) (c:ZB w d f b):
  Xp prog 35 #[d,I6 m] w fun e w'=>∃a,e= Xl (Xm #[a,I6 (zF f.length b)])/\qa w.heap.size w' a (JL (QN m) f b) []/\zc w w':=by
 have k:=dD c;obtain⟨a,q,rfl,a,g⟩:=c;obtain⟨c,i,rfl,_⟩:=a.rows;obtain⟨h,l,rfl,_⟩:=g.rows;clear a g;obtain⟨j,a⟩:=kB (((w.alloc (Xk #[O c f.length i,O h b.length l] 34)).alloc (Xk #[I6 m] 3)).alloc (Xk #[eS,eS] 34));have g:Xo (zc w j):=show zc w j by rw[<-a];exact((za _ _).trans (za _ _)).trans (za _ _)
 have h:Box j (w.heap.size+1) [I6 m]:=by rw[<-a];exact(Box.top _ [I6 m] _ Sm).alloc _
 have i:Box j (w.heap.size+1+1) [eS,eS]:=by rw[<-a];exact Box.top _ [eS,eS] _ Sm
 have c:=zd1 (QN m) 64 #[Xj (Xa ⟨w.heap.size+1,0,Xb⟩)] (enters_of func64 Kr rfl) _ f b j (k.grew g) (zfR m (w.heap.size+1) j (h.c 0 rfl))
 have k:=dD i;obtain⟨l,h⟩:=kA f.length;obtain⟨nq,i⟩:=kA b.length;obtain⟨r,n⟩:=kA (zF l b);rw[h.out,i.out,n.out]at c;rw[h.out,i.out]at a;have l:=dD a;clear a;rw[h.out,i.out,n.out]
 go_enter func35,ntmps35
 go_wp2_with (
  go_at_call 57;rw[l.out]
  refine c.mono ?_;rintro e i ⟨n,rfl,c,h⟩;have a:Box i (w.heap.size+1+1) [eS,eS]:=k.grew h;have l:=a.c 0 rfl;have l:=a.c 1 rfl;have l:=a.f 0;have l:=a.f 1;have l:Xo (qa j.heap.size i n (JL (QN m) f b) []):=c;have j:=dD (g.trans h);obtain⟨h,h,rfl,h,i,_⟩:=c;obtain⟨c,q,rfl,_⟩:=h.rows;obtain⟨n,s,rfl,_⟩:=i.rows;clear h i a)
 refine bodyPost_ret (v:= Xm #[Xi #[.slice c (JL (QN m) f b).length q,O n 0 s],I6 r]) (by simp[results,Tryz.results35,go_sem, *]) rfl ⟨_,rfl,?_,?_⟩
 ·have:=k.lt;exact((l.setCell (Si this) _).setCell (Si this) _).base (bS g)
 exact Below.setCell (Below.setCell j (p:=⟨w.heap.size+1+1,0,Xb⟩) (by simp;omega) _) (p:=⟨w.heap.size+1+1,1,Xb⟩) (by simp;omega) _
theorem al1:Jk 3=0:=by decide
theorem al2:zkJ 3=[zp,zp,zp]:=by decide
theorem al3:zk [zp,zp,zp].length [] 1=0:=by decide
theorem al4:ja [zp,zp,zp] [] 1=[zp,zp,zp]:=by decide
end
end Go.Proofs.YtjjdljjhmcegdaaGreat
