/- TopProcs,proved:a process forks until there are as many as may be,each one's number is new,and one that goes leaves its number to the next one,whichever goes. No condition. -/
import Derived.Test.YtempiodbdhiboaaGreatTP8
import Derived.Deep.Cut
import Derived.Test.YtempiodbdhiboaaGreatRows
import Derived.WalkKit
import Derived.ProofKit
import Derived.OpenShut
import Derived.ShutString
import Derived.ChangeOld
import Derived.Below
import Derived.Carry
import Derived.SizedLaws
import Derived.Deep.Slices
import Derived.Test.YtempiodbdhiboaaGreatChecked
namespace Go.Proofs.YtempiodbdhiboaaGreat
open Go.Value renaming slice→O,int→Xe,bool→Xh,agg→Xi,pointer→Xj,tuple→Xm
open Go.IntKind renaming i64→Xf,u8→Xg
open Go.Obj renaming cells→Xk
open Go.Ending renaming returned→Xl
open Go renaming World→Xn,Calls→Xp,Value→Xq
open Go.RowKit renaming Hid→Xo
open Option renaming some→Xa,none→Xb
open Bool renaming true→Xc,false→Xd
open List renaming replicate→Xr
open _root_.List renaming getElem?_append_left→Xs
open _root_.Nat renaming lt_of_lt_of_le→Xt
set_option maxRecDepth 100000
set_option maxHeartbeats 4000000
section
open Go.RowKit
def arA1:Ar:=⟨0,1,Xc,Xc,Xd,-1,0⟩
def maA1:Ma:=areaM (newMa 2 2 0) 0 ⟨Xc,[],none8⟩ [arA1]
def frA (pg:Pg):Fr:=⟨pg,1,Xc,Xd,-1,0⟩
def tbA (w:Bool):List (List En):=setT none8 0 ⟨1,0,w⟩
def maA2 (pg:Pg) (w:Bool):Ma:={ maA1 with fs:=[frA pg,frF],sp:=[⟨Xc,[arA1],tbA w⟩] }
theorem map_A:mapA [] arA1=([arA1],0):=by rfl
theorem right_A0:maW (newMa 2 2 0)=0:=by decide
theorem right_A1:maW maA1=0:=by decide
theorem right_A2:∀w,maW (maA2 ⟨0,0,0,9,0,0,0,0⟩ w)=0:=by decide
theorem right_A3:∀w,maW (maA2 pg0 w)=0:=by decide
theorem rt_A1:Rt maA1:=⟨right_A1,by intro s hs;cases hs with | head=>rfl | tail _ h=>cases h⟩
theorem rt_A2 (w:Bool):Rt (maA2 ⟨0,0,0,9,0,0,0,0⟩ w):=⟨right_A2 w,by intro s hs;cases hs with | head=>rfl | tail _ h=>cases h⟩
theorem rt_A3 (w:Bool):Rt (maA2 pg0 w):=⟨right_A3 w,by intro s hs;cases hs with | head=>rfl | tail _ h=>cases h⟩
theorem view_A1:viewL maA1 0 0=(zero8,Xd,0):=by decide
theorem view_A2 (w:Bool):viewL (maA2 ⟨0,0,0,9,0,0,0,0⟩ w) 0 0=([0,0,0,9,0,0,0,0],Xc,0):=by revert w;decide
theorem use_A {m:Ma} {tb:List (List En)} (hsp:m.sp=[⟨Xc,[arA1],tb⟩]) {wr:Bool} {a:Ar} {e:Int} (h:Usable m 0 0 wr a e):e=0/\a=arA1:=by
 rcases h with⟨_,_,h⟩ | ⟨pp,nn,k,s,x,hp,hn,_,hs,hx,_,_,_,h⟩
 ·rcases h with(h | h) | ⟨pp,s,hp,hs,h⟩
  ·omega
  ·rw[hsp]at h
   simp at h
  have:pp=0:=by omega
  subst this;rw[hsp]at hs;cases hs;have:=h arA1 (List.mem_cons_self ..);cases this
 have:pp=0:=by omega
 subst this;rw[hsp]at hs;cases hs
 cases k with
 | zero=>
  cases hx
  rcases h with⟨_,_,h⟩ | ⟨h1,h2,_⟩
  ·cases wr <;> cases h
  exact⟨h1,h2⟩
 | succ k=>
  simp at hx
theorem pg_zero {pg:Pg} (h:zero8=pgL pg):pg=pg0:=by
 cases pg;simp only[zero8,pgL,List.cons.injEq]at h;simp only[pg0,Pg.mk.injEq];omega
theorem pg_nine {pg:Pg} (h: [0,0,0,9,0,0,0,0]=pgL pg):pg=⟨0,0,0,9,0,0,0,0⟩:=by
 cases pg;simp only[pgL,List.cons.injEq]at h;simp only[Pg.mk.injEq];omega
theorem bring_A1 (BF:Bool × Nat × Ma):bringR maA1 BF pg0 arA1 Xd Xc 0 0=(Xc,0,maA2 pg0 Xd):=by
 rfl
theorem bring_A2 (BF:Bool × Nat × Ma):bringR (maA2 ⟨0,0,0,9,0,0,0,0⟩ Xc) BF ⟨0,0,0,9,0,0,0,0⟩ arA1 Xc Xd 0 0=(Xc,0,maA2 ⟨0,0,0,9,0,0,0,0⟩ Xc):=by
 rfl
theorem know_A1 {BF:Nat->Nat->Ar->Pg->Bool->Bool × Nat × Ma} {q i:Nat} {a:Ar} {pg:Pg} {ic:Bool} (hq:(0:Int)=(q:Int)) (hi:(0:Int)=(i:Int)) (hu:Usable maA1 0 0 Xc a 0) (hv:viewL maA1 0 0=(pgL pg,ic,0)):q=0/\i=0/\a=arA1/\bringR maA1 (BF q i a pg Xc) pg a ic Xc q i=(Xc,0,maA2 pg0 Xd):=by
 have e1:q=0:=by omega
 have e2:i=0:=by omega
 subst e1 e2;obtain⟨_,e3⟩:=use_A rfl hu;subst e3;rw[view_A1]at hv;simp only[pJ]at hv;obtain⟨h1,h2,_⟩:=hv;have e4:=pg_zero h1;subst e4 h2;exact⟨rfl,rfl,rfl,bring_A1 _⟩
theorem not_A1 {BF:Nat->Nat->Ar->Pg->Bool->Bool × Nat × Ma} {er:Int}:¬NotUsed maA1 BF 0 0 Xc er:=by
 rintro⟨he,h | ⟨a,_,h⟩ | ⟨_,q,i,a,pg,ic,hq,hi,hu,hv,hb⟩⟩
 ·exact he (use_A rfl h).1
 ·rw[view_A1]at h;exact he h.symm
 rw[(know_A1 hq hi hu hv).2.2.2]at hb;cases hb
theorem used_A1 {BF:Nat->Nat->Ar->Pg->Bool->Bool × Nat × Ma} {kk:Nat} {m':Ma} (h:Used maA1 BF 0 0 Xc kk m'):kk=0/\m'=maA2 pg0 Xc:=by
 obtain⟨q,i,a,pg,ic,fr,hq,hi,hu,hv,hb,hk,hf,hm⟩:=h;obtain⟨e1,e2,e3,e4⟩:=know_A1 (BF:=BF) hq hi hu hv;rw[e4]at hk hf hm;subst e1 e2 e3 hk;have hf:(maA2 pg0 Xd).fs[0]? =Xa fr:=hf;cases hf;exact⟨rfl,hm⟩
theorem into_A1 {BF:Nat->Nat->Ar->Pg->Bool->Bool × Nat × Ma} {q i:Nat} {a:Ar} {pg:Pg} {ic:Bool} (hq:(0:Int)=(q:Int)) (hi:(0:Int)=(i:Int)) (hu:Usable maA1 0 0 Xc a 0) (hv:viewL maA1 0 0=(pgL pg,ic,0)):Into (bringR maA1 (BF q i a pg Xc) pg a ic Xc q i).2.1 q i (bringR maA1 (BF q i a pg Xc) pg a ic Xc q i).2.2:=by
 obtain⟨e1,e2,e3,e4⟩:=know_A1 (BF:=BF) hq hi hu hv;rw[e4];subst e1 e2;exact⟨_,_,_,rt_A3 Xd,rfl,rfl,rfl⟩
theorem useA_A1 (V:MaV) (W:Xn) (BF:Nat->Nat->Ar->Pg->Bool->Bool × Nat × Ma) (hm:MachAt W V maA1):Xp Tryz.prog 140 #[Xi #[O V.f.a V.f.n V.f.c,Xe Xf (maA1).hand,O V.s.a V.s.n V.s.c,O V.sb.a V.sb.n V.sb.c,O V.sq.a V.sq.n V.sq.c,O V.db.a V.db.n V.db.c,O V.dq.a V.dq.n V.dq.c,O V.fl.a V.fl.n V.fl.c,Xe Xf (maA1).cnt,O V.ca.a V.ca.n V.ca.c,O V.sp.a V.sp.n V.sp.c],Xe Xf 0,Xe Xf 0,Xh Xc] W fun e w'=>((∃er:Int,e= Xl (Xm #[Xi zeroM.toArray,Xe Xf 0,Xe Xf er])/\NotUsed maA1 BF 0 0 Xc er)\/(∃(V':MaV) (k pc:Nat) (m':Ma),e= Xl (Xm #[Xi #[O V'.f.a V'.f.n V'.f.c,Xe Xf m'.hand,O V'.s.a V'.s.n V'.s.c,O V'.sb.a V'.sb.n V'.sb.c,O V'.sq.a V'.sq.n V'.sq.c,O V'.db.a V'.db.n V'.db.c,O V'.dq.a V'.dq.n V'.dq.c,O V'.fl.a V'.fl.n V'.fl.c,Xe Xf m'.cnt,O V'.ca.a V'.ca.n V'.ca.c,O V'.sp.a V'.sp.n V'.sp.c],Xe Xf (k:Int),Xe Xf 0])/\Used maA1 BF 0 0 Xc k m'/\ChW W pc w' V' m'))/\Grew W w':=
 use_any V maA1 0 0 Xc W hm rt_A1 BF (fun w0 W p V1 m1 mv l hl e _ _ h0 _=>absurd h0 (by rw[e];exact dropAll_room l rt_A1 hl (k:=1) (fr:=frF) rfl rfl))
  (fun q i a pg _ _ hu _ hf _=>by
   obtain⟨_,e⟩:=use_A rfl hu;rw[e]at hf;exact absurd hf (by decide)) (fun q i a pg ic hq hi hu hv _=>into_A1 hq hi hu hv)
theorem know_A2 {BF:Nat->Nat->Ar->Pg->Bool->Bool × Nat × Ma} {q i:Nat} {a:Ar} {pg:Pg} {ic:Bool} (hq:(0:Int)=(q:Int)) (hi:(0:Int)=(i:Int)) (hu:Usable (maA2 ⟨0,0,0,9,0,0,0,0⟩ Xc) 0 0 Xd a 0) (hv:viewL (maA2 ⟨0,0,0,9,0,0,0,0⟩ Xc) 0 0=(pgL pg,ic,0)):q=0/\i=0/\a=arA1/\bringR (maA2 ⟨0,0,0,9,0,0,0,0⟩ Xc) (BF q i a pg Xd) pg a ic Xd q i=(Xc,0,maA2 ⟨0,0,0,9,0,0,0,0⟩ Xc):=by
 have e1:q=0:=by omega
 have e2:i=0:=by omega
 subst e1 e2;obtain⟨_,e3⟩:=use_A rfl hu;subst e3;rw[view_A2]at hv;simp only[pJ]at hv;obtain⟨h1,h2,_⟩:=hv;have e4:=pg_nine h1;subst e4 h2;exact⟨rfl,rfl,rfl,bring_A2 _⟩
theorem not_A2 {BF:Nat->Nat->Ar->Pg->Bool->Bool × Nat × Ma} {er:Int}:¬NotUsed (maA2 ⟨0,0,0,9,0,0,0,0⟩ Xc) BF 0 0 Xd er:=by
 rintro⟨he,h | ⟨a,_,h⟩ | ⟨_,q,i,a,pg,ic,hq,hi,hu,hv,hb⟩⟩
 ·exact he (use_A rfl h).1
 ·rw[view_A2]at h;exact he h.symm
 rw[(know_A2 hq hi hu hv).2.2.2]at hb;cases hb
theorem used_A2 {BF:Nat->Nat->Ar->Pg->Bool->Bool × Nat × Ma} {kk:Nat} {m':Ma} (h:Used (maA2 ⟨0,0,0,9,0,0,0,0⟩ Xc) BF 0 0 Xd kk m'):kk=0/\m'=maA2 ⟨0,0,0,9,0,0,0,0⟩ Xc:=by
 obtain⟨q,i,a,pg,ic,fr,hq,hi,hu,hv,hb,hk,hf,hm⟩:=h;obtain⟨e1,e2,e3,e4⟩:=know_A2 (BF:=BF) hq hi hu hv;rw[e4]at hk hf hm;subst e1 e2 e3 hk;have hf:(maA2 ⟨0,0,0,9,0,0,0,0⟩ Xc).fs[0]? =Xa fr:=hf;cases hf;exact⟨rfl,hm⟩
theorem into_A2 {BF:Nat->Nat->Ar->Pg->Bool->Bool × Nat × Ma} {q i:Nat} {a:Ar} {pg:Pg} {ic:Bool} (hq:(0:Int)=(q:Int)) (hi:(0:Int)=(i:Int)) (hu:Usable (maA2 ⟨0,0,0,9,0,0,0,0⟩ Xc) 0 0 Xd a 0) (hv:viewL (maA2 ⟨0,0,0,9,0,0,0,0⟩ Xc) 0 0=(pgL pg,ic,0)):Into (bringR (maA2 ⟨0,0,0,9,0,0,0,0⟩ Xc) (BF q i a pg Xd) pg a ic Xd q i).2.1 q i (bringR (maA2 ⟨0,0,0,9,0,0,0,0⟩ Xc) (BF q i a pg Xd) pg a ic Xd q i).2.2:=by
 obtain⟨e1,e2,e3,e4⟩:=know_A2 (BF:=BF) hq hi hu hv;rw[e4];subst e1 e2;exact⟨_,_,_,rt_A2 Xc,rfl,rfl,rfl⟩
theorem useA_A2 (V:MaV) (W:Xn) (BF:Nat->Nat->Ar->Pg->Bool->Bool × Nat × Ma) (hm:MachAt W V (maA2 ⟨0,0,0,9,0,0,0,0⟩ Xc)):Xp Tryz.prog 140 #[Xi #[O V.f.a V.f.n V.f.c,Xe Xf ((maA2 ⟨0,0,0,9,0,0,0,0⟩ Xc)).hand,O V.s.a V.s.n V.s.c,O V.sb.a V.sb.n V.sb.c,O V.sq.a V.sq.n V.sq.c,O V.db.a V.db.n V.db.c,O V.dq.a V.dq.n V.dq.c,O V.fl.a V.fl.n V.fl.c,Xe Xf ((maA2 ⟨0,0,0,9,0,0,0,0⟩ Xc)).cnt,O V.ca.a V.ca.n V.ca.c,O V.sp.a V.sp.n V.sp.c],Xe Xf 0,Xe Xf 0,Xh Xd] W fun e w'=>((∃er:Int,e= Xl (Xm #[Xi zeroM.toArray,Xe Xf 0,Xe Xf er])/\NotUsed (maA2 ⟨0,0,0,9,0,0,0,0⟩ Xc) BF 0 0 Xd er)\/(∃(V':MaV) (k pc:Nat) (m':Ma),e= Xl (Xm #[Xi #[O V'.f.a V'.f.n V'.f.c,Xe Xf m'.hand,O V'.s.a V'.s.n V'.s.c,O V'.sb.a V'.sb.n V'.sb.c,O V'.sq.a V'.sq.n V'.sq.c,O V'.db.a V'.db.n V'.db.c,O V'.dq.a V'.dq.n V'.dq.c,O V'.fl.a V'.fl.n V'.fl.c,Xe Xf m'.cnt,O V'.ca.a V'.ca.n V'.ca.c,O V'.sp.a V'.sp.n V'.sp.c],Xe Xf (k:Int),Xe Xf 0])/\Used (maA2 ⟨0,0,0,9,0,0,0,0⟩ Xc) BF 0 0 Xd k m'/\ChW W pc w' V' m'))/\Grew W w':=
 use_any V (maA2 ⟨0,0,0,9,0,0,0,0⟩ Xc) 0 0 Xd W hm (rt_A2 Xc) BF (fun w0 W p V1 m1 mv l hl e _ _ h0 _=>absurd h0 (by rw[e];exact dropAll_room l (rt_A2 Xc) hl (k:=1) (fr:=frF) rfl rfl))
  (fun q i a pg _ _ hu _ hf _=>by
   obtain⟨_,e⟩:=use_A rfl hu;rw[e]at hf;exact absurd hf (by decide)) (fun q i a pg ic hq hi hu hv _=>into_A2 hq hi hu hv)
def clA0:Cl:=⟨1,0,0,1,-1,0,Xc,Xc,Xd,noS⟩
def clA1 (s:Sli):Cl:=⟨5,0,3,0,0,0,Xd,Xd,Xd,s⟩
def clA2:Cl:=⟨4,0,3,1,0,0,Xd,Xd,Xd,noS⟩
theorem map_step {er n:Int} {l:List Int} {m':Ma} (h:KProc (newMa 2 2 0) 0 (KMap (newMa 2 2 0) clA0) er n l m'):er=0/\m'=maA1:=by
 rcases h with⟨_,_,_,hno⟩ | ⟨_,_,q,s,hq,he,hm⟩
 ·exact absurd (⟨rfl,rfl,rfl⟩:LiveP (newMa 2 2 0) 0 0 ⟨Xc,[],none8⟩) (hno 0 _)
 have e:q=0:=by have:=hq.1;simp only[clA0]at this;omega
 subst e;have hs:=hq.2.1;cases hs;have e2:mapA [] (arC clA0)=([arA1],0):=map_A;rw[e2]at he hm;have he:er=0:=he;exact⟨he,(hm he).2⟩
theorem store_step {s:Sli} (hn:s.n=1) {BF:Nat->Nat->Ar->Pg->Bool->Bool × Nat × Ma} {er n:Int} {l:List Int} {m':Ma} (h:KProc maA1 0 (KStore maA1 BF (clA1 s) [9]) er n l m'):er=0/\m'=maA2 ⟨0,0,0,9,0,0,0,0⟩ Xc:=by
 have hw:pgWithin (clA1 s).pt ((clA1 s).dv.n:Int)=Xc:=by
  show pgWithin 3 (s.n:Int)=Xc
  rw[hn]
  decide
 rcases h with⟨_,_,_,hno⟩ | ⟨_,_,⟨_,h⟩ | ⟨he,_,kk,mu,fr,pg,⟨_,hu,hf,_⟩,hp,hm⟩⟩
 ·exact absurd (⟨rfl,rfl,rfl⟩:LiveP maA1 0 0 ⟨Xc,[arA1],none8⟩) (hno 0 _)
 ·rcases h with⟨h,_⟩ | ⟨_,h⟩ | ⟨_,_,kk,mu,fr,j,fl,hu,hf,hj,_⟩
  ·rw[hw]at h;cases h
  ·exact absurd h not_A1
  obtain⟨e1,e2⟩:=used_A1 hu;subst e1 e2;have hf:(maA2 pg0 Xc).fs[0]? =Xa fr:=hf;cases hf;have hj:(-1:Int)=(j:Int):=hj;omega
 obtain⟨e1,e2⟩:=used_A1 hu;subst e1 e2;have hf:(maA2 pg0 Xc).fs[0]? =Xa fr:=hf;cases hf;have e:=pg_nine (pg:=pg) hp;subst e;exact⟨he,hm⟩
theorem load_step {BF:Nat->Nat->Ar->Pg->Bool->Bool × Nat × Ma} {er n:Int} {l:List Int} {m':Ma} (h:KProc (maA2 ⟨0,0,0,9,0,0,0,0⟩ Xc) 0 (KLoad (maA2 ⟨0,0,0,9,0,0,0,0⟩ Xc) BF clA2) er n l m'):er=0/\l=[9]:=by
 have hw:pgWithin clA2.pt clA2.n=Xc:=by decide
 rcases h with⟨_,_,_,hno⟩ | ⟨_,⟨_,_,h⟩ | ⟨he,_,kk,fr,⟨_,hu,hf,_⟩,hl⟩⟩
 ·exact absurd (⟨rfl,rfl,rfl⟩:LiveP (maA2 ⟨0,0,0,9,0,0,0,0⟩ Xc) 0 0 ⟨Xc,[arA1],tbA Xc⟩) (hno 0 _)
 ·rcases h with⟨h,_⟩ | ⟨_,h⟩ | ⟨_,_,kk,mu,fr,j,fl,hu,hf,hj,_⟩
  ·rw[hw]at h;cases h
  ·exact absurd h not_A2
  obtain⟨e1,e2⟩:=used_A2 hu;subst e1 e2;have hf:(maA2 ⟨0,0,0,9,0,0,0,0⟩ Xc).fs[0]? =Xa fr:=hf;cases hf;have hj:(-1:Int)=(j:Int):=hj;omega
 obtain⟨e1,e2⟩:=used_A2 hu;subst e1 e2;have hf:(maA2 ⟨0,0,0,9,0,0,0,0⟩ Xc).fs[0]? =Xa fr:=hf;cases hf;exact⟨he,hl⟩
theorem in_A1 {BF:Nat->Nat->Ar->Pg->Bool->Bool × Nat × Ma} (kk:Nat) (m':Ma) (h:Used maA1 BF 0 0 Xc kk m'):∃fr:Fr,m'.fs[kk]? =Xa fr/\(fr.f=-1\/∃(j:Nat) (fl:Fl),fr.f=(j:Int)/\m'.fl[j]? =Xa fl)/\0<=fr.x/\fr.x<1000:=by
 obtain⟨e1,e2⟩:=used_A1 h;subst e1 e2;exact⟨_,rfl,.inl rfl,by decide,by decide⟩
theorem in_A2 {BF:Nat->Nat->Ar->Pg->Bool->Bool × Nat × Ma} (kk:Nat) (m':Ma) (h:Used (maA2 ⟨0,0,0,9,0,0,0,0⟩ Xc) BF 0 0 Xd kk m'):∃fr:Fr,m'.fs[kk]? =Xa fr/\(fr.f=-1\/∃(j:Nat) (fl:Fl),fr.f=(j:Int)/\m'.fl[j]? =Xa fl)/\0<=fr.x/\fr.x<1000:=by
 obtain⟨e1,e2⟩:=used_A2 h;subst e1 e2;exact⟨_,rfl,.inl rfl,by decide,by decide⟩
theorem kmap_any {w0 u w:Xn} {p:Nat} {V:MaV} {m:Ma} (h:ChW w0 p u V m) (gu:Grew u w) (c:Cl) (hlv:∃q s,LiveP m c.proc q s) (h1:0<=c.pt) (h2:1<=c.n) (h3:c.n<=64 - c.pt) (h4:-1<=c.file) (h5:c.file< (m.fl.length:Int)):
  Xp Tryz.prog 35 #[Xj (Xa ⟨p,0,Xb⟩),Xi #[Xe Xf c.kind,Xe Xf c.proc,Xe Xf c.pt,Xe Xf c.n,Xe Xf c.file,Xe Xf c.base,Xh c.rd,Xh c.wr,Xh c.sh,O c.dv.a c.dv.n c.dv.c]] w fun e w'=>WorkM (KMap m c) w0 p u w e w':=by
 obtain⟨q,s,hpq,hs,hlive⟩:=hlv;have HM:Xo (ChW w0 p u V m):=h;have HGU:Xo (Grew u w):=gu;have HLV:Xo (LiveP m c.proc q s):=show LiveP _ _ _ _ from⟨hpq,hs,hlive⟩
 obtain⟨b,HB⟩:∃b,Xo (w.heap.size=b):=⟨_,rfl⟩;obtain⟨W1,hW1⟩:∃W1,(w.alloc (Xk #[Xe Xf c.kind,Xe Xf c.proc,Xe Xf c.pt,Xe Xf c.n,Xe Xf c.file,Xe Xf c.base,Xh c.rd,Xh c.wr,Xh c.sh,O c.dv.a c.dv.n c.dv.c] 26)).alloc (Xk #[Xe Xf 0,Xe Xf 0,O Xb 0 0] 50)=W1:=⟨_,rfl⟩;have G1:=gD2 hW1
 have X1:Xo (BoxT W1 b 26 [Xe Xf c.kind,Xe Xf c.proc,Xe Xf c.pt,Xe Xf c.n,Xe Xf c.file,Xe Xf c.base,Xh c.rd,Xh c.wr,Xh c.sh,O c.dv.a c.dv.n c.dv.c]):=show BoxT _ _ _ _ by rw[<-hW1];exact(BoxT.top w [Xe Xf c.kind,Xe Xf c.proc,Xe Xf c.pt,Xe Xf c.n,Xe Xf c.file,Xe Xf c.base,Xh c.rd,Xh c.wr,Xh c.sh,O c.dv.a c.dv.n c.dv.c] _ HB.out.symm).grew (grew_alloc _ _)
 have A1:Xo (BoxT W1 (b+1) 50 [Xe Xf 0,Xe Xf 0,O Xb 0 0]):=show BoxT _ _ _ _ by rw[<-hW1];exact BoxT.top _ [Xe Xf 0,Xe Xf 0,O Xb 0 0] _ (by have:=HB.out;simp;omega)
 have HBL:Xo (b+1<W1.heap.size):=A1.out.box.lt;have GU1:Xo (Grew u W1):=show Grew _ _ from gu.trans G1.out
 have P1:Xo (BoxT W1 p 88 (chL V m)):=h.box.grew GU1.out;have HPU:Xo (p<u.heap.size):=h.dlt p (.inl rfl);have HUB:Xo (u.heap.size<=b):=show _<=_ by rw[<-HB.out];exact bS gu
 have HW1:Xo (_=W1):=hW1;obtain⟨xs,s1,s2,s3⟩:=h.sp;obtain⟨x,hx⟩:∃x,xs[q]? =Xa x:=⟨_,gE (by rw[s2];exact(gS.1 hs).1)⟩
 obtain⟨gs,cc,heq⟩:=s1.formS (by have:=(gS.1 hx).1;omega)
 have HOB:Xo (oB V.sp gs):=show(O V.sp.a V.sp.n V.sp.c).ownBlock=Xa gs by rw[heq];rfl
 have HS1:Xo (OwnRow spcE w0.heap.size u (O V.sp.a V.sp.n V.sp.c) xs):=s1;have HS2:Xo (xs.length=m.sp.length):=s2;have HS3:Xo (∀(i:Nat) x s,xs[i]? =Xa x->m.sp[i]? =Xa s->∀W,OutD (Dr w0.heap.size p V) u W->SpaceAt W x s):=s3;have HX:Xo (xs[q]? =Xa x):=hx;have HS:Xo (m.sp[q]? =Xa s):=hs;have HSP:Xo (SpaceAt W1 x s):=s3 q x s hx hs W1 (OutD.grew GU1.out);have HGS:Xo (w0.heap.size<=gs/\gs<u.heap.size):=s1.lt gs HOB.out;have hq10:=P1.out.box.c 10 rfl;have hql:(q:Int)< (xs.length:Int):=by have:=(gS.1 hx).1;omega
 have HSO:Xo (OwnRow spcE w0.heap.size W1 (O (Xa ⟨gs,0,Xb⟩) xs.length cc) xs):=show OwnRow _ _ _ _ _ by rw[<-heq];exact s1.grew GU1.out
 rw[heq]at hq10;have HEQ:Xo (O V.sp.a V.sp.n V.sp.c= O (Xa ⟨gs,0,Xb⟩) xs.length cc):=heq;have hfl:=h.at.fl.n;obtain⟨fn,HFN⟩:∃fn,Xo (m.fl.length=fn):=⟨_,rfl⟩;have HFV:Xo (V.fl.n=fn):=show _=_ by rw[hfl];exact HFN.out
 rw[HFN.out]at h5;obtain⟨sn,HSN⟩:∃sn,Xo (xs.length=sn):=⟨_,rfl⟩;rw[HSN.out]at hq10 hql;have hx1:=X1.out.box.c 1 rfl;rw[hpq]at hx1;have hx2:=X1.out.box.c 2 rfl;have hx3:=X1.out.box.c 3 rfl;have hx4:=X1.out.box.c 4 rfl;have HPQ:Xo (c.proc=(q:Int)):=hpq;have hd1:decide (c.pt<0)=Xd:=decide_eq_false (by omega)
 have hd2:decide (c.n<1)=Xd:=decide_eq_false (by omega)
 have hd3:decide (64 - c.pt<c.n)=Xd:=decide_eq_false (by omega)
 have hd4:decide (c.file< -1)=Xd:=decide_eq_false (by omega)
 have hd5:decide ((fn:Int)<=c.file)=Xd:=decide_eq_false (by omega)
 have hpt:c.pt<=63:=by omega
 have HPN:Xo (0<=c.pt/\c.pt<=63/\1<=c.n/\c.n<=64):=show _/\_/\_/\_ from⟨h1,hpt,h2,by omega⟩
 clear hW1 h gu hpq hs hlive s1 s2 s3 hx heq hfl h2 h3 h4 h5
 go_enter Tryz.func35,Tryz.ntmps35
 go_upto_region 1 with fail;rw[HW1.out,HB.out];clear HW1;go_quiet (fail);obtain⟨W2,hW2⟩:∃W2,W1.drewN nq=W2:=⟨_,rfl⟩;have g12:Grew W1 W2:=by rw[<-hW2];exact(show Below _ _ _ from bD (bR _ _) _)
 rw[hW2];have G12:Xo (Grew W1 W2):=g12;have hx3:=(X1.out.grew g12).box.c 3 rfl;have hx4:=(X1.out.grew g12).box.c 4 rfl;have hf7:W2.cell? ⟨p,7,Xb⟩=Xa (O V.fl.a fn V.fl.c):=by rw[<-HFV.out];exact(P1.out.grew g12).box.c 7 rfl
 clear hW2 g12 hx1 hx2 hq10;go_upto_region 6 with fail;go_quiet (fail);obtain⟨W3,hW3⟩:∃W3,W2.drewN nq=W3:=⟨_,rfl⟩;have g13:Grew W1 W3:=by rw[<-hW3];exact G12.out.trans (show Below _ _ _ from bD (bR _ _) _)
 rw[hW3];have G13:Xo (Grew W1 W3):=g13;clear hW3 g13 hx3 hx4 hf7 G12 hd1 hd2 hd3 hd4;go_upto_region 8 with fail;clear hd5;have hx3:∀y:GrownW W3,y.world.cell? ⟨b,3,Xb⟩=Xa (Xe Xf c.n):=fun y=>(X1.out.box.grew (G13.out.trans y.grew)).c 3 rfl
 have hx4:∀y:GrownW W3,y.world.cell? ⟨b,4,Xb⟩=Xa (Xe Xf c.file):=fun y=>(X1.out.box.grew (G13.out.trans y.grew)).c 4 rfl
 have hx5:∀y:GrownW W3,y.world.cell? ⟨b,5,Xb⟩=Xa (Xe Xf c.base):=fun y=>(X1.out.box.grew (G13.out.trans y.grew)).c 5 rfl
 have hx6:∀y:GrownW W3,y.world.cell? ⟨b,6,Xb⟩=Xa (Xh c.rd):=fun y=>(X1.out.box.grew (G13.out.trans y.grew)).c 6 rfl
 have hx7:∀y:GrownW W3,y.world.cell? ⟨b,7,Xb⟩=Xa (Xh c.wr):=fun y=>(X1.out.box.grew (G13.out.trans y.grew)).c 7 rfl
 have hx8:∀y:GrownW W3,y.world.cell? ⟨b,8,Xb⟩=Xa (Xh c.sh):=fun y=>(X1.out.box.grew (G13.out.trans y.grew)).c 8 rfl
 have hac:∀y:GrownW W3,y.world.cell? ⟨gs,q*10+1,Xb⟩=Xa (O x.ar.a x.ar.n x.ar.c):=fun y=>(HSO.out.grew (G13.out.trans y.grew)).range1 HX.out 1 _ rfl
 have hne:Nonempty (GrownW W3):=⟨⟨_,Grew.refl _⟩⟩;obtain⟨R1,R2,HRR⟩:∃R1 R2,Xo (mapA s.ars (arC c)=(R1,R2)):=⟨_,_,rfl⟩;have HMP:Xo (∀W,Grew W1 W->Xp Tryz.prog 76 #[O x.ar.a x.ar.n x.ar.c,Xi #[Xe Xf c.pt,Xe Xf (c.pt+c.n),Xh c.rd,Xh c.wr,Xh c.sh,Xe Xf c.file,Xe Xf c.base]] W fun e w'=>(∃t:Sli,e= Xl (Xm #[O t.a t.n t.c,Xe Xf R2])/\OwnRow arE W1.heap.size w' (O t.a t.n t.c) R1)/\Grew W w'):=show∀W,_ from fun W hW=>by
  refine(map_any _ s.ars (arC c) W (HSP.out.ar.grew hW)).mono ?_;rw[HRR.out];rintro e w' ⟨⟨v,rfl,ho⟩,hg⟩;obtain⟨ta,tc,rfl⟩:=ho.form;exact⟨⟨⟨ta,_,tc⟩,rfl,ho.base (bS hW)⟩,hg⟩
 have hsum:-9223372036854775808<=c.pt+c.n/\c.pt+c.n<=9223372036854775807:=by have:=HPN.out;omega
 refine wp_lax [(20,⟨fun v=>∃t:Sli,v= Xm #[O t.a t.n t.c,Xe Xf R2],fun v W=>∃t:Sli,v= Xm #[O t.a t.n t.c,Xe Xf R2]/\OwnRow arE W1.heap.size W (O t.a t.n t.c) R1⟩)] mixed (by kernel_rfl) ?_ ?_ ?_
 ·intro x hx;simp only[mC,nM,or_false]at hx;subst hx;exact⟨_,noS,rfl⟩
 ·intro x hx;simp only[mC,nM,or_false]at hx;subst hx;rintro v u u' hg ⟨t,h1,h2⟩;exact⟨t,h1,h2.grew hg⟩
 refine lax_quiet rfl rfl rfl (fun K hK=>?_);go_big_quiet_op;refine hK _ ?_;clear hK K
 refine lax_nilc (.tmp 60) ⟨gs,q*10,Xb⟩ rfl rfl rfl rfl ?_;simp only[Act.put,sB,sS,sZ];iterate 18 (refine lax_quiet rfl rfl rfl (fun K hK=>?_);go_big_quiet_op;refine hK _ ?_;clear hK K)
 refine lax_spec rfl rfl (fun w' hg hF=>?_) (fun v1 hv=>?_)
 ·refine Does.call [O x.ar.a x.ar.n x.ar.c,Xi #[Xe Xf c.pt,Xe Xf (c.pt+c.n),Xh c.rd,Xh c.wr,Xh c.sh,Xe Xf c.file,Xe Xf c.base]] rfl Tryz.func76 rfl rfl rfl ?_;refine(HMP.out w' (G13.out.trans hg)).mono ?_;rintro e w'' ⟨⟨t,rfl,ho⟩,hg2⟩;exact⟨_,rfl,hg2,⟨t,rfl⟩,t,rfl,ho⟩
 obtain⟨t,rfl⟩:=hv;simp only[Act.put,sB,sS,sZ];iterate 5 (refine lax_quiet rfl rfl rfl (fun K hK=>?_);go_big_quiet_op;refine hK _ ?_;clear hK K)
 refine lax_nil fun W4 g4 hF=>?_
 obtain⟨t',ht',ho'⟩:=hF 20;have htt:t'=t:=by
  have h1:(Value.tuple #[O t.a t.n t.c,Xe Xf R2])= Xm #[O t'.a t'.n t'.c,Xe Xf R2]:=ht';simp only[Value.tuple.injEq,Array.mk.injEq,List.cons.injEq,vJ,and_true]at h1;obtain⟨a1,a2,a3⟩:=h1;cases t;cases t'
  simp_all
 subst htt;have O4:Xo (OwnRow arE W1.heap.size W4 (O t'.a t'.n t'.c) R1):=ho';have G14:=dD (G13.out.trans g4);have A4:=dD (A1.out.grew G14.out);clear g4 hF ht' ho' hx3 hx4 hx5 hx6 hx7 hx8 hac hne HMP hsum h1 hpt;have HL:Xo (w0.heap.size<=b):=show _<=_ by have:=HUB.out;have:=HM.out.lo;have:=HPU.out;omega
 by_cases he:R2=0
 rotate_left
 ·have hz:(R2 != 0)=Xc:=by simp[he]
  have HE:Xo (R2≠0):=he;clear he;have hrf:=refused_any R2 W4;go_wp2_with fail;refine hrf.mono ?_;rintro e W5 ⟨rfl,g5⟩;have A5:=dD (A4.out.grew g5);have Q5:Xo (Grew w W5):=show Grew _ _ from(G1.out.trans G14.out).trans g5
  clear hrf g5;unfold ansV noS
  go_wp2_with (refine wp_storeAllT rfl 50 (.tmp 4) (.tmp 86) rfl (b+1) rfl [Xe Xf R2,Xe Xf 0,O Xb 0 0] rfl A5.out rfl (by kernel_rfl) (by simp[Value.oneCell']) ?_)
  intro W6 b6 g6 _;have G6:Xo (Grew w0 W6):=show Grew _ _ from grew_grown ((HM.out.gr.trans HGU.out).trans Q5.out) g6 (by have:=HL.out;omega)
  have A6:Xo (BoxT W6 (b+1) 50 [Xe Xf R2,Xe Xf 0,O Xb 0 0]):=b6;have O6:Xo (OutD (Fore w0 u) w W6):=show OutD _ _ _ from OutD.beyond (OutD.grew Q5.out) g6 (by have:=HB.out;omega)
  clear b6 g6;go_wp2;refine bodyPost_ret (ret_cell rfl _ rfl A6.out.box Tryz.underlying50 rfl (by kernel_rfl)) rfl ⟨R2,0,noS,[],V,m,rfl,⟨rfl,q,s,HLV.out,by rw[HRR.out],fun h=>absurd h HE.out⟩,O6.out,G6.out,fun _ _=>RowAt.nil _ _,fun h=>absurd h HE.out⟩
 have HR0:Xo (R2=0):=he;subst he;have HS4:=dD (HSO.out.grew G14.out)
 go_wp2_with (refine wpList_store_part (E:=spcE) rfl (.tmp 90) (.tmp 88) 71 rfl w0.heap.size _ xs HS4.out gs q 1 rfl x { x with ar:=t' } HX.out [O t'.a t'.n t'.c] (by kernel_rfl) rfl (by show 1+1<=10;omega) (by simp;rfl) ⟨gs,q*10+1,Xb⟩ rfl rfl _ rfl rfl ?_)
 intro W5 o5 g5 s5;clear s5;have A5:Xo (BoxT W5 (b+1) 50 [Xe Xf 0,Xe Xf 0,O Xb 0 0]):=show BoxT _ _ _ _ from A4.out.beside g5 (fun k e=>by cases e;have:=HGS.out;have:=HUB.out;omega)
 have P5:Xo (BoxT W5 p 88 (chL V m)):=show BoxT _ _ _ _ from(P1.out.grew G14.out).beside g5 (fun k e=>by cases e;first | exact HM.out.ns _ HOB.out | exact(HM.out.ns _ HOB.out).symm)
 have OW5:Xo (OwnRow spcE w0.heap.size W5 (O V.sp.a V.sp.n V.sp.c) (xs.set q { x with ar:=t' })):=show OwnRow _ _ _ _ _ by rw[HEQ.out];exact o5
 have GB5:Xo (W4.grownBy W5 (Xa gs)):=g5;have GR5:Xo (Grew w0 W5):=show Grew _ _ from grew_grown (((HM.out.gr.trans HGU.out).trans G1.out).trans G14.out) g5 HGS.out.1
 have OD5:Xo (OutD (Fore w0 u) w W5):=show OutD _ _ _ from(OutD.grew (G1.out.trans G14.out)).trans (OutD.grown g5 HGS.out)
 clear o5 g5
 go_wp2_with (refine wp_storeAllT rfl 50 (.tmp 4) (.tmp 92) rfl (b+1) rfl [Xe Xf 0,Xe Xf c.pt,O Xb 0 0] rfl A5.out rfl (by kernel_rfl) (by simp[Value.oneCell']) ?_)
 intro W6 b6 g6 _;have A6:Xo (BoxT W6 (b+1) 50 [Xe Xf 0,Xe Xf c.pt,O Xb 0 0]):=b6;have HFIN:Xo (WorkM (KMap m c) w0 p u w (Xl (ansV 0 c.pt noS)) W6):=show WorkM _ _ _ _ _ _ _ from by
  refine⟨0,c.pt,noS,[],V,areaM m q s R1,rfl,⟨rfl,q,s,HLV.out,by rw[HRR.out],fun _=>⟨rfl,by rw[HRR.out]⟩⟩,OD5.out.beyond g6 (by have:=HB.out;omega),grew_grown GR5.out g6 (by have:=HL.out;omega),fun _ _=>RowAt.nil _ _,fun _=>⟨P5.out.beside g6 (fun k e=>by cases e;have:=HPU.out;have:=HUB.out;omega),fun W hW=>?_⟩⟩
  refine map_done (w:=W1) (w1:=W4) (w2:=W5) (y:={ x with ar:=t' }) HM.out HS1.out HS2.out HS3.out HX.out HS.out HOB.out GU1.out G14.out O4.out GB5.out OW5.out ⟨rfl,rfl,rfl⟩ ?_;refine(OutD.grown (D:=Aft w0 u W1) g6 (.inr ⟨by have:=HUB.out;omega,HBL.out⟩)).trans (hW.wide fun k hk=>hk.imp id fun h=>⟨h.1,Xt h.2 (bS G1.out)⟩)
 clear b6 g6;go_wp2;refine bodyPost_ret (ret_cell rfl _ rfl A6.out.box Tryz.underlying50 rfl (by kernel_rfl)) rfl HFIN.out
theorem works_map (w:Xn) (m:Ma) (c:Cl) (hk:c.kind=1) (h1:0<=c.pt) (h2:1<=c.n) (h3:c.n<=64 - c.pt) (h4:-1<=c.file) (h5:c.file< (m.fl.length:Int)):Works w m c (KProc m c.proc (KMap m c)):=by
 intro w0 W p V1 v hg h hv;obtain⟨g,rfl,hb⟩:=hv.1 hk;exact⟨73,#[Xj (Xa ⟨g,0,Xb⟩)],rfl,entersOf,ofProc_any h c g 35 _ (enters_of Tryz.func35 (by kernel_rfl) rfl) hb fun W' hW hl=>kmap_any h hW c hl h1 h2 h3 h4 h5⟩
def JA (i:Nat) (m:Ma) (az:List (Int × Int × List Int)):Prop:=
 (i=0->m=newMa 2 2 0)/\(i=1->m=maA1)/\(i=2->m=maA2 ⟨0,0,0,9,0,0,0,0⟩ Xc)/\(i=3->∃n,az[2]? =Xa (0,n,[9]))
theorem ja_next (w:Xn) (s:Sli) (hn:s.n=1) (hs:RowAt byE w (O s.a s.n s.c) [9]) (i:Nat) (c:Cl) (m:Ma) (az:List (Int × Int × List Int)) (hc: [clA0,clA1 s,clA2][i]? =Xa c) (hl:az.length=i) (hJ:JA i m az):
  maW m=0/\(1<=c.kind/\c.kind<=15)/\∃K,(∀W,Grew w W->Works W m c K)/\∀er n l m' m2,K er n l m'->((er=0/\m2=m')\/(er≠0/\m2=m))->JA (i+1) m2 (az++ [(er,n,l)]):=by
 obtain⟨j0,j1,j2,_⟩:=hJ
 match i,hc,hl,j0,j1,j2 with
 | 0,hc,hl,j0,_,_=>
  cases hc;have e:=j0 rfl;subst e;refine⟨right_A0,by decide,KProc (newMa 2 2 0) 0 (KMap (newMa 2 2 0) clA0),fun W _=>works_map W (newMa 2 2 0) clA0 rfl (by decide) (by decide) (by decide) (by decide) (by decide),fun er n l m' m2 hk hm=>?_⟩
  obtain⟨e1,e2⟩:=map_step hk
  rcases hm with⟨_,e3⟩ | ⟨e3,_⟩
  ·exact⟨(fun h=>nomatch h),(fun _=>by rw[e3,e2]),(fun h=>nomatch h),(fun h=>nomatch h)⟩
  exact absurd e1 e3
 | 1,hc,hl,_,j1,_=>
  cases hc;have e:=j1 rfl;subst e;refine⟨right_A1,by show(1:Int)<=5/\(5:Int)<=15;omega,KProc maA1 0 (KStore maA1 (fun _ _ _ _ _=>(Xd,0,maA1)) (clA1 s) [9]),fun W hW=>works_store W maA1 (clA1 s) [9] _ rfl (by show _<=(3:Int);omega) (by show(3:Int)<=_;omega) (hs.grew hW) (by show(s.n:Int)<=_;omega) (fun V1 W1 hm=>useA_A1 V1 W1 _ hm) in_A1,fun er n l m' m2 hk hm=>?_⟩
  obtain⟨e1,e2⟩:=store_step hn hk
  rcases hm with⟨_,e3⟩ | ⟨e3,_⟩
  ·exact⟨(fun h=>nomatch h),(fun h=>nomatch h),(fun _=>by rw[e3,e2]),(fun h=>nomatch h)⟩
  exact absurd e1 e3
 | 2,hc,hl,_,_,j2=>
  cases hc;have e:=j2 rfl;subst e;refine⟨right_A2 Xc,by decide,KProc (maA2 ⟨0,0,0,9,0,0,0,0⟩ Xc) 0 (KLoad (maA2 ⟨0,0,0,9,0,0,0,0⟩ Xc) (fun _ _ _ _ _=>(Xd,0,maA1)) clA2),fun W hW=>works_load W (maA2 ⟨0,0,0,9,0,0,0,0⟩ Xc) clA2 _ rfl (by decide) (by decide) (by decide) (by decide) (fun V1 W1 hm=>useA_A2 V1 W1 _ hm) in_A2,fun er n l m' m2 hk hm=>?_⟩
  obtain⟨e1,e2⟩:=load_step hk;refine⟨(fun h=>nomatch h),(fun h=>nomatch h),(fun h=>nomatch h),fun _=>⟨n,?_⟩⟩
  rw[aR (by omega),hl,e1,e2]
  rfl
 | i+3,hc,_,_,_,_=>exact absurd hc (by simp)
def clZ:Xq:= Xi #[Xe Xf 0,Xe Xf 0,Xe Xf 0,Xe Xf 0,Xe Xf 0,Xe Xf 0,Xh Xd,Xh Xd,Xh Xd,O Xb 0 0]
theorem Tryz.infoCall:(Tryz.prog.info? 26).map (fun i=>(i.zero,i.size,i.bytes))=Xa (Xa clZ,10,80):=by kernel_rfl
def clE:Elt Cl where
 enc:=clL
 k:=10
 ty:=26
 st:=23
 bytes:=80
 zv:=clZ
 zero:=⟨0,0,0,0,0,0,Xd,Xd,Xd,noS⟩
 len:=fun _=>rfl
 one:=fun a u hu=>by
  simp only[clL,mC,nM,or_false]at hu
  rcases hu with rfl | rfl | rfl | rfl | rfl | rfl | rfl | rfl | rfl | rfl <;> rfl
 und:=Tryz.underlying23
 info:=Tryz.infoCall
 zok:=rfl
 few:=by decide
 pos:=by decide
structure An where
 er:Int
 n:Int
 s:Sli
def anL (a:An):List Xq:=[Xe Xf a.er,Xe Xf a.n,O a.s.a a.s.n a.s.c]
def anZ:Xq:= Xi #[Xe Xf 0,Xe Xf 0,O Xb 0 0]
theorem Tryz.infoAnswer:(Tryz.prog.info? 50).map (fun i=>(i.zero,i.size,i.bytes))=Xa (Xa anZ,3,40):=by kernel_rfl
def anE:Elt An where
 enc:=anL
 k:=3
 ty:=50
 st:=43
 bytes:=40
 zv:=anZ
 zero:=⟨0,0,noS⟩
 len:=fun _=>rfl
 one:=fun a u hu=>by
  simp only[anL,mC,nM,or_false]at hu
  rcases hu with rfl | rfl | rfl <;> rfl
 und:=Tryz.underlying43
 info:=Tryz.infoAnswer
 zok:=rfl
 few:=by decide
 pos:=by decide
def AnsAt (w:Xn) (ys:List An) (az:List (Int × Int × List Int)):Prop:=
 ∀(j:Nat) (a:Int × Int × List Int),az[j]? =Xa a->∃x,ys[j]? =Xa x/\x.er=a.1/\x.n=a.2.1/\RowAt byE w (O x.s.a x.s.n x.s.c) a.2.2
theorem grew_out {D:Nat->Prop} {w w1 W:Xn} (g:Grew w w1) (o:OutD D w1 W) (hD:∀k,D k->w.heap.size<=k):Grew w W:=
 ⟨o.os.trans (Below.os g),o.tape.trans (Below.tape g),o.output.trans (Below.output g),nT (bS g) o.size,fun b hb=>(o.block b (Xt hb (bS g)) (fun e=>by have:=hD b e;omega)).trans (Below.block g b hb)⟩
theorem AnsAt.step {w:Xn} {ys:List An} {az:List (Int × Int × List Int)} {kk:Nat} {er n:Int} {l:List Int} {s:Sli} (hl:az.length=kk) (hk:kk<ys.length) (h:AnsAt w ys az) (hr:RowAt byE w (O s.a s.n s.c) l):AnsAt w (ys.set kk ⟨er,n,s⟩) (az++ [(er,n,l)]):=by
 intro j a ha
 by_cases e:j=kk
 ·subst e;rw[aR (by omega),hl,Nat.sub_self]at ha
  cases ha;exact⟨_,sF hk,rfl,rfl,hr⟩
 have hj:j<az.length:=by
  have:=(gS.1 ha).1
  simp at this
  omega
 rw[Xs hj]at ha;obtain⟨x,h1,h2⟩:=h j a ha;exact⟨x,by rw[sN (fun h=>e h.symm)];exact h1,h2⟩
theorem Cells.cl10 {W:Xn} {y:Addr} {c:Cl} (h:Cells W y (clL c)):W.cell? y=Xa (Xe Xf c.kind)/\W.cell? { block:=y.block,off:=y.off+1 }=Xa (Xe Xf c.proc)/\W.cell? { block:=y.block,off:=y.off+2 }=Xa (Xe Xf c.pt)/\W.cell? { block:=y.block,off:=y.off+3 }=Xa (Xe Xf c.n)/\W.cell? { block:=y.block,off:=y.off+4 }=Xa (Xe Xf c.file)/\W.cell? { block:=y.block,off:=y.off+5 }=Xa (Xe Xf c.base)/\W.cell? { block:=y.block,off:=y.off+6 }=Xa (Xh c.rd)/\W.cell? { block:=y.block,off:=y.off+7 }=Xa (Xh c.wr)/\W.cell? { block:=y.block,off:=y.off+8 }=Xa (Xh c.sh)/\W.cell? { block:=y.block,off:=y.off+9 }=Xa (O c.dv.a c.dv.n c.dv.c):=
 ⟨h 0 _ rfl,h 1 _ rfl,h 2 _ rfl,h 3 _ rfl,h 4 _ rfl,h 5 _ rfl,h 6 _ rfl,h 7 _ rfl,h 8 _ rfl,h 9 _ rfl⟩
def Played (n:Nat) (J:Nat->Ma->List (Int × Int × List Int)->Prop) (e:Ending) (w':Xn):Prop:=
 ∃(V:MaV) (m:Ma) (ga:Nat) (ys:List An) (az:List (Int × Int × List Int)),e= Xl (Xm #[Xi #[O V.f.a V.f.n V.f.c,Xe Xf m.hand,O V.s.a V.s.n V.s.c,O V.sb.a V.sb.n V.sb.c,O V.sq.a V.sq.n V.sq.c,O V.db.a V.db.n V.db.c,O V.dq.a V.dq.n V.dq.c,O V.fl.a V.fl.n V.fl.c,Xe Xf m.cnt,O V.ca.a V.ca.n V.ca.c,O V.sp.a V.sp.n V.sp.c],O (Xa ⟨ga,0,Xb⟩) n n,Xe Xf 0])/\J n m az/\RowAt anE w' (O (Xa ⟨ga,0,Xb⟩) n n) ys/\AnsAt w' ys az
theorem play_any (cf cs cb:Int) (hfew:fewB cf cs cb) (v:Xq) (cls:List Cl) (w:Xn) (hv:RowAt clE w v cls) (h80:cls.length<=80) (J:Nat->Ma->List (Int × Int × List Int)->Prop) (hJ0:J 0 (newMa cf cs cb) [])
  (hJ:∀(i:Nat) (c:Cl) (m:Ma) az,cls[i]? =Xa c->az.length=i->J i m az->maW m=0/\(1<=c.kind/\c.kind<=15)/\∃K,(∀W,Grew w W->Works W m c K)/\∀er n l m' m2,K er n l m'->((er=0/\m2=m')\/(er≠0/\m2=m))->J (i+1) m2 (az++ [(er,n,l)])):
  Xp Tryz.prog 7 #[Xi #[Xe Xf cf,Xe Xf cs,Xe Xf cb],v] w fun e w'=>Played cls.length J e w'/\Grew w w':=by
 obtain⟨va,vc,rfl,hrow⟩:=hv.rows;have HROW:Xo (∀(j:Nat) x,cls[j]? =Xa x->∃ad,va=Xa ad/\∀W,Grew w W->Cells W (ad.add (j*10)) (clL x)):=show∀j,_ from hrow
 obtain⟨n,HN⟩:∃n,Xo (cls.length=n):=⟨_,rfl⟩;rw[HN.out]at h80⊢;have HJ0:Xo (J 0 (newMa cf cs cb) []):=hJ0;have HJ:=show Xo _ from hJ
 have hd80:decide (80<n)=Xd:=decide_eq_false (by omega)
 obtain⟨b,HB⟩:∃b,Xo (w.heap.size=b):=⟨_,rfl⟩;obtain⟨W1,hW1⟩:∃W1,(w.alloc (Xk #[Xe Xf cf,Xe Xf cs,Xe Xf cb] 48)).alloc (Xk #[O Xb 0 0,Xe Xf 0,O Xb 0 0,O Xb 0 0,O Xb 0 0,O Xb 0 0,O Xb 0 0,O Xb 0 0,Xe Xf 0,O Xb 0 0,O Xb 0 0] 42)=W1:=⟨_,rfl⟩;have G1:=gD2 hW1
 have X1:Xo (BoxT W1 b 48 [Xe Xf cf,Xe Xf cs,Xe Xf cb]):=show BoxT _ _ _ _ by rw[<-hW1];exact(BoxT.top w [Xe Xf cf,Xe Xf cs,Xe Xf cb] _ HB.out.symm).grew (grew_alloc _ _)
 have Z1:Xo (BoxT W1 (b+1) 42 zeroM):=show BoxT _ _ _ _ by rw[<-hW1];exact BoxT.top _ zeroM _ (by have:=HB.out;simp;omega)
 have HW1:Xo (_=W1):=hW1;have hnw:=newF_any cf cs cb hfew W1;clear hW1 hv hrow hJ hJ0 hfew
 go_enter Tryz.func7,Tryz.ntmps7
 go_upto_region 1 with fail;rw[HW1.out,HB.out];clear HW1;obtain⟨x0,x1,x2⟩:=X1.out.box.c3
 go_wp2_with (go_at_call 13;refine hnw.mono ?_)
 clear hnw x0 x1 x2;rintro e W2 ⟨⟨V,rfl,hma,_,_⟩,g2⟩;have M2:Xo (MachAt W2 V (newMa cf cs cb)):=hma;have G2:=dD (G1.out.trans g2);have Z2:=dD (Z1.out.grew g2);obtain⟨q,HQ⟩:∃q,Xo (W2.heap.size=q):=⟨_,rfl⟩;have HBQ:Xo (b+1<q):=show _<_ by rw[<-HQ.out];exact Z2.out.box.lt
 obtain⟨m0,HM0⟩:∃m0,Xo (newMa cf cs cb=m0):=⟨_,rfl⟩;have HHC:Xo (m0.hand=0/\m0.cnt=cb):=show _/\_ by rw[<-HM0.out];exact⟨rfl,rfl⟩
 have HZL:Xo (∀v∈chL V m0,v.oneCell'=Xc):=show∀v∈chL V m0,_ by simp[chL,Value.oneCell']
 rw[HM0.out]at M2 HJ0;have hca:chL V m0=[O V.f.a V.f.n V.f.c,Xe Xf 0,O V.s.a V.s.n V.s.c,O V.sb.a V.sb.n V.sb.c,O V.sq.a V.sq.n V.sq.c,O V.db.a V.db.n V.db.c,O V.dq.a V.dq.n V.dq.c,O V.fl.a V.fl.n V.fl.c,Xe Xf cb,O V.ca.a V.ca.n V.ca.c,O V.sp.a V.sp.n V.sp.c]:=by
  unfold chL;rw[HHC.out.1,HHC.out.2]
 have HCA:Xo (_=_):=hca;clear hma g2 hca
 go_upto_region 2 with(refine wp_storeAllT rfl 42 (.tmp 7) (.tmp 15) rfl W2.heap.size rfl (chL V m0) (by rw[HCA.out];rfl) (BoxT.top W2 zeroM _ rfl) (by rfl) (by kernel_rfl) HZL.out ?_)
 intro W3 b3 g3 s3;clear s3;have g23:Grew W2 W3:=grew_grown (grew_alloc _ _) g3 (nR _);have Q3:Xo (BoxT W3 q 42 (chL V m0)):=show BoxT _ _ _ _ by rw[<-HQ.out];exact b3
 have G3:=dD (G2.out.trans g23);have Z3:=dD (Z2.out.grew g23);have M3:=dD (M2.out.grew g23);rw[HQ.out];have G23:Xo (Grew W2 W3):=g23;clear b3 g3 g23 Z2 G2 HCA HZL HHC HM0 X1 Z1 G1;go_upto_region 6 with fail;clear hd80
 go_wp2_with (refine wpList_make_row anE rfl (.tmp 26) rfl n rfl (by show n*40<=_;omega) ?_)
 intro C ow;obtain⟨ga,HGA⟩:∃ga,Xo (W3.heap.size=ga):=⟨_,rfl⟩;obtain⟨W4,hW4⟩:∃W4,W3.alloc (Xk C anE.ty)=W4:=⟨_,rfl⟩;have g34:Grew W3 W4:=by rw[<-hW4];exact grew_alloc _ _
 rw[hW4,HGA.out]at ow;rw[hW4,HGA.out];have O4:Xo (OwnRow anE ga W4 (O (Xa ⟨ga,0,Xb⟩) n n) (Xr n anE.zero)):=ow;have Q4:=dD (Q3.out.grew g34);have G4:=dD (G3.out.trans g34);have Z4:=dD (Z3.out.grew g34);have HQG:Xo (q<ga):=show _<_ by rw[<-HGA.out];exact Q3.out.box.lt
 have M4:Xo (∀W,OutD (fun k=>k=q\/k=ga) W4 W->MachAt W V m0):=show∀W,_ from fun W hW=>M2.out.grew (grew_out (G23.out.trans g34) hW fun k hk=>by have:=HQ.out;have:=HGA.out;have:=bS G23.out;rcases hk with e | e <;> omega)
 clear ow hW4 g34 Q3 G3 Z3 M3 M2 G23;go_wp2
 go_loopg [30] n (fun gg s30 wr=>∃(kk:Nat) (V:MaV) (m:Ma) (ys:List An) (az:List (Int × Int × List Int)),kk<=n/\n - kk<=gg/\s30= Xe Xf kk/\Xo (Grew w wr)/\Xo (BoxT wr q 42 (chL V m))/\Xo (BoxT wr (b+1) 42 zeroM)/\Xo (OwnRow anE ga wr (O (Xa ⟨ga,0,Xb⟩) n n) ys)/\Xo (az.length=kk/\ys.length=n/\J kk m az)/\Xo (∀W,OutD (fun k=>k=q\/k=ga) wr W->MachAt W V m)/\Xo (∀W,OutD (fun k=>k=q\/k=ga\/k=b+1) wr W->AnsAt W ys az))
 case atStart=>exact⟨0,V,m0,_,[],nZ _,by omega,rfl,G4,Q4,Z4,O4,show _/\_/\_ from⟨rfl,by simp,HJ0.out⟩,M4,show∀W,_ from fun W hW j a ha=>by cases ha⟩
 clear G4 Q4 Z4 O4 HJ0 M4;obtain⟨kk,V,m,ys,az,hkk,hgg,rfl,BW,QW,ZW,OW,HJW,MW,AW⟩:=hrel
 by_cases hlt:kk<n
 ·have hltz:(kk:Int)< (n:Int):=by omega
  obtain⟨c,HC⟩:∃c,Xo (cls[kk]? =Xa c):=⟨_,gE (by rw[HN.out];exact hlt)⟩
  obtain⟨ad,rfl,hl⟩:=HROW.out kk c HC.out;obtain⟨d0,d1,d2,d3,d4,d5,d6,d7,d8,d9⟩:=Cells.cl10 (hl wr BW.out);clear hl;obtain⟨h0,hkd,K,hws,hnx⟩:=HJ.out kk c m az HC.out HJW.out.1 HJW.out.2.2;go_upto_region 10 with fail;clear d0 d1 d2 d3 d4 d5 d6 d7 d8 d9;obtain⟨pb,HPB⟩:∃pb,Xo (wr.heap.size=pb):=⟨_,rfl⟩;obtain⟨W5,hW5⟩:∃W5,wr.alloc (Xk #[Xe Xf c.kind,Xe Xf c.proc,Xe Xf c.pt,Xe Xf c.n,Xe Xf c.file,Xe Xf c.base,Xh c.rd,Xh c.wr,Xh c.sh,O c.dv.a c.dv.n c.dv.c] 26)=W5:=⟨_,rfl⟩;have g5:=gP hW5
  have C5:Xo (BoxT W5 pb 26 (clL c)):=show BoxT _ _ _ _ by rw[<-hW5];exact BoxT.top _ (clL c) _ HPB.out.symm
  rw[hW5,HPB.out];have G5:=dD (BW.out.trans g5);have Q5:=dD (QW.out.grew g5);have Z5:=dD (ZW.out.grew g5);have O5:=dD (OW.out.grew g5);have M5:Xo (∀W,OutD (fun k=>k=q\/k=ga) W5 W->MachAt W V m):=show∀W,_ from fun W hW=>MW.out W ((OutD.grew g5).trans hW)
  have A5:Xo (∀W,OutD (fun k=>k=q\/k=ga\/k=b+1) W5 W->AnsAt W ys az):=show∀W,_ from fun W hW=>AW.out W ((OutD.grew g5).trans hW)
  have HNX:Xo (∀er n l m' m2,K er n l m'->((er=0/\m2=m')\/(er≠0/\m2=m))->J (kk+1) m2 (az++ [(er,n,l)])):=hnx;have hdo:=do_any V m W5 (M5.out W5 (OutD.refl _ _)) h0 c K hkd (hws W5 G5.out);have HSJ:Xo ((Tryz.prog.info? 42).map (·.size)=Xa (chL V m).length):=show _=_ by kernel_rfl
  have HSC:Xo ((Tryz.prog.info? 26).map (·.size)=Xa (clL c).length):=show _=_ by kernel_rfl
  clear hW5 g5 h0 hkd hws hnx BW QW ZW OW MW AW
  go_wp2_with (first | refine wp_loadAll rfl 42 (.tmp 7) rfl q rfl Q5.out.box Tryz.underlying42 rfl HSJ.out ?_ | refine wp_loadAll rfl 26 (.tmp 11) rfl pb rfl C5.out.box Tryz.underlying26 rfl HSC.out ?_ | (go_at_call 14;refine hdo.mono ?_))
  clear hdo HSJ HSC;rintro e W6 ⟨⟨er,nn,sd,l,m',m2,V2,rfl,hk,hm2,hrest⟩,g6⟩;have HJN:Xo (J (kk+1) m2 (az++ [(er,nn,l)])):=HNX.out er nn l m' m2 hk hm2;have HLT:Xo (q<W5.heap.size/\ga<W5.heap.size/\b+1<W5.heap.size):=show _/\_/\_ from⟨Q5.out.box.lt,(O5.out.lt ga rfl).2,Z5.out.box.lt⟩
  have G6:=dD (G5.out.trans g6);have Q6:=dD (Q5.out.grew g6);have Z6:=dD (Z5.out.grew g6);have O6:=dD (O5.out.grew g6);have M6:Xo (∀W,OutD (fun k=>k=q\/k=ga) W6 W->MachAt W V2 m2):=show∀W,_ from fun W hW=>(hrest W (hW.wide fun k hk=>by have:=HLT.out;rcases hk with e | e <;> omega)).1
  have A6:Xo (∀W,OutD (fun k=>k=q\/k=ga\/k=b+1) W6 W->AnsAt W (ys.set kk ⟨er,nn,sd⟩) (az++ [(er,nn,l)])):=show∀W,_ from fun W hW=>AnsAt.step HJW.out.1 (by rw[HJW.out.2.1];exact hlt) (A5.out W ((OutD.grew g6).trans hW)) (hrest W (hW.wide fun k hk=>by have:=HLT.out;rcases hk with e | e | e <;> omega)).2
  have HZ2:Xo (∀v∈chL V2 m2,v.oneCell'=Xc):=show∀v∈chL V2 m2,_ by simp[chL,Value.oneCell']
  clear hk hm2 hrest g6 G5 Q5 Z5 O5 M5 A5 C5 HNX;unfold ansV
  go_wp2_with (refine wp_storeAllT rfl 42 (.tmp 7) (.tmp 41) rfl q rfl (chL V2 m2) rfl Q6.out rfl (by kernel_rfl) HZ2.out ?_)
  intro W7 b7 g7 s7;clear s7;have G7:Xo (Grew w W7):=show Grew _ _ from grew_grown G6.out g7 (by have:=HBQ.out;have:=HB.out;omega)
  have Q7:Xo (BoxT W7 q 42 (chL V2 m2)):=b7;have Z7:Xo (BoxT W7 (b+1) 42 zeroM):=show BoxT _ _ _ _ from Z6.out.beside g7 (fun k e=>by cases e;have:=HBQ.out;omega)
  have O7:Xo (OwnRow anE ga W7 (O (Xa ⟨ga,0,Xb⟩) n n) ys):=show OwnRow _ _ _ _ _ from O6.out.grown g7 (fun k hk e=>by
   have h1:Xa ga=Xa k:=hk;simp only[Option.some.injEq]at h1 e;have:=HQG.out
   omega)
  have M7:Xo (∀W,OutD (fun k=>k=q\/k=ga) W7 W->MachAt W V2 m2):=show∀W,_ from fun W hW=>M6.out W ((OutD.grown g7 (.inl rfl)).trans hW)
  have A7:Xo (∀W,OutD (fun k=>k=q\/k=ga\/k=b+1) W7 W->AnsAt W (ys.set kk ⟨er,nn,sd⟩) (az++ [(er,nn,l)])):=show∀W,_ from fun W hW=>A6.out W ((OutD.grown g7 (.inl rfl)).trans hW)
  clear b7 g7 G6 Q6 Z6 O6 M6 A6 HZ2
  go_wp2_with (refine wpList_store_elt (E:=anE) rfl (.tmp 43) (.tmp 42) rfl ga _ ys O7.out ga kk rfl ⟨er,nn,sd⟩ (by rw[HJW.out.2.1];exact hlt) ⟨ga,kk*3,Xb⟩ rfl rfl _ rfl rfl ?_)
  intro W8 o8 g8 s8;clear s8;have G8:Xo (Grew w W8):=show Grew _ _ from grew_grown G7.out g8 (by have:=HQG.out;have:=HBQ.out;have:=HB.out;omega)
  have Q8:Xo (BoxT W8 q 42 (chL V2 m2)):=show BoxT _ _ _ _ from Q7.out.beside g8 (fun k e=>by cases e;have:=HQG.out;omega)
  have Z8:Xo (BoxT W8 (b+1) 42 zeroM):=show BoxT _ _ _ _ from Z7.out.beside g8 (fun k e=>by cases e;have:=HQG.out;have:=HBQ.out;omega)
  have O8:Xo (OwnRow anE ga W8 (O (Xa ⟨ga,0,Xb⟩) n n) (ys.set kk ⟨er,nn,sd⟩)):=o8;have M8:Xo (∀W,OutD (fun k=>k=q\/k=ga) W8 W->MachAt W V2 m2):=show∀W,_ from fun W hW=>M7.out W ((OutD.grown g8 (.inr rfl)).trans hW)
  have A8:Xo (∀W,OutD (fun k=>k=q\/k=ga\/k=b+1) W8 W->AnsAt W (ys.set kk ⟨er,nn,sd⟩) (az++ [(er,nn,l)])):=show∀W,_ from fun W hW=>A7.out W ((OutD.grown g8 (.inr (.inl rfl))).trans hW)
  have HJ8:Xo ((az++ [(er,nn,l)]).length=kk+1/\(ys.set kk ⟨er,nn,sd⟩).length=n/\J (kk+1) m2 (az++ [(er,nn,l)])):=show _/\_/\_ from⟨by simp[HJW.out.1],by rw[List.length_set];exact HJW.out.2.1,HJN.out⟩
  clear o8 g8 G7 Q7 Z7 O7 M7 A7 HJN HJW HLT;go_wp2
  go_roundg (n -(kk+1))
  case measure=>omega
  exact⟨kk+1,V2,m2,_,_,by omega,by omega,by go_num,G8,Q8,Z8,O8,HJ8,M8,A8⟩
 have hltz:¬(kk:Int)< (n:Int):=by omega
 have:kk=n:=by omega
 subst this;have HZ2:Xo (∀v∈chL V m,v.oneCell'=Xc):=show∀v∈chL V m,_ by simp[chL,Value.oneCell']
 have HSJ:Xo ((Tryz.prog.info? 42).map (·.size)=Xa (chL V m).length):=show _=_ by kernel_rfl
 have HGL:Xo (ga<wr.heap.size/\q<wr.heap.size):=show _/\_ from⟨(OW.out.lt ga rfl).2,QW.out.box.lt⟩
 clear HJ
 go_wp2_with (first | refine wp_loadAll rfl 42 (.tmp 7) rfl q rfl QW.out.box Tryz.underlying42 rfl HSJ.out ?_ | refine wp_storeAllT rfl 42 (.tmp 4) (.tmp 45) rfl (b+1) rfl (chL V m) rfl ZW.out rfl (by kernel_rfl) HZ2.out ?_)
 intro W9 b9 g9 s9;clear s9;have B9:Xo (BoxT W9 (b+1) 42 (chL V m)):=b9;have G9:Xo (Grew w W9):=show Grew _ _ from grew_grown BW.out g9 (by have:=HB.out;omega)
 have O9:Xo (RowAt anE W9 (O (Xa ⟨ga,0,Xb⟩) kk kk) ys):=show RowAt _ _ _ _ from(OW.out.grown g9 (fun k hk e=>by
  have h1:Xa ga=Xa k:=hk;simp only[Option.some.injEq]at h1 e;have:=HQG.out;have:=HBQ.out
  omega)).at
 have A9:Xo (AnsAt W9 ys az):=AW.out W9 (OutD.grown g9 (.inr (.inr rfl)));clear b9 g9;go_wp2;refine bodyPost_ret (ret_cell_tmp2 rfl _ rfl B9.out.box Tryz.underlying42 rfl (by kernel_rfl)) rfl ⟨⟨V,m,ga,ys,az,rfl,HJW.out.2.2,O9.out,A9.out⟩,G9.out⟩
theorem all_row {α:Type} (E:Elt α) (w:Xn) (l:List α) (cs:Array Xq) (t:TypeId) (n:Nat) (hcs:cs=(l.flatMap E.enc).toArray) (hn:n=l.length) (hb:l.length*E.bytes<=140737488355328):RowAt E (w.alloc (Xk cs t)) (O (Xa ⟨w.heap.size,0,Xb⟩) n n) l:=by
 subst hcs hn;exact⟨⟨_,l.length,rfl,fun h=>(by cases h),fun y hy=>by
  cases hy;exact Cells.top w (l.flatMap E.enc) t rfl⟩,hb⟩
theorem put_any (p a x:Int) (w:Xn):Xp Tryz.prog 9 #[Xe Xf p,Xe Xf a,Xe Xg x] w fun e w'=>(∃s:Sli,e= Xl (Xi (clL ⟨5,p,a,0,0,0,Xd,Xd,Xd,s⟩).toArray)/\s.n=1/\RowAt byE w' (O s.a s.n s.c) [x])/\Grew w w':=by
 obtain⟨b,HB⟩:∃b,Xo (w.heap.size=b):=⟨_,rfl⟩;obtain⟨W1,hW1⟩:∃W1,w.alloc (Xk #[Xe Xf 0,Xe Xf 0,Xe Xf 0,Xe Xf 0,Xe Xf 0,Xe Xf 0,Xh Xd,Xh Xd,Xh Xd,O Xb 0 0] 26)=W1:=⟨_,rfl⟩;have G1:=gA hW1
 have X1:=xPT hW1 HB
 have HW1:Xo (_=W1):=hW1;obtain⟨q,HQ⟩:∃q,Xo (W1.heap.size=q):=⟨_,rfl⟩;have HBQ:Xo (b<q):=show _<_ by rw[<-HQ.out];exact X1.out.box.lt
 clear hW1
 go_enter Tryz.func9,Tryz.ntmps9
 go_upto_region 1 with fail;rw[HW1.out,HB.out];clear HW1
 go_wp2_with (refine wp_storeAllT rfl 26 (.tmp 6) (.tmp 11) rfl b rfl [Xe Xf 5,Xe Xf p,Xe Xf a,Xe Xf 0,Xe Xf 0,Xe Xf 0,Xh Xd,Xh Xd,Xh Xd,O (Xa ⟨W1.heap.size,0,Xb⟩) 1 1] rfl (X1.out.grew (grew_alloc _ _)) rfl (by kernel_rfl) (by simp[Value.oneCell']) ?_)
 intro W3 b3 g3 s3;clear s3;have B3:Xo (BoxT W3 b 26 [Xe Xf 5,Xe Xf p,Xe Xf a,Xe Xf 0,Xe Xf 0,Xe Xf 0,Xh Xd,Xh Xd,Xh Xd,O (Xa ⟨W1.heap.size,0,Xb⟩) 1 1]):=b3;have G3:Xo (Grew w W3):=show Grew _ _ from grew_grown (G1.out.trans (grew_alloc _ _)) g3 (by have:=HB.out;omega)
 have R3:Xo (RowAt byE W3 (O (Xa ⟨W1.heap.size,0,Xb⟩) 1 1) [x]):=show RowAt _ _ _ _ from by
  have h1:OwnRow byE W1.heap.size (W1.alloc (Xk #[Xe Xg x] 5)) (.slice (Xa ⟨W1.heap.size,0,Xb⟩) [x].length 1) [x]:=
   OwnRow.mk' (E:=byE) (nR _) (BoxT.top W1 [Xe Xg x] 5 rfl) (nR _) (by decide) rfl rfl (by show 1*1<=_;omega)
  exact(h1.grown g3 (fun k hk e=>by
   have h2:Xa W1.heap.size=Xa k:=hk;simp only[Option.some.injEq]at h2 e;have:=HBQ.out;have:=HQ.out
   omega)).at
 clear b3 g3;go_wp2;refine bodyPost_ret (ret_cell rfl _ rfl B3.out.box Tryz.underlying26 rfl (by kernel_rfl)) rfl ⟨⟨⟨Xa ⟨W1.heap.size,0,Xb⟩,1,1⟩,rfl,rfl,R3.out⟩,G3.out⟩
theorem anon_any (a n:Int) (w:Xn):Xp Tryz.prog 8 #[Xe Xf a,Xe Xf n] w fun e w'=>e= Xl (Xi #[Xe Xf 1,Xe Xf 0,Xe Xf a,Xe Xf n,Xe Xf (-1),Xe Xf 0,Xh Xc,Xh Xc,Xh Xd,O Xb 0 0])/\Grew w w':=by
 go_enter Tryz.func8,Tryz.ntmps8
 go_wp2;refine bodyPost_ret (ret_cell rfl _ rfl (Box.top _ [Xe Xf 1,Xe Xf 0,Xe Xf a,Xe Xf n,Xe Xf (-1),Xe Xf 0,Xh Xc,Xh Xc,Xh Xd,O Xb 0 0] _ rfl) Tryz.underlying26 rfl (by kernel_rfl)) rfl ⟨rfl,(show Below _ _ _ from(bR _ _).alloc (nR _) _)⟩
theorem get_any (p a:Int) (w:Xn):Xp Tryz.prog 10 #[Xe Xf p,Xe Xf a] w fun e w'=>e= Xl (Xi #[Xe Xf 4,Xe Xf p,Xe Xf a,Xe Xf 1,Xe Xf 0,Xe Xf 0,Xh Xd,Xh Xd,Xh Xd,O Xb 0 0])/\Grew w w':=by
 go_enter Tryz.func10,Tryz.ntmps10
 go_wp2;refine bodyPost_ret (ret_cell rfl _ rfl (Box.top _ [Xe Xf 4,Xe Xf p,Xe Xf a,Xe Xf 1,Xe Xf 0,Xe Xf 0,Xh Xd,Xh Xd,Xh Xd,O Xb 0 0] _ rfl) Tryz.underlying26 rfl (by kernel_rfl)) rfl ⟨rfl,(show Below _ _ _ from(bR _ _).alloc (nR _) _)⟩
theorem first_any (n:Int) (s:Sli) (x:Int) (xs:List Int) (w:Xn) (h:RowAt byE w (O s.a s.n s.c) (x :: xs)):Xp Tryz.prog 11 #[ansV 0 n s] w fun e w'=>e= Xl (Xe Xg x)/\Grew w w':=by
 have hn:s.n=(x :: xs).length:=h.n;obtain⟨ad,had,hc⟩:=h.rowsAt 0 x rfl;obtain⟨sa,sn,sc⟩:=s;simp only at had hn;subst had hn;unfold ansV;simp only;have hpos:0< (x :: xs).length:=Nat.succ_pos _;obtain⟨ln,HLN⟩:∃ln:Nat,Xo ((x :: xs).length=ln):=⟨_,rfl⟩;rw[HLN.out]at hpos⊢;obtain⟨b,HB⟩:∃b,Xo (w.heap.size=b):=⟨_,rfl⟩;obtain⟨W1,hW1⟩:∃W1,w.alloc (Xk #[Xe Xf 0,Xe Xf n,O (Xa ad) ln sc] 50)=W1:=⟨_,rfl⟩;have G1:=gA hW1
 have A1:=xPT hW1 HB
 have HW1:Xo (_=W1):=hW1;have d0:W1.cell? ad=Xa (Xe Xg x):=by simpa [Addr.add]using hc W1 G1.out 0 _ rfl
 clear hW1 hc h;have hlt:decide ((ln:Int)<1)=Xd:=decide_eq_false (by omega)
 have hl2:(0:Int)< (ln:Int):=by omega
 clear hpos
 go_enter Tryz.func11,Tryz.ntmps11
 go_upto_region 1 with fail;rw[HW1.out,HB.out];clear HW1;have a0:=A1.out.box.c 0 rfl;have a2:=A1.out.box.c 2 rfl;go_wp2;go_ret;exact⟨rfl,G1.out⟩
theorem aliveTop_any (w:Xn):Xp Tryz.prog 6 #[] w fun e w'=>e= Xl (Xh Xc)/\Grew w w':=by
 have HAN:Xo (∀W,Xp Tryz.prog 8 #[Xe Xf 0,Xe Xf 1] W fun e w'=>e= Xl (Xi #[Xe Xf 1,Xe Xf 0,Xe Xf 0,Xe Xf 1,Xe Xf (-1),Xe Xf 0,Xh Xc,Xh Xc,Xh Xd,O Xb 0 0])/\Grew W w'):=fun W=>anon_any 0 1 W
 have HPU:Xo (∀W,Xp Tryz.prog 9 #[Xe Xf 0,Xe Xf 3,Xe Xg 9] W fun e w'=>(∃s:Sli,e= Xl (Xi #[Xe Xf 5,Xe Xf 0,Xe Xf 3,Xe Xf 0,Xe Xf 0,Xe Xf 0,Xh Xd,Xh Xd,Xh Xd,O s.a s.n s.c])/\s.n=1/\RowAt byE w' (O s.a s.n s.c) [9])/\Grew W w'):=fun W=>put_any 0 3 9 W
 have HGE:Xo (∀W,Xp Tryz.prog 10 #[Xe Xf 0,Xe Xf 3] W fun e w'=>e= Xl (Xi #[Xe Xf 4,Xe Xf 0,Xe Xf 3,Xe Xf 1,Xe Xf 0,Xe Xf 0,Xh Xd,Xh Xd,Xh Xd,O Xb 0 0])/\Grew W w'):=fun W=>get_any 0 3 W
 go_enter Tryz.func6,Tryz.ntmps6
 go_wp2_with fail;refine(HAN.out _).mono ?_;rintro e W1 ⟨rfl,g1⟩;have G1:Xo (Grew w W1):=g1;clear g1;go_wp2_with fail;refine(HPU.out _).mono ?_;rintro e W2 ⟨⟨s,rfl,hn,hr⟩,g2⟩;have G2:=dD (G1.out.trans g2);have HN1:Xo (s.n=1):=hn;have R2:Xo (RowAt byE W2 (O s.a s.n s.c) [9]):=hr;clear g2 hn hr;go_wp2_with fail;refine(HGE.out _).mono ?_;rintro e W3 ⟨rfl,g3⟩;have G3:=dD (G2.out.trans g3);have R3:=dD (R2.out.grew g3);clear g3 HAN HPU HGE;have hrow:=all_row clE W3 [clA0,clA1 s,clA2] #[Xe Xf 1,Xe Xf 0,Xe Xf 0,Xe Xf 1,Xe Xf (-1),Xe Xf 0,Xh Xc,Xh Xc,Xh Xd,O Xb 0 0,Xe Xf 5,Xe Xf 0,Xe Xf 3,Xe Xf 0,Xe Xf 0,Xe Xf 0,Xh Xd,Xh Xd,Xh Xd,O s.a s.n s.c,Xe Xf 4,Xe Xf 0,Xe Xf 3,Xe Xf 1,Xe Xf 0,Xe Xf 0,Xh Xd,Xh Xd,Xh Xd,O Xb 0 0] 26 3 rfl rfl (by show 3*80<=_;omega)
 have hpl:=play_any 2 2 0 ⟨by omega,by omega,by omega⟩ _ _ _ hrow (by show 3<=80;omega) JA ⟨fun _=>rfl,(fun h=>nomatch h),(fun h=>nomatch h),(fun h=>nomatch h)⟩ (ja_next _ s HN1.out (R3.out.grew (grew_alloc _ _)))
 go_wp2_with (go_at_call 7;refine hpl.mono ?_)
 clear hpl hrow;rintro e W5 ⟨⟨V,m,ga,ys,az,rfl,hj,hr5,hat⟩,g5⟩;obtain⟨n9,h9⟩:=hj.2.2.2 rfl;obtain⟨x,hx,e1,e2,hr9⟩:=hat 2 _ h9;obtain⟨ad,had,hc⟩:=hr5.rowsAt 2 x hx;cases had;have G5:=dD ((G3.out.trans (grew_alloc _ _)).trans g5);have HR9:Xo (RowAt byE W5 (O x.s.a x.s.n x.s.c) [9]):=hr9;have HC:Xo (∀W,Grew W5 W->W.cell? ⟨ga,6,Xb⟩=Xa (Xe Xf 0)/\W.cell? ⟨ga,7,Xb⟩=Xa (Xe Xf n9)/\W.cell? ⟨ga,8,Xb⟩=Xa (O x.s.a x.s.n x.s.c)):=show∀W,_ from fun W hW=>by
  have e1:x.er=0:=e1;have e2:x.n=n9:=e2;rw[<-e1,<-e2];exact⟨hc W hW 0 _ rfl,hc W hW 1 _ rfl,hc W hW 2 _ rfl⟩
 clear hj hr5 hat g5 h9 hx e1 e2 hr9 hc G3 R3 G1 G2 R2;go_upto_region 2 with fail;obtain⟨W6,hW6⟩:∃W6,W5.alloc (Xk #[O V.f.a V.f.n V.f.c,Xe Xf m.hand,O V.s.a V.s.n V.s.c,O V.sb.a V.sb.n V.sb.c,O V.sq.a V.sq.n V.sq.c,O V.db.a V.db.n V.db.c,O V.dq.a V.dq.n V.dq.c,O V.fl.a V.fl.n V.fl.c,Xe Xf m.cnt,O V.ca.a V.ca.n V.ca.c,O V.sp.a V.sp.n V.sp.c] 42)=W6:=⟨_,rfl⟩;have g6:=gP hW6
 obtain⟨d0,d1,d2⟩:=HC.out W6 g6;have G6:=dD (G5.out.trans g6);have hfi:=first_any n9 x.s 9 [] W6 (HR9.out.grew g6);unfold ansV at hfi;rw[hW6];clear hW6 g6
 go_wp2_with (go_at_call 11;refine hfi.mono ?_)
 clear hfi d0 d1 d2;rintro e W7 ⟨rfl,g7⟩;have G7:=dD (G6.out.trans g7);clear g7;go_wp2;go_ret;exact⟨rfl,G7.out⟩
def clF:Cl:=⟨6,0,0,0,0,0,Xd,Xd,Xd,noS⟩
def clX (g:Int):Cl:=⟨7,g,0,0,0,0,Xd,Xd,Xd,noS⟩
def JP (g:Nat) (i:Nat) (m:Ma) (az:List (Int × Int × List Int)):Prop:=
 (i<=3->m=emptyP (Xr (i+1) spL))/\(i=4->m=emptyP (Xr 4 spL))/\(i=5->m=emptyP ((Xr 4 spL).set g spD))/\
 (∀k,k<3->k<i->∃l,az[k]? =Xa (0,(k:Int)+1,l))/\(3<i->∃n l,az[3]? =Xa (4,n,l))/\(4<i->∃n l,az[4]? =Xa (0,n,l))/\(5<i->∃e l,az[5]? =Xa (e,(g:Int),l))
theorem jp_next (g:Nat) (h1:1<=g) (h3:g<4) (w:Xn) (i:Nat) (c:Cl) (m:Ma) (az:List (Int × Int × List Int)) (hc:(Xr 4 clF++ [clX (g:Int),clF])[i]? =Xa c) (hl:az.length=i) (hJ:JP g i m az):
  maW m=0/\(1<=c.kind/\c.kind<=15)/\∃K,(∀W,Grew w W->Works W m c K)/\∀er n l m' m2,K er n l m'->((er=0/\m2=m')\/(er≠0/\m2=m))->JP g (i+1) m2 (az++ [(er,n,l)]):=by
 obtain⟨j1,j2,j3,j4,j5,j6,j7⟩:=hJ;have old:∀{k:Nat} {x y:Int × Int × List Int},az[k]? =Xa x->(az++ [y])[k]? =Xa x:=fun{k x y} h=>by rw[Xs (gS.1 h).1];exact h
 have new:∀{y:Int × Int × List Int},(az++ [y])[i]? =Xa y:=fun{y}=>by rw[aR (by omega),hl,Nat.sub_self];rfl
 have h6:i<6:=by
  have:=(gS.1 hc).1
  simpa using this
 by_cases hi:i<4
 ·have ec:c=clF:=by
   rw[Xs (by simpa using hi),List.getElem?_replicate,if_pos hi]at hc
   cases hc;rfl
  subst ec;have e:=j1 (by omega)
  subst e;refine⟨right_rep hi,by decide,_,fun W _=>works_fork W _ clF rfl (right_rep hi) (by show(Xr (i+1) spL).length<=4;simp;omega),fun er n l m' m2 hk hm=>?_⟩
  by_cases hi3:i<3
  ·obtain⟨e1,e2,e3,e4⟩:=proc_fork hi3 hk
   rcases hm with⟨_,e5⟩ | ⟨e5,_⟩
   ·refine⟨fun _=>by rw[e5,e4],fun h=>by omega,fun h=>by omega,fun k hk3 hki=>?_,fun h=>by omega,fun h=>by omega,fun h=>by omega⟩
    by_cases ek:k=i
    ·subst ek;exact⟨l,by rw[new,e1,e2]⟩
    obtain⟨l',hl'⟩:=j4 k hk3 (by omega)
    exact⟨l',old hl'⟩
   exact absurd e1 e5
  have ei:i=3:=by omega
  subst ei;have e1:=proc_full hk
  rcases hm with⟨e5,_⟩ | ⟨_,e5⟩
  ·omega
  refine⟨fun h=>by omega,fun _=>e5,fun h=>by omega,fun k hk3 hki=>?_,fun _=>⟨n,l,by rw[new,e1]⟩,fun h=>by omega,fun h=>by omega⟩
  obtain⟨l',hl'⟩:=j4 k hk3 (by omega)
  exact⟨l',old hl'⟩
 by_cases hi4:i=4
 ·subst hi4;have ec:c=clX (g:Int):=by
   cases hc;rfl
  subst ec;have e:=j2 rfl;subst e;refine⟨right_rep (n:=3) (by omega),by show(1:Int)<=7/\(7:Int)<=15;omega,_,fun W _=>works_exit W _ (clX (g:Int)) rfl (right_rep (n:=3) (by omega)),fun er n l m' m2 hk hm=>?_⟩
  obtain⟨e1,e2⟩:=proc_exit h3 hk
  rcases hm with⟨_,e5⟩ | ⟨e5,_⟩
  ·refine⟨fun h=>by omega,fun h=>by omega,fun _=>by rw[e5,e2],fun k hk3 hki=>?_,fun _=>?_,fun _=>⟨n,l,by rw[new,e1]⟩,fun h=>by omega⟩
   ·obtain⟨l',hl'⟩:=j4 k hk3 (by omega)
    exact⟨l',old hl'⟩
   obtain⟨n',l',hl'⟩:=j5 (by omega)
   exact⟨n',l',old hl'⟩
  exact absurd e1 e5
 have ei:i=5:=by omega
 subst ei;have ec:c=clF:=by
  cases hc;rfl
 subst ec;have e:=j3 rfl;subst e;refine⟨right_gone h3,by decide,_,fun W _=>works_fork W _ clF rfl (right_gone h3) (by show((Xr 4 spL).set g spD).length<=4;simp),fun er n l m' m2 hk hm=>?_⟩
 obtain⟨e1,e2⟩:=proc_back h1 h3 hk;refine⟨fun h=>by omega,fun h=>by omega,fun h=>by omega,fun k hk3 hki=>?_,fun _=>?_,fun _=>?_,fun _=>⟨er,l,by rw[new,e2]⟩⟩
 ·obtain⟨l',hl'⟩:=j4 k hk3 (by omega)
  exact⟨l',old hl'⟩
 ·obtain⟨n',l',hl'⟩:=j5 (by omega)
  exact⟨n',l',old hl'⟩
 obtain⟨n',l',hl'⟩:=j6 (by omega)
 exact⟨n',l',old hl'⟩
theorem procs_any (gone:Int) (w:Xn):Xp Tryz.prog 3 #[Xe Xf gone] w fun e w'=>e= Xl (Xh Xc)/\Grew w w':=by
 have hal:=aliveTop_any w
 go_enter Tryz.func3,Tryz.ntmps3
 go_wp2_with fail;refine hal.mono ?_;clear hal;rintro e W1 ⟨rfl,g1⟩;have G1:Xo (Grew w W1):=g1;clear g1
 by_cases hlo:gone<1
 ·have hd:decide (gone<1)=Xc:=decide_eq_true hlo;clear hlo;go_wp2;go_ret;exact⟨rfl,G1.out⟩
 by_cases hhi:4<=gone
 ·have hd:decide (gone<1)=Xd:=decide_eq_false hlo;have hd2:decide (4<=gone)=Xc:=decide_eq_true hhi;clear hlo hhi;go_wp2;go_ret;exact⟨rfl,G1.out⟩
 obtain⟨g,HG⟩:∃g:Nat,Xo (gone=(g:Int)):=⟨gone.toNat,show _=_ by omega⟩
 have HGB:Xo (1<=g/\g<4):=show _/\_ by have:=HG.out;omega
 rw[HG.out]at hlo hhi⊢;have hd:decide ((g:Int)<1)=Xd:=decide_eq_false hlo;have hd2:decide (4<=(g:Int))=Xd:=decide_eq_false hhi;clear hlo hhi;have HW:Xo (w.heap.size<=W1.heap.size):=show _<=_ from bS G1.out
 go_upto_region 6 with fail;clear hd hd2;go_wp2
 go_loopg [3,16] 4 (fun gg s3 s16 wr=>∃(kk:Nat) (a:Option Addr) (c:Nat),kk<=4/\4 - kk<=gg/\s16= Xe Xf kk/\s3= O a kk c/\Xo (Grew w wr)/\Xo (OwnRow clE W1.heap.size wr (O a kk c) (Xr kk clF))/\Xo (W1.heap.size<=wr.heap.size))
 case atStart=>exact⟨0,Xb,0,nZ _,by omega,rfl,rfl,G1,OwnRow.nil _ _ _,nR _⟩
 clear G1;obtain⟨kk,a,c,hkk,hgg,rfl,rfl,BW,OW,HSZ⟩:=hrel
 by_cases hlt:kk<4
 ·have hltz:(kk:Int)<4:=by omega
  go_wp2_with (at_builtin;refine wpList_append_row (E:=clE) rfl (.tmp 18) (.tmp 20) rfl W1.heap.size _ (Xr kk clF) rfl (OW.out.grew (grew_alloc _ _)) _ [clF] rfl (one_row clE wr clF _ _ rfl (by show 80<=_;omega)) ?qb ?qc ?_)
  case qb=>
   simp only[lR,List.length_cons,List.length_nil]
   show(kk+1)*80<=_
   omega
  case qc=>have:=HSZ.out;simp;omega
  intro v4 W4 ow4 gr4;rw[<-List.replicate_succ']at ow4;obtain⟨a4,c4,rfl⟩:=ow4.form;rw[lR]at ow4⊢;have O4:Xo (OwnRow clE W1.heap.size W4 (O a4 (kk+1) c4) (Xr (kk+1) clF)):=ow4;have G4:Xo (Grew w W4):=show Grew _ _ from grew_beside (BW.out.trans (grew_alloc _ _)) gr4 (fun g hg=>by
   have h1:=(OW.out.lt g hg).1;have:=HW.out
   omega)
  have S4:Xo (W1.heap.size<=W4.heap.size):=show _<=_ by
   have h1:=gr4.size;have:=HSZ.out
   simp at h1
   omega
  clear ow4 gr4;go_wp2
  go_roundg (4 -(kk+1))
  case measure=>omega
  exact⟨kk+1,a4,c4,by omega,by omega,by go_num,rfl,G4,O4,S4⟩
 have hltz:¬(kk:Int)<4:=by omega
 have:kk=4:=by omega
 subst this;have hrow2:=all_row clE wr [clX (g:Int),clF] #[Xe Xf 7,Xe Xf (g:Int),Xe Xf 0,Xe Xf 0,Xe Xf 0,Xe Xf 0,Xh Xd,Xh Xd,Xh Xd,O Xb 0 0,Xe Xf 6,Xe Xf 0,Xe Xf 0,Xe Xf 0,Xe Xf 0,Xe Xf 0,Xh Xd,Xh Xd,Xh Xd,O Xb 0 0] 26 2 rfl rfl (by show 2*80<=_;omega)
 have hl4:¬((4:Nat):Int)<4:=by omega
 go_upto_region 11 with(at_builtin;refine wpList_append_row (E:=clE) rfl (.tmp 23) (.tmp 27) rfl W1.heap.size _ (Xr 4 clF) rfl (OW.out.grew (grew_alloc _ _)) _ [clX (g:Int),clF] rfl hrow2 ?qb ?qc ?_)
 case qb=>
  show 6*80<=_
  omega
 case qc=>have:=HSZ.out;simp;omega
 clear hrow2;intro v4 W4 ow4 gr4;obtain⟨a4,c4,rfl⟩:=ow4.form;have O4:Xo (RowAt clE W4 (.slice a4 (Xr 4 clF++ [clX (g:Int),clF]).length c4) (Xr 4 clF++ [clX (g:Int),clF])):=ow4.at;have G4:Xo (Grew w W4):=show Grew _ _ from grew_beside (BW.out.trans (grew_alloc _ _)) gr4 (fun g hg=>by
  have h1:=(OW.out.lt g hg).1;have:=HW.out
  omega)
 clear ow4 gr4 OW BW;have hpl:Xp Tryz.prog 7 #[Xi #[Xe Xf 0,Xe Xf 0,Xe Xf 0],.slice a4 (Xr 4 clF++ [clX (g:Int),clF]).length c4] W4 fun e w'=>Played 6 (JP g) e w'/\Grew W4 w':=play_any 0 0 0 ⟨by omega,by omega,by omega⟩ _ _ _ O4.out (by show 6<=80;omega) (JP g) ⟨fun _=>rfl,(fun h=>nomatch h),(fun h=>nomatch h),(fun k _ h=>absurd h (nL _)),(fun h=>absurd h (nL _)),(fun h=>absurd h (nL _)),(fun h=>absurd h (nL _))⟩ (jp_next g HGB.out.1 HGB.out.2 W4)
 go_upto_region 12 with(go_at_call 7;refine hpl.mono ?_)
 clear hpl;rintro e W5 ⟨⟨V,m,ga,ys,az,rfl,hj,hr5,hat⟩,g5⟩;have G5:=dD (G4.out.trans g5);have key:∀(k:Nat) (er n:Int) l,az[k]? =Xa (er,n,l)->∀W,Grew W5 W->W.cell? ⟨ga,k*3,Xb⟩=Xa (Xe Xf er)/\W.cell? ⟨ga,k*3+1,Xb⟩=Xa (Xe Xf n):=fun k er n l hk W hW=>by
  obtain⟨x,hx,e1,e2,_⟩:=hat k _ hk;obtain⟨ad,had,hc⟩:=hr5.rowsAt k x hx;cases had;have e1:x.er=er:=e1;have e2:x.n=n:=e2;have c0:=hc W hW 0 _ rfl;have c1:=hc W hW 1 _ rfl;rw[add_add',Addr.add_lit]at c0 c1;rw[<-e1,<-e2];rw[zA]at c0 c1;exact⟨c0,c1⟩
 obtain⟨_,_,_,q1,q2,q3,q4⟩:=hj;have HK:Xo (∀k,k<3->∀W,Grew W5 W->W.cell? ⟨ga,k*3,Xb⟩=Xa (Xe Xf 0)/\W.cell? ⟨ga,k*3+1,Xb⟩=Xa (Xe Xf ((k:Int)+1))):=show∀k,_ from fun k hk W hW=>by
  obtain⟨l,hl⟩:=q1 k hk (by omega)
  exact key k 0 _ l hl W hW
 have HE:Xo (∀W,Grew W5 W->W.cell? ⟨ga,9,Xb⟩=Xa (Xe Xf 4)/\W.cell? ⟨ga,12,Xb⟩=Xa (Xe Xf 0)/\W.cell? ⟨ga,16,Xb⟩=Xa (Xe Xf (g:Int))):=show∀W,_ from fun W hW=>by
  obtain⟨n3,l3,h3⟩:=q2 (by omega)
  obtain⟨n4,l4,h4⟩:=q3 (by omega)
  obtain⟨n5,l5,h5⟩:=q4 (by omega)
  exact⟨(key 3 4 n3 l3 h3 W hW).1,(key 4 0 n4 l4 h4 W hW).1,(key 5 n5 _ l5 h5 W hW).2⟩
 clear key q1 q2 q3 q4 hat hr5 g5 O4 G4 HW;go_upto_region 12 with fail;obtain⟨W6,hW6⟩:∃W6,W5.alloc (Xk #[O V.f.a V.f.n V.f.c,Xe Xf m.hand,O V.s.a V.s.n V.s.c,O V.sb.a V.sb.n V.sb.c,O V.sq.a V.sq.n V.sq.c,O V.db.a V.db.n V.db.c,O V.dq.a V.dq.n V.dq.c,O V.fl.a V.fl.n V.fl.c,Xe Xf m.cnt,O V.ca.a V.ca.n V.ca.c,O V.sp.a V.sp.n V.sp.c] 42)=W6:=⟨_,rfl⟩;have G56:=gA hW6
 rw[hW6];clear hW6;go_wp2
 go_loopg [38] 3 (fun gg s38 wx=>∃kk:Nat,kk<=3/\3 - kk<=gg/\s38= Xe Xf kk/\Xo (Grew W5 wx))
 case atStart=>exact⟨0,nZ _,by omega,rfl,G56⟩
 obtain⟨kk,hkk,hgg,rfl,BX⟩:=hrel
 by_cases hlt:kk<3
 ·have hlt3:(kk:Int)<3:=by omega
  have hlt6:(kk:Int)<6:=by omega
  obtain⟨d0,d1⟩:=HK.out kk hlt _ BX.out;go_wp2
  go_roundg (3 -(kk+1))
  case measure=>omega
  exact⟨kk+1,by omega,by omega,by go_num,BX⟩
 have hltz:¬(kk:Int)<3:=by omega
 have:kk=3:=by omega
 subst this;obtain⟨d3,d4,d5⟩:=HE.out _ BX.out;have GX:=dD (G5.out.trans BX.out);go_wp2;go_ret;exact⟨rfl,GX.out⟩
end
section
open Go.ChangeShapes Go.WideShapes Go.ChangeAt Go.RowKit
theorem own:ownKnob Tryz.prog.godebug=Xb:=by kernel_rfl
theorem laidOut:laidOutB Tryz.prog=Xc:=by kernel_rfl
theorem topProcs_lifted (os:Os) (started:os.Started) (H:Type) (enc:TypeId × Xq->H):
  ReturnsInHanded {} Tryz.checked os 3 .any (Rows.topProcsSpec.pre6 enc Tryz.prog Tryz.f3 Rows.topProcsRow.domain Xd) (Rows.topProcsSpec.post enc Tryz.prog Tryz.f3 Xd Xc Xd Xd):=by
 refine returnsInHanded_of_change_sized (C:=Tryz.checked) own started (by kernel_rfl) Tryz.func3
  (ChangeSpec.witness6 (enc:=enc) (C:=Tryz.checked) Xd ⟨#[],#[Xe Xf 0],[]⟩ 8 (by kernel_rfl) (by kernel_rfl) (by kernel_rfl) (by kernel_rfl)) ?_
 intro W base args ds gs before hval0 hW hcnd hsz0 _;have hsz:(DataW.weightsEach Tryz.prog (Tryz.f3.params.toList++Rows.topProcsSpec.plain.varTypes Tryz.prog) (ds++gs)).all (·<=reachBytes)=Xc:=hsz0;have hval:∀(j:Nat) t v,Tryz.f3.params[j]? =Xa t->args[j]? =Xa v->Value.okWide Tryz.prog W .any base t v:=hval0;have hW':=hW;obtain⟨p,q,hA0,hV,rfl,hfz,hnd⟩:=hW;have hA:DataW.TrodAll enc Tryz.prog W 0 (fun _=>Xc) Xc Tryz.f3.params.toList args.toList ds p:=hA0
 rw[Tryz.params3]at hA hval hsz;obtain⟨v0,vs0,d0,ds0,p0,q0,hargs,rfl,rfl,k0,r0⟩:=trodAll_cons hA;obtain⟨rfl,rfl,rfl⟩:=trodAll_nil r0;obtain rfl:args=#[v0]:=by cases args;simp_all
 obtain⟨rfl,rfl⟩:=trodVars_none hV;have lt0:∀x∈p0,x.block<W.heap.size:=by obtain⟨m,hm⟩:=k0;exact DataW.trod_lt m _ _ _ hm
 have k0':=k0;obtain⟨n0,rfl,rfl,rfl,w0⟩:=open_int Tryz.underlying3 (hval 0 3 v0 rfl rfl) k0;clear hA0 hval0 hsz0;refine(procs_any n0 W).mono fun e W' ⟨he,bel⟩=>?_
 subst he;have stay:∀{t:TypeId} {v:Xq} {d:DataW H} {ps:List MemPlace},Tryz.prog.readableRec t=Xc->t<Tryz.prog.types.size->DataW.Trod enc Tryz.prog W 0 (fun _=>Xc) Xc t v d ps->(∀x∈ps,x.block<W.heap.size)->DataW.Trod enc Tryz.prog W' 0 (fun b=>decide (b<W.heap.size)) Xc t v d ps:=
  fun h1 h2 h3 h4=>Below.trod laidOut h1 h2 h3 bel h4
 exact⟨_,rfl,_,_,_,[],_,[],hW',trodAll_mk1 (shut_bool Tryz.underlying4 _),(trodAll_cons_mk (stay (by kernel_rfl) (of_decide_eq_true (by kernel_rfl)) k0' lt0) trodAll_mk0),rfl,Below.frame bel _,fun h=>by cases h⟩
theorem topProcs_over:Rows.topProcsRow.holds Tryz.pinned (OpenSpec.ofChange Rows.topProcsSpec):=
 OpenClaim.holds_of_wide 3 Tryz.f3 rfl rfl rfl rfl rfl rfl rfl ⟨rfl,rfl,rfl,rfl,rfl⟩ rfl rfl rfl rfl rfl (by kernel_rfl) Tryz.func3 (by kernel_rfl)
  (of_decide_eq_true (by kernel_rfl)) (by unfold Func.isWrapper;first | (rw[if_pos (by decide+kernel)];kernel_rfl) | (rw[if_neg (by decide+kernel)];exact⟨rfl,rfl⟩))
  (fun os started H enc _=>topProcs_lifted os started H enc)
theorem topProcs_holds:Rows.TopProcsSaid:=topProcs_over
#print axioms topProcs_holds
end
end Go.Proofs.YtempiodbdhiboaaGreat
