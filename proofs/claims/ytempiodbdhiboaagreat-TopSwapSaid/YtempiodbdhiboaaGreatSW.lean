/- TopSwap,proved:as many pages as frames and slots together,less one,written one by one,are read one by one as they were,whatever the numbers and the seed. No condition. -/
import Derived.Test.YtempiodbdhiboaaGreatSW8
import Derived.Test.YtempiodbdhiboaaGreatRows
import Derived.WalkKit
import Derived.ProofKit
import Derived.OpenShut
import Derived.ShutString
import Derived.ChangeOld
import Derived.Below
import Derived.Carry
import Derived.SizedLaws
import Derived.Deep.Slices
import Derived.Test.YtempiodbdhiboaaGreatChecked
namespace Go.Proofs.YtempiodbdhiboaaGreat
open Go.Value renaming slice→O,int→Xe,bool→Xh,agg→Xi,pointer→Xj,tuple→Xm
open Go.IntKind renaming i64→Xf,u8→Xg
open Go.Obj renaming cells→Xk
open Go.Ending renaming returned→Xl
open Go renaming World→Xn,Calls→Xp,Value→Xq
open Go.RowKit renaming Hid→Xo
open Option renaming some→Xa,none→Xb
open Bool renaming true→Xc,false→Xd
open List renaming replicate→Xr
open _root_.List renaming getElem?_append_left→Xs
set_option maxRecDepth 100000
set_option maxHeartbeats 4000000
section
open Go.RowKit
structure Puts (B:Nat) (w:Xn) (n kk:Nat) (x:Nat->Int) (L:List Cl):Prop where
 len:L.length=1+kk
 first:L[0]? =Xa (clMp n)
 puts:∀k,k<kk->∃s,L[1+k]? =Xa (clP k s)/\s.n=1/\OwnRow byE B w (O s.a s.n s.c) [x k]
theorem Puts.grew {B:Nat} {w w':Xn} {n kk:Nat} {x:Nat->Int} {L:List Cl} (h:Puts B w n kk x L) (g:Grew w w'):Puts B w' n kk x L:=⟨h.len,h.first,fun k hk=>by
 obtain⟨s,a,b,c⟩:=h.puts k hk;exact⟨s,a,b,c.grew g⟩⟩
theorem OwnRow.beyond {B q:Nat} {w w':Xn} {o:Obj} {v u:Xq} {l:List Int} {L:List Cl} (h:OwnRow byE B w v l) (k:OwnRow clE q w u L) (g:(w.alloc o).grownBy w' u.ownBlock):OwnRow byE B w' v l:=
 (h.grew (grew_alloc w o)).grown g fun b hb e=>(h.apart k (by decide)) b hb e
theorem Puts.beside {B q:Nat} {w w':Xn} {o:Obj} {u:Xq} {n kk:Nat} {x:Nat->Int} {L M:List Cl} (h:Puts B w n kk x L) (k:OwnRow clE q w u M) (g:(w.alloc o).grownBy w' u.ownBlock):Puts B w' n kk x L:=⟨h.len,h.first,fun j hj=>by
 obtain⟨s,a,b,c⟩:=h.puts j hj;exact⟨s,a,b,c.beyond k g⟩⟩
theorem Puts.more {B:Nat} {w:Xn} {n kk:Nat} {x:Nat->Int} {L:List Cl} (h:Puts B w n kk x L) {s:Sli} (hs:s.n=1) (hr:OwnRow byE B w (O s.a s.n s.c) [x kk]):Puts B w n (kk+1) x (L++ [clP kk s]):=by
 have old:∀{j:Nat} {y:Cl},L[j]? =Xa y->(L++ [clP kk s])[j]? =Xa y:=fun hy=>by rw[Xs (gS.1 hy).1];exact hy
 refine⟨by rw[lA,h.len];rfl,old h.first,fun j hj=>?_⟩
 by_cases e:j=kk
 ·subst e;exact⟨s,by rw[aR (by rw[h.len];exact nR _),h.len,Nat.sub_self];rfl,hs,hr⟩
 obtain⟨t,a,b,c⟩:=h.puts j (by omega)
 exact⟨t,old a,b,c⟩
structure Gets (B:Nat) (w:Xn) (n kk:Nat) (x:Nat->Int) (L:List Cl):Prop where
 len:L.length=1+n+kk
 first:L[0]? =Xa (clMp n)
 puts:∀k,k<n->∃s,L[1+k]? =Xa (clP k s)/\s.n=1/\OwnRow byE B w (O s.a s.n s.c) [x k]
 gets:∀k,k<kk->L[1+n+k]? =Xa (clG k)
theorem Gets.grew {B:Nat} {w w':Xn} {n kk:Nat} {x:Nat->Int} {L:List Cl} (h:Gets B w n kk x L) (g:Grew w w'):Gets B w' n kk x L:=⟨h.len,h.first,fun k hk=>by
 obtain⟨s,a,b,c⟩:=h.puts k hk;exact⟨s,a,b,c.grew g⟩,h.gets⟩
theorem Gets.beside {B q:Nat} {w w':Xn} {o:Obj} {u:Xq} {n kk:Nat} {x:Nat->Int} {L M:List Cl} (h:Gets B w n kk x L) (k:OwnRow clE q w u M) (g:(w.alloc o).grownBy w' u.ownBlock):Gets B w' n kk x L:=⟨h.len,h.first,fun j hj=>by
 obtain⟨s,a,b,c⟩:=h.puts j hj;exact⟨s,a,b,c.beyond k g⟩,h.gets⟩
theorem Gets.more {B:Nat} {w:Xn} {n kk:Nat} {x:Nat->Int} {L:List Cl} (h:Gets B w n kk x L):Gets B w n (kk+1) x (L++ [clG kk]):=by
 have old:∀{j:Nat} {y:Cl},L[j]? =Xa y->(L++ [clG kk])[j]? =Xa y:=fun hy=>by rw[Xs (gS.1 hy).1];exact hy
 refine⟨by rw[lA,h.len];rfl,old h.first,fun j hj=>?_,fun j hj=>?_⟩
 ·obtain⟨t,a,b,c⟩:=h.puts j hj;exact⟨t,old a,b,c⟩
 by_cases e:j=kk
 ·subst e;rw[aR (by rw[h.len];exact nR _),h.len,Nat.sub_self]
  rfl
 exact old (h.gets j (by omega))
theorem Gets.all {B:Nat} {w:Xn} {n:Nat} {x:Nat->Int} {L:List Cl} (h:Gets B w n n x L):Cls w n x L:=⟨h.len,h.first,fun k hk=>by
 obtain⟨s,a,b,c⟩:=h.puts k hk;exact⟨s,a,b,c.at⟩,h.gets⟩
theorem swap_any (fr sl seed:Int) (w:Xn):Xp Tryz.prog 4 #[Xe Xf fr,Xe Xf sl,Xe Xf seed] w fun e w'=>e= Xl (Xh Xc)/\Grew w w':=by
 have hal:=aliveTop_any w
 go_enter Tryz.func4,Tryz.ntmps4
 go_wp2_with fail;refine hal.mono ?_;clear hal;rintro e W1 ⟨rfl,g1⟩;have G1:Xo (Grew w W1):=g1;clear g1
 by_cases hin:2<=fr/\fr<=12/\0<=sl/\sl<=12
 rotate_left
 ·by_cases h1:fr<2
  ·have hd:decide (fr<2)=Xc:=decide_eq_true h1;clear h1 hin;go_wp2;go_ret;exact⟨rfl,G1.out⟩
  have d1:decide (fr<2)=Xd:=decide_eq_false h1
  by_cases h2:12<fr
  ·have hd:decide (12<fr)=Xc:=decide_eq_true h2;clear h1 h2 hin;go_wp2;go_ret;exact⟨rfl,G1.out⟩
  have d2:decide (12<fr)=Xd:=decide_eq_false h2
  by_cases h3:sl<0
  ·have hd:decide (sl<0)=Xc:=decide_eq_true h3;clear h1 h2 h3 hin;go_wp2;go_ret;exact⟨rfl,G1.out⟩
  have d3:decide (sl<0)=Xd:=decide_eq_false h3;have d4:decide (12<sl)=Xc:=decide_eq_true (by omega)
  clear h1 h2 h3 hin;go_wp2;go_ret;exact⟨rfl,G1.out⟩
 obtain⟨F,HF⟩:∃F:Nat,Xo (fr=(F:Int)):=⟨fr.toNat,show _=_ by omega⟩
 obtain⟨S,HS⟩:∃S:Nat,Xo (sl=(S:Int)):=⟨sl.toNat,show _=_ by omega⟩
 rw[HF.out,HS.out]at hin;rw[HF.out,HS.out];have HFS:Xo (2<=F/\F<13/\S<13):=show _/\_/\_ by omega
 obtain⟨n,HN⟩:∃n:Nat,Xo (n=F+S - 1):=⟨_,rfl⟩;have d1:decide ((F:Int)<2)=Xd:=decide_eq_false (by omega)
 have d2:decide (12< (F:Int))=Xd:=decide_eq_false (by omega)
 have d3:decide ((S:Int)<0)=Xd:=decide_eq_false (by omega)
 have d4:decide (12< (S:Int))=Xd:=decide_eq_false (by omega)
 have hsum:(F:Int)+(S:Int) - 1=(n:Int):=by have:=HN.out;omega
 have hb:(F:Int)+(S:Int)<=24:=by omega
 have HNB:Xo (1<=n/\n<=23):=show _/\_ by have:=HN.out;omega
 clear hin;have han:=anon_any 0 (n:Int) W1;go_upto_region 6 with fail;clear d1 d2 d3 d4 hsum hb
 go_upto_region 7 with(go_at_call 8;refine han.mono ?_)
 clear han;rintro e W2 ⟨rfl,g2⟩;have G2:=dD (G1.out.trans g2);have HB1:Xo (w.heap.size<=W2.heap.size):=show _<=_ from bS G2.out
 clear g2 G1;go_upto_region 7 with fail;obtain⟨q,HQ⟩:∃q,Xo (W2.heap.size=q):=⟨_,rfl⟩;obtain⟨W3,hW3⟩:∃W3,W2.alloc (Xk #[Xe Xf 1,Xe Xf 0,Xe Xf 0,Xe Xf (n:Int),Xe Xf (-1),Xe Xf 0,Xh Xc,Xh Xc,Xh Xd,O Xb 0 0] 26)=W3:=⟨_,rfl⟩;have g23:=gP hW3
 have O3:Xo (OwnRow clE q W3 (O (Xa ⟨q,0,Xb⟩) 1 1) [clMp n]):=show OwnRow _ _ _ _ _ from by
  have h1:BoxT W3 q 26 [Xe Xf 1,Xe Xf 0,Xe Xf 0,Xe Xf (n:Int),Xe Xf (-1),Xe Xf 0,Xh Xc,Xh Xc,Xh Xd,O Xb 0 0]:=by rw[<-hW3];exact BoxT.top W2 [Xe Xf 1,Xe Xf 0,Xe Xf 0,Xe Xf (n:Int),Xe Xf (-1),Xe Xf 0,Xh Xc,Xh Xc,Xh Xd,O Xb 0 0] _ HQ.out.symm
  exact OwnRow.mk' (E:=clE) (l:=[clMp n]) (nR _) h1 (nR _) (by decide) rfl rfl (by show 1*80<=_;omega)
 have G3:=dD (G2.out.trans g23);have S3:Xo (q<=W3.heap.size):=show _<=_ by rw[<-HQ.out];exact bS g23
 have HWQ:Xo (w.heap.size<=q):=show _<=_ by rw[<-HQ.out];exact HB1.out
 rw[hW3,HQ.out];clear hW3 g23 G2 HB1 HQ;obtain⟨x,HX⟩:∃x:Nat->Int,Xo (∀k:Nat,x k=((k:Int)+Int.tmod seed 7) % 256):=⟨_,fun _=>rfl⟩
 go_wp2
 go_loopg [8,39] n (fun gg s8 s39 wr=>∃(kk:Nat) (a:Option Addr) (c:Nat) (L:List Cl),kk<=n/\n - kk<=gg/\s39= Xe Xf kk/\s8= O a (1+kk) c/\Xo (Grew w wr)/\Xo (q<=wr.heap.size)/\Xo (OwnRow clE q wr (O a (1+kk) c) L)/\Xo (Puts q wr n kk x L))
 case atStart=>exact⟨0,_,1,_,nZ _,by omega,rfl,rfl,G3,S3,O3,show Puts _ _ _ _ _ _ from⟨rfl,rfl,fun k h=>absurd h (nL _)⟩⟩
 clear G3 S3 O3;obtain⟨kk,a,c,L,hkk,hgg,rfl,rfl,BW,HSZ,OW,HP⟩:=hrel
 by_cases hlt:kk<n
 ·have hltz:(kk:Int)< (n:Int):=by omega
  have hk23:(kk:Int)<=23:=by have:=HNB.out;omega
  have ht1:-7<Int.tmod seed 7:=Int.lt_tmod_of_pos seed (by decide)
  have ht2:Int.tmod seed 7<7:=Int.tmod_lt_of_pos seed (by decide)
  have hpu:Xp Tryz.prog 9 #[Xe Xf 0,Xe Xf (8*(kk:Int)+(kk:Int) % 8),Xe Xg (((kk:Int)+Int.tmod seed 7) % 256)] wr fun e w'=>(∃s:Sli,e= Xl (Xi #[Xe Xf 5,Xe Xf 0,Xe Xf (8*(kk:Int)+(kk:Int) % 8),Xe Xf 0,Xe Xf 0,Xe Xf 0,Xh Xd,Xh Xd,Xh Xd,O s.a s.n s.c])/\s.n=1/\OwnRow byE wr.heap.size w' (O s.a s.n s.c) [((kk:Int)+Int.tmod seed 7) % 256])/\Grew wr w':=putO_any 0 _ _ wr
  go_wp2_with (go_at_call 9;refine hpu.mono ?_)
  clear hpu;rintro e W4 ⟨⟨s,rfl,hs1,hr4⟩,g4⟩;have O4:=dD (OW.out.grew g4);have G4:=dD (BW.out.trans g4);have S4:Xo (q<=W4.heap.size):=show _<=_ from nT HSZ.out (bS g4)
  have P4:=dD (HP.out.grew g4);have R4:Xo (OwnRow byE q W4 (O s.a s.n s.c) [x kk]):=show OwnRow _ _ _ _ _ by rw[HX.out];exact hr4.base HSZ.out
  have HS1:Xo (s.n=1):=hs1;clear hs1 hr4 g4 BW HSZ OW HP
  go_wp2_with (at_builtin;refine wpList_append_row (E:=clE) rfl (.tmp 42) (.tmp 54) rfl q _ L rfl (O4.out.grew (grew_alloc _ _)) _ [clP kk s] rfl (one_row clE W4 (clP kk s) _ _ rfl (by show 80<=_;omega)) ?qb ?qc ?_)
  case qb=>
   rw[P4.out.len]
   show(1+kk+1)*80<=_
   omega
  case qc=>have:=S4.out;simp;omega
  intro v5 W5 ow5 gr5;have hlen:(L++ [clP kk s]).length=1+(kk+1):=by rw[lA,P4.out.len];rfl
  obtain⟨a5,c5,rfl⟩:=ow5.form;rw[hlen]at ow5⊢;have O5:Xo (OwnRow clE q W5 (O a5 (1+(kk+1)) c5) (L++ [clP kk s])):=ow5;have G5:Xo (Grew w W5):=show Grew _ _ from grew_beside (G4.out.trans (grew_alloc _ _)) gr5 (fun g hg=>by
   have h1:=(O4.out.lt g hg).1;have:=HWQ.out
   omega)
  have S5:Xo (q<=W5.heap.size):=show _<=_ by
   have h1:=gr5.size;have:=S4.out
   simp at h1
   omega
  have P5:Xo (Puts q W5 n (kk+1) x (L++ [clP kk s])):=show Puts _ _ _ _ _ _ from(P4.out.beside (O4.out) gr5).more HS1.out (R4.out.beyond O4.out gr5)
  clear ow5 gr5 hlen O4 G4 S4 P4 R4 HS1;go_wp2
  go_roundg (n -(kk+1))
  case measure=>omega
  exact⟨kk+1,a5,c5,_,by omega,by omega,by go_num,rfl,G5,S5,O5,P5⟩
 have hltz:¬(kk:Int)< (n:Int):=by omega
 have e:n=kk:=by omega
 subst e;clear hgg hkk hlt;go_wp2
 go_loopg [8,58] n (fun gg s8 s58 wx=>∃(kk:Nat) (a:Option Addr) (c:Nat) (L:List Cl),kk<=n/\n - kk<=gg/\s58= Xe Xf kk/\s8= O a (1+n+kk) c/\Xo (Grew w wx)/\Xo (q<=wx.heap.size)/\Xo (OwnRow clE q wx (O a (1+n+kk) c) L)/\Xo (Gets q wx n kk x L))
 case atStart=>exact⟨0,a,c,L,nZ _,by omega,rfl,rfl,BW,HSZ,OW,show Gets _ _ _ _ _ _ from⟨HP.out.len,HP.out.first,HP.out.puts,fun k h=>absurd h (nL _)⟩⟩
 clear BW HSZ OW HP;obtain⟨kk,a,c,L,hkk,hgg,rfl,rfl,BW,HSZ,OW,HP⟩:=hrel
 by_cases hlt:kk<n
 ·have hltz:(kk:Int)< (n:Int):=by omega
  have hk23:(kk:Int)<=23:=by have:=HNB.out;omega
  have hge:Xp Tryz.prog 10 #[Xe Xf 0,Xe Xf (8*(kk:Int)+(kk:Int) % 8)] wr fun e w'=>e= Xl (Xi #[Xe Xf 4,Xe Xf 0,Xe Xf (8*(kk:Int)+(kk:Int) % 8),Xe Xf 1,Xe Xf 0,Xe Xf 0,Xh Xd,Xh Xd,Xh Xd,O Xb 0 0])/\Grew wr w':=get_any 0 _ wr
  go_wp2_with (go_at_call 10;refine hge.mono ?_)
  clear hge;rintro e W4 ⟨rfl,g4⟩;have O4:=dD (OW.out.grew g4);have G4:=dD (BW.out.trans g4);have S4:Xo (q<=W4.heap.size):=show _<=_ from nT HSZ.out (bS g4)
  have P4:=dD (HP.out.grew g4);clear g4 BW HSZ OW HP
  go_wp2_with (at_builtin;refine wpList_append_row (E:=clE) rfl (.tmp 61) (.tmp 68) rfl q _ L rfl (O4.out.grew (grew_alloc _ _)) _ [clG kk] rfl (one_row clE W4 (clG kk) _ _ rfl (by show 80<=_;omega)) ?qb ?qc ?_)
  case qb=>
   rw[P4.out.len]
   show(1+n+kk+1)*80<=_
   have:=HNB.out;omega
  case qc=>have:=S4.out;simp;omega
  intro v5 W5 ow5 gr5;have hlen:(L++ [clG kk]).length=1+n+(kk+1):=by rw[lA,P4.out.len];rfl
  obtain⟨a5,c5,rfl⟩:=ow5.form;rw[hlen]at ow5⊢;have O5:Xo (OwnRow clE q W5 (O a5 (1+n+(kk+1)) c5) (L++ [clG kk])):=ow5;have G5:Xo (Grew w W5):=show Grew _ _ from grew_beside (G4.out.trans (grew_alloc _ _)) gr5 (fun g hg=>by
   have h1:=(O4.out.lt g hg).1;have:=HWQ.out
   omega)
  have S5:Xo (q<=W5.heap.size):=show _<=_ by
   have h1:=gr5.size;have:=S4.out
   simp at h1
   omega
  have P5:Xo (Gets q W5 n (kk+1) x (L++ [clG kk])):=show Gets _ _ _ _ _ _ from(P4.out.beside (O4.out) gr5).more
  clear ow5 gr5 hlen O4 G4 S4 P4;go_wp2
  go_roundg (n -(kk+1))
  case measure=>omega
  exact⟨kk+1,a5,c5,_,by omega,by omega,by go_num,rfl,G5,S5,O5,P5⟩
 have hltz:¬(kk:Int)< (n:Int):=by omega
 have e:n=kk:=by omega
 subst e;clear hgg hkk hlt;have hcl:Cls wr n x L:=HP.out.all;have hpl:=play_any (F:Int) (S:Int) 0 ⟨by have:=HFS.out;omega,by have:=HFS.out;omega,by omega⟩ _ L wr OW.out.at (by rw[hcl.len];have:=HNB.out;omega) (JS F S n x) ⟨fun _=>rfl,fun h=>absurd h (by omega),fun k _ h=>absurd h (by omega),fun k _ h=>absurd h (by omega)⟩ (js_next HFS.out.1 HFS.out.2.1 HFS.out.2.2 HN.out hcl)
 rw[hcl.len]at hpl;clear hcl
 go_upto_region 18 with(go_at_call 7;refine hpl.mono ?_)
 clear hpl;rintro e W5 ⟨V,m,ga,ys,az,rfl,hj,hr5,hat⟩ g5;have G5:=dD (BW.out.trans g5);obtain⟨_,_,q3,q4⟩:=hj;have key:∀(k:Nat) (er z:Int) l,az[k]? =Xa (er,z,l)->∃s:Sli,RowAt byE W5 (O s.a s.n s.c) l/\∀W,Grew W5 W->W.cell? ⟨ga,k*3,Xb⟩=Xa (Xe Xf er)/\W.cell? ⟨ga,k*3+1,Xb⟩=Xa (Xe Xf z)/\W.cell? ⟨ga,k*3+2,Xb⟩=Xa (O s.a s.n s.c):=fun k er z l hk=>by
  obtain⟨y,hy,e1,e2,e3⟩:=hat k _ hk;obtain⟨ad,had,hc⟩:=hr5.rowsAt k y hy;cases had;have e1:y.er=er:=e1;have e2:y.n=z:=e2;refine⟨y.s,e3,fun W hW=>?_⟩
  have c0:=hc W hW 0 _ rfl;have c1:=hc W hW 1 _ rfl;have c2:=hc W hW 2 _ rfl;rw[add_add',Addr.add_lit,zA]at c0 c1 c2;rw[<-e1,<-e2];exact⟨c0,c1,c2⟩
 have HK:Xo (∀k,k<n->∀W,Grew W5 W->W.cell? ⟨ga,(1+k)*3,Xb⟩=Xa (Xe Xf 0)):=show∀k,_ from fun k hk W hW=>by
  obtain⟨z,l,hl⟩:=q3 k hk (by omega)
  obtain⟨s,_,h2⟩:=key _ _ _ _ hl;exact(h2 W hW).1
 have HG:Xo (∀k,k<n->∃(z:Int) (s:Sli),RowAt byE W5 (O s.a s.n s.c) [x k]/\∀W,Grew W5 W->W.cell? ⟨ga,(1+n+k)*3,Xb⟩=Xa (Xe Xf 0)/\W.cell? ⟨ga,(1+n+k)*3+1,Xb⟩=Xa (Xe Xf z)/\W.cell? ⟨ga,(1+n+k)*3+2,Xb⟩=Xa (O s.a s.n s.c)):=show∀k,_ from fun k hk=>by
  obtain⟨z,hl⟩:=q4 k hk (by omega)
  obtain⟨s,h1,h2⟩:=key _ _ _ _ hl;exact⟨z,s,h1,h2⟩
 clear key q3 q4 hat hr5 g5 BW HSZ OW HP;go_upto_region 18 with fail;obtain⟨W6,hW6⟩:∃W6,W5.alloc (Xk #[O V.f.a V.f.n V.f.c,Xe Xf m.hand,O V.s.a V.s.n V.s.c,O V.sb.a V.sb.n V.sb.c,O V.sq.a V.sq.n V.sq.c,O V.db.a V.db.n V.db.c,O V.dq.a V.dq.n V.dq.c,O V.fl.a V.fl.n V.fl.c,Xe Xf m.cnt,O V.ca.a V.ca.n V.ca.c,O V.sp.a V.sp.n V.sp.c] 42)=W6:=⟨_,rfl⟩;have G56:=gA hW6
 rw[hW6];clear hW6;go_wp2
 go_loopg [83] n (fun gg s83 wx=>∃kk:Nat,kk<=n/\n - kk<=gg/\s83= Xe Xf kk/\Xo (Grew W5 wx))
 case atStart=>exact⟨0,nZ _,by omega,rfl,G56⟩
 obtain⟨kk,hkk,hgg,rfl,BX⟩:=hrel
 by_cases hlt:kk<n
 ·have hltz:(kk:Int)< (n:Int):=by omega
  have hk23:(kk:Int)<=23:=by have:=HNB.out;omega
  have hn23:(n:Int)<=23:=by have:=HNB.out;omega
  have ht1:-7<Int.tmod seed 7:=Int.lt_tmod_of_pos seed (by decide)
  have ht2:Int.tmod seed 7<7:=Int.tmod_lt_of_pos seed (by decide)
  have d0:=HK.out kk hlt _ BX.out;obtain⟨z,s,hr,hc⟩:=HG.out kk hlt;obtain⟨e0,e1,e2⟩:=hc _ BX.out;have hfi:=first_any z s (x kk) [] wr (hr.grew BX.out);unfold ansV at hfi;rw[HX.out]at hfi
  go_wp2_with (go_at_call 11;refine hfi.mono ?_)
  rintro e W7 ⟨rfl,g7⟩;have B7:=dD (BX.out.trans g7);clear g7 hfi d0 e0 e1 e2 hr hc;go_wp2
  go_roundg (n -(kk+1))
  case measure=>omega
  exact⟨kk+1,by omega,by omega,by go_num,B7⟩
 have hltz:¬(kk:Int)< (n:Int):=by omega
 have e:n=kk:=by omega
 subst e;have GX:=dD (G5.out.trans BX.out);go_wp2;go_ret;exact⟨rfl,GX.out⟩
end
section
open Go.ChangeShapes Go.WideShapes Go.ChangeAt Go.RowKit
theorem own:ownKnob Tryz.prog.godebug=Xb:=by kernel_rfl
theorem laidOut:laidOutB Tryz.prog=Xc:=by kernel_rfl
theorem topSwap_lifted (os:Os) (started:os.Started) (H:Type) (enc:TypeId × Xq->H):
  ReturnsInHanded {} Tryz.checked os 4 .any (Rows.topSwapSpec.pre6 enc Tryz.prog Tryz.f4 Rows.topSwapRow.domain Xd) (Rows.topSwapSpec.post enc Tryz.prog Tryz.f4 Xd Xc Xd Xd):=by
 refine returnsInHanded_of_change_sized (C:=Tryz.checked) own started (by kernel_rfl) Tryz.func4
  (ChangeSpec.witness6 (enc:=enc) (C:=Tryz.checked) Xd ⟨#[],#[Xe Xf 0,Xe Xf 0,Xe Xf 0],[]⟩ 8 (by kernel_rfl) (by kernel_rfl) (by kernel_rfl) (by kernel_rfl)) ?_
 intro W base args ds gs before hval0 hW hcnd hsz0 _;have hsz:(DataW.weightsEach Tryz.prog (Tryz.f4.params.toList++Rows.topSwapSpec.plain.varTypes Tryz.prog) (ds++gs)).all (·<=reachBytes)=Xc:=hsz0;have hval:∀(j:Nat) t v,Tryz.f4.params[j]? =Xa t->args[j]? =Xa v->Value.okWide Tryz.prog W .any base t v:=hval0;have hW':=hW;obtain⟨p,q,hA0,hV,rfl,hfz,hnd⟩:=hW;have hA:DataW.TrodAll enc Tryz.prog W 0 (fun _=>Xc) Xc Tryz.f4.params.toList args.toList ds p:=hA0
 rw[Tryz.params4]at hA hval hsz;obtain⟨v0,vs0,d0,ds0,p0,q0,hargs,rfl,rfl,k0,r0⟩:=trodAll_cons hA;obtain⟨v1,vs1,d1,ds1,p1,q1,rfl,rfl,rfl,k1,r1⟩:=trodAll_cons r0;obtain⟨v2,vs2,d2,ds2,p2,q2,rfl,rfl,rfl,k2,r2⟩:=trodAll_cons r1;obtain⟨rfl,rfl,rfl⟩:=trodAll_nil r2;obtain rfl:args=#[v0,v1,v2]:=by cases args;simp_all
 obtain⟨rfl,rfl⟩:=trodVars_none hV;have lt0:∀x∈p0,x.block<W.heap.size:=by obtain⟨m,hm⟩:=k0;exact DataW.trod_lt m _ _ _ hm
 have lt1:∀x∈p1,x.block<W.heap.size:=by obtain⟨m,hm⟩:=k1;exact DataW.trod_lt m _ _ _ hm
 have lt2:∀x∈p2,x.block<W.heap.size:=by obtain⟨m,hm⟩:=k2;exact DataW.trod_lt m _ _ _ hm
 have k0':=k0;have k1':=k1;have k2':=k2;obtain⟨n0,rfl,rfl,rfl,w0⟩:=open_int Tryz.underlying3 (hval 0 3 v0 rfl rfl) k0;obtain⟨n1,rfl,rfl,rfl,w1⟩:=open_int Tryz.underlying3 (hval 1 3 v1 rfl rfl) k1;obtain⟨n2,rfl,rfl,rfl,w2⟩:=open_int Tryz.underlying3 (hval 2 3 v2 rfl rfl) k2;clear hA0 hval0 hsz0;refine(swap_any n0 n1 n2 W).mono fun e W' ⟨he,bel⟩=>?_
 subst he;have stay:∀{t:TypeId} {v:Xq} {d:DataW H} {ps:List MemPlace},Tryz.prog.readableRec t=Xc->t<Tryz.prog.types.size->DataW.Trod enc Tryz.prog W 0 (fun _=>Xc) Xc t v d ps->(∀x∈ps,x.block<W.heap.size)->DataW.Trod enc Tryz.prog W' 0 (fun b=>decide (b<W.heap.size)) Xc t v d ps:=
  fun h1 h2 h3 h4=>Below.trod laidOut h1 h2 h3 bel h4
 exact⟨_,rfl,_,_,_,[],_,[],hW',trodAll_mk1 (shut_bool Tryz.underlying4 _),(trodAll_cons_mk (stay (by kernel_rfl) (of_decide_eq_true (by kernel_rfl)) k0' lt0) (trodAll_cons_mk (stay (by kernel_rfl) (of_decide_eq_true (by kernel_rfl)) k1' lt1) (trodAll_cons_mk (stay (by kernel_rfl) (of_decide_eq_true (by kernel_rfl)) k2' lt2) trodAll_mk0))),rfl,Below.frame bel _,fun h=>by cases h⟩
theorem topSwap_over:Rows.topSwapRow.holds Tryz.pinned (OpenSpec.ofChange Rows.topSwapSpec):=
 OpenClaim.holds_of_wide 4 Tryz.f4 rfl rfl rfl rfl rfl rfl rfl ⟨rfl,rfl,rfl,rfl,rfl⟩ rfl rfl rfl rfl rfl (by kernel_rfl) Tryz.func4 (by kernel_rfl)
  (of_decide_eq_true (by kernel_rfl)) (by unfold Func.isWrapper;first | (rw[if_pos (by decide+kernel)];kernel_rfl) | (rw[if_neg (by decide+kernel)];exact⟨rfl,rfl⟩))
  (fun os started H enc _=>topSwap_lifted os started H enc)
theorem topSwap_holds:Rows.TopSwapSaid:=topSwap_over
#print axioms topSwap_holds
end
end Go.Proofs.YtempiodbdhiboaaGreat
