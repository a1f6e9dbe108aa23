/- ForkSame,proved:the child of a fork has the areas and pages of its parent;all others,and files,are as they were;the machine is right:whatever the numbers,bytes and process. No condition. -/
import Derived.Test.YtdgccecjbpgmfaaGreatPS8
import Derived.Laws.BytesArg
import Derived.Test.YtdgccecjbpgmfaaGreatRows
import Derived.WalkKit
import Derived.ProofKit
import Derived.OpenShut
import Derived.ShutString
import Derived.ChangeOld
import Derived.Below
import Derived.Carry
import Derived.SizedLaws
import Derived.Deep.Slices
import Derived.Test.YtdgccecjbpgmfaaGreatChecked
namespace Go.Proofs.YtdgccecjbpgmfaaGreat
set_option maxRecDepth 100000
set_option maxHeartbeats 4000000
variable{Q:Exit->Act->World->Prop} {a0 a1 a2 a3 a4 a5 a6 a7 a8 a9:Value} {b j q:Nat} {e t:TypeId} {m m':Ma} {o:Oper} {ops:Array Oper} {vs:List Value}
open Go.Proofs.Tryz
section
open Go.RowKit
theorem zjk {w:World} (i:Nat) (hi:i<8) {v:Value} (hv:vs[i]? =some v):(Instr.index 67 (.agg vs.toArray) (I6 (i:Int))).run prog w= .ok v w:=by
 have ha:(isAgg 5).run prog w= .ok false w:=by
  unfold isAgg;rw[Sem.run_bind,run_underlying underlying5 w];rfl
 have hs:(Go.sizeOf 5).run prog w= .ok 1 w:=by
  obtain⟨i0,h1,h2⟩:∃i0,Tryz.prog.info? 5=some i0/\i0.size=1:=by
   have:(Tryz.prog.info? 5).map (·.size)=some 1:=by kernel_rfl
   cases hq:Tryz.prog.info? 5 with
   | none=>rw[hq]at this;cases this
   | some i0=>rw[hq]at this;exact⟨i0,rfl,by simpa using this⟩
  simp[Go.sizeOf,typeInfo,h1,h2]
 have hlt:(0:Int)<=(i:Int)/\(i:Int)< ((8:Nat):Int):=by omega
 simp only[Instr.index,asIntOf,Sem.run_bind,Sem.run_pure,rA,run_underlying underlying67];rw[if_pos hlt];simp only[Sem.run_bind,hs,rA,part,ha,Nat.mul_one,tN]
 simp[hv]
theorem zkx {rest:List Oper} {a:Act} {w:World} (hgd:o.guard=none) (x ix:Operand) (ho:o.op= .index 67 x ix) (vs:List Value) (hx:a.eval x= .agg vs.toArray) (i:Nat) (hix:a.eval ix=I6 (i:Int)) (hi:i<8) {v:Value} (hv:vs[i]? =some v)
  (h:wpList prog ops Q rest (a.put o.dst v) w):wpList prog ops Q (o :: rest) a w:=by
 refine wpList_plain hgd fun K hK=>?_
 unfold Oper.wp execOp;simp only[ho,hx,hix,Sem.run_bind,Sem.run_pure,rA,zjk i hi hv];exact hK _ _ h
def byD (m:Ma) (fi k:Nat):Int:=(ja m (fi:Int) ((k / 8:Nat):Int)).getD (k % 8) 0
def Byt (m:Ma) (file:Int) (w:World) (e:Ending) (w':World):Prop:=∃u,e= .returned (.tuple #[u,I6 (Jz m file)])/\zb byE w.heap.size w' u (Zb m file)
theorem zlH (h:maW m=0) {fi:Nat} {f:Fl} (hf:m.fl[fi]? =some f):(0<=f.size/\f.size<=96)/\(f.bl.length:Int)=Jx f.size:=by
 have h1:=zeO h;unfold Jk at h1;rw[zn]at h1;have h2:=((jE _ _).1 (h1 (stW m.fl m.cnt) (by simp))).2.1 f (mG hf)
 exact⟨h2.1,h2.2.1⟩
theorem zg2 (v u:Value) (l:List Ar) (w:World) (hv:zr arE w v l) (hu:zr arE w u l):
  Calls prog 20 #[v,u] w fun e w'=>e= .returned (.bool true)/\zc w w':=by
 have hbig:=hv.short;obtain⟨a,c,rfl,hrow⟩:=hv.ars;obtain⟨a',c',rfl,hrow'⟩:=hu.ars;have HR:Hid (zaU w a l):=hrow;have HR':Hid (zaU w a' l):=hrow';clear hrow hrow' hv hu;obtain⟨n,HN⟩:∃n,Hid (l.length=n):=⟨_,rfl⟩;rw[HN.out]at hbig⊢;have hnn:((n:Int) !=(n:Int))=false:=by simp
 go_enter func20,ntmps20
 go_wp2
 go_loopg [13] n (fun gg s13 wr=>∃kk:Nat,kk<=n/\n - kk<=gg/\s13=I6 kk/\Hid (zc w wr))
 case atStart=>exact⟨0,nZ _,by omega,rfl,zc.refl _⟩
 obtain⟨kk,hkk,hg,rfl,BW⟩:=hrel
 by_cases hlt:kk<n
 ·have hltz:(kk:Int)< (n:Int):=by omega
  obtain⟨z,HZ⟩:∃z,Hid (l[kk]? =some z):=⟨_,gE (by rw[HN.out];exact hlt)⟩
  obtain⟨ad,rfl,hl⟩:=HR.out kk z HZ.out;obtain⟨ad',rfl,hl'⟩:=HR'.out kk z HZ.out;obtain⟨d0,d1,d2,d3,d4,d5,d6⟩:=hl wr BW.out;obtain⟨e0,e1,e2,e3,e4,e5,e6⟩:=hl' wr BW.out;have hee:=fun W=>zlx z.fr z.fr z.tz z.tz z.rd z.rd z.wr z.wr z.sh z.sh z.file z.file z.base z.base W
  rw[zhy]at hee;clear hl hl';go_wp2;go_quiet (fail);go_wp2
  go_roundg (n -(kk+1))
  case measure=>omega
  exact⟨kk+1,by omega,by omega,by go_num,BW.trans (show Below _ _ _ from bD (bR _ _) _)⟩
 have hltz:¬(kk:Int)< (n:Int):=by omega
 have:kk=n:=by omega
 subst this;go_wp2;go_ret;exact⟨rfl,BW⟩
theorem zcm {w:World} {v:Value} {l:List Int} (h:zr byE w v l):(convert 24 9 v).run prog w= .ok (.string (strOfNums l)) w:=by
 have hs:=byE.und;have he:Tryz.prog.underlying 5=some (.int .u8):=underlying5;have hd:Tryz.prog.underlying 9=some .string:=underlying9;obtain⟨a,c,h1,h2⟩:=h.rows;subst h1
 cases a with
 | none=>
  have:l=[]:=by
   cases l with
   | nil=>rfl
   | cons x l=>
    obtain⟨ad,h3,_⟩:=h2 0 x rfl;cases h3
  subst this;exact run_convert_bytes_nil w 24 5 hs he _ _ 9 hd
 | some x=>
  have hc:∀(j:Nat) u,(l.map (Value.int .u8))[j]? =some u->w.cell? (x.add j)=some u:=fun j u hj=>by
   rw[List.getElem?_map]at hj
   cases hz:l[j]? with
   | none=>rw[hz]at hj;cases hj
   | some z=>
    rw[hz]at hj;simp only[Option.map_some,Option.some.injEq]at hj;obtain⟨ad,h3,h4⟩:=h2 j z hz;cases h3;have:=h4 w (zc.refl _) 0 u (by rw[<-hj];rfl)
    simp only[byE,Nat.mul_one,zU,Nat.add_zero]at this;exact this
  have hl:=run_loadCells_list (P:=prog) w x (l.map (Value.int .u8)) hc;rw[List.length_map]at hl;rw[run_convert_bytes_string w 24 9 5 _ _ c hs he hd,run_bytesToString w x l.length c l hl,foldl_push_bytes]
  simp[strOfNums,ByteArray.empty,ByteArray.emptyWithCapacity]
  rfl
theorem zkG {α:Type} (E:Elt α) (w:World):zr E w (eS) ([]:List α):=(zb.nil E 0 w).at
theorem zg0:Zg (fun _=>en0)=z8:=by kernel_rfl
theorem zj1 {F S B:Int} (h:zlI F S B):jO (zeI F.toNat S.toNat B.toNat 1) [fun _=>en0] 0=zkJ F S B:=by
 unfold jO zeI zkJ;simp only[List.replicate_one,List.zipWith_cons_cons,List.zipWith_nil_left,zg0]
 congr 1
 unfold zlI at h;omega
def nm2:Ma:=zkJ 2 2 2
def sp2:Sp:=⟨true,[],z8⟩
theorem zhw (w:World):Calls prog 15 #[I6 2,I6 2,I6 2,eS] w fun e w'=>(∃V:MaV,e= .returned (.agg #[V.f.x,I6 0,V.s.x,V.sb.x,V.sq.x,V.db.x,V.dq.x,V.fl.x,I6 2,V.ca.x,V.sp.x])/\zF w' V nm2)/\Rt nm2/\zc w w':=by
 refine(zff 2 2 2 2 2 2 (by decide) (by decide) (by decide) zx [] w (zkG _ _) (nR _) (by simp)).mono ?_
 rintro e w' ⟨V2,m2,T2,hd2,hi2,ht2,vt2,rfl,hbt⟩;obtain⟨e1,e2,e3⟩:=hbt.new rfl;have hat:=hbt.at;have hf:jO (zeI 2 2 2 1) [fun _=>en0] 0=nm2:=zj1 (F:=2) (S:=2) (B:=2) (by unfold zlI;omega)
 rw[e1,e2,e3,hf]at hat;have hc:m2.cnt=2:=by rw[e1];rfl
 refine⟨⟨V2,by rw[hc,e3],hat.1⟩,⟨hat.2,fun s hs=>?_⟩,hbt.gr⟩
 have:s=sp2:=by
  have hs:s∈[sp2]:=hs
  simpa using hs
 rw[this];rfl
theorem zlF {s:Sp} (h:ZT nm2 0 q s):q=0/\s=sp2:=by
 have h1:q=0:=by have:=h.1;omega
 subst h1;have h2:nm2.sp[0]? =some s:=h.2.1;have h3:nm2.sp[0]? =some sp2:=rfl;rw[h3]at h2;cases h2;exact⟨rfl,rfl⟩
theorem zlO {k:Nat} (h:Vac nm2.sp k):k=1:=by
 have h1:k<=1:=h.1
 by_cases e:k=0
 ·subst e;have:=h.2.1 sp2 rfl;cases this
 omega
theorem zlG:zae nm2 1 0 sp2={ nm2 with sp:=[sp2,sp2] }:=rfl
theorem zlJ:zhl { nm2 with sp:=[sp2,sp2] } 0 sp2={ nm2 with sp:=[⟨false,[],z8⟩,sp2] }:=rfl
theorem zgd (w:World):Calls prog 14 #[] w fun e w'=>e= .returned (.bool true)/\zc w w':=by
 have hbu:=zhw w
 go_enter func14,ntmps14
 go_wp2_with fail;refine hbu.mono ?_;clear hbu;rintro e W1 ⟨⟨V,rfl,hm⟩,hrt,g1⟩;have G1:Hid (zc w W1):=g1;have M1:Hid (zF W1 V nm2):=hm;have HR:Hid (Rt nm2):=hrt;clear g1 hm hrt;go_upto_region 2 with fail;obtain⟨W2,hW2⟩:∃W2,W1.alloc (.cells #[V.f.x,I6 0,V.s.x,V.sb.x,V.sq.x,V.db.x,V.dq.x,V.fl.x,I6 2,V.ca.x,V.sp.x] 41)=W2:=⟨_,rfl⟩;have g2:=gP hW2
 have X2:=xA hW2
 have G2:=dD (G1.trans g2);have M2:=dD (M1.grew g2);rw[hW2];clear hW2 g2;have hfk:Calls prog 16 #[.agg #[V.f.x,I6 0,V.s.x,V.sb.x,V.sq.x,V.db.x,V.dq.x,V.fl.x,I6 2,V.ca.x,V.sp.x],I6 0] W2 fun e w'=>zku nm2 0 e w'/\zc W2 w':=zeZ V nm2 0 W2 M2 HR.w (by decide)
 obtain⟨x0,x1,x2,x3,x4,x5,x6,x7,x8,x9,x10⟩:=X2.c11;go_wp2_with fail;refine hfk.mono ?_;clear hfk x0 x1 x2 x3 x4 x5 x6 x7 x8 x9 x10;rintro e W3 ⟨hF,g3⟩;have G3:=dD (G2.trans g3);clear g3
 rcases hF with⟨hno,_⟩|⟨q,s,k,hl,hv,hF⟩
 ·exact absurd (show ZT nm2 0 0 sp2 from⟨rfl,rfl,rfl⟩) (hno 0 sp2)
 obtain⟨rfl,rfl⟩:=zlF hl;have hk:=zlO hv;subst hk
 rcases hF with⟨h4,_⟩|⟨_,V3,rfl,hm3⟩
 ·cases h4
 have HR3:Hid (Rt (zae nm2 1 0 sp2)):=dD<|(zgF HR hl.2.1 rfl hv (by decide)).1
 rw[zlG]at hm3 HR3⊢;have M3:Hid (zF W3 V3 { nm2 with sp:=[sp2,sp2] }):=hm3;have hn3:V3.sp.n=2:=hm3.ns.2.2.2.2.2.2.2.2;have HN3:Hid (V3.sp.n=2):=hn3;clear hm3 hl hv hn3;go_upto_region 3 with fail;obtain⟨W4,hW4⟩:∃W4,W3.alloc (.cells (mL V3 nm2).toArray 41)=W4:=⟨_,rfl⟩;have g4:=gP hW4
 have X4:=xA hW4
 have G4:=dD (G3.trans g4);have M4:=dD (M3.grew g4);rw[hW4];clear hW4 g4;have hex:Calls prog 42 #[.agg (mL V3 nm2).toArray,I6 0] W4 fun e w'=>zkv { nm2 with sp:=[sp2,sp2] } 0 e w'/\zc W4 w':=ziA V3 { nm2 with sp:=[sp2,sp2] } 0 W4 M4 HR3.w
 (try simp only[mL,Sli.x]at hex);rw[HN3.out]at hex;obtain⟨x0,x1,x2,x3,x4,x5,x6,x7,x8,x9,x10⟩:=X4.c11;(try simp only[Sli.x]at x10);rw[HN3.out]at x10;go_wp2_with fail;refine hex.mono ?_;clear hex x0 x1 x2 x3 x4 x5 x6 x7 x8 x9 x10;rintro e W5 ⟨hF,g5⟩;have G5:=dD (G4.trans g5);clear g5
 rcases hF with⟨hno,_⟩|⟨q,s,hl,V5,rfl,hm5⟩
 ·exact absurd (show ZT { nm2 with sp:=[sp2,sp2] } 0 0 sp2 from⟨rfl,rfl,rfl⟩) (hno 0 sp2)
 have hq0:q=0:=by have:=hl.1;omega
 subst hq0;have hs2:s=sp2:=by
  have h2:=hl.2.1;have h3:({ nm2 with sp:=[sp2,sp2] }:Ma).sp[0]? =some sp2:=rfl;rw[h3]at h2;cases h2;rfl
 subst hs2;rw[zlJ]at hm5⊢;have M5:Hid (zF W5 V5 { nm2 with sp:=[⟨false,[],z8⟩,sp2] }):=hm5;have HN5:Hid (V5.sp.n=2):=show _=_ from hm5.ns.2.2.2.2.2.2.2.2
 clear hm5 hl;go_upto_region 6 with fail;obtain⟨W6,hW6⟩:∃W6,W5.alloc (.cells (mL V5 nm2).toArray 41)=W6:=⟨_,rfl⟩;have g6:=gP hW6
 have X6:=xA hW6
 have G6:=dD (G5.trans g6);obtain⟨xs,s1,s2,s3⟩:=(M5.grew g6).sp;rw[hW6];clear hW6 g6;obtain⟨y0,hy0⟩:∃y,xs[0]? =some y:=⟨_,gE (by rw[s2];decide)⟩
 obtain⟨y1,hy1⟩:∃y,xs[1]? =some y:=⟨_,gE (by rw[s2];decide)⟩
 have l0:y0.live=false:=(s3 0 y0 _ hy0 rfl).live;have l1:y1.live=true:=(s3 1 y1 _ hy1 rfl).live;obtain⟨a,c,heq,hrow⟩:=s1.sps;have ha:V5.sp.a=a:=by
  simp only[vJ]at heq;exact heq.1
 obtain⟨ad,had,hc0⟩:=hrow 0 y0 hy0;obtain⟨ad',had',hc1⟩:=hrow 1 y1 hy1;rw[had]at had';cases had';obtain⟨d0,-⟩:=jp.sp10 (hc0 W6 (zc.refl _));obtain⟨d1,-⟩:=jp.sp10 (hc1 W6 (zc.refl _));rw[l0]at d0;rw[l1]at d1;have x10:=X6.c 10 rfl;(try simp only[Sli.x]at x10);rw[HN5.out,ha,had]at x10;clear hc0 hc1 hrow heq ha had s1 s2 s3 hy0 hy1 l0 l1;have e0:ad.add (0*10)=ad:=by
  cases ad
  simp[Addr.add]
 rw[e0]at d0;have d1:W6.cell? { block:=ad.block,off:=ad.off+10 }=some (Value.bool true):=d1;go_wp2;go_ret;exact⟨rfl,G6⟩
theorem zlk {s:Sp} (h:spE s=0):(wrL s.ars).1=0/\tbW s.tb=0/\(s.live=false->s.ars=[]/\s.tb.all (·.isEmpty)=true):=by
 unfold spE at h
 split at h
 ·rename_i e;exact absurd h e
 rename_i e1
 split at h
 ·rename_i e;exact absurd h e
 rename_i e2
 refine⟨Decidable.not_not.1 e1,Decidable.not_not.1 e2,fun hl=>?_⟩
 rw[hl]at h
 split at h
 ·cases h
 rename_i e3
 simp at e3
 exact⟨e3.1,by simp;exact e3.2⟩
theorem ziY (h:QE m=0) (hb:b<m.db.length):Zc m b=false:=by
 cases e:Zc m b with
 | false=>rfl
 | true=>rw[zdd hb e]at h;cases h
theorem zjp (h:Qr m=0) {q:Int × List Int} (hq:m.dq[j]? =some q):qU m.fl q.1=true:=by
 cases e:qU m.fl q.1 with
 | true=>rfl
 | false=>rw[zcT hq e]at h;cases h
theorem zfJ (V:MaV) (m:Ma) (w:World) (hm:zF w V m) (h0:Jk m=0):
  Calls prog 62 #[.agg (mL V m).toArray] w fun e w'=>e= .returned (I6 0)/\zc w w':=by
 unfold Jk at h0;rw[zn]at h0;have q1:j1 m.fs m.hand=0:=h0 _ (by simp)
 have q2:slW m.sl=0:=h0 _ (by simp)
 have q3:zX m.sb.length m.sq=0:=h0 _ (by simp)
 have q4:zX m.db.length m.dq=0:=h0 _ (by simp)
 have q5:stW m.fl m.cnt=0:=h0 _ (by simp)
 have q6:zgG m=0:=h0 _ (by simp)
 have Q7:Hid (QE m=0):=dD<|h0 _ (by simp)
 have Q8:Hid (Qr m=0):=dD<|h0 _ (by simp)
 have q9:(if 4<m.sp.length then(4:Int)else 0)=0:=h0 _ (by simp)
 have Q10:Hid (∀s∈m.sp,spE s=0):=dD<|fun s hs=>zn.1 (h0 (zB (m.sp.map spE)) (by simp)) _ (List.mem_map.2 ⟨s,hs,rfl⟩)
 have HM:Hid (zF w V m):=hm;obtain⟨n1,n2,n3,-,n5,n6,-,-,n9⟩:=hm.ns;obtain⟨xs,hxl,hrow,hsp⟩:=hm.spaces;have hfs:=hm.fs;have hsl:=hm.sl;have HPG:Hid (zbH w V.db.a m.db):=hm.pgs;have HPU:Hid (zal w V.dq.a m.dq):=hm.puts;have hsl9:=hm.sp;have hb6:V.dq.n<=9223372036854775807:=by have:=hm.dq.2.2;omega
 have hb5:V.db.n<=9223372036854775807:=by have:=hm.db.2.2;omega
 obtain⟨vf,vs,vsb,vsq,⟨dba,dbn,dbc⟩,⟨dqa,dqn,dqc⟩,vfl,vca,⟨spa,spn,spc⟩⟩:=V;dsimp only[mL]at n1 n2 n3 n5 n6 n9 hb5 hb6 HPG HPU hfs hsl hrow⊢;have HC1:Hid (∀W,zc w W->Calls prog 94 #[.agg #[vf.x,I6 m.hand]] W fun e w'=>e= .returned (I6 0)/\zc W w'):=dD<|fun W hW=>by (try simp only[Sli.x]at hfs⊢);rw[n1]at hfs⊢;rw[<-q1];exact zbU vf.a vf.c m.fs m.hand W (zlt.1 (hfs.grew hW))
 have HC2:Hid (∀W,zc w W->Calls prog 95 #[vs.x] W fun e w'=>e= .returned (I6 0)/\zc W w'):=dD<|fun W hW=>by (try simp only[Sli.x]at hsl⊢);rw[n2]at hsl⊢;rw[<-q2];exact zdB vs.a vs.c m.sl W (hsl.grew hW)
 have HC3:Hid (∀W,zc w W->Calls prog 83 #[.agg #[vsb.x,vsq.x]] W fun e w'=>e= .returned (I6 0)/\zc W w'):=dD<|fun W hW=>by rw[<-q3,<-n3];exact ZX vsb.a vsb.n vsb.c _ m.sq W (HM.grew hW).sq
 have HC4:Hid (∀W,zc w W->Calls prog 83 #[.agg #[.slice dba dbn dbc,.slice dqa dqn dqc]] W fun e w'=>e= .returned (I6 0)/\zc W w'):=dD<|fun W hW=>by rw[<-q4,<-n5];exact ZX dba dbn dbc _ m.dq W (HM.grew hW).dq
 have HC5:Hid (∀W,zc w W->Calls prog 96 #[.agg #[vfl.x,I6 m.cnt]] W fun e w'=>e= .returned (I6 0)/\zc W w'):=dD<|fun W hW=>by rw[<-q5];exact zcC _ m.fl m.cnt W (HM.grew hW).fl
 have HUS:Hid (∀W b,zc w W->Calls prog 45 #[.agg #[vfl.x,I6 m.cnt],I6 b] W fun e w'=>e= .returned (.bool (qU m.fl b))/\zc W w'):=dD<|fun W b hW=>zgk _ m.fl m.cnt b W (HM.grew hW).fl
 have HN5:Hid (m.db.length=dbn):=n5.symm;have HN6:Hid (m.dq.length=dqn):=n6.symm;have HN9:Hid (m.sp.length=spn):=n9.symm;have h4:spn<=4:=by
  rw[<-n9]at q9
  split at q9
  ·cases q9
  omega
 have HXL:Hid (xs.length=spn):=dD<|by rw[hxl];exact HN9.out
 have HRW:Hid (∀(j:Nat) x,xs[j]? =some x->∃ad,spa=some ad/\∀W,zc w W->zcs W (ad.add (j*10)) x):=dD<|hrow
 have HSP:Hid (∀(i:Nat) x s,xs[i]? =some x->m.sp[i]? =some s->zZ w x s):=dD<|hsp
 have hfit:vs.n=vsb.n/\m.cnt=(dbn:Int):=by
  unfold zgG at q6;rw[<-n2,<-n3,<-n5]at q6
  split at q6
  ·cases q6
  omega
 obtain⟨c1,c2⟩:=hfit;have c1e:((vs.n:Int) !=(vsb.n:Int))=false:=by simp[c1]
 have c1f:(vs.n != vsb.n)=false:=by simp[c1]
 have c2e:(m.cnt !=(dbn:Int))=false:=by simp[c2]
 have hb9:spn<=9223372036854775807:=by omega
 have h4d:decide ((4:Int)< (spn:Int))=false:=by simp;omega
 clear hm n1 n2 n3 n5 n6 n9 hxl hrow hsp hfs hsl hsl9 h0 q1 q2 q3 q4 q5 q6 q9 c1 c2 h4;obtain⟨W0,hW0⟩:∃W0,w.alloc (.cells #[vf.x,I6 m.hand,vs.x,vsb.x,vsq.x,.slice dba dbn dbc,.slice dqa dqn dqc,vfl.x,I6 m.cnt,vca.x,.slice spa spn spc] 41)=W0:=⟨_,rfl⟩;have G0:=gA hW0
 have X0:Hid (∀W,zc W0 W->Box W w.heap.size [vf.x,I6 m.hand,vs.x,vsb.x,vsq.x,.slice dba dbn dbc,.slice dqa dqn dqc,vfl.x,I6 m.cnt,vca.x,.slice spa spn spc]):=dD<|fun W hW=>by
  rw[<-hW0]at hW;exact(Box.top _ _ _ rfl).grew hW
 have HW0:Hid (_=W0):=hW0;clear hW0
 go_enter func62,ntmps62
 go_upto_region 1 with fail;rw[HW0.out];have x0:=(X0 _ (zc.refl _)).c 0 rfl;have x1:=(X0 _ (zc.refl _)).c 1 rfl;have hc:=HC1.out W0 G0.out;go_wp2_with fail;refine hc.mono ?_;clear hc x0 x1;rintro e W1 ⟨rfl,g⟩;have K1:Hid (zc W0 W1):=g;have x2:=(X0 _ g).c 2 rfl;have hc:=HC2.out W1 (G0.trans g);go_wp2_with fail;refine hc.mono ?_;clear hc x2 g;rintro e W2 ⟨rfl,g⟩;have K2:=dD (K1.trans g);clear g;have x3:=(X0 _ K2).c 3 rfl;have x4:=(X0 _ K2).c 4 rfl;have hc:=HC3.out W2 (G0.trans K2);go_wp2_with fail;refine hc.mono ?_;clear hc x3 x4;rintro e W3 ⟨rfl,g⟩;have K3:=dD (K2.trans g);clear g;have x5:=(X0 _ K3).c 5 rfl;have x6:=(X0 _ K3).c 6 rfl;have hc:=HC4.out W3 (G0.trans K3);go_wp2_with fail;refine hc.mono ?_;clear hc x5 x6;rintro e W4 ⟨rfl,g⟩;have K4:=dD (K3.trans g);clear g;have x7:=(X0 _ K4).c 7 rfl;have x8:=(X0 _ K4).c 8 rfl;have hc:=HC5.out W4 (G0.trans K4);go_wp2_with fail;refine hc.mono ?_;clear hc x7 x8;rintro e W5 ⟨rfl,g⟩;have K5:=dD (K4.trans g);clear g;have x2:=(X0 _ K5).c 2 rfl;have x3:=(X0 _ K5).c 3 rfl;have x5:=(X0 _ K5).c 5 rfl;have x8:=(X0 _ K5).c 8 rfl;go_wp2;clear x2 x3 x5 x8 c1e c1f c2e
 go_loopg [68] dbn (fun gg s68 wr=>∃kk:Nat,kk<=dbn/\dbn - kk<=gg/\s68=I6 kk/\Hid (zc W0 wr))
 case atStart=>exact⟨0,nZ _,by omega,rfl,K5⟩
 obtain⟨kk,hkk,hgg,rfl,GW⟩:=hrel
 by_cases hlt:kk<dbn
 ·have hltz:(kk:Int)< (dbn:Int):=by omega
  have HKL:Hid (kk<m.db.length):=dD<|by rw[HN5.out];exact hlt
  obtain⟨p,HP⟩:∃p,Hid (m.db[kk]? =some p):=⟨_,gE HKL⟩;obtain⟨ad,b0,b1,b2,b3,b4,b5,b6,b7,rfl,rfl,hl⟩:=HPG.out kk p HP.out;have HBD:Hid ((!qU m.fl (kk:Int) && !([b0,b1,b2,b3,b4,b5,b6,b7] == zt))=false):=dD<|by
   have:=ziY Q7 HKL.out;unfold Zc at this;rw[gD,HP.out]at this;exact this
  obtain⟨d0,d1,d2,d3,d4,d5,d6,d7⟩:=hl wr (G0.trans GW);have hqp:=fun W=>Qt 9998 b0 b1 b2 b3 b4 b5 b6 b7 0 0 0 0 0 0 0 0 W
  simp only[zea]at hqp;obtain⟨PZ,HPZ⟩:∃PZ,Hid (([b0,b1,b2,b3,b4,b5,b6,b7] == zt)=PZ):=⟨_,rfl⟩;rw[HPZ.out]at hqp HBD;clear hl;go_upto_region 21 with fail;obtain⟨W6,hW6⟩:∃W6,wr.alloc (.cells #[U8 b0,U8 b1,U8 b2,U8 b3,U8 b4,U8 b5,U8 b6,U8 b7] 67)=W6:=⟨_,rfl⟩;have P6:=xA hW6
  have K6:=gT hW6 GW
  rw[hW6];clear hW6 d0 d1 d2 d3 d4 d5 d6 d7;have hus:=HUS.out W6 (kk:Int) (G0.trans K6);obtain⟨U,HU⟩:∃U,Hid (qU m.fl (kk:Int)=U):=⟨_,rfl⟩;rw[HU.out]at hus HBD;have x7:=(X0 _ K6).c 7 rfl;have x8:=(X0 _ K6).c 8 rfl;go_wp2_with fail;refine hus.mono ?_;clear hus x7 x8;rintro e W7 ⟨rfl,g7⟩;have K7:=dD (K6.trans g7);have P7:=P6.grew g7;obtain⟨p0,p1,p2,p3,p4,p5,p6,p7⟩:=P7.c8;clear g7
  cases U with
  | true=>
   clear hqp;go_wp2
   go_roundg (dbn -(kk+1))
   case measure=>omega
   exact⟨kk+1,by omega,by omega,by go_num,K7⟩
  | false=>
   cases PZ with
   | true=>
    go_wp2
    go_roundg (dbn -(kk+1))
    case measure=>omega
    exact⟨kk+1,by omega,by omega,by go_num,K7⟩
   | false=>cases HBD.out
 have hltz:¬(kk:Int)< (dbn:Int):=by omega
 have x6:=(X0 _ GW).c 6 rfl;go_wp2;clear x6
 go_loopg [88] dqn (fun gg s88 wr=>∃j:Nat,j<=dqn/\dqn - j<=gg/\s88=I6 j/\Hid (zc W0 wr))
 case atStart=>exact⟨0,nZ _,by omega,rfl,GW⟩
 obtain⟨j,hj,hg2,rfl,GW⟩:=hrel
 by_cases hlt2:j<dqn
 ·have hltz2:(j:Int)< (dqn:Int):=by omega
  obtain⟨q,HQ⟩:∃q,Hid (m.dq[j]? =some q):=⟨_,gE (by rw[HN6.out];exact hlt2)⟩
  have HU:=zjp Q8 HQ.out;obtain⟨ad,mm,b0,b1,b2,b3,b4,b5,b6,b7,rfl,rfl,hl⟩:=HPU.out j q HQ.out;obtain⟨d0,d1,d2,d3,d4,d5,d6,d7,d8⟩:=hl wr (G0.trans GW);have hus:=fun W hW=>HUS.out W mm hW
  dsimp only at HU;rw[HU]at hus;clear hl;go_upto_region 27 with fail;obtain⟨W6,hW6⟩:∃W6,wr.alloc (.cells #[I6 mm,U8 b0,U8 b1,U8 b2,U8 b3,U8 b4,U8 b5,U8 b6,U8 b7] 103)=W6:=⟨_,rfl⟩;have p0:=((show Box W6 wr.heap.size [I6 mm,U8 b0,U8 b1,U8 b2,U8 b3,U8 b4,U8 b5,U8 b6,U8 b7] by rw[<-hW6];exact Box.top _ _ _ rfl)).c 0 rfl
  have K6:=gT hW6 GW
  rw[hW6];clear hW6 d0 d1 d2 d3 d4 d5 d6 d7 d8;have hus:=hus W6 (G0.trans K6);have x7:=(X0 _ K6).c 7 rfl;have x8:=(X0 _ K6).c 8 rfl;go_wp2_with fail;refine hus.mono ?_;clear hus x7 x8 p0;rintro e W7 ⟨rfl,g7⟩;have K7:=dD (K6.trans g7);clear g7;go_wp2
  go_roundg (dqn -(j+1))
  case measure=>omega
  exact⟨j+1,by omega,by omega,by go_num,K7⟩
 have hltz2:¬(j:Int)< (dqn:Int):=by omega
 have x10:=(X0 _ GW).c 10 rfl;go_wp2;clear x10
 go_loopg [106] spn (fun gg s106 wr=>∃i:Nat,i<=spn/\spn - i<=gg/\s106=I6 i/\Hid (zc W0 wr))
 case atStart=>exact⟨0,nZ _,by omega,rfl,GW⟩
 obtain⟨i,hi,hg3,rfl,GW⟩:=hrel
 by_cases hlt3:i<spn
 ·have hltz3:(i:Int)< (spn:Int):=by omega
  obtain⟨x,hx⟩:∃x,xs[i]? =some x:=⟨_,gE (by rw[HXL.out];exact hlt3)⟩
  obtain⟨s,hs⟩:∃s,m.sp[i]? =some s:=⟨_,gE (by rw[HN9.out];exact hlt3)⟩
  have HAT:Hid (zZ w x s):=HSP.out i x s hx hs;obtain⟨e1,e2,e3⟩:=zlk (Q10 s (mG hs));have HE3:Hid (s.live=false->x.ar.n=0/\s.tb.all (·.isEmpty)=true):=show _->_ from fun h=>⟨by rw[HAT.ar.n,(e3 h).1];rfl,(e3 h).2⟩
  obtain⟨ad,rfl,hl⟩:=HRW.out i x hx;obtain⟨d0,d1,d2,d3,d4,d5,d6,d7,d8,d9⟩:=hl wr (G0.trans GW);clear hl hx hs e3;have HLV:Hid (x.live=s.live):=HAT.live;have HAR:Hid (∀W,zc w W->Calls prog 97 #[x.ar.x] W fun e w'=>e= .returned (.agg #[I6 0,I6 (wrL s.ars).2])/\zc W w'):=show∀W,_ from fun W hW=>by rw[<-e1];exact JV _ s.ars W (HAT.grew hW).ar (show Cap (x.ar.x)from HAT.cap)
  have HTB:Hid (∀W,zc w W->Calls prog 98 #[.agg #[x.t0.x,x.t1.x,x.t2.x,x.t3.x,x.t4.x,x.t5.x,x.t6.x,x.t7.x]] W fun e w'=>e= .returned (I6 0)/\zc W w'):=dD<|fun W hW=>by rw[<-e2];exact zcB x.tab s.tb W (HAT.grew hW).tb
  have HST:Hid (∀W,zc w W->Calls prog 61 #[.agg #[x.t0.x,x.t1.x,x.t2.x,x.t3.x,x.t4.x,x.t5.x,x.t6.x,x.t7.x],.agg #[eS,eS,eS,eS,eS,eS,eS,eS]] W fun e w'=>e= .returned (.bool (s.tb.all (·.isEmpty)))/\zc W w'):=dD<|fun W hW=>zfD x.tab s.tb W (HAT.grew hW).tb
  clear e1 e2;go_upto_region 35 with fail;obtain⟨W6,hW6⟩:∃W6,wr.alloc (.cells #[.bool x.live,x.ar.x,x.t0.x,x.t1.x,x.t2.x,x.t3.x,x.t4.x,x.t5.x,x.t6.x,x.t7.x] 55)=W6:=⟨_,rfl⟩;have K6:=gT hW6 GW
  obtain⟨ps,HPS⟩:∃ps,Hid (wr.heap.size=ps):=⟨_,rfl⟩;have S6:Hid (∀W,zc W6 W->Box W ps [.bool x.live,x.ar.x,x.t0.x,x.t1.x,x.t2.x,x.t3.x,x.t4.x,x.t5.x,x.t6.x,x.t7.x]):=dD<|fun W hW=>by
   rw[<-hW6]at hW;exact(Box.top _ _ _ HPS.symm).grew hW
  rw[hW6,HPS.out];clear hW6 d0 d1 d2 d3 d4 d5 d6 d7 d8 d9;have har:=HAR.out W6 (G0.trans K6);have s1:=(S6 _ (zc.refl _)).c 1 rfl;go_wp2_with fail;refine har.mono ?_;clear har s1;rintro e W7 ⟨rfl,g7⟩;have J7:Hid (zc W6 W7):=g7;clear g7;go_upto_region 36 with fail;obtain⟨W8,hW8⟩:∃W8,W7.alloc (.cells #[I6 0,I6 (wrL s.ars).2] 163)=W8:=⟨_,rfl⟩;have J8:=gT hW8 J7
  have F8:Box W8 W7.heap.size [I6 0,I6 (wrL s.ars).2]:=by rw[<-hW8];exact Box.top _ _ _ rfl
  have f0:=F8.c 0 rfl;rw[hW8];clear hW8;have htb:=HTB.out W8 (G0.trans (K6.trans J8));have S8:=S6.out _ J8.out;have s2:=S8.c 2 rfl;have s3:=S8.c 3 rfl;have s4:=S8.c 4 rfl;have s5:=S8.c 5 rfl;have s6:=S8.c 6 rfl;have s7:=S8.c 7 rfl;have s8:=S8.c 8 rfl;have s9:=S8.c 9 rfl;go_wp2_with fail;refine htb.mono ?_;clear htb f0 s2 s3 s4 s5 s6 s7 s8 s9;rintro e W9 ⟨rfl,g9⟩;have J9:=dD (J8.trans g9);clear g9;have s0:=(S6 _ J9).c 0 rfl;rw[HLV.out]at s0
  cases hlv:s.live with
  | true=>
   rw[hlv]at s0;go_wp2
   go_roundg (spn -(i+1))
   case measure=>omega
   exact⟨i+1,by omega,by omega,by go_num,K6.trans J9⟩
  | false=>
   rw[hlv]at s0;obtain⟨ha,hal⟩:=HE3.out hlv;have S9:=S6.out _ J9.out;have s1:=S9.c 1 rfl;(try simp only[Sli.x]at s1);rw[ha]at s1;have hst:=HST.out W9 (G0.trans (K6.trans J9));rw[hal]at hst;have s2:=S9.c 2 rfl;have s3:=S9.c 3 rfl;have s4:=S9.c 4 rfl;have s5:=S9.c 5 rfl;have s6:=S9.c 6 rfl;have s7:=S9.c 7 rfl;have s8:=S9.c 8 rfl;have s9:=S9.c 9 rfl;clear ha hal;go_wp2_with fail;refine hst.mono ?_;clear hst s0 s1 s2 s3 s4 s5 s6 s7 s8 s9;rintro e WA ⟨rfl,gA⟩;have JA:=dD (J9.trans gA);clear gA;go_wp2
   go_roundg (spn -(i+1))
   case measure=>omega
   exact⟨i+1,by omega,by omega,by go_num,K6.trans JA⟩
 have hltz3:¬(i:Int)< (spn:Int):=by omega
 go_wp2;go_ret;exact⟨rfl,G0.trans GW⟩
theorem zfK (V:MaV) (m:Ma) (x:On) (e:En) (w:World) (hm:zF w V m) (h0:0<=e.n) (hz:QA m x e=0):
  Calls prog 63 #[.agg (mL V m).toArray,.agg (onv x).toArray,.agg #[I6 e.kind,I6 e.n,.bool e.wr]] w fun r w'=>r= .returned (I6 0)/\zc w w':=by
 have:=zev V m x e w hm h0;rw[hz]at this;exact this
def zi6 (m:Ma) (i:Nat):Option Ca:=if i=0 then none else m.ca[i - 1]?
theorem zk2 (h:zai m none m.ca=0):∀(i:Nat) c,m.ca[i]? =some c->caE m (zi6 m i) c=0:=by
 have step:∀i c,m.ca[i]? =some c->zai m (zi6 m i) (m.ca.drop i)=0->caE m (zi6 m i) c=0/\zai m (zi6 m (i+1)) (m.ca.drop (i+1))=0:=fun i c hc hz=>by
  have hl:=(gS.1 hc).1;have e:m.ca[i]=c:=by rw[gE hl]at hc;cases hc;rfl
  have hp:zi6 m (i+1)=some c:=by unfold zi6;rw[if_neg (by omega)];exact hc
  rw[List.drop_eq_getElem_cons hl,e]at hz;unfold zai at hz;rw[hp]
  split at hz
  ·rename_i h1
   exact⟨h1,hz⟩
  rename_i h1
  exact absurd hz h1
 have all:∀i,i<=m.ca.length->zai m (zi6 m i) (m.ca.drop i)=0:=fun i=>by
  induction i with
  | zero=>exact fun _=>h
  | succ i ih=>exact fun hi=>(step i _ (gE (by omega)) (ih (by omega))).2
 exact fun i c hc=>(step i c hc (all i (Nat.le_of_lt (gS.1 hc).1))).1
theorem zkn {p:Option Ca} {c:Ca} (h:caE m p c=0):(0<=c.file/\c.file< (m.fl.length:Int)/\0<=c.idx/\c.idx<bkN m c.file/\0<=c.fr/\c.fr< (m.fs.length:Int))/\((zY m c.fr).r≠0/\(zY m c.fr).f=c.file/\(zY m c.fr).x=c.idx)/\∀q,p=some q->¬jN c<=jN q:=by
 unfold caE at h
 split at h
 ·cases h
 rename_i h1
 split at h
 ·cases h
 rename_i h2
 refine⟨by omega,⟨fun e=>h2 (.inl e),Classical.byContradiction fun e=>h2 (.inr (.inl e)),Classical.byContradiction fun e=>h2 (.inr (.inr e))⟩,fun q e k=>?_⟩
 subst e;have h:(if jN c<=jN q then(2:Int)else 0)=0:=h;rw[if_pos k]at h;cases h
theorem Box.eleven {w:World} {a10:Value} (h:Box w b [a0,a1,a2,a3,a4,a5,a6,a7,a8,a9,a10]):w.cell? ⟨b,0,none⟩=some a0/\w.cell? ⟨b,1,none⟩=some a1/\w.cell? ⟨b,2,none⟩=some a2/\w.cell? ⟨b,3,none⟩=some a3/\w.cell? ⟨b,4,none⟩=some a4/\w.cell? ⟨b,5,none⟩=some a5/\w.cell? ⟨b,6,none⟩=some a6/\w.cell? ⟨b,7,none⟩=some a7/\w.cell? ⟨b,8,none⟩=some a8/\w.cell? ⟨b,9,none⟩=some a9/\w.cell? ⟨b,10,none⟩=some a10:=⟨h.c 0 rfl,h.c 1 rfl,h.c 2 rfl,h.c 3 rfl,h.c 4 rfl,h.c 5 rfl,h.c 6 rfl,h.c 7 rfl,h.c 8 rfl,h.c 9 rfl,h.c 10 rfl⟩
theorem Ji (V:MaV) (m:Ma) (w:World) (hm:zF w V m) (h0:maW m=0):
  Calls prog 19 #[.agg (mL V m).toArray] w fun e w'=>e= .returned (I6 0)/\zc w w':=by
 unfold maW at h0;rw[zn]at h0;have hp0:Jk m=0:=h0 _ (by simp)
 have HP:Hid (Pts m):=zkd hp0;have HCE:Hid (∀(i:Nat) c,m.ca[i]? =some c->caE m (zi6 m i) c=0):=show∀i,_ from zk2 (h0 _ (by simp))
 have HPG:Hid (∀s∈m.sp,∀n,n<64->(zk s n).kind≠0->QA m (zJ s.ars n) (zk s n)=0):=dD<|fun s hs n hn hk=>by
  have h1:=zn.1 (h0 (zB (m.sp.map (Jg m))) (by simp)) _ (List.mem_map.2 ⟨s,hs,rfl⟩)
  have h2:=zn.1 h1 _ (List.mem_map.2 ⟨n,List.mem_range.2 hn,rfl⟩);rw[if_neg hk]at h2;exact h2
 have HRG:Hid (∀(i:Nat) c,m.ca[i]? =some c->0<=c.file/\c.file<5/\0<=c.idx/\c.idx<12):=dD<|fun i c hc=>by
  obtain⟨h1,-,-⟩:=zkn (HCE i c hc);have h2:=HP.fl.1;have h3:bkN m c.file<=12:=by
   unfold bkN;rw[gD]
   cases e:m.fl[c.file.toNat]? with
   | none=>simp
   | some f=>have:=HP.fl.2 f (mG e);simp;omega
  omega
 have HFE:Hid (∀k,k<m.fs.length->frE m k=0):=dD<|fun k hk=>zn.1 (h0 (zB ((List.range m.fs.length).map (frE m))) (by simp)) _ (List.mem_map.2 ⟨k,List.mem_range.2 hk,rfl⟩)
 have HSE:Hid (∀k,k<m.sl.length->zd9 m k=0):=dD<|fun k hk=>zn.1 (h0 (zB ((List.range m.sl.length).map (zd9 m))) (by simp)) _ (List.mem_map.2 ⟨k,List.mem_range.2 hk,rfl⟩)
 have HM:Hid (zF w V m):=hm;obtain⟨n1,n2,-,-,-,-,n7,n8,n9⟩:=hm.ns;obtain⟨xs,hxl,hrow,hsp⟩:=hm.spaces;have HFR:Hid (Q3 w V.f.a m.fs):=hm.frs;have HCA:Hid (zbn w V.ca.a m.ca):=hm.cas;have HSL:Hid (zaT w V.s.a m.sl):=hm.sls;obtain⟨_,_,hfe,_,hfr⟩:=qW.rows hm.fl;have HFL:Hid (Qh w V.fl.a m.fl):=show Qh _ _ _ by
  simp only[vJ]at hfe;rw[hfe.1];exact hfr
 have hca5:m.ca.length<=5864062014805:=by have h:m.ca.length*24<=140737488355328:=hm.ca.2;omega
 have hsl5:m.sl.length<=9223372036854775807:=by have h:m.sl.length*8<=140737488355328:=hm.sl.2;omega
 have HPT:=zfJ V m;have HXL:Hid (xs.length=m.sp.length):=hxl;have HRW:Hid (∀(j:Nat) x,xs[j]? =some x->∃ad,V.sp.a=some ad/\∀W,zc w W->zcs W (ad.add (j*10)) x):=show∀j,_ from hrow
 have HSP:Hid (∀(i:Nat) x s,xs[i]? =some x->m.sp[i]? =some s->zZ w x s):=dD<|hsp
 obtain⟨⟨fa,fn,fc⟩,⟨sa,sn,sc⟩,vsb,vsq,vdb,vdq,⟨fla,fln,flc⟩,⟨caa,can,cac⟩,⟨spa,spn,spc⟩⟩:=V;dsimp only[mL]at n1 n2 n7 n8 n9 HFR HCA HSL HFL HRW;have HN1:Hid (m.fs.length=fn):=n1.symm;have HN2:Hid (m.sl.length=sn):=n2.symm;have HN7:Hid (m.fl.length=fln):=n7.symm;have HN8:Hid (m.ca.length=can):=n8.symm;have HN9:Hid (m.sp.length=spn):=n9.symm;have hb8:can<=5864062014805:=by rw[n8];exact hca5
 have hb2:sn<=9223372036854775807:=by rw[n2];exact hsl5
 have hsp4:spn<=4:=by rw[n9];exact HP.s4
 have hfn40:fn<=40:=by rw[n1];exact HP.f40
 obtain⟨W0,hW0⟩:∃W0,w.alloc (.cells #[.slice fa fn fc,I6 m.hand,.slice sa sn sc,vsb.x,vsq.x,vdb.x,vdq.x,.slice fla fln flc,I6 m.cnt,.slice caa can cac,.slice spa spn spc] 41)=W0:=⟨_,rfl⟩;have G0:=gA hW0
 have X0:=xA hW0
 have HW0:Hid (_=W0):=hW0;have hc:=HPT W0 (hm.grew G0) hp0;have HEN:Hid (∀W x e,zc w W->0<=e.n->QA m x e=0->Calls prog 63 #[.agg #[.slice fa fn fc,I6 m.hand,.slice sa sn sc,vsb.x,vsq.x,vdb.x,vdq.x,.slice fla fln flc,I6 m.cnt,.slice caa can cac,.slice spa spn spc],.agg (onv x).toArray,.agg #[I6 e.kind,I6 e.n,.bool e.wr]] W fun r w'=>r= .returned (I6 0)/\zc W w'):=show∀W x e,_ from fun W x e hW h0 hz=>zfK ⟨⟨fa,fn,fc⟩,⟨sa,sn,sc⟩,vsb,vsq,vdb,vdq,⟨fla,fln,flc⟩,⟨caa,can,cac⟩,⟨spa,spn,spc⟩⟩ m x e W (HM.grew hW) h0 hz
 have HHO:Hid (∀W kind k,zc w W->Calls prog 64 #[.agg #[.slice fa fn fc,I6 m.hand,.slice sa sn sc,vsb.x,vsq.x,vdb.x,vdq.x,.slice fla fln flc,I6 m.cnt,.slice caa can cac,.slice spa spn spc],I6 kind,I6 k] W fun e w'=>e= .returned (I6 (Zi m kind k:Int))/\zc W w'):=dD<|fun W kind k hW=>zcD ⟨⟨fa,fn,fc⟩,⟨sa,sn,sc⟩,vsb,vsq,vdb,vdq,⟨fla,fln,flc⟩,⟨caa,can,cac⟩,⟨spa,spn,spc⟩⟩ m kind k W (HM.grew hW) HP.s4 (fun s hs=>tb8 (HP.ar s hs).2)
 clear hW0 hm n1 n2 n7 n8 n9 hxl hrow hsp hfe hfr h0 hp0 hca5 hsl5
 go_enter func19,ntmps19
 go_upto_region 1 with fail;rw[HW0.out];obtain⟨x0,x1,x2,x3,x4,x5,x6,x7,x8,x9,x10⟩:=X0.eleven;go_wp2_with fail;refine hc.mono ?_;clear hc x0 x1 x2 x3 x4 x5 x6 x7 x8 x9 x10;rintro e W1 ⟨rfl,g⟩;have G1:=dD (G0.trans g);have X1:=dD (X0.grew g);clear g;have x9:=X1.c 9 rfl;go_wp2;clear x9
 go_loopg [29] can (fun gg s29 wr=>∃i:Nat,i<=can/\can - i<=gg/\s29=I6 i/\Hid (zc W1 wr))
 case atStart=>exact⟨0,nZ _,by omega,rfl,zc.refl _⟩
 obtain⟨i,hi,hgg,rfl,GW⟩:=hrel
 by_cases hlt:i<can
 ·have hltz:(i:Int)< (can:Int):=by omega
  obtain⟨c,HC⟩:∃c,Hid (m.ca[i]? =some c):=⟨_,gE (by rw[HN8.out];exact hlt)⟩
  obtain⟨adc,hca,hl⟩:=HCA.out i c HC.out;subst hca;obtain⟨d0,d1,d2⟩:=hl wr (G1.trans GW);have HOK:Hid _:=zkn (HCE i c HC);clear hl;go_upto_region 7 with fail;obtain⟨pc,HPC⟩:∃pc,Hid (wr.heap.size=pc):=⟨_,rfl⟩;obtain⟨W2,hW2⟩:∃W2,wr.alloc (.cells #[I6 c.file,I6 c.idx,I6 c.fr] 124)=W2:=⟨_,rfl⟩;have g2:=gP hW2
  have C2:=xP hW2 HPC
  have G2:=dD (GW.trans g2);rw[hW2,HPC.out];clear hW2 g2 d0 d1 d2;obtain⟨⟨r0,r1,r2,r3,r4,r5⟩,⟨q0,q1,q2⟩,q3⟩:=HOK.out;obtain⟨jf,hjf⟩:∃jf:Nat,c.file=(jf:Int):=⟨c.file.toNat,by omega⟩
  obtain⟨ff,hff⟩:∃ff,m.fl[jf]? =some ff:=⟨_,gE (by omega)⟩
  obtain⟨adl,rfl,ba,bc,_,hlf⟩:=HFL.out jf ff hff;obtain⟨-,e1⟩:=hlf W2 (G1.trans G2);have hbk:bkN m c.file=(ff.bl.length:Int):=by unfold bkN;rw[hjf,tN,gD,hff];rfl
  obtain⟨bn,HBN⟩:∃bn,Hid (ff.bl.length=bn):=⟨_,rfl⟩;rw[HBN.out]at e1 hbk;obtain⟨j,hj⟩:∃j:Nat,c.fr=(j:Int):=⟨c.fr.toNat,by omega⟩
  obtain⟨q,hq⟩:∃q,m.fs[j]? =some q:=⟨_,gE (by omega)⟩
  have hqe:zY m c.fr=q:=by rw[hj];exact jR hq
  rw[hqe]at q0 q1 q2;obtain⟨adf,rfl,hlq⟩:=HFR.out j q hq;have HLQ:Hid (∀W,zc w W->_):=dD<|hlq
  have HKY:Hid (∀q,zi6 m i=some q->¬jN c<=jN q):=dD<|q3
  have hjz:(jf:Int)< (fln:Int):=by have:=HN7.out;omega
  have hqz:(j:Int)< (fn:Int):=by have:=HN1.out;omega
  have a1:decide ((jf:Int)<0)=false:=decide_eq_false (by omega)
  have a2:decide (fln<=jf)=false:=decide_eq_false (by omega)
  have a3:decide (c.idx<0)=false:=decide_eq_false (by omega)
  have a4:decide ((bn:Int)<=c.idx)=false:=decide_eq_false (by omega)
  have a5:decide ((j:Int)<0)=false:=decide_eq_false (by omega)
  have a6:decide (fn<=j)=false:=decide_eq_false (by omega)
  have x0:=(X1.grew G2).c 0 rfl;have x7:=(X1.grew G2).c 7 rfl;obtain⟨c0,c1,c2⟩:=C2.c3;rw[hjf]at c0;rw[hj]at c2;have HJ:Hid (c.fr=(j:Int)):=hj;have k1e:(q.r == 0)=false:=by simpa using q0
  have k2e:(q.f != c.file)=false:=by simpa using q1
  have k3e:(q.x != c.idx)=false:=by simpa using q2
  clear hff hlf r0 r1 r2 r3 r4 r5 q0 q1 q2 q3 hqe hq hj hlq hjf hbk
  go_upto_region 9 with(go_quiet (fail))
  clear a1 a2 a3 a4 a5 a6 x0 x7 c0 c1 c2 e1;obtain⟨W3,hW3⟩:∃W3,W2.drewN nq=W3:=⟨_,rfl⟩;have g3:zc W2 W3:=by rw[<-hW3];exact bD (bR _ _) _
  have G3:=dD (G2.trans g3);have C3:=dD (C2.grew g3);rw[hW3];clear hW3 g3;obtain⟨d0,d1,d2,d3,d4,d5,d6,d7,d8,d9,d10,d11,d12⟩:=HLQ.out W3 (G1.trans G3);have c2:=C3.c 2 rfl;rw[HJ.out]at c2;have x0:=(X1.grew G3).c 0 rfl;go_upto_region 10 with fail;obtain⟨pq,HPQ⟩:∃pq,Hid (W3.heap.size=pq):=⟨_,rfl⟩;obtain⟨W4,hW4⟩:∃W4,W3.alloc (.cells #[U8 q.p.b0,U8 q.p.b1,U8 q.p.b2,U8 q.p.b3,U8 q.p.b4,U8 q.p.b5,U8 q.p.b6,U8 q.p.b7,I6 q.r,.bool q.u,.bool q.d,I6 q.f,I6 q.x] 69)=W4:=⟨_,rfl⟩;have g4:=gP hW4
  have Q4:=xP hW4 HPQ
  have G4:=dD (G3.trans g4);have C4:=dD (C3.grew g4);rw[hW4,HPQ.out];clear hW4 g4 x0 c2 d0 d1 d2 d3 d4 d5 d6 d7 d8 d9 d10 d11 d12;have q8:=Q4.c 8 rfl;have q11:=Q4.c 11 rfl;have q12:=Q4.c 12 rfl;have c0:=C4.c 0 rfl;have c1:=C4.c 1 rfl;go_upto_region 12 with fail;clear k1e k2e k3e q8 q11 q12;obtain⟨r0,r1,r2,r3⟩:=HRG.out i c HC.out;have x9:=(X1.grew G4).c 9 rfl
  by_cases h0:i=0
  ·subst h0;go_quiet (fail);go_wp2
   go_roundg (can -(0+1))
   case measure=>omega
   exact⟨0+1,by omega,by omega,by go_num,G4.trans (show Below _ _ _ from bD (bR _ _) _)⟩
  obtain⟨i',rfl⟩:∃i',i=i'+1:=⟨i - 1,by omega⟩
  obtain⟨c',HC'⟩:∃c',Hid (m.ca[i']? =some c'):=⟨_,gE (by rw[HN8.out];omega)⟩
  obtain⟨_,he,hl⟩:=HCA.out i' c' HC'.out;cases he;obtain⟨e0,e1,-⟩:=hl W4 (G1.trans G4);obtain⟨s0,s1,s2,s3⟩:=HRG.out i' c' HC'.out;have hiz:(((i'+1:Nat):Int) - 1)=(i':Int):=by omega
  have hil:(i':Int)< (can:Int):=by omega
  have hpz:(0:Int)< ((i'+1:Nat):Int):=by omega
  have hkd:decide (100*c.file+c.idx<=100*c'.file+c'.idx)=false:=decide_eq_false (HKY c' (by unfold zi6;rw[if_neg (by omega)];exact HC'))
  clear hl h0;go_quiet (fail);go_wp2
  go_roundg (can -(i'+1+1))
  case measure=>omega
  exact⟨i'+1+1,by omega,by omega,by go_num,G4.trans (show Below _ _ _ from bD (bR _ _) _)⟩
 have hltz:¬(i:Int)< (can:Int):=by omega
 have x10:=(X1.grew GW).c 10 rfl;obtain⟨WC,rfl⟩:∃WC,WC=wr:=⟨_,rfl⟩;go_wp2;clear x10
 go_loopg [134] spn (fun gg s134 wr=>∃p:Nat,p<=spn/\spn - p<=gg/\s134=I6 p/\Hid (zc W1 wr))
 case atStart=>exact⟨0,nZ _,by omega,rfl,GW⟩
 obtain⟨p,hp,hgp,rfl,GP⟩:=hrel
 by_cases hlp:p<spn
 ·have hlpz:(p:Int)< (spn:Int):=by omega
  obtain⟨x,hx⟩:∃x,xs[p]? =some x:=⟨_,gE (by rw[HXL.out,HN9.out];exact hlp)⟩
  obtain⟨s,HS⟩:∃s,Hid (m.sp[p]? =some s):=⟨_,gE (by rw[HN9.out];exact hlp)⟩
  have HAT:Hid (zZ w x s):=HSP.out p x s hx HS.out;obtain⟨ad,rfl,hl⟩:=HRW.out p x hx;obtain⟨d0,d1,d2,d3,d4,d5,d6,d7,d8,d9⟩:=hl wr (G1.trans GP);have hsm:=mG HS.out;have HRT:Hid ((wrL s.ars).1=0/\tbW s.tb=0):=HP.ar s hsm;have HPS:Hid (∀n,n<64->(zk s n).kind≠0->QA m (zJ s.ars n) (zk s n)=0):=show∀n,_ from HPG.out s hsm
  have HON:Hid (∀W,zc w W->Calls prog 23 #[x.ar.x] W fun e w'=>e= .returned (.agg (zz (tab (zJ s.ars))).toArray)/\zc W w'):=dD<|fun W hW=>jG _ s.ars W (HAT.ar.grew hW) (jD.1 HRT.1).2.lies
  have HFT:Hid (∀W,zc w W->Calls prog 28 #[.agg #[x.t0.x,x.t1.x,x.t2.x,x.t3.x,x.t4.x,x.t5.x,x.t6.x,x.t7.x]] W fun e w'=>e= .returned (.agg (qk (Jb s.tb)).toArray)/\zc W w'):=dD<|fun W hW=>za3 x.tab s.tb W ((HAT.grew hW).tb) (tb8 HRT.2)
  have hz:=zay;obtain⟨Z0,HZ0⟩:∃Z0,Hid (zz (tab fun _=>on0)=Z0):=⟨_,rfl⟩
  rw[HZ0.out]at hz;have HZL:Hid (Z0.length=384):=dD<|by rw[<-HZ0.out,jl]
  have HPL:Hid ((zz (tab (zJ s.ars))).length=384):=jl _;have HPO:Hid (∀v∈zz (tab (zJ s.ars)),v.oneCell'=true):=QC _;have HCO:Hid (∀k,k<64->∀(i:Nat) u,(onv (zJ s.ars k))[i]? =some u->(zz (tab (zJ s.ars)))[k*6+i]? =some u):=show∀k,_ from fun k hk i u hu=>Za (QX hk) i _ hu
  generalize zz (tab (zJ s.ars))=CO at HON HPL HPO HCO
  clear hl hx hsm;go_upto_region 18 with fail;obtain⟨px,HPX⟩:∃px,Hid (wr.heap.size=px):=⟨_,rfl⟩;obtain⟨W5,hW5⟩:∃W5,wr.alloc (.cells #[.bool x.live,x.ar.x,x.t0.x,x.t1.x,x.t2.x,x.t3.x,x.t4.x,x.t5.x,x.t6.x,x.t7.x] 55)=W5:=⟨_,rfl⟩;have g5:=gP hW5
  have S5:=xP hW5 HPX
  have G5:=dD (GP.trans g5);rw[hW5,HPX.out];clear hW5 g5 d0 d1 d2 d3 d4 d5 d6 d7 d8 d9;have s1:=S5.c 1 rfl;have hc:=HON.out W5 (G1.trans G5);go_wp2_with fail;refine hc.mono ?_;clear s1 hc;rintro e W6 ⟨rfl,g6⟩;obtain⟨po,HPQ⟩:∃po,Hid (W6.heap.size=po):=⟨_,rfl⟩;have G6:=dD (G5.trans g6);have S6:=dD (S5.grew g6);clear g6
  go_upto_region 19 with(refine zy rfl 62 (.tmp 9) (.tmp 140) rfl W6.heap.size rfl CO rfl (Box.top W6 Z0 62 rfl) (by rw[HPL.out,HZL.out]) (by rw[HZL.out];exact zmd) HPO.out ?_)
  intro W7 b7 g7 s7;have g67:zc W6 W7:=zd (za _ _) g7 (nR _);have G7:=dD (G6.trans g67);have S7:=dD (S6.grew g67);rw[HPQ.out]at b7⊢;have P7:Hid (Box W7 po CO):=b7;clear b7 g7 s7 g67 hz;try simp only[Act.put]
  have s2:=S7.c 2 rfl;have s3:=S7.c 3 rfl;have s4:=S7.c 4 rfl;have s5:=S7.c 5 rfl;have s6:=S7.c 6 rfl;have s7:=S7.c 7 rfl;have s8:=S7.c 8 rfl;have s9:=S7.c 9 rfl;have hc:=HFT.out W7 (G1.trans G7);go_wp2_with fail;refine hc.mono ?_;clear hc s2 s3 s4 s5 s6 s7 s8 s9;rintro e W8 ⟨rfl,g8⟩;have G8:=dD (G7.trans g8);have P8:=dD (P7.grew g8);clear g8;go_wp2
  go_loopg [144] 64 (fun gg s144 wr=>∃n:Nat,n<=64/\64 - n<=gg/\s144=I6 n/\Hid (zc W8 wr))
  case atStart=>exact⟨0,nZ _,by omega,rfl,zc.refl _⟩
  obtain⟨n,hn,hgn,rfl,G9⟩:=hrel
  by_cases hln:n<64
  ·have hlnz:(n:Int)<64:=by omega
   have HZK:Hid ((zk s n).kind≠0->QA m (zJ s.ars n) (zk s n)=0):=dD<|HPS.out n hln
   have HZF:Hid ((Jb s.tb)[n]? =some (zk s n)):=zbE s.tb hln;have HON:Hid (∀(i:Nat) u,(onv (zJ s.ars n))[i]? =some u->CO[n*6+i]? =some u):=show∀i,_ from HCO.out n hln
   have h0:0<=(zk s n).n:=zkl (ze1 HRT.2 n)
   generalize zk s n=e at HZK HZF h0
   generalize zJ s.ars n=o at HZK HON
   go_upto_region 22 with(refine zau rfl (.tmp 143) (.tmp 144) rfl (Jb s.tb) rfl n rfl hln HZF.out ?_)
   obtain⟨pe,HPE⟩:∃pe,Hid (wr.heap.size=pe):=⟨_,rfl⟩;obtain⟨W10,hW10⟩:∃W10,wr.alloc (.cells #[I6 e.kind,I6 e.n,.bool e.wr] 74)=W10:=⟨_,rfl⟩;have g10:=gP hW10
   have E10:=xP hW10 HPE
   have G10:=dD (G9.trans g10);rw[hW10,HPE.out];clear hW10 g10;have e0:=E10.c 0 rfl
   by_cases hk:e.kind=0
   ·have hke:(e.kind == 0)=true:=by simp[hk]
    clear hk;go_wp2
    go_roundg (64 -(n+1))
    case measure=>omega
    exact⟨n+1,by omega,by omega,by go_num,G10⟩
   have hke:(e.kind == 0)=false:=by simp[hk]
   have HEZ:Hid (QA m o e=0):=HZK.out hk;have X10:=dD (X1.grew (G8.trans G10));have P10:=dD (P8.grew G10);clear hk;go_upto_region 23 with fail;clear hke e0;have hx0:∀y:zh W10,y.world.cell? ⟨w.heap.size,0,none⟩=_:=fun y=>(X10.grew y.grew).c 0 rfl
   have hx1:∀y:zh W10,y.world.cell? ⟨w.heap.size,1,none⟩=_:=fun y=>(X10.grew y.grew).c 1 rfl
   have hx2:∀y:zh W10,y.world.cell? ⟨w.heap.size,2,none⟩=_:=fun y=>(X10.grew y.grew).c 2 rfl
   have hx3:∀y:zh W10,y.world.cell? ⟨w.heap.size,3,none⟩=_:=fun y=>(X10.grew y.grew).c 3 rfl
   have hx4:∀y:zh W10,y.world.cell? ⟨w.heap.size,4,none⟩=_:=fun y=>(X10.grew y.grew).c 4 rfl
   have hx5:∀y:zh W10,y.world.cell? ⟨w.heap.size,5,none⟩=_:=fun y=>(X10.grew y.grew).c 5 rfl
   have hx6:∀y:zh W10,y.world.cell? ⟨w.heap.size,6,none⟩=_:=fun y=>(X10.grew y.grew).c 6 rfl
   have hx7:∀y:zh W10,y.world.cell? ⟨w.heap.size,7,none⟩=_:=fun y=>(X10.grew y.grew).c 7 rfl
   have hx8:∀y:zh W10,y.world.cell? ⟨w.heap.size,8,none⟩=_:=fun y=>(X10.grew y.grew).c 8 rfl
   have hx9:∀y:zh W10,y.world.cell? ⟨w.heap.size,9,none⟩=_:=fun y=>(X10.grew y.grew).c 9 rfl
   have hx10:∀y:zh W10,y.world.cell? ⟨w.heap.size,10,none⟩=_:=fun y=>(X10.grew y.grew).c 10 rfl
   have he0:∀y:zh W10,y.world.cell? ⟨pe,0,none⟩=_:=fun y=>(E10.grew y.grew).c 0 rfl
   have he1:∀y:zh W10,y.world.cell? ⟨pe,1,none⟩=_:=fun y=>(E10.grew y.grew).c 1 rfl
   have he2:∀y:zh W10,y.world.cell? ⟨pe,2,none⟩=_:=fun y=>(E10.grew y.grew).c 2 rfl
   have ho0:∀y:zh W10,y.world.cell? ⟨po,n*6,none⟩=_:=fun y=>(P10.grew y.grew).c _ (HON 0 _ rfl)
   have ho1:∀y:zh W10,y.world.cell? ⟨po,n*6+1,none⟩=_:=fun y=>(P10.grew y.grew).c _ (HON 1 _ rfl)
   have ho2:∀y:zh W10,y.world.cell? ⟨po,n*6+2,none⟩=_:=fun y=>(P10.grew y.grew).c _ (HON 2 _ rfl)
   have ho3:∀y:zh W10,y.world.cell? ⟨po,n*6+3,none⟩=_:=fun y=>(P10.grew y.grew).c _ (HON 3 _ rfl)
   have ho4:∀y:zh W10,y.world.cell? ⟨po,n*6+4,none⟩=_:=fun y=>(P10.grew y.grew).c _ (HON 4 _ rfl)
   have ho5:∀y:zh W10,y.world.cell? ⟨po,n*6+5,none⟩=_:=fun y=>(P10.grew y.grew).c _ (HON 5 _ rfl)
   have hne:Nonempty (zh W10):=⟨⟨_,zc.refl _⟩⟩;refine j4 [(5,⟨fun v=>v=I6 0,fun v w'=>True⟩)] qh (by kernel_rfl) ?hS ?hp ?_
   case hS=>
    intro x hx;simp only[mC,nM,or_false]at hx;subst hx;exact⟨_,rfl⟩
   case hp=>
    intro x hx;simp only[mC,nM,or_false]at hx;subst hx;exact fun _ _ _ _ h=>h
   iterate 5 (refine zi rfl rfl rfl (fun K hK=>?_);go_big_quiet_op;refine hK _ ?_;clear hK)
   refine zK rfl rfl (fun w' hg hF=>?_) (fun v1 hv=>?_)
   ·refine zN.call [.agg #[.slice fa fn fc,I6 m.hand,.slice sa sn sc,vsb.x,vsq.x,vdb.x,vdq.x,.slice fla fln flc,I6 m.cnt,.slice caa can cac,.slice (some ad) spn spc],.agg #[.bool o.is,.bool o.rd,.bool o.wr,.bool o.sh,I6 o.file,I6 o.page],.agg #[I6 e.kind,I6 e.n,.bool e.wr]] rfl func63 rfl rfl rfl ?_;refine(HEN w' o e (((G1.trans G8).trans G10).trans hg) h0 HEZ).mono ?_;rintro e w'' ⟨rfl,hg2⟩;exact⟨_,rfl,hg2,rfl,trivial⟩
   subst hv;simp only[Act.put,sB,sS,sZ];iterate 1 (refine zi rfl rfl rfl (fun K hK=>?_);go_big_quiet_op;refine hK _ ?_;clear hK)
   refine qF fun W11 hg1 hF=>?_
   have G11:=dD (G10.trans hg1);clear hg1 hF hne hx0 hx1 hx2 hx3 hx4 hx5 hx6 hx7 hx8 hx9 hx10 he0 he1 he2 ho0 ho1 ho2 ho3 ho4 ho5;go_wp2
   go_roundg (64 -(n+1))
   case measure=>omega
   exact⟨n+1,by omega,by omega,by go_num,G11⟩
  have hlnz:¬(n:Int)<64:=by omega
  go_wp2
  go_roundg (spn -(p+1))
  case measure=>omega
  exact⟨p+1,by omega,by omega,by go_num,G8.trans G9⟩
 have hlpz:¬(p:Int)< (spn:Int):=by omega
 have x0:=(X1.grew GP).c 0 rfl;obtain⟨WD,rfl⟩:∃WD,WD=wr:=⟨_,rfl⟩;go_wp2;clear x0
 go_loopg [166] fn (fun gg s166 wr=>∃k:Nat,k<=fn/\fn - k<=gg/\s166=I6 k/\Hid (zc W1 wr))
 case atStart=>exact⟨0,nZ _,by omega,rfl,GP⟩
 obtain⟨k,hk,hgk,rfl,GK⟩:=hrel
 by_cases hlk:k<fn
 ·have hlkz:(k:Int)< (fn:Int):=by omega
  obtain⟨q,HQ⟩:∃q,Hid (m.fs[k]? =some q):=⟨_,gE (by rw[HN1.out];exact hlk)⟩
  obtain⟨adf,rfl,hl⟩:=HFR.out k q HQ.out;obtain⟨d0,d1,d2,d3,d4,d5,d6,d7,d8,d9,d10,d11,d12⟩:=hl wr (G1.trans GK);obtain⟨Hz,HHZ⟩:∃Hz:Int,Hid ((Zi m 1 (k:Int):Int)=Hz):=⟨_,rfl⟩;obtain⟨Cz,HCZ⟩:∃Cz:Int,Hid ((zQ m.ca (k:Int):Int)=Cz):=⟨_,rfl⟩;have hHz:0<=Hz/\Hz<=256:=by
   have h1:=zeT (m:=m) (kind:=1) (k:=(k:Int)) m.sp.length;rw[zcZ]at h1;have h2:=HHZ.out;have h3:=HP.s4;omega
  have hCz:0<=Cz/\Cz<=5864062014805:=by
   have h1:zQ m.ca (k:Int)<=m.ca.length:=List.countP_le_length;have h2:=HCZ.out;have h3:=HN8.out;omega
  obtain⟨hHz0,hHz1⟩:=hHz;obtain⟨hCz0,hCz1⟩:=hCz;have hgd:q.r=Hz+Cz/\¬(0<=q.f/\Cz=0):=by
   have h1:=HHZ.out;have h2:=HCZ.out;have hb:=HFE.out k (by rw[HN1.out];exact hlk)
   unfold frE at hb;rw[jR HQ.out]at hb
   split at hb
   ·cases hb
   rename_i h3
   omega
  obtain⟨k1,k4⟩:=hgd;have k1e:(q.r != Hz+Cz)=false:=by simp[k1]
  clear hl k1;go_upto_region 31 with fail;obtain⟨pq,HPQ⟩:∃pq,Hid (wr.heap.size=pq):=⟨_,rfl⟩;obtain⟨W12,hW12⟩:∃W12,wr.alloc (.cells #[U8 q.p.b0,U8 q.p.b1,U8 q.p.b2,U8 q.p.b3,U8 q.p.b4,U8 q.p.b5,U8 q.p.b6,U8 q.p.b7,I6 q.r,.bool q.u,.bool q.d,I6 q.f,I6 q.x] 69)=W12:=⟨_,rfl⟩;have g12:=gP hW12
  have Q12:=xP hW12 HPQ
  have G12:=dD (GK.trans g12);rw[hW12,HPQ.out];clear hW12 g12 d0 d1 d2 d3 d4 d5 d6 d7 d8 d9 d10 d11 d12;obtain⟨x0,x1,x2,x3,x4,x5,x6,x7,x8,x9,x10⟩:=(X1.grew G12).eleven;have hc:=HHO.out W12 1 (k:Int) (G1.trans G12);rw[HHZ.out]at hc;go_wp2_with fail;refine hc.mono ?_;clear hc x0 x1 x2 x3 x4 x5 x6 x7 x8 x9 x10;rintro e W13 ⟨rfl,g13⟩;have G13:=dD (G12.trans g13);have Q13:=dD (Q12.grew g13);clear g13;have x9:=(X1.grew G13).c 9 rfl;go_wp2;clear x9
  go_loopg [16,177] can (fun gg s16 s177 wr=>∃j:Nat,j<=can/\can - j<=gg/\s177=I6 j/\s16=I6 (zQ (m.ca.take j) (k:Int):Int)/\Hid (zc W13 wr))
  case atStart=>exact⟨0,nZ _,by omega,rfl,rfl,zc.refl _⟩
  obtain⟨j,hj,hgj,rfl,rfl,GJ⟩:=hrel
  by_cases hlj:j<can
  ·have hljz:(j:Int)< (can:Int):=by omega
   obtain⟨c,HC⟩:∃c,Hid (m.ca[j]? =some c):=⟨_,gE (by rw[HN8.out];exact hlj)⟩
   obtain⟨adc,rfl,hl⟩:=HCA.out j c HC.out;obtain⟨d0,d1,d2⟩:=hl wr ((G1.trans G13).trans GJ);have hcl:zQ (m.ca.take j) (k:Int)<=j:=ziV j;have HCS:Hid (zQ (m.ca.take (j+1)) (k:Int)=zQ (m.ca.take j) (k:Int)+(decide (c.fr=(k:Int))).toNat):=zga HC.out;obtain⟨c0,hc0⟩:∃c0,zQ (m.ca.take j) (k:Int)=c0:=⟨_,rfl⟩;rw[hc0]at hcl HCS⊢;clear hc0 hl;go_upto_region 35 with fail;obtain⟨pc,HPC⟩:∃pc,Hid (wr.heap.size=pc):=⟨_,rfl⟩;obtain⟨W14,hW14⟩:∃W14,wr.alloc (.cells #[I6 c.file,I6 c.idx,I6 c.fr] 124)=W14:=⟨_,rfl⟩;have g14:=gP hW14
   have C14:=xP hW14 HPC
   have G14:=dD (GJ.trans g14);rw[hW14,HPC.out];clear hW14 g14 d0 d1 d2;have c2:=C14.c 2 rfl
   by_cases hkk:c.fr=(k:Int)
   ·have hke:(c.fr ==(k:Int))=true:=by simp[hkk]
    have HV:Hid (zQ (m.ca.take (j+1)) (k:Int)=c0+1):=dD<|by rw[HCS.out,decide_eq_true hkk];rfl
    clear hkk;go_wp2
    go_roundg (can -(j+1))
    case measure=>omega
    exact⟨j+1,by omega,by omega,by go_num,by rw[HV.out];go_num,G14⟩
   have hke:(c.fr ==(k:Int))=false:=by simp[hkk]
   have HV:Hid (zQ (m.ca.take (j+1)) (k:Int)=c0):=dD<|by rw[HCS.out,decide_eq_false hkk];rfl
   clear hkk;go_wp2
   go_roundg (can -(j+1))
   case measure=>omega
   exact⟨j+1,by omega,by omega,by go_num,by rw[HV.out],G14⟩
  have hljz:¬(j:Int)< (can:Int):=by omega
  obtain rfl:can=j:=by omega
  have hce:(zQ (m.ca.take can) (k:Int):Int)=Cz:=by rw[List.take_of_length_le (by rw[HN8.out];exact nR _)];exact HCZ.out
  rw[hce];clear hce;have q8:=(Q13.grew GJ).c 8 rfl;have q11:=(Q13.grew GJ).c 11 rfl
  by_cases k2:0<=q.f
  ·have k2d:decide (0<=q.f)=true:=decide_eq_true k2;have k3e:(Cz == 0)=false:=by simpa using fun e=>k4 ⟨k2,e⟩
   clear k2 k4;go_wp2
   go_roundg (fn -(k+1))
   case measure=>omega
   exact⟨k+1,by omega,by omega,by go_num,G13.trans GJ⟩
  have k2d:decide (0<=q.f)=false:=decide_eq_false k2;clear k2 k4;go_wp2
  go_roundg (fn -(k+1))
  case measure=>omega
  exact⟨k+1,by omega,by omega,by go_num,G13.trans GJ⟩
 have hlkz:¬(k:Int)< (fn:Int):=by omega
 have x2:=(X1.grew GK).c 2 rfl;obtain⟨WE,rfl⟩:∃WE,WE=wr:=⟨_,rfl⟩;go_wp2;clear x2
 go_loopg [207] sn (fun gg s207 wr=>∃j:Nat,j<=sn/\sn - j<=gg/\s207=I6 j/\Hid (zc W1 wr))
 case atStart=>exact⟨0,nZ _,by omega,rfl,GK⟩
 obtain⟨j,hj,hgj,rfl,GJ⟩:=hrel
 by_cases hlj:j<sn
 ·have hljz:(j:Int)< (sn:Int):=by omega
  obtain⟨z,HQ⟩:∃z,Hid (m.sl[j]? =some z):=⟨_,gE (by rw[HN2.out];exact hlj)⟩
  obtain⟨ads,rfl,hl⟩:=HSL.out j z HQ.out;have d0:=hl wr (G1.trans GJ);have hzz:z=(Zi m 2 (j:Int):Int):=by
   have h1:=HSE.out j (by rw[HN2.out];exact hlj)
   unfold zd9 at h1;rw[gD,HQ.out]at h1
   split at h1
   ·cases h1
   rename_i h2
   exact Classical.byContradiction h2
  have hc:=HHO.out wr 2 (j:Int) (G1.trans GJ);rw[<-hzz]at hc;have k1e:(z != z)=false:=by simp
  clear hl hzz;obtain⟨x0,x1,x2,x3,x4,x5,x6,x7,x8,x9,x10⟩:=(X1.grew GJ).eleven;go_wp2_with fail;refine hc.mono ?_;clear hc d0 x0 x1 x2 x3 x4 x5 x6 x7 x8 x9 x10;rintro e W13 ⟨rfl,g13⟩;have G13:=dD (GJ.trans g13);clear g13;go_wp2
  go_roundg (sn -(j+1))
  case measure=>omega
  exact⟨j+1,by omega,by omega,by go_num,G13⟩
 have hljz:¬(j:Int)< (sn:Int):=by omega
 have GE:=dD (G1.trans GJ);go_wp2;go_ret;exact⟨rfl,GE⟩
theorem zfH (V:MaV) (m:Ma) (p n:Int) (w:World) (hm:zF w V m) (h0:maW m=0) (hfs:∀s∈m.sp,qS m.fl.length s.ars):
  Calls prog 26 #[.agg (mL V m).toArray,I6 p,I6 n] w fun e w'=>e= .returned (zgX (jz m p n))/\(jz m p n).1.length=8/\zc w w':=by
 have HM:Hid (zF w V m):=hm;have HWR:Hid (∀W,zc w W->Calls prog 19 #[.agg (mL V m).toArray] W fun e w'=>e= .returned (I6 (maW m))/\zc W w'):=show∀W,_ from fun W hW=>by rw[h0];exact Ji V m W (HM.grew hW) h0
 have HVW:Hid (maW m=0->∀W,zc w W->Calls prog 76 #[.agg (mL V m).toArray,I6 p,I6 n] W fun e w'=>e= .returned (zgX (jo m p n))/\(jo m p n).1.length=8/\zc W w'):=dD<|fun h0 W hW=>zfG V m p n W (HM.grew hW) h0 hfs
 obtain⟨⟨fa,fn,fc⟩,⟨sa,sn,sc⟩,⟨sba,sbn,sbc⟩,⟨sqa,sqn,sqc⟩,vdb,vdq,⟨fla,fln,flc⟩,⟨caa,can,cac⟩,⟨spa,spn,spc⟩⟩:=V;dsimp only[mL]at HWR HVW⊢;obtain⟨E,HE⟩:∃E,Hid (maW m=E):=⟨_,rfl⟩;rw[HE.out]at HWR HVW;clear hm hfs;obtain⟨W0,hW0⟩:∃W0,(w.alloc (.cells #[.slice fa fn fc,I6 m.hand,.slice sa sn sc,.slice sba sbn sbc,.slice sqa sqn sqc,vdb.x,vdq.x,.slice fla fln flc,I6 m.cnt,.slice caa can cac,.slice spa spn spc] 41)).alloc (.cells #[U8 0,U8 0,U8 0,U8 0,U8 0,U8 0,U8 0,U8 0] 67)=W0:=⟨_,rfl⟩;have G0:=gD2 hW0
 have X0:=x2a hW0
 have Y0:Hid (Box W0 (w.heap.size+1) (pgc zt)):=dD<|by rw[<-hW0];exact Box.top _ (pgc zt) _ (by simp)
 have HW0:Hid (_=W0):=hW0;clear hW0
 go_enter func26,ntmps26
 go_upto_region 1 with fail;rw[HW0.out];obtain⟨x0,x1,x2,x3,x4,x5,x6,x7,x8,x9,x10⟩:=X0.c11;have hc:=HWR.out W0 G0.out;go_wp2_with fail;refine hc.mono ?_;clear hc x0 x1 x2 x3 x4 x5 x6 x7 x8 x9 x10;rintro r W1 ⟨rfl,g1⟩;have G1:=dD (G0.trans g1);have X1:=dD (X0.grew g1);have Y1:=dD (Y0.grew g1);clear g1;have hz:E=0:=HE.out ▸ h0;have hze:(E != 0)=false:=by simp[hz]
 have HR0:Hid (jz m p n=jo m p n):=dD<|by unfold jz;rw[HE.out,if_neg (fun h=>h hz)]
 obtain⟨x0,x1,x2,x3,x4,x5,x6,x7,x8,x9,x10⟩:=X1.c11;have hc:=HVW.out hz W1 G1.out;clear hz;go_wp2_with fail;refine hc.mono ?_;clear hc x0 x1 x2 x3 x4 x5 x6 x7 x8 x9 x10;rintro r W2 ⟨rfl,hl8,g2⟩;have G2:=dD (G1.trans g2);have Y2:=dD (Y1.grew g2);obtain⟨⟨rl,rb,re⟩,HRR⟩:∃rr,Hid (jo m p n=rr):=⟨_,rfl⟩;rw[HRR.out]at hl8⊢;obtain⟨p0,p1,p2,p3,p4,p5,p6,p7,hrl⟩:=zhC rl hl8;subst hrl;have HR:Hid (jz m p n=([p0,p1,p2,p3,p4,p5,p6,p7],rb,re)):=show _=_ by rw[HR0.out,HRR.out]
 clear hl8 g2;simp only[zgX,pgc,mP,List.map_nil]
 go_wp2_with (refine zy rfl 67 (.tmp 6) (.tmp 20) rfl (w.heap.size+1) rfl (pgc [p0,p1,p2,p3,p4,p5,p6,p7]) rfl Y2 rfl zml (jk _) ?_)
 intro WL hbL hgL _;have HGL:Hid (zc w WL):=dD<|zd G2 hgL (by omega)
 go_wp2;refine bodyPost_ret (zW rfl _ rfl hbL underlying67 rfl zml) rfl ⟨by rw[HR.out];rfl,by rw[HR.out];rfl,HGL⟩
theorem zk5 {α:Type} (E:Elt α) {w:World} {cs:List Value} (h:Box w b cs) (l:List α) (hcs:cs=l.flatMap E.enc) (hb:l.length*E.bytes<=140737488355328):zr E w (.slice (some ⟨b,0,none⟩) l.length l.length) l:=by
 refine⟨⟨_,l.length,rfl,fun h=>(by cases h),fun y hy=>?_⟩,hb⟩
 cases hy;intro j u hj;rw[Addr.add_lit,zA];exact h.c j (by rw[hcs];exact hj)
def zll (m:Ma) (p:Int) (n:Nat):List Int:=([(n:Int),(jz m p n).2.2]++(jz m p n).1)++(if(jz m p n).2.1=true then [121]else [])
def zbc (m:Ma) (p:Int) (k:Nat):List Int:=(List.range k).flatMap (zll m p)
theorem zhS (m:Ma) (p:Int) (k:Nat):zbc m p (k+1)=zbc m p k++zll m p k:=by
 unfold zbc;rw[List.range_succ,List.flatMap_append];simp
theorem zjb (h:maW m=0) (p n:Int):(jz m p n).2.2=0\/(jz m p n).2.2=5\/(jz m p n).2.2=9:=by
 unfold jz;rw[if_neg (by simp[h])]
 unfold jo
 split
 ·exact .inr (.inl rfl)
 dsimp only
 split
 ·exact .inr (.inl rfl)
 split
 ·exact .inl rfl
 split
 ·exact .inl rfl
 split
 ·exact .inl rfl
 split
 ·exact .inr (.inr rfl)
 exact .inl rfl
theorem zbz (V:MaV) (m:Ma) (p:Int) (w:World) (hm:zF w V m) (h0:maW m=0) (hfs:∀s∈m.sp,qS m.fl.length s.ars):
  Calls prog 21 #[.agg (mL V m).toArray,I6 p] w fun e w'=>e= .returned (.string (strOfNums (zbc m p 64)))/\zc w w':=by
 have HM:Hid (zF w V m):=hm;have HV:Hid (∀(n:Nat) W,zc w W->Calls prog 26 #[.agg (mL V m).toArray,I6 p,I6 (n:Int)] W fun e w'=>e= .returned (zgX (jz m p n))/\(jz m p n).1.length=8/\zc W w'):=show∀(n:Nat) W,_ from fun n W hW=>zfH V m p n W (hm.grew hW) h0 hfs
 have HER:Hid (∀n:Nat,(jz m p n).2.2=0\/(jz m p n).2.2=5\/(jz m p n).2.2=9):=dD<|fun n=>zjb h0 p n
 obtain⟨W0,hW0⟩:∃W0,w.alloc (.cells (mL V m).toArray 41)=W0:=⟨_,rfl⟩;have G0:=gA hW0
 obtain⟨b,HB⟩:∃b,Hid (w.heap.size=b):=⟨_,rfl⟩;have X0:=xPT hW0 HB
 have HW0:Hid (_=W0):=hW0;clear hW0 hm h0 hfs
 go_enter func21,ntmps21
 go_upto_region 2 with fail;rw[HW0.out,HB.out];go_wp2
 go_loopg [5,10] 64 (fun gg s5 s10 wr=>∃(kk:Nat) (t:Sli),kk<=64/\64 - kk<=gg/\s10=I6 kk/\s5=t.x/\Hid (zc w wr)/\Hid (zp wr b 41 (mL V m))/\Hid (zb byE w.heap.size wr (t.x) (zbc m p kk))/\Hid ((zbc m p kk).length<=11*kk))
 case atStart=>exact⟨0,zx,by omega,by omega,rfl,rfl,G0,X0,zb.nil _ _ _,nR _⟩
 obtain⟨kk,t,hkk,hgg,rfl,rfl,GW,XW,RW,HL⟩:=hrel
 by_cases hlt:kk<64
 ·have hltz:(kk:Int)<64:=by omega
  have hvw:=HV.out kk wr GW.out;obtain⟨x0,x1,x2,x3,x4,x5,x6,x7,x8,x9,x10⟩:=XW.box.c11;go_wp2_with fail;refine hvw.mono ?_;clear hvw x0 x1 x2 x3 x4 x5 x6 x7 x8 x9 x10;rintro e W1 ⟨rfl,h8,g1⟩;have G1:=dD (GW.trans g1);have X1:=dD (XW.grew g1);have R1:=dD (RW.grew g1);have HN:Hid (zbc m p (kk+1)=zbc m p kk++zll m p kk):=zhS m p kk;have her:=HER.out kk;unfold zgX;have HSB:Hid (zll m p kk=([(kk:Int),(jz m p kk).2.2]++(jz m p kk).1)++(if(jz m p kk).2.1=true then [121]else [])):=rfl;obtain⟨⟨lp,lo,le⟩,hvl⟩:∃x,jz m p kk=x:=⟨_,rfl⟩;rw[hvl]at h8 her HSB⊢;dsimp only at h8 her HSB⊢;clear hvl g1;obtain⟨p0,p1,p2,p3,p4,p5,p6,p7,rfl⟩:=zhm h8;have hle:0<=le/\le<256:=by omega
  clear her h8;have hpone:∀v∈([U8 p0,U8 p1,U8 p2,U8 p3,U8 p4,U8 p5,U8 p6,U8 p7]:List Value),v.oneCell'=true:=by simp[Value.oneCell']
  go_upto_region 6 with(refine qI rfl 67 (.tmp 7) (.tmp 18) rfl W1.heap.size rfl [U8 p0,U8 p1,U8 p2,U8 p3,U8 p4,U8 p5,U8 p6,U8 p7] rfl (zp.top W1 [U8 0,U8 0,U8 0,U8 0,U8 0,U8 0,U8 0,U8 0] 67 rfl) rfl (by kernel_rfl) hpone ?_;intro W2 bx2 gr2 _)
  obtain⟨pp,HPP⟩:∃pp,Hid (W1.heap.size=pp):=⟨_,rfl⟩;have ga:zc W1 (W1.alloc (.cells #[U8 0,U8 0,U8 0,U8 0,U8 0,U8 0,U8 0,U8 0] 67)):=za _ _;have Q2:Hid (zp W2 pp 67 [U8 p0,U8 p1,U8 p2,U8 p3,U8 p4,U8 p5,U8 p6,U8 p7]):=dD<|by rw[<-HPP.out];exact bx2
  have G2:Hid (zc w W2):=dD<|zd (G1.trans ga) gr2 (bS G1)
  have X2:Hid (zp W2 b 41 (mL V m)):=dD<|(X1.grew ga).beside gr2 (fun k e=>by cases e;have:=X1.box.lt;omega)
  have R2:Hid (zb byE w.heap.size W2 (t.x) (zbc m p kk)):=dD<|(R1.grew ga).grown gr2 (fun g hg e=>by cases e;have:=(R1.lt _ hg).2;omega)
  rw[HPP.out];clear bx2 gr2 ga hpone
  generalize hacc:zbc m p kk=acc at R2 HL HN
  clear hacc;have hal:acc.length<=704:=by have:=HL.out;omega
  obtain⟨I,HI⟩:∃I:World->Prop,Hid (∀u,I u↔(zp u pp 67 [U8 p0,U8 p1,U8 p2,U8 p3,U8 p4,U8 p5,U8 p6,U8 p7]/\zp u b 41 (mL V m))):=⟨_,fun _=>Iff.rfl⟩
  have hI0:I W2.drew:=(HI _).2 ⟨Q2.grew (gW _),X2.grew (gW _)⟩
  have hF0:zc W2 W2.drew:=show Below _ _ _ from(bR _ _).drew
  have hne:Nonempty (zj I):=⟨⟨_,hI0⟩⟩;have hk0:0<=(kk:Int)/\(kk:Int)<256:=by omega
  refine zG (I:=I) 9 [(5,fun v=>∃g,v= .slice (some ⟨g,0,none⟩) 2 2),(6,fun v=>∃s:Sli,v=s.x),(8,fun v=>∃s:Sli,v=s.x)] (fun u=>zc W2 u) hI0 hF0 qh (by kernel_rfl) rfl rfl (by decide) ?hS (by kernel_rfl) ?_
  case hS=>
   intro x hx;simp only[mC,nM,or_false]at hx
   rcases hx with rfl|rfl|rfl
   ·exact⟨_,0,rfl⟩
   ·exact⟨_,zx,rfl⟩
   exact⟨_,zx,rfl⟩
  simp only[List.take,List.drop];iterate 5 (refine ze rfl rfl rfl (fun K hK=>?_);go_big_quiet_op;refine hK _ ?_;clear hK)
  refine zI rfl rfl (fun v u=>zc W2 u/\zr byE u v [(kk:Int),le]) (fun w' hI' hF'=>?_) (fun v1 hv=>?_)
  ·obtain⟨i1,i2⟩:=(HI _).1 hI';refine zN.step (v:= .slice (some ⟨w'.heap.size,0,none⟩) 2 2) (w':=w'.alloc (.cells #[U8 (kk:Int),U8 le] 5)) (by simp only[execOp];go_simp) ⟨(HI _).2 ⟨i1.grew (za _ _),i2.grew (za _ _)⟩,⟨_,rfl⟩,hF'.trans (za _ _),zbS byE w' [(kk:Int),le] _ rfl (show 2*1<=_ by decide)⟩
  obtain⟨g5,rfl⟩:=hv;simp only[Act.put,sB,sS,sZ];refine zI rfl rfl (fun v u=>zc w u/\zb byE w.heap.size u v (acc++ [(kk:Int),le])) (fun w' hI' hF'=>?_) (fun v1 hv=>?_)
  ·obtain⟨i1,i2⟩:=(HI _).1 hI';obtain⟨k1,k2⟩:=hF';obtain⟨v',w2,hrun,ho,hgr,hk⟩:=z6 (E:=byE) (w:=w') 24 (R2.grew k1) (.slice (some ⟨g5,0,none⟩) 2 2) [(kk:Int),le] k2 (by show(acc.length+2)*1<=_;omega) (nT (bS G2) (bS k1))
   obtain⟨a',c',rfl⟩:=ho.form;refine zN.step (w':=w2) (v:= .slice a' (acc++ [(kk:Int),le]).length c') ?_ ⟨(HI _).2 ⟨zp.row (R2.grew k1) hgr i1 (by decide),zp.row (R2.grew k1) hgr i2 (by decide)⟩,⟨⟨a',_,c'⟩,rfl⟩,zc.row (R2.grew k1) hgr (G2.trans k1),ho⟩
   simp only[execOp,resolve,invoke,builtin,pure_bind,Sem.run_bind,Sem.run_pure,List.map_toArray,mP,List.map_nil];exact Eq.trans (congrArg (fun r=>Result.andThen r (fun a w'=>Result.ok (Next.value a) w')) hrun) rfl
  obtain⟨s6,rfl⟩:=hv;simp only[Act.put,sB,sS,sZ];iterate 1 (refine ze rfl rfl rfl (fun K hK=>?_);go_big_quiet_op;refine hK _ ?_;clear hK)
  refine zI rfl rfl (fun v u=>zc w u/\zb byE w.heap.size u v ((acc++ [(kk:Int),le])++ [p0,p1,p2,p3,p4,p5,p6,p7])) (fun w' hI' hF'=>?_) (fun v1 hv=>?_)
  ·obtain⟨i1,i2⟩:=(HI _).1 hI';obtain⟨k1,k2⟩:=hF';obtain⟨v',w2,hrun,ho,hgr,hk⟩:=z6 (E:=byE) (w:=w') 24 k2 (.slice (some ⟨pp,0,none⟩) 8 8) [p0,p1,p2,p3,p4,p5,p6,p7] (zk5 byE i1.box [p0,p1,p2,p3,p4,p5,p6,p7] rfl (show 8*1<=_ by decide)) (by simp only[lA];show(acc.length+2+8)*1<=_;omega) (bS k1)
   obtain⟨a',c',rfl⟩:=ho.form;refine zN.step (w':=w2) (v:= .slice a' ((acc++ [(kk:Int),le])++ [p0,p1,p2,p3,p4,p5,p6,p7]).length c') ?_ ⟨(HI _).2 ⟨zp.row k2 hgr i1 (by decide),zp.row k2 hgr i2 (by decide)⟩,⟨⟨a',_,c'⟩,rfl⟩,zc.row k2 hgr k1,ho⟩
   simp only[execOp,resolve,invoke,builtin,pure_bind,Sem.run_bind,Sem.run_pure,List.map_toArray,mP,List.map_nil];exact Eq.trans (congrArg (fun r=>Result.andThen r (fun a w'=>Result.ok (Next.value a) w')) hrun) rfl
  obtain⟨s8,rfl⟩:=hv;simp only[Act.put,sB,sS,sZ];refine qj fun W3 hI3 hF3=>?_
  have G3:Hid (zc w W3):=hF3.1;have R3:Hid (zb byE w.heap.size W3 (s8.x) ((acc++ [(kk:Int),le])++ [p0,p1,p2,p3,p4,p5,p6,p7])):=hF3.2;have X3:Hid (zp W3 b 41 (mL V m)):=((HI _).1 hI3).2;clear hI3 hF3 hI0 hF0 hne
  cases lo with
  | false=>
   have R4:Hid (zb byE w.heap.size W3 (s8.x) (zbc m p (kk+1))):=dD<|by
    rw[HN.out,HSB.out,if_neg (by simp),List.append_nil,<-List.append_assoc]
    exact R3.out
   have HL4:Hid ((zbc m p (kk+1)).length<=11*(kk+1)):=dD<|by
    rw[HN.out,HSB.out,if_neg (by simp)]
    have:=HL.out;simp only[lA,List.length_cons,List.length_nil];omega
   go_wp2
   go_roundg (64 -(kk+1))
   case measure=>omega
   exact⟨kk+1,s8,by omega,by omega,by go_num,rfl,G3,X3,R4,HL4⟩
  | true=>
   obtain⟨W4,hW4⟩:∃W4,W3.alloc (.cells #[U8 121] 5)=W4:=⟨_,rfl⟩;have g4:=gP hW4
   have Y4:Hid (zr byE W4 (.slice (some ⟨W3.heap.size,0,none⟩) 1 1) [121]):=dD<|by rw[<-hW4];exact zbS byE W3 [121] _ rfl (show 1*1<=_ by decide)
   have G4:=dD (G3.trans g4);have R4:=dD (R3.grew g4);have X4:=dD (X3.grew g4);have HW4:Hid (_=W4):=hW4;clear hW4 g4
   go_wp2_with (at_builtin;rw[HW4.out];refine zD (E:=byE) rfl (.tmp 31) (.tmp 32) rfl w.heap.size _ _ rfl R4 _ [121] rfl Y4.out ?hb (bS G4) ?_)
   case hb=>
    show(_+_)*1<=_
    simp;omega
   intro v5 W5 ow5 gr5;obtain⟨a5,c5,rfl⟩:=ow5.form;have G5:Hid (zc w W5):=dD<|zc.row R4 gr5 G4.out
   have X5:Hid (zp W5 b 41 (mL V m)):=dD<|zp.row R4 gr5 X4 (by decide)
   have HEQ:Hid (zbc m p (kk+1)=acc++ [(kk:Int),le,p0,p1,p2,p3,p4,p5,p6,p7,121]):=dD<|by
    rw[HN.out,HSB.out];simp
   have HL4:Hid ((zbc m p (kk+1)).length<=11*(kk+1)):=dD<|by
    rw[HEQ.out];have:=HL.out;simp only[lA,List.length_cons,List.length_nil];omega
   rw[<-HEQ.out]at ow5⊢;have R5:Hid (zb byE w.heap.size W5 (.slice a5 (zbc m p (kk+1)).length c5) (zbc m p (kk+1))):=ow5;clear ow5 gr5;obtain⟨n5,HN5⟩:∃n5,Hid ((zbc m p (kk+1)).length=n5):=⟨_,rfl⟩;rw[HN5.out]at R5⊢;go_wp2
   go_roundg (64 -(kk+1))
   case measure=>omega
   exact⟨kk+1,⟨a5,n5,c5⟩,by omega,by omega,by go_num,rfl,G5,X5,R5,HL4⟩
 have hltz:¬(kk:Int)<64:=by omega
 have:kk=64:=by omega
 subst this;have hst:=zcm RW.at;go_wp2;go_ret;exact⟨rfl,GW⟩
theorem zdM (V:MaV) (m:Ma) (p:Int) (w:World) (hm:zF w V m):
  Calls prog 17 #[.agg (mL V m).toArray,I6 p] w fun e w'=>((e= .returned (.bool true)/\∃q s,ZT m p q s)\/(e= .returned (.bool false)/\∀q s,¬ZT m p q s))/\zc w w':=by
 obtain⟨W1,hW1⟩:∃W1,w.alloc (.cells (mL V m).toArray 41)=W1:=⟨_,rfl⟩;have G1:=gA hW1
 have X1:=xA hW1
 have HM:Hid (zF w V m):=hm;have HW1:Hid (_=W1):=hW1;clear hW1;obtain⟨-,-,-,-,-,-,-,-,n9⟩:=hm.ns;have HN9:Hid (V.sp.n=m.sp.length):=n9;clear hm n9
 go_enter func17,ntmps17
 go_upto_region 1 with fail;rw[HW1.out];obtain⟨b,HB⟩:∃b,Hid (w.heap.size=b):=⟨_,rfl⟩;rw[HB.out]at X1⊢;have x10:=X1.c 10 rfl;obtain⟨sn,HSN⟩:∃sn,Hid (V.sp.n=sn):=⟨_,rfl⟩;(try simp only[Sli.x]at x10);rw[HSN.out]at x10
 by_cases hneg:0<=p
 rotate_left
 ·have HF:Hid (∀q s,¬ZT m p q s):=dD<|fun q s h=>by have:=h.1;omega
  go_wp2;go_ret;exact⟨.inr ⟨rfl,HF⟩,G1⟩
 by_cases hge:p< (sn:Int)
 rotate_left
 ·have HF:Hid (∀q s,¬ZT m p q s):=dD<|fun q s h=>by
   have:=h.1;have:=(gS.1 h.2.1).1;have:=HSN.out;have:=HN9.out;omega
  go_wp2;go_ret;exact⟨.inr ⟨rfl,HF⟩,G1⟩
 obtain⟨q,rfl⟩:∃q:Nat,p=(q:Int):=⟨p.toNat,by omega⟩
 have hqz:(q:Int)< (sn:Int):=by omega
 obtain⟨xs,s1,s2,s3⟩:=(HM.grew G1).sp;obtain⟨x,hx⟩:∃x,xs[q]? =some x:=⟨_,gE (by rw[s2,<-HN9.out,HSN.out];omega)⟩
 obtain⟨s,hs⟩:∃s,m.sp[q]? =some s:=⟨_,gE (by rw[<-HN9.out,HSN.out];omega)⟩
 have hlv:=(s3 q x s hx hs).live;obtain⟨a,c,heq,hrow⟩:=s1.sps;have ha:V.sp.a=a:=by
  simp only[vJ]at heq;exact heq.1
 obtain⟨ad,had,hl⟩:=hrow q x hx;have HS:Hid (m.sp[q]? =some s):=hs;obtain⟨d0,-⟩:=jp.sp10 (hl W1 (zc.refl _));(try simp only[Sli.x]at x10);rw[ha,had]at x10;clear hl hrow heq ha had s1 s2 s3 hx hs
 cases hv:s.live with
 | true=>
  rw[hlv,hv]at d0;have HF:Hid (∃q' s,ZT m (q:Int) q' s):=dD<|⟨q,s,rfl,HS,hv⟩
  clear hv hlv;go_wp2;go_ret;exact⟨.inl ⟨rfl,HF⟩,G1⟩
 | false=>
  rw[hlv,hv]at d0;have HF:Hid (∀q' s,¬ZT m (q:Int) q' s):=dD<|fun q' s' h=>by
   have e:q'=q:=by have:=h.1;omega
   rw[e]at h;have h2:=h.2.1;rw[HS.out]at h2;cases h2;have h3:=h.2.2;rw[hv]at h3;cases h3
  clear hv hlv;go_wp2;go_ret;exact⟨.inr ⟨rfl,HF⟩,G1⟩
end
section
def zgf (e e':En):Prop:=e'.kind=e.kind/\e'.n=e.n
theorem zgf.refl (e:En):zgf e e:=⟨rfl,rfl⟩
theorem zgf.trans {a b c:En} (h:zgf a b) (k:zgf b c):zgf a c:=⟨k.1.trans h.1,k.2.trans h.2⟩
theorem zgp {x:On} {e e':En} (h:zgf e e'):zdz m x e'=zdz m x e:=by
 unfold zdz;rw[h.1,h.2]
structure ShL (m m':Ma) (k q:Nat) (l:List Nat) (sk sq sk' sq':Sp):Prop where
 pk:m'.sp[k]? =some sk'
 pq:m'.sp[q]? =some sq'
 len:m'.sp.length=m.sp.length
 oth:∀r,r≠k->r≠q->m'.sp[r]? =m.sp[r]?
 av:sk'.ars=sk.ars/\sq'.ars=sq.ars/\sk'.live=sk.live/\sq'.live=sq.live
 lq:∀j,zgf (zk sq j) (zk sq' j)
 lk:∀j,j∈l->zgf (zk sq j) (zk sk' j)
 nk:∀j,j∉l->zk sk' j=zk sk j
 see:∀x e,(e.kind=1->0<=e.n)->zdz m' x e=zdz m x e
 con:∀file idx,ja m' file idx=ja m file idx
 rest:m'.fs.length=m.fs.length/\m'.sl.length=m.sl.length/\m'.fl=m.fl/\m'.ca=m.ca
theorem zcQ {k q:Nat} (hkq:q≠k):∀(l:List Nat) {m:Ma} {sk sq:Sp},Rt m->m.sp[k]? =some sk->m.sp[q]? =some sq->sk.ars=sq.ars->l.Nodup->(∀n∈l,n<64/\zk sk n=en0/\zk sq n≠en0)->
  ∃sk' sq',ShL m (Jh m k q (l.map fun(n:Nat)=>(n:Int))) k q l sk sq sk' sq'
 | [],m,sk,sq,_,hk,hq,_,_,_=>⟨sk,sq,hk,hq,rfl,fun _ _ _=>rfl,⟨rfl,rfl,rfl,rfl⟩,fun _=>zgf.refl _,fun j hj=>(by cases hj),fun _ _=>rfl,fun _ _ _=>rfl,fun _ _=>rfl,⟨rfl,rfl,rfl,rfl⟩⟩
 | n :: l,m,sk,sq,h,hk,hq,ha,hd,hl=>by
  obtain⟨h1,h2,h3⟩:=hl n (by simp)
  obtain⟨tk,tq,hS⟩:=zgn h hk hq hkq ha h1 h2 h3;rw[List.nodup_cons]at hd;have hnl:∀j∈l,j≠n:=fun j hj e=>hd.1 (e ▸ hj)
  obtain⟨sk',sq',g⟩:=zcQ hkq l hS.rt hS.pk hS.pq (by rw[hS.ak,hS.aq,ha]) hd.2 (fun j hj=>by
   obtain⟨a1,a2,a3⟩:=hl j (by simp[hj])
   rw[hS.fk j (hnl j hj),hS.fq j (hnl j hj)];exact⟨a1,a2,a3⟩)
  have hq1:∀j,zgf (zk sq j) (zk tq j):=fun j=>by
   by_cases e:j=n
   ·rw[e];exact hS.kq
   rw[hS.fq j e];exact zgf.refl _
  refine⟨sk',sq',g.pk,g.pq,g.len.trans hS.len,fun r a b=>(g.oth r a b).trans (hS.oth r a b),⟨g.av.1.trans hS.ak,g.av.2.1.trans hS.aq,g.av.2.2.1.trans hS.lv.1,g.av.2.2.2.trans hS.lv.2⟩,fun j=>(hq1 j).trans (g.lq j),fun j hj=>?_,fun j hj=>?_,fun x e he=>(g.see x e he).trans (hS.see x e he),fun file idx=>(g.con file idx).trans (hS.con file idx),?_⟩
  ·by_cases e:j∈l
   ·exact(hq1 j).trans (g.lk j e)
   have hj:j=n:=by
    rcases mC.1 hj with h|h
    ·exact h
    exact absurd h e
   rw[g.nk j e,hj];exact hS.kk
  ·have e1:j∉l:=fun h=>hj (mC.2 (.inr h))
   have e2:j≠n:=fun h=>hj (mC.2 (.inl h))
   rw[g.nk j e1,hS.fk j e2]
  obtain⟨a1,a2,a3,a4⟩:=hS.rest;obtain⟨b1,b2,b3,b4⟩:=g.rest;exact⟨b1.trans a1,b2.trans a2,b3.trans a3,b4.trans a4⟩
structure zcL (m x:Ma) (k q:Nat) (s sk sq:Sp):Prop where
 rt:Rt x
 pk:x.sp[k]? =some sk
 pq:x.sp[q]? =some sq
 len:x.sp.length=max m.sp.length (k+1)
 oth:∀r,r≠k->r≠q->x.sp[r]? =m.sp[r]?
 av:sk.ars=s.ars/\sq.ars=s.ars/\sk.live=true/\sq.live=s.live
 lq:∀j,zgf (zk s j) (zk sq j)
 lk:∀j,j<64->zgf (zk s j) (zk sk j)
 see:∀y e,(e.kind=1->0<=e.n)->zdz x y e=zdz m y e
 con:∀file idx,ja x file idx=ja m file idx
 rest:x.fs.length=m.fs.length/\x.sl.length=m.sl.length/\x.fl=m.fl/\x.ca=m.ca
theorem zit (h:Rt m) {k:Nat} {s:Sp} (hs:m.sp[q]? =some s) (hl:s.live=true) (hk:Vac m.sp k) (h4:k<4):∃sk sq,zcL m (zae m k q s) k q s sk sq:=by
 have hkq:q≠k:=fun e=>by
  have h1:=hk.2.1 s (by rw[<-e];exact hs)
  rw[hl]at h1;cases h1
 have hrt:=(zgF h hs hl hk h4).1;unfold zae at hrt⊢;rw[jX]at hrt⊢;have e1:(ZL m k s).sp[k]? =some ⟨true,s.ars,z8⟩:=by show(J1 m.sp k _)[k]? =_;rw[QI hk.1,if_pos rfl]
 have e2:(ZL m k s).sp[q]? =some s:=by show(J1 m.sp k _)[q]? =_;rw[QI hk.1,if_neg hkq];exact hs
 obtain⟨sk,sq,g⟩:=zcQ hkq (qg s) (zgM h hs hk h4) e1 e2 rfl Qs.1 (fun n hn=>⟨(Qs.2 n hn).1,by rw[Jt],(Qs.2 n hn).2⟩)
 refine⟨sk,sq,hrt,g.pk,g.pq,?_,fun r a b=>?_,⟨g.av.1,g.av.2.1,g.av.2.2.1,g.av.2.2.2⟩,g.lq,fun j hj=>?_,g.see,g.con,g.rest⟩
 ·rw[g.len]
  show(J1 m.sp k _).length=_
  rw[zby hk.1]
 ·rw[g.oth r a b]
  show(J1 m.sp k _)[r]? =_
  rw[QI hk.1,if_neg a]
 by_cases e:j∈qg s
 ·exact g.lk j e
 rw[g.nk j e,Jt];have:zk s j=en0:=by
  rcases h.ent hs hj with e1|e1
  ·exact e1
  exfalso
  apply e
  unfold qg;rw[List.mem_filter,List.mem_range];exact⟨hj,by unfold enS;simpa using e1.2.1⟩
 rw[this];exact zgf.refl _
theorem zcL.view {x:Ma} {k:Nat} {s sk sq:Sp} (g:zcL m x k q s sk sq) (h:Rt m) (hs:m.sp[q]? =some s) (n:Nat):jz x (q:Int) (n:Int)=jz m (q:Int) (n:Int):=by
 refine zej h.w g.rt.w ?_
 by_cases hn:n<64
 ·have h0:(zk s n).kind=1->0<=(zk s n).n:=fun hk=>by
   rcases h.ent hs hn with e|e
   ·rw[e]at hk;cases hk
   exact(jS e.1).2.1.1
  rw[JF g.pq hn,JF hs hn,g.av.2.1,zgp (g.lq n),g.see _ _ h0]
 rw[ZV (.inr (.inr (.inr (by omega)))),ZV (.inr (.inr (.inr (by omega))))]
theorem zcL.views {x:Ma} {k:Nat} {s sk sq:Sp} (g:zcL m x k q s sk sq) (h:Rt m) (hs:m.sp[q]? =some s) (hk:Vac m.sp k) {r:Nat} (hr:r≠k) (n:Nat):jz x (r:Int) (n:Int)=jz m (r:Int) (n:Int):=by
 by_cases hq:r=q
 ·rw[hq];exact g.view h hs n
 refine zej h.w g.rt.w ?_
 by_cases hn:n<64
 ·cases hx:m.sp[r]? with
  | none=>
   have hl:m.sp.length<=r:=List.getElem?_eq_none_iff.1 hx;have:=hk.1;rw[ZV (.inr (.inl (by rw[g.len];omega))),ZV (.inr (.inl (by omega)))]
  | some y=>
   have h0:(zk y n).kind=1->0<=(zk y n).n:=fun hk1=>by
    rcases h.ent hx hn with e|e
    ·rw[e]at hk1;cases hk1
    exact(jS e.1).2.1.1
   rw[JF (by rw[g.oth r hr hq];exact hx) hn,JF hx hn,g.see _ _ h0]
 rw[ZV (.inr (.inr (.inr (by omega)))),ZV (.inr (.inr (.inr (by omega))))]
theorem zcL.child {x:Ma} {k:Nat} {s sk sq:Sp} (g:zcL m x k q s sk sq) (h:Rt m) (hs:m.sp[q]? =some s) (n:Nat):jz x (k:Int) (n:Int)=jz m (q:Int) (n:Int):=by
 have hx0:jo x (k:Int) (n:Int)=jo m (q:Int) (n:Int):=by
  by_cases hn:n<64
  ·have h0:(zk s n).kind=1->0<=(zk s n).n:=fun hk1=>by
    rcases h.ent hs hn with e|e
    ·rw[e]at hk1;cases hk1
    exact(jS e.1).2.1.1
   rw[JF g.pk hn,JF hs hn,g.av.1,zgp (g.lk n hn),g.see _ _ h0]
  rw[ZV (.inr (.inr (.inr (by omega)))),ZV (.inr (.inr (.inr (by omega))))]
 unfold jz;rw[if_neg (by simp[g.rt.w]),if_neg (by simp[h.w]),hx0]
theorem zcL.bytes {x:Ma} {k:Nat} {s sk sq:Sp} (g:zcL m x k q s sk sq) (h:Rt m) (file:Int):Zb x file=Zb m file:=
 (zhv h.w g.rt.w (by rw[g.rest.2.2.1]) (fun f=>by unfold zi3;rw[g.rest.2.2.1]) g.con file).1
end
section
open Go.RowKit
theorem zbe (V:MaV) (m:Ma) (file:Int) (w:World) (hm:zF w V m) (h0:maW m=0):
  Calls prog 22 #[.agg (mL V m).toArray,I6 file] w fun e w'=>Byt m file w e w'/\zc w w':=by
 have HM:Hid (zF w V m):=hm;have HWR:Hid (∀W,zc w W->Calls prog 19 #[.agg (mL V m).toArray] W fun e w'=>e= .returned (I6 (maW m))/\zc W w'):=show∀W,_ from fun W hW=>by rw[h0];exact Ji V m W (HM.grew hW) h0
 have HCO:Hid (maW m=0->∀W (fi ix:Nat) f bk,zc w W->m.fl[fi]? =some f->f.bl[ix]? =some bk->ix<=1000->Calls prog 65 #[.agg (mL V m).toArray,I6 (fi:Int),I6 (ix:Int)] W fun e w'=>e= .returned (.agg (pgc (ja m fi ix)).toArray)/\(ja m fi ix).length=8/\zc W w'):=dD<|fun h0 W fi ix f bk hW hf hb hi=>zag V m fi ix f bk W (HM.grew hW) (fun c hc _=>zkm h0 c hc) hf hb hi
 obtain⟨-,-,-,-,-,-,n7,-,-⟩:=hm.ns;obtain⟨_,_,hfe,_,hfr⟩:=qW.rows hm.fl;have HFL:Hid (Qh w V.fl.a m.fl):=dD<|by
  simp only[vJ]at hfe;rw[hfe.1];exact hfr
 obtain⟨⟨fa,fn,fc⟩,⟨sa,sn,sc⟩,⟨sba,sbn,sbc⟩,⟨sqa,sqn,sqc⟩,vdb,vdq,⟨fla,fln,flc⟩,⟨caa,can,cac⟩,⟨spa,spn,spc⟩⟩:=V;dsimp only[mL]at HWR HCO HFL n7⊢;have HN7:Hid (m.fl.length=fln):=n7.symm;obtain⟨E,HE⟩:∃E,Hid (maW m=E):=⟨_,rfl⟩;rw[HE.out]at HWR HCO;clear hm n7 hfe hfr;obtain⟨W0,hW0⟩:∃W0,w.alloc (.cells #[.slice fa fn fc,I6 m.hand,.slice sa sn sc,.slice sba sbn sbc,.slice sqa sqn sqc,vdb.x,vdq.x,.slice fla fln flc,I6 m.cnt,.slice caa can cac,.slice spa spn spc] 41)=W0:=⟨_,rfl⟩;have G0:=gA hW0
 have X0:=xA hW0
 have HS0:=sA hW0
 have HW0:Hid (_=W0):=hW0;clear hW0
 go_enter func22,ntmps22
 go_upto_region 1 with fail;rw[HW0.out];obtain⟨x0,x1,x2,x3,x4,x5,x6,x7,x8,x9,x10⟩:=X0.c11;have hc:=HWR.out W0 G0.out;go_wp2_with fail;refine hc.mono ?_;clear hc x0 x1 x2 x3 x4 x5 x6 x7 x8 x9 x10;rintro r W1 ⟨rfl,g1⟩;have K1:Hid (zc W0 W1):=g1;clear g1;have hz:E=0:=HE.out ▸ h0;have hze:(E != 0)=false:=by simp[hz]
 have HM0:Hid (maW m=0):=dD<|by rw[HE.out];exact hz
 have HB5:Hid (file<0\/(fln:Int)<=file->∀W,Byt m file w (.returned (.tuple #[eS,I6 5])) W):=dD<|fun h W=>by
  have hb:Jz m file=5:=by unfold Jz;rw[if_neg (fun h=>h HM0),if_pos (by rw[HN7.out];exact h)]
  refine⟨_,by rw[hb],?_⟩
  unfold Zb;rw[if_neg (by rw[hb];decide)]
  exact zb.nil _ _ _
 have HCN:=show Hid _ from HCO.out hz
 clear hz;have x7:=(X0.grew K1).c 7 rfl
 by_cases a1:file<0
 ·have a1d:decide (file<0)=true:=decide_eq_true a1;have HR:Hid (Byt m file w (.returned (.tuple #[eS,I6 5])) W1):=HB5.out (.inl a1) W1;clear a1;go_wp2
  go_ret2
  exact⟨HR,G0.trans K1⟩
 have a1d:decide (file<0)=false:=decide_eq_false a1
 by_cases a2:(fln:Int)<=file
 ·have a2d:decide ((fln:Int)<=file)=true:=decide_eq_true a2;have HR:Hid (Byt m file w (.returned (.tuple #[eS,I6 5])) W1):=HB5.out (.inr a2) W1;clear a1 a2;go_wp2
  go_ret2
  exact⟨HR,G0.trans K1⟩
 have a2d:decide ((fln:Int)<=file)=false:=decide_eq_false a2;go_upto_region 6 with fail;clear a1d a2d x7 hze;obtain⟨fi,rfl⟩:∃fi:Nat,file=(fi:Int):=⟨file.toNat,by omega⟩
 obtain⟨f,HF⟩:∃f,Hid (m.fl[fi]? =some f):=⟨_,gE (by rw[HN7.out];omega)⟩
 obtain⟨⟨s0,s1⟩,s2⟩:=zlH HM0 HF.out;obtain⟨z,HZ⟩:∃z:Nat,Hid (f.size=(z:Int)):=⟨f.size.toNat,show _=_ by omega⟩
 have hz96:z<=96:=by have:=HZ.out;omega
 have HBL:Hid (∀k,k<z->k / 8<f.bl.length):=dD<|fun k hk=>by
  have h1:=HZ.out;rw[h1]at s2;unfold Jx at s2
  split at s2 <;> omega
 have HBE:Hid (Jz m (fi:Int)=0):=dD<|by unfold Jz;rw[if_neg (fun h=>h HM0),if_neg (by rw[HN7.out];omega)]
 have HBY:Hid (Zb m (fi:Int)=(List.range z).map (byD m fi)):=dD<|by
  unfold Zb;rw[if_pos HBE.out];unfold ziW;rw[show(zi3 m (fi:Int)).toNat=z from by unfold zi3;rw[tN,gD,HF.out];show f.size.toNat=z;rw[HZ.out];rfl]
  rfl
 obtain⟨ad7,rfl,ba,bc,_,hlf⟩:=HFL.out fi f HF.out;have HLF:Hid (∀W,zc w W->zgh W (ad7.add (fi*2)) (z:Int) (.slice ba f.bl.length bc)):=dD<|by rw[<-HZ.out];exact hlf
 have hfz:(fi:Int)< (fln:Int):=by omega
 clear a1 a2 s0 s1 s2 hlf;go_wp2
 go_loopg [7,8] 96 (fun gg s7 s8 wr=>∃(k:Nat) (xa:Option Addr) (xc:Nat),k<=z/\z - k<=gg/\s8=I6 k/\s7= .slice xa k xc/\Hid (zc W0 wr)/\Hid (zb byE (w.heap.size+1) wr (.slice xa k xc) ((List.range k).map (byD m fi))))
 case atStart=>exact⟨0,none,0,nZ _,by omega,rfl,rfl,K1,zb.nil _ _ _⟩
 obtain⟨k,xa,xc,hk,hgk,rfl,rfl,KW,OW⟩:=hrel;have x7:=(X0.grew KW).c 7 rfl;obtain⟨d0,-⟩:=HLF.out wr (G0.trans KW)
 by_cases hlt:k<z
 ·have hltz:(k:Int)< (z:Int):=by omega
  obtain⟨kd,HKD⟩:∃kd,Hid (k / 8=kd):=⟨_,rfl⟩;obtain⟨km,HKM⟩:∃km,Hid (k % 8=km):=⟨_,rfl⟩;have hkm:km<8:=by have:=HKM.out;omega
  have hq1:(k:Int).tdiv 8=(kd:Int):=by rw[Int.tdiv_eq_ediv_of_nonneg (by omega)];have:=HKD.out;omega
  have hq2:(k:Int) / 8=(kd:Int):=by have:=HKD.out;omega
  have hr1:(k:Int).tmod 8=(km:Int):=by rw[Int.tmod_eq_emod_of_nonneg (by omega)];have:=HKM.out;omega
  have hr2:(k:Int) % 8=(km:Int):=by have:=HKM.out;omega
  obtain⟨bk,HBK⟩:∃bk,Hid (f.bl[kd]? =some bk):=⟨_,gE (by rw[<-HKD.out];exact HBL k hlt)⟩
  have hc:=HCN.out wr fi kd f bk (G0.trans KW) HF HBK (by have:=HKD.out;omega)
  have x0:=(X0.grew KW).c 0 rfl;have x1:=(X0.grew KW).c 1 rfl;have x2:=(X0.grew KW).c 2 rfl;have x3:=(X0.grew KW).c 3 rfl;have x4:=(X0.grew KW).c 4 rfl;have x5:=(X0.grew KW).c 5 rfl;have x6:=(X0.grew KW).c 6 rfl;have x8:=(X0.grew KW).c 8 rfl;have x9:=(X0.grew KW).c 9 rfl;have x10:=(X0.grew KW).c 10 rfl;go_wp2_with fail;refine hc.mono ?_;clear hc x0 x1 x2 x3 x4 x5 x6 x7 x8 x9 x10 d0;rintro r W2 ⟨rfl,hl8,g2⟩;have K2:=dD (KW.trans g2);have O2:=dD (OW.grew g2);obtain⟨b,HB⟩:∃b,Hid (byD m fi k=b):=⟨_,rfl⟩;have hv:(pgc (ja m (fi:Int) (kd:Int)))[km]? =some (U8 b):=by
   rw[<-HB.out];unfold byD;rw[HKD.out,HKM.out];exact zez (by rw[gD,gE (by rw[hl8];exact hkm)];rfl)
  generalize ja m (fi:Int) (kd:Int)=CL at hv hl8⊢
  have HACC:Hid ((List.range (k+1)).map (byD m fi)=(List.range k).map (byD m fi)++ [b]):=dD<|by rw[List.range_succ,List.map_append,List.map_singleton,HB.out]
  have HAL:Hid (((List.range k).map (byD m fi)).length=k):=dD<|by simp
  generalize(List.range k).map (byD m fi)=acc at O2 HACC HAL
  clear g2 hl8;have HSZ:Hid (w.heap.size+1<=W2.heap.size):=dD<|by rw[<-HS0.out];exact bS K2.out
  go_wp2_with (first | refine zkx rfl (.tmp 40) (.tmp 42) rfl (pgc CL) rfl km rfl hkm hv ?_ | (at_builtin;refine zD (E:=byE) rfl (.tmp 35) (.tmp 44) rfl (w.heap.size+1) _ acc rfl (O2.grew (za _ _)) _ [b] rfl (jY byE W2 b _ _ rfl (by decide)) ?qb ?qc ?_))
  case qb=>
   show(acc.length+1)*1<=_
   have:=HAL.out;omega
  case qc=>exact nT HSZ (bS (za _ _))
  intro vn Wn own grn;obtain⟨xan,xcn,hvn⟩:=own.form;rw[show(acc++ [b]).length=k+1 from by rw[lA,HAL.out];rfl]at hvn
  subst hvn;have On:Hid (zb byE (w.heap.size+1) Wn (.slice xan (k+1) xcn) ((List.range (k+1)).map (byD m fi))):=dD<|by rw[HACC.out];exact own
  have Kn:Hid (zc W0 Wn):=dD<|qm (K2.trans (za _ _)) grn (fun g hg=>by
   have h1:=(O2.lt g hg).1;rw[HS0.out];exact h1)
  clear own grn hv;go_wp2
  go_roundg (z -(k+1))
  case measure=>omega
  exact⟨k+1,xan,xcn,by omega,by omega,by go_num,rfl,Kn,On⟩
 have hltz:¬(k:Int)< (z:Int):=by omega
 obtain rfl:z=k:=by omega
 have HR:Hid (Byt m (fi:Int) w (.returned (.tuple #[.slice xa z xc,I6 0])) wr):=⟨_,by rw[HBE.out],by rw[HBY.out];exact OW.base (Nat.le_succ _)⟩
 go_wp2
 go_ret2
 exact⟨HR,G0.trans KW⟩
theorem zjj (w:World):Calls prog 58 #[.agg #[eS,I6 0],.agg #[eS,I6 0]] w fun e w'=>e= .returned (.bool true)/\zc w w':=by
 have G:Hid (zc w ((w.alloc (.cells #[eS,I6 0] 28)).alloc (.cells #[eS,I6 0] 28))):=(za _ _).trans (za _ _)
 go_enter func58,ntmps58
 go_wp2
 go_loopg [23] 1 (fun gg s23 wr=>s23=I6 0/\0<gg/\Hid (zc w wr))
 case atStart=>exact⟨rfl,by omega,G⟩
 obtain⟨rfl,hgg,GW⟩:=hrel;go_wp2;go_ret;exact⟨rfl,GW⟩
theorem zkF (w:World):Calls prog 59 #[eS,eS] w fun e w'=>e= .returned (.bool true)/\zc w w':=by
 go_enter func59,ntmps59
 go_wp2
 go_loopg [13] 1 (fun gg s13 wr=>s13=I6 0/\0<gg/\Hid (zc w wr))
 case atStart=>exact⟨rfl,by omega,zc.refl _⟩
 obtain⟨rfl,hgg,GW⟩:=hrel;go_wp2;go_ret;exact⟨rfl,GW⟩
theorem zhT (w:World):Calls prog 41 #[.agg #[eS,eS],.agg #[eS,eS]] w fun e w'=>e= .returned (.bool true)/\zc w w':=by
 obtain⟨W0,hW0⟩:∃W0,(w.alloc (.cells #[eS,eS] 34)).alloc (.cells #[eS,eS] 34)=W0:=⟨_,rfl⟩;have G:=gD2 hW0
 have X:=x2a hW0
 have HW0:Hid (_=W0):=hW0;clear hW0
 go_enter func41,ntmps41
 go_wp2;rw[HW0.out]
 go_loopg [26] 1 (fun gg s26 wr=>s26=I6 0/\0<gg/\Hid (zc W0 wr))
 case atStart=>exact⟨rfl,by omega,zc.refl _⟩
 obtain⟨rfl,hgg,GW⟩:=hrel;have x1:=(X.grew GW).c 1 rfl;obtain⟨WC,rfl⟩:∃WC,WC=wr:=⟨_,rfl⟩;go_wp2;clear x1
 go_loopg [44] 1 (fun gg s44 wr=>s44=I6 0/\0<gg/\Hid (zc W0 wr))
 case atStart=>exact⟨rfl,by omega,GW⟩
 obtain⟨rfl,hgg2,GV⟩:=hrel;have GE:=dD (G.trans GV);go_wp2;go_ret;exact⟨rfl,GE⟩
theorem zkE (w:World):Calls prog 60 #[.agg #[eS,I6 0],.agg #[eS,I6 0]] w fun e w'=>e= .returned (.bool true)/\zc w w':=by
 have G:Hid (zc w ((w.alloc (.cells #[eS,I6 0] 37)).alloc (.cells #[eS,I6 0] 37))):=(za _ _).trans (za _ _)
 go_enter func60,ntmps60
 go_wp2
 go_loopg [26] 1 (fun gg s26 wr=>s26=I6 0/\0<gg/\Hid (zc w wr))
 case atStart=>exact⟨rfl,by omega,G⟩
 obtain⟨rfl,hgg,GW⟩:=hrel;go_wp2;go_ret;exact⟨rfl,GW⟩
theorem zjn (w:World):Calls prog 18 #[.agg je.toArray,.agg je.toArray] w fun e w'=>e= .returned (.bool true)/\zc w w':=by
 obtain⟨W0,hW0⟩:∃W0,(w.alloc (.cells je.toArray 41)).alloc (.cells je.toArray 41)=W0:=⟨_,rfl⟩;have G0:=gD2 hW0
 obtain⟨b,HB⟩:∃b,Hid (w.heap.size=b):=⟨_,rfl⟩;have X0:Hid (Box W0 b je):=dD<|by rw[<-hW0];exact(Box.top w je _ HB.symm).alloc _
 have Y0:Hid (Box W0 (b+1) je):=dD<|by rw[<-hW0];exact Box.top _ je _ (by have:=HB.out;simp;omega)
 have HW0:Hid (_=W0):=hW0;clear hW0;unfold je at HW0⊢
 go_enter func18,ntmps18
 go_upto_region 1 with fail;rw[HW0.out,HB.out];have x0:=X0.c 0 rfl;have x1:=X0.c 1 rfl;have y0:=Y0.c 0 rfl;have y1:=Y0.c 1 rfl;have hc:=zjj W0;go_wp2_with fail;refine hc.mono ?_;clear hc x0 x1 y0 y1;rintro e W1 ⟨rfl,g1⟩;have G1:Hid (zc W0 W1):=g1;clear g1;have x2:=(X0.grew G1).c 2 rfl;have y2:=(Y0.grew G1).c 2 rfl;have hc:=zkF W1;go_wp2_with fail;refine hc.mono ?_;clear hc x2 y2;rintro e W2 ⟨rfl,g2⟩;have G2:=dD (G1.trans g2);clear g2;have x3:=(X0.grew G2).c 3 rfl;have x4:=(X0.grew G2).c 4 rfl;have y3:=(Y0.grew G2).c 3 rfl;have y4:=(Y0.grew G2).c 4 rfl;have hc:=zhT W2;go_wp2_with fail;refine hc.mono ?_;clear hc x3 x4 y3 y4;rintro e W3 ⟨rfl,g3⟩;have G3:=dD (G2.trans g3);clear g3;have x5:=(X0.grew G3).c 5 rfl;have x6:=(X0.grew G3).c 6 rfl;have y5:=(Y0.grew G3).c 5 rfl;have y6:=(Y0.grew G3).c 6 rfl;have hc:=zhT W3;go_wp2_with fail;refine hc.mono ?_;clear hc x5 x6 y5 y6;rintro e W4 ⟨rfl,g4⟩;have G4:=dD (G3.trans g4);clear g4;have x7:=(X0.grew G4).c 7 rfl;have x8:=(X0.grew G4).c 8 rfl;have y7:=(Y0.grew G4).c 7 rfl;have y8:=(Y0.grew G4).c 8 rfl;have hc:=zkE W4;go_wp2_with fail;refine hc.mono ?_;clear hc x7 x8 y7 y8;rintro e W5 ⟨rfl,g5⟩;have G5:=dD (G4.trans g5);clear g5;have x9:=(X0.grew G5).c 9 rfl;have y9:=(Y0.grew G5).c 9 rfl;have x10:=(X0.grew G5).c 10 rfl;have y10:=(Y0.grew G5).c 10 rfl;go_wp2;clear x9 y9 x10 y10
 go_loopg [66] 1 (fun gg s66 wr=>s66=I6 0/\0<gg/\Hid (zc W0 wr))
 case atStart=>exact⟨rfl,by omega,G5⟩
 obtain⟨rfl,hgg,GW⟩:=hrel;have x10:=(X0.grew GW).c 10 rfl;obtain⟨WC,rfl⟩:∃WC,WC=wr:=⟨_,rfl⟩;go_wp2;clear x10
 go_loopg [84] 1 (fun gg s84 wr=>s84=I6 0/\0<gg/\Hid (zc W0 wr))
 case atStart=>exact⟨rfl,by omega,GW⟩
 obtain⟨rfl,hgg2,GV⟩:=hrel;have GE:=dD (G0.trans GV);go_wp2;go_ret;exact⟨rfl,GE⟩
theorem zer {p p':Int} (h:∀n:Nat,jz m' p' (n:Int)=jz m p (n:Int)):zbc m' p' 64=zbc m p 64:=by
 unfold zbc;exact zc1 (fun n _=>by unfold zll;rw[h n])
theorem zfE (F S B:Int) (vl:Sli) (L:List Int) (p:Int) (w:World) (lr:zr byE w (vl.x) L) (lc:vl.n<=vl.c) (lb:∀z∈L,0<=z/\z<256):
  Calls prog 3 #[.agg #[I6 F,I6 S,I6 B],vl.x,I6 p] w fun e w'=>e= .returned (.bool true)/\zc w w':=by
 obtain⟨W0,hW0⟩:∃W0,w.alloc (.cells #[I6 F,I6 S,I6 B] 23)=W0:=⟨_,rfl⟩;have G0:=gA hW0
 have C0:=xA hW0
 have HW0:Hid (_=W0):=hW0;have HLR:Hid (zr byE w (vl.x) L):=lr;have HLC:Hid (vl.n<=vl.c):=lc;have HLB:Hid (∀z∈L,0<=z/\z<256):=show∀z,_ from lb
 obtain⟨nf,HNF⟩:∃nf:Nat,Hid (max (min F 40) 0=(nf:Int)):=⟨(max (min F 40) 0).toNat,show _=_ by omega⟩
 obtain⟨ns,HNS⟩:∃ns:Nat,Hid (max (min S 60) 0=(ns:Int)):=⟨(max (min S 60) 0).toNat,show _=_ by omega⟩
 obtain⟨nb,HNB⟩:∃nb:Nat,Hid (max (min B 80) 0=(nb:Int)):=⟨(max (min B 80) 0).toNat,show _=_ by omega⟩
 clear hW0 lr lc lb;have hal:=zgd W0
 go_enter func3,ntmps3
 go_wp2_with fail;rw[HW0.out];refine hal.mono ?_;clear hal;rintro e W1 ⟨rfl,g1⟩;have G1:=dD (G0.trans g1);have C1:=dD (C0.grew g1);clear g1;have hbu:=zff F S B nf ns nb HNF HNS HNB vl L W1 (HLR.grew G1) HLC HLB.out;obtain⟨c0,c1,c2⟩:=C1.c3;go_wp2_with fail;refine hbu.mono ?_;clear hbu c0 c1 c2;rintro e W2 ⟨V,m0,T,hd,hi,ht,vt,rfl,hB⟩;obtain⟨at2,w2⟩:=hB.at;have HFI:Hid (∀s∈(jO m0 T hd).sp,qS m0.fl.length s.ars):=show∀s,_ from fun s hs=>by
  obtain⟨i,hi⟩:=List.getElem?_of_mem hs;have hi:(List.zipWith (fun s f=>{ s with tb:=Zg f }) m0.sp T)[i]? =some s:=hi
  rw[List.getElem?_zipWith]at hi
  cases h1:m0.sp[i]? with
  | none=>rw[h1]at hi;simp at hi
  | some s0=>
   cases h2:T[i]? with
   | none=>rw[h1,h2]at hi;simp at hi
   | some f=>
    rw[h1,h2]at hi;simp only[Option.some.injEq]at hi;rw[<-hi];exact(hB.fin s0 (mG h1)).1
 have HF2:Hid (m0.fl.length<=2):=hB.fl2.1;have HSL:Hid ((jO m0 T hd).sp.length<=2):=show _<=_ by
  show(List.zipWith _ m0.sp T).length<=2
  rw[List.length_zipWith];have:=hB.sp.2;omega
 obtain⟨m,HM⟩:∃m,Hid (jO m0 T hd=m):=⟨_,rfl⟩;have A2:Hid (zF W2 V m):=dD<|by rw[<-HM.out];exact at2
 have HW:Hid (maW m=0):=dD<|by rw[<-HM.out];exact w2
 have HRT:Hid (Rt m):=dD<|⟨HW,fun s hs=>by
  obtain⟨i,hi⟩:=List.getElem?_of_mem hs;obtain⟨xs,_,s2,s3⟩:=A2.sp;have hx:i<xs.length:=by rw[s2];exact(gS.1 hi).1
  exact(s3 i _ s (gE hx) hi).tb.tlen⟩
 have G2:Hid (zc w W2):=G1.trans hB.gr;have hmh:hd=m.hand:=by rw[<-HM.out];rfl
 have hmc:m0.cnt=m.cnt:=by rw[<-HM.out];rfl
 rw[hmh,hmc];have HFS:Hid (∀s∈m.sp,qS m.fl.length s.ars):=dD<|fun s hs=>by
  rw[<-HM.out]at hs⊢;exact HFI s hs
 have HFL:Hid (m.fl.length<=5):=dD<|by rw[<-HM.out];have:=HF2.out;show m0.fl.length<=5;omega
 have HS2:Hid (m.sp.length<=2):=dD<|by rw[<-HM.out];exact HSL.out
 clear hB at2 w2 hmh hmc;go_upto_region 4 with fail;obtain⟨pm,HPM⟩:∃pm,Hid (W2.heap.size=pm):=⟨_,rfl⟩;obtain⟨W2a,hW3⟩:∃W2a,W2.alloc (.cells (mL V m).toArray 41)=W2a:=⟨_,rfl⟩;have g3:=gP hW3
 have P2:=xPT hW3 HPM
 have A2a:=dD (A2.grew g3);have G2a:=dD (G2.trans g3);rw[hW3,HPM.out];clear hW3 g3;obtain⟨x0,x1,x2,x3,x4,x5,x6,x7,x8,x9,x10⟩:=P2.box.c11;have hex:=zeZ V m p W2a A2a HW HRT.inv.spl;go_wp2_with fail;refine hex.mono ?_;clear hex x0 x1 x2 x3 x4 x5 x6 x7 x8 x9 x10;rintro e W3 ⟨hF,g3⟩;have G3:=dD (G2a.trans g3);have A3:=dD (A2a.grew g3);have P3:=dD (P2.grew g3);clear g3 A2a G2a
 rcases hF with⟨hno,rfl⟩|⟨q,s,k,hl,hv,hF⟩
 ·unfold je;have HNO:Hid (∀q s,¬ZT m p q s):=dD<|hno
  clear hno;go_upto_region 6 with fail;obtain⟨pk,HPK⟩:∃pk,Hid (W3.heap.size=pk):=⟨_,rfl⟩;obtain⟨W4,hW4⟩:∃W4,W3.alloc (.cells zM.toArray 41)=W4:=⟨_,rfl⟩;have g4:=gP hW4
  have G4:Hid (zc w W4):=dD<|G3.trans g4
  have P4:=dD (P3.grew g4);have Z4:Hid (zp W4 pk 41 je):=show zp _ _ _ _ by rw[<-hW4];exact zp.top _ je _ HPK.symm
  have hlv:=zdM V m p W4 (A3.grew g4);rw[hW4,HPK.out];clear hW4 g4;obtain⟨x0,x1,x2,x3,x4,x5,x6,x7,x8,x9,x10⟩:=P4.box.c11;go_wp2_with fail;refine hlv.mono ?_;clear hlv x0 x1 x2 x3 x4 x5 x6 x7 x8 x9 x10;rintro e W5 ⟨hE,g5⟩;have G5:=dD (G4.trans g5);have Z5:=dD (Z4.grew g5);clear g5
  rcases hE with⟨_,q,s,hy⟩|⟨rfl,_⟩
  ·exact absurd hy (HNO q s)
  have hsm:=zjn W5;unfold je at hsm;obtain⟨x0,x1,x2,x3,x4,x5,x6,x7,x8,x9,x10⟩:=Z5.box.c11;go_wp2_with fail;refine hsm.mono ?_;clear hsm x0 x1 x2 x3 x4 x5 x6 x7 x8 x9 x10;rintro e W6 ⟨rfl,g6⟩;have G6:=dD (G5.trans g6);clear g6;go_wp2;go_ret;exact⟨rfl,G6⟩
 obtain⟨hpq,hsq,hlq⟩:=hl;subst hpq;have HSQ:Hid (m.sp[q]? =some s):=hsq;have HLQ:Hid (s.live=true):=hlq;have HV:Hid (Vac m.sp k):=hv;have hk2:k<=2:=nT hv.1 HS2.out;have hk4:k<4:=by omega
 rcases hF with⟨e4,_⟩|⟨_,V4,rfl,hm4⟩
 ·omega
 obtain⟨sk,sq,HFD⟩:=zit HRT hsq hlq hv hk4;have HFK:Hid (zcL m (zae m k q s) k q s sk sq):=HFD;clear hsq hlq hv hk4;obtain⟨X,HX⟩:∃X,Hid (zae m k q s=X):=⟨_,rfl⟩;rw[HX.out]at hm4 HFK⊢;obtain⟨xs,hxl,hrow,hsp⟩:=hm4.spaces;obtain⟨ys,hyl,hrow',hsp'⟩:=A3.spaces;have hkX:k<X.sp.length:=(gS.1 HFK.pk).1;have hqM:q<m.sp.length:=(gS.1 HSQ).1;obtain⟨x,hx⟩:∃x,xs[k]? =some x:=⟨_,gE (by rw[hxl];exact hkX)⟩
 obtain⟨y,hy⟩:∃y,ys[q]? =some y:=⟨_,gE (by rw[hyl];exact hqM)⟩
 obtain⟨ad,had,hrx⟩:=hrow k x hx;obtain⟨ae,hae,hry⟩:=hrow' q y hy;have HRX:Hid (∀W,zc W3 W->zcs W (ad.add (k*10)) x):=dD<|hrx
 have HRY:Hid (∀W,zc W3 W->zcs W (ae.add (q*10)) y):=dD<|hry
 have HAX:Hid (zr arE W3 (x.ar.x) s.ars):=dD<|by
  have:=(hsp k x sk hx HFK.pk).ar;rw[HFK.av.1]at this;exact this
 have HAY:Hid (zr arE W3 (y.ar.x) s.ars):=(hsp' q y s hy HSQ).ar;obtain⟨-,-,-,-,-,-,n7,-,n9⟩:=A3.ns;obtain⟨-,-,-,-,-,-,-,-,o9⟩:=hm4.ns;have K3:Hid (zF W3 V4 X):=hm4;clear hm4 hrow hrow' hsp hsp' hrx hry hx hy hxl hyl;obtain⟨ku1,ku2,ku3,ku4,ku5,ku6,ku7,ku8,⟨ua,un,uc⟩⟩:=V4;obtain⟨kv1,kv2,kv3,kv4,kv5,kv6,kv7,kv8,⟨va,vn,vc⟩⟩:=V;dsimp only[mL]at had hae n7 n9 o9;subst had;subst hae;have hkz:(k:Int)< (un:Int):=by omega
 have hqz:(q:Int)< (vn:Int):=by omega
 have HN7:Hid (kv7.n=m.fl.length):=n7;have HN9:Hid (vn=m.sp.length):=n9;clear n7 n9 o9 hkX hqM;obtain⟨U,HU⟩:∃U:MaV,Hid (U=⟨ku1,ku2,ku3,ku4,ku5,ku6,ku7,ku8,⟨some ad,un,uc⟩⟩):=⟨_,rfl⟩;go_upto_region 7 with fail
 try dsimp only at P3
 obtain⟨pk,HPK⟩:∃pk,Hid (W3.heap.size=pk):=⟨_,rfl⟩;obtain⟨W5,hW5⟩:∃W5,W3.alloc (.cells #[ku1.x,I6 X.hand,ku2.x,ku3.x,ku4.x,ku5.x,ku6.x,ku7.x,I6 X.cnt,ku8.x,.slice (some ad) un uc] 41)=W5:=⟨_,rfl⟩;have g5:=gP hW5
 have Q5:=xPT hW5 HPK
 have P5:=dD (P3.grew g5);have A5:=dD (A3.grew g5);have K5:=dD (K3.grew g5);have G5:=dD (G3.trans g5);have HRX5:Hid (∀W,zc W5 W->zcs W (ad.add (k*10)) x):=show∀W,_ from fun W hW=>HRX.out W (g5.trans hW)
 have HRY5:Hid (∀W,zc W5 W->zcs W (ae.add (q*10)) y):=dD<|fun W hW=>HRY.out W (g5.trans hW)
 have HX5:=dD (HAX.grew g5);have HY5:=dD (HAY.grew g5);rw[hW5,HPK.out];clear hW5 g5;have HC1:Hid (∀W,zc W5 W->Calls prog 19 #[.agg #[ku1.x,I6 X.hand,ku2.x,ku3.x,ku4.x,ku5.x,ku6.x,ku7.x,I6 X.cnt,ku8.x,.slice (some ad) un uc]] W fun e w'=>e= .returned (I6 0)/\zc W w'):=show∀W,_ from fun W hW=>by
  exact Ji ⟨ku1,ku2,ku3,ku4,ku5,ku6,ku7,ku8,⟨some ad,un,uc⟩⟩ X W (K5.grew hW) HFK.rt.w
 have HC2:Hid (∀W,zc W5 W->Calls prog 17 #[.agg #[ku1.x,I6 X.hand,ku2.x,ku3.x,ku4.x,ku5.x,ku6.x,ku7.x,I6 X.cnt,ku8.x,.slice (some ad) un uc],I6 (k:Int)] W fun e w'=>e= .returned (.bool true)/\zc W w'):=dD<|fun W hW=>by
  refine(zdM ⟨ku1,ku2,ku3,ku4,ku5,ku6,ku7,ku8,⟨some ad,un,uc⟩⟩ X (k:Int) W (K5.grew hW)).mono ?_;rintro e w' ⟨h|h,g⟩
  ·exact⟨h.1,g⟩
  exact absurd ⟨rfl,HFK.pk,HFK.av.2.2.1⟩ (h.2 k sk)
 have HC3:Hid (∀W,zc W5 W->Calls prog 17 #[.agg #[kv1.x,I6 m.hand,kv2.x,kv3.x,kv4.x,kv5.x,kv6.x,kv7.x,I6 m.cnt,kv8.x,.slice (some ae) vn vc],I6 (k:Int)] W fun e w'=>e= .returned (.bool false)/\zc W w'):=dD<|fun W hW=>by
  refine(zdM ⟨kv1,kv2,kv3,kv4,kv5,kv6,kv7,kv8,⟨some ae,vn,vc⟩⟩ m (k:Int) W (A5.grew hW)).mono ?_;rintro e w' ⟨⟨h,q',s',h1,h2,h3⟩|h,g⟩
  ·have e1:q'=k:=by omega
   rw[e1]at h2;have:=HV.2.1 s' h2;rw[h3]at this;cases this
  exact⟨h.1,g⟩
 have HC4:Hid (∀W,zc W5 W->Calls prog 20 #[x.ar.x,y.ar.x] W fun e w'=>e= .returned (.bool true)/\zc W w'):=dD<|fun W hW=>zg2 _ _ s.ars W (HX5.grew hW) (HY5.grew hW)
 have hu0:∀y:zh W5,y.world.cell? ⟨pm,0,none⟩=_:=fun y=>(P5.box.grew y.grew).c 0 rfl
 have hu1:∀y:zh W5,y.world.cell? ⟨pm,1,none⟩=_:=fun y=>(P5.box.grew y.grew).c 1 rfl
 have hu2:∀y:zh W5,y.world.cell? ⟨pm,2,none⟩=_:=fun y=>(P5.box.grew y.grew).c 2 rfl
 have hu3:∀y:zh W5,y.world.cell? ⟨pm,3,none⟩=_:=fun y=>(P5.box.grew y.grew).c 3 rfl
 have hu4:∀y:zh W5,y.world.cell? ⟨pm,4,none⟩=_:=fun y=>(P5.box.grew y.grew).c 4 rfl
 have hu5:∀y:zh W5,y.world.cell? ⟨pm,5,none⟩=_:=fun y=>(P5.box.grew y.grew).c 5 rfl
 have hu6:∀y:zh W5,y.world.cell? ⟨pm,6,none⟩=_:=fun y=>(P5.box.grew y.grew).c 6 rfl
 have hu7:∀y:zh W5,y.world.cell? ⟨pm,7,none⟩=_:=fun y=>(P5.box.grew y.grew).c 7 rfl
 have hu8:∀y:zh W5,y.world.cell? ⟨pm,8,none⟩=_:=fun y=>(P5.box.grew y.grew).c 8 rfl
 have hu9:∀y:zh W5,y.world.cell? ⟨pm,9,none⟩=_:=fun y=>(P5.box.grew y.grew).c 9 rfl
 have hu10:∀y:zh W5,y.world.cell? ⟨pm,10,none⟩=_:=fun y=>(P5.box.grew y.grew).c 10 rfl
 have hv0:∀y:zh W5,y.world.cell? ⟨pk,0,none⟩=_:=fun y=>(Q5.box.grew y.grew).c 0 rfl
 have hv1:∀y:zh W5,y.world.cell? ⟨pk,1,none⟩=_:=fun y=>(Q5.box.grew y.grew).c 1 rfl
 have hv2:∀y:zh W5,y.world.cell? ⟨pk,2,none⟩=_:=fun y=>(Q5.box.grew y.grew).c 2 rfl
 have hv3:∀y:zh W5,y.world.cell? ⟨pk,3,none⟩=_:=fun y=>(Q5.box.grew y.grew).c 3 rfl
 have hv4:∀y:zh W5,y.world.cell? ⟨pk,4,none⟩=_:=fun y=>(Q5.box.grew y.grew).c 4 rfl
 have hv5:∀y:zh W5,y.world.cell? ⟨pk,5,none⟩=_:=fun y=>(Q5.box.grew y.grew).c 5 rfl
 have hv6:∀y:zh W5,y.world.cell? ⟨pk,6,none⟩=_:=fun y=>(Q5.box.grew y.grew).c 6 rfl
 have hv7:∀y:zh W5,y.world.cell? ⟨pk,7,none⟩=_:=fun y=>(Q5.box.grew y.grew).c 7 rfl
 have hv8:∀y:zh W5,y.world.cell? ⟨pk,8,none⟩=_:=fun y=>(Q5.box.grew y.grew).c 8 rfl
 have hv9:∀y:zh W5,y.world.cell? ⟨pk,9,none⟩=_:=fun y=>(Q5.box.grew y.grew).c 9 rfl
 have hv10:∀y:zh W5,y.world.cell? ⟨pk,10,none⟩=_:=fun y=>(Q5.box.grew y.grew).c 10 rfl
 have hsx:∀y:zh W5,y.world.cell? _=some (x.ar.x):=fun y=>(HRX5 _ y.grew).2.1
 have hsy:∀z:zh W5,z.world.cell? _=some (y.ar.x):=fun z=>(HRY5 _ z.grew).2.1
 have hne:Nonempty (zh W5):=⟨⟨_,zc.refl _⟩⟩;refine jq 30 [(1,⟨fun v=>v=I6 0,fun _ _=>True⟩),(6,⟨fun v=>v= .bool true,fun _ _=>True⟩),(12,⟨fun v=>v= .bool false,fun _ _=>True⟩),(27,⟨fun v=>v= .bool true,fun _ _=>True⟩)] qh (by kernel_rfl) rfl rfl (by decide) ?hS ?hp ?_
 case hS=>
  intro x hx;simp only[mC,nM,or_false]at hx
  rcases hx with rfl|rfl|rfl|rfl <;> exact⟨_,rfl⟩
 case hp=>
  intro x hx;simp only[mC,nM,or_false]at hx
  rcases hx with rfl|rfl|rfl|rfl <;> exact fun _ _ _ _ _=>trivial
 simp only[List.take,List.drop];iterate 1 (refine zi rfl rfl rfl (fun K hK=>?_);go_big_quiet_op;refine hK _ ?_;clear hK)
 refine zK rfl rfl (fun w' hg hF=>?_) (fun v1 hv=>?_)
 ·refine zN.call [.agg #[ku1.x,I6 X.hand,ku2.x,ku3.x,ku4.x,ku5.x,ku6.x,ku7.x,I6 X.cnt,ku8.x,.slice (some ad) un uc]] rfl func19 rfl rfl rfl ?_;refine(HC1 w' hg).mono ?_;rintro e w'' ⟨rfl,hg2⟩;exact⟨_,rfl,hg2,rfl,trivial⟩
 cases hv;simp only[Act.put,sB,sS,sZ];iterate 4 (refine zi rfl rfl rfl (fun K hK=>?_);go_big_quiet_op;refine hK _ ?_;clear hK)
 refine zK rfl rfl (fun w' hg hF=>?_) (fun v1 hv=>?_)
 ·refine zN.call [.agg #[ku1.x,I6 X.hand,ku2.x,ku3.x,ku4.x,ku5.x,ku6.x,ku7.x,I6 X.cnt,ku8.x,.slice (some ad) un uc],I6 (k:Int)] rfl func17 rfl rfl rfl ?_;refine(HC2 w' hg).mono ?_;rintro e w'' ⟨rfl,hg2⟩;exact⟨_,rfl,hg2,rfl,trivial⟩
 cases hv;simp only[Act.put,sB,sS,sZ];iterate 5 (refine zi rfl rfl rfl (fun K hK=>?_);go_big_quiet_op;refine hK _ ?_;clear hK)
 refine zK rfl rfl (fun w' hg hF=>?_) (fun v1 hv=>?_)
 ·refine zN.call [.agg #[kv1.x,I6 m.hand,kv2.x,kv3.x,kv4.x,kv5.x,kv6.x,kv7.x,I6 m.cnt,kv8.x,.slice (some ae) vn vc],I6 (k:Int)] rfl func17 rfl rfl rfl ?_;refine(HC3 w' hg).mono ?_;rintro e w'' ⟨rfl,hg2⟩;exact⟨_,rfl,hg2,rfl,trivial⟩
 cases hv;simp only[Act.put,sB,sS,sZ];iterate 14 (refine zi rfl rfl rfl (fun K hK=>?_);(try simp only[Sli.x]);go_big_quiet_op;refine hK _ ?_;clear hK)
 refine zK rfl rfl (fun w' hg hF=>?_) (fun v1 hv=>?_)
 ·refine zN.call [x.ar.x,y.ar.x] rfl func20 rfl rfl rfl ?_;refine(HC4 w' hg).mono ?_;rintro e w'' ⟨rfl,hg2⟩;exact⟨_,rfl,hg2,rfl,trivial⟩
 cases hv;simp only[Act.put,sB,sS,sZ];iterate 2 (refine zi rfl rfl rfl (fun K hK=>?_);go_big_quiet_op;refine hK _ ?_;clear hK)
 refine qF fun W7 g7 _=>?_
 have g7:zc W5 W7:=show zc _ _ from g7
 have Q7:=dD (Q5.grew g7);have P7:=dD (P5.grew g7);have A7:=dD (A5.grew g7);have K7:=dD (K5.grew g7);have G7:=dD (G5.trans g7);clear g7 hsx hsy hne hu0 hu1 hu2 hu3 hu4 hu5 hu6 hu7 hu8 hu9 hu10 hv0 hv1 hv2 hv3 hv4 hv5 hv6 hv7 hv8 hv9 hv10 hkz hqz;have HKF:Hid (∀z∈X.sp,qS X.fl.length z.ars):=show∀z,_ from fun z hz=>by
  rw[HFK.rest.2.2.1];obtain⟨i,hi⟩:=List.getElem?_of_mem hz
  by_cases e:i=k
  ·rw[e,HFK.pk]at hi;cases hi;rw[HFK.av.1];exact HFS s (mG HSQ)
  by_cases e2:i=q
  ·rw[e2,HFK.pq]at hi;cases hi;rw[HFK.av.2.1];exact HFS s (mG HSQ)
  rw[HFK.oth i e e2]at hi;exact HFS z (mG hi)
 obtain⟨sn,HSN⟩:∃sn,Hid (m.sp.length=sn):=⟨_,rfl⟩;obtain⟨fn,HFN⟩:∃fn,Hid (m.fl.length=fn):=⟨_,rfl⟩;have hsn2:sn<=2:=by rw[<-HSN.out];exact HS2.out
 have hfn5:fn<=5:=by rw[<-HFN.out];exact HFL.out
 have x10:=P7.box.c 10 rfl;(try simp only[Sli.x]at x10);rw[HN9.out,HSN.out]at x10;go_upto_region 10 with fail;clear x10
 go_loopg [82] sn (fun gg s82 wr=>∃kk:Nat,kk<=sn/\sn - kk<=gg/\s82=I6 kk/\Hid (zc W7 wr))
 case atStart=>exact⟨0,nZ _,by omega,rfl,zc.refl _⟩
 obtain⟨kk,hkk,hgg,rfl,GW⟩:=hrel
 by_cases hlt:kk<sn
 ·have hltz:(kk:Int)< (sn:Int):=by omega
  go_upto_region 12 with fail
  by_cases hkq:kk=k
  ·have hb:((kk:Int) !=(k:Int))=false:=by rw[hkq];simp
   have hne:Nonempty (zh wr):=⟨⟨_,zc.refl _⟩⟩;refine jq 12 [] qh (by kernel_rfl) rfl rfl (by decide) (by simp) (by simp) ?_
   simp only[List.take,List.drop];iterate 4 (refine zi rfl rfl rfl (fun K hK=>?_);go_big_quiet_op;refine hK _ ?_;clear hK)
   iterate 7 (refine qC (by kernel_rfl) ?_;simp only[Act.put,sB,sS,sZ])
   iterate 1 (refine zi rfl rfl rfl (fun K hK=>?_);go_big_quiet_op;refine hK _ ?_;clear hK)
   refine qF fun W8 g8 _=>?_
   have G8:=dD (GW.trans (show zc _ _ from g8))
   clear g8 hne hb hkq;go_wp2
   go_roundg (sn -(kk+1))
   case measure=>omega
   exact⟨kk+1,by omega,by omega,by go_num,G8⟩
  have hb:((kk:Int) !=(k:Int))=true:=by
   have:(kk:Int)≠(k:Int):=by omega
   simpa using this
  have P8:=dD (P7.grew GW);have Q8:=dD (Q7.grew GW);have HC1:Hid (∀W,zc wr W->Calls prog 21 #[.agg #[kv1.x,I6 m.hand,kv2.x,kv3.x,kv4.x,kv5.x,kv6.x,kv7.x,I6 m.cnt,kv8.x,.slice (some ae) vn vc],I6 (kk:Int)] W fun e w'=>e= .returned (.string (strOfNums (zbc m kk 64)))/\zc W w'):=show∀W,_ from fun W hW=>zbz ⟨kv1,kv2,kv3,kv4,kv5,kv6,kv7,kv8,⟨some ae,vn,vc⟩⟩ m kk W ((A7.grew GW).grew hW) HRT.w HFS.out
  have HC2:Hid (∀W,zc wr W->Calls prog 21 #[.agg #[ku1.x,I6 X.hand,ku2.x,ku3.x,ku4.x,ku5.x,ku6.x,ku7.x,I6 X.cnt,ku8.x,.slice (some ad) un uc],I6 (kk:Int)] W fun e w'=>e= .returned (.string (strOfNums (zbc m kk 64)))/\zc W w'):=dD<|fun W hW=>by
   have:=zbz ⟨ku1,ku2,ku3,ku4,ku5,ku6,ku7,ku8,⟨some ad,un,uc⟩⟩ X kk W ((K7.grew GW).grew hW) HFK.rt.w HKF.out;rw[zer (fun n=>HFK.views HRT.out HSQ.out HV.out hkq n)]at this
   exact this
  generalize strOfNums (zbc m kk 64)=S at HC1 HC2
  have hu0:∀y:zh wr,y.world.cell? ⟨pm,0,none⟩=_:=fun y=>(P8.box.grew y.grew).c 0 rfl
  have hu1:∀y:zh wr,y.world.cell? ⟨pm,1,none⟩=_:=fun y=>(P8.box.grew y.grew).c 1 rfl
  have hu2:∀y:zh wr,y.world.cell? ⟨pm,2,none⟩=_:=fun y=>(P8.box.grew y.grew).c 2 rfl
  have hu3:∀y:zh wr,y.world.cell? ⟨pm,3,none⟩=_:=fun y=>(P8.box.grew y.grew).c 3 rfl
  have hu4:∀y:zh wr,y.world.cell? ⟨pm,4,none⟩=_:=fun y=>(P8.box.grew y.grew).c 4 rfl
  have hu5:∀y:zh wr,y.world.cell? ⟨pm,5,none⟩=_:=fun y=>(P8.box.grew y.grew).c 5 rfl
  have hu6:∀y:zh wr,y.world.cell? ⟨pm,6,none⟩=_:=fun y=>(P8.box.grew y.grew).c 6 rfl
  have hu7:∀y:zh wr,y.world.cell? ⟨pm,7,none⟩=_:=fun y=>(P8.box.grew y.grew).c 7 rfl
  have hu8:∀y:zh wr,y.world.cell? ⟨pm,8,none⟩=_:=fun y=>(P8.box.grew y.grew).c 8 rfl
  have hu9:∀y:zh wr,y.world.cell? ⟨pm,9,none⟩=_:=fun y=>(P8.box.grew y.grew).c 9 rfl
  have hu10:∀y:zh wr,y.world.cell? ⟨pm,10,none⟩=_:=fun y=>(P8.box.grew y.grew).c 10 rfl
  have hv0:∀y:zh wr,y.world.cell? ⟨pk,0,none⟩=_:=fun y=>(Q8.box.grew y.grew).c 0 rfl
  have hv1:∀y:zh wr,y.world.cell? ⟨pk,1,none⟩=_:=fun y=>(Q8.box.grew y.grew).c 1 rfl
  have hv2:∀y:zh wr,y.world.cell? ⟨pk,2,none⟩=_:=fun y=>(Q8.box.grew y.grew).c 2 rfl
  have hv3:∀y:zh wr,y.world.cell? ⟨pk,3,none⟩=_:=fun y=>(Q8.box.grew y.grew).c 3 rfl
  have hv4:∀y:zh wr,y.world.cell? ⟨pk,4,none⟩=_:=fun y=>(Q8.box.grew y.grew).c 4 rfl
  have hv5:∀y:zh wr,y.world.cell? ⟨pk,5,none⟩=_:=fun y=>(Q8.box.grew y.grew).c 5 rfl
  have hv6:∀y:zh wr,y.world.cell? ⟨pk,6,none⟩=_:=fun y=>(Q8.box.grew y.grew).c 6 rfl
  have hv7:∀y:zh wr,y.world.cell? ⟨pk,7,none⟩=_:=fun y=>(Q8.box.grew y.grew).c 7 rfl
  have hv8:∀y:zh wr,y.world.cell? ⟨pk,8,none⟩=_:=fun y=>(Q8.box.grew y.grew).c 8 rfl
  have hv9:∀y:zh wr,y.world.cell? ⟨pk,9,none⟩=_:=fun y=>(Q8.box.grew y.grew).c 9 rfl
  have hv10:∀y:zh wr,y.world.cell? ⟨pk,10,none⟩=_:=fun y=>(Q8.box.grew y.grew).c 10 rfl
  have hne:Nonempty (zh wr):=⟨⟨_,zc.refl _⟩⟩;refine jq 12 [(6,⟨fun v=>v= .string S,fun _ _=>True⟩),(9,⟨fun v=>v= .string S,fun _ _=>True⟩)] qh (by kernel_rfl) rfl rfl (by decide) ?hS ?hp ?_
  case hS=>
   intro x hx;simp only[mC,nM,or_false]at hx
   rcases hx with rfl|rfl <;> exact⟨_,rfl⟩
  case hp=>
   intro x hx;simp only[mC,nM,or_false]at hx
   rcases hx with rfl|rfl <;> exact fun _ _ _ _ _=>trivial
  simp only[List.take,List.drop];iterate 6 (refine zi rfl rfl rfl (fun K hK=>?_);go_big_quiet_op;refine hK _ ?_;clear hK)
  refine zK rfl rfl (fun w' hg hF=>?_) (fun v1 hv=>?_)
  ·refine zN.call [.agg #[kv1.x,I6 m.hand,kv2.x,kv3.x,kv4.x,kv5.x,kv6.x,kv7.x,I6 m.cnt,kv8.x,.slice (some ae) vn vc],I6 (kk:Int)] rfl func21 rfl rfl rfl ?_;refine(HC1 w' hg).mono ?_;rintro e w'' ⟨rfl,hg2⟩;exact⟨_,rfl,hg2,rfl,trivial⟩
  cases hv;simp only[Act.put,sB,sS,sZ];iterate 2 (refine zi rfl rfl rfl (fun K hK=>?_);go_big_quiet_op;refine hK _ ?_;clear hK)
  refine zK rfl rfl (fun w' hg hF=>?_) (fun v1 hv=>?_)
  ·refine zN.call [.agg #[ku1.x,I6 X.hand,ku2.x,ku3.x,ku4.x,ku5.x,ku6.x,ku7.x,I6 X.cnt,ku8.x,.slice (some ad) un uc],I6 (kk:Int)] rfl func21 rfl rfl rfl ?_;refine(HC2 w' hg).mono ?_;rintro e w'' ⟨rfl,hg2⟩;exact⟨_,rfl,hg2,rfl,trivial⟩
  cases hv;simp only[Act.put,sB,sS,sZ];iterate 2 (refine zi rfl rfl rfl (fun K hK=>?_);go_big_quiet_op;refine hK _ ?_;clear hK)
  refine qF fun W8 g8 _=>?_
  have G8:=dD (GW.trans (show zc _ _ from g8))
  clear g8 hne hb hkq hu0 hu1 hu2 hu3 hu4 hu5 hu6 hu7 hu8 hu9 hu10 hv0 hv1 hv2 hv3 hv4 hv5 hv6 hv7 hv8 hv9 hv10;go_wp2
  go_roundg (sn -(kk+1))
  case measure=>omega
  exact⟨kk+1,by omega,by omega,by go_num,G8⟩
 have hltz:¬(kk:Int)< (sn:Int):=by omega
 have:kk=sn:=by omega
 subst this;have P9:=dD (P7.grew GW);have Q9:=dD (Q7.grew GW);have A9:=dD (A7.grew GW);have K9:=dD (K7.grew GW);have G9:=dD (G7.trans GW);obtain⟨WC,hWC⟩:∃WC,wr=WC:=⟨_,rfl⟩;rw[hWC]at P9 Q9 A9 K9 G9⊢;clear hWC;go_upto_region 15 with fail;have HC1:Hid (∀W,zc WC W->Calls prog 21 #[.agg #[ku1.x,I6 X.hand,ku2.x,ku3.x,ku4.x,ku5.x,ku6.x,ku7.x,I6 X.cnt,ku8.x,.slice (some ad) un uc],I6 (k:Int)] W fun e w'=>e= .returned (.string (strOfNums (zbc m q 64)))/\zc W w'):=show∀W,_ from fun W hW=>by
  have:=zbz ⟨ku1,ku2,ku3,ku4,ku5,ku6,ku7,ku8,⟨some ad,un,uc⟩⟩ X k W (K9.grew hW) HFK.rt.w HKF.out;rw[zer (fun n=>HFK.child HRT.out HSQ.out n)]at this
  exact this
 have HC2:Hid (∀W,zc WC W->Calls prog 21 #[.agg #[kv1.x,I6 m.hand,kv2.x,kv3.x,kv4.x,kv5.x,kv6.x,kv7.x,I6 m.cnt,kv8.x,.slice (some ae) vn vc],I6 (q:Int)] W fun e w'=>e= .returned (.string (strOfNums (zbc m q 64)))/\zc W w'):=dD<|fun W hW=>zbz ⟨kv1,kv2,kv3,kv4,kv5,kv6,kv7,kv8,⟨some ae,vn,vc⟩⟩ m q W (A9.grew hW) HRT.w HFS.out
 generalize strOfNums (zbc m q 64)=S at HC1 HC2
 have hu0:∀y:zh WC,y.world.cell? ⟨pm,0,none⟩=_:=fun y=>(P9.box.grew y.grew).c 0 rfl
 have hu1:∀y:zh WC,y.world.cell? ⟨pm,1,none⟩=_:=fun y=>(P9.box.grew y.grew).c 1 rfl
 have hu2:∀y:zh WC,y.world.cell? ⟨pm,2,none⟩=_:=fun y=>(P9.box.grew y.grew).c 2 rfl
 have hu3:∀y:zh WC,y.world.cell? ⟨pm,3,none⟩=_:=fun y=>(P9.box.grew y.grew).c 3 rfl
 have hu4:∀y:zh WC,y.world.cell? ⟨pm,4,none⟩=_:=fun y=>(P9.box.grew y.grew).c 4 rfl
 have hu5:∀y:zh WC,y.world.cell? ⟨pm,5,none⟩=_:=fun y=>(P9.box.grew y.grew).c 5 rfl
 have hu6:∀y:zh WC,y.world.cell? ⟨pm,6,none⟩=_:=fun y=>(P9.box.grew y.grew).c 6 rfl
 have hu7:∀y:zh WC,y.world.cell? ⟨pm,7,none⟩=_:=fun y=>(P9.box.grew y.grew).c 7 rfl
 have hu8:∀y:zh WC,y.world.cell? ⟨pm,8,none⟩=_:=fun y=>(P9.box.grew y.grew).c 8 rfl
 have hu9:∀y:zh WC,y.world.cell? ⟨pm,9,none⟩=_:=fun y=>(P9.box.grew y.grew).c 9 rfl
 have hu10:∀y:zh WC,y.world.cell? ⟨pm,10,none⟩=_:=fun y=>(P9.box.grew y.grew).c 10 rfl
 have hv0:∀y:zh WC,y.world.cell? ⟨pk,0,none⟩=_:=fun y=>(Q9.box.grew y.grew).c 0 rfl
 have hv1:∀y:zh WC,y.world.cell? ⟨pk,1,none⟩=_:=fun y=>(Q9.box.grew y.grew).c 1 rfl
 have hv2:∀y:zh WC,y.world.cell? ⟨pk,2,none⟩=_:=fun y=>(Q9.box.grew y.grew).c 2 rfl
 have hv3:∀y:zh WC,y.world.cell? ⟨pk,3,none⟩=_:=fun y=>(Q9.box.grew y.grew).c 3 rfl
 have hv4:∀y:zh WC,y.world.cell? ⟨pk,4,none⟩=_:=fun y=>(Q9.box.grew y.grew).c 4 rfl
 have hv5:∀y:zh WC,y.world.cell? ⟨pk,5,none⟩=_:=fun y=>(Q9.box.grew y.grew).c 5 rfl
 have hv6:∀y:zh WC,y.world.cell? ⟨pk,6,none⟩=_:=fun y=>(Q9.box.grew y.grew).c 6 rfl
 have hv7:∀y:zh WC,y.world.cell? ⟨pk,7,none⟩=_:=fun y=>(Q9.box.grew y.grew).c 7 rfl
 have hv8:∀y:zh WC,y.world.cell? ⟨pk,8,none⟩=_:=fun y=>(Q9.box.grew y.grew).c 8 rfl
 have hv9:∀y:zh WC,y.world.cell? ⟨pk,9,none⟩=_:=fun y=>(Q9.box.grew y.grew).c 9 rfl
 have hv10:∀y:zh WC,y.world.cell? ⟨pk,10,none⟩=_:=fun y=>(Q9.box.grew y.grew).c 10 rfl
 have hne:Nonempty (zh WC):=⟨⟨_,zc.refl _⟩⟩;refine jq 7 [(2,⟨fun v=>v= .string S,fun _ _=>True⟩),(5,⟨fun v=>v= .string S,fun _ _=>True⟩)] qh (by kernel_rfl) rfl rfl (by decide) ?hS ?hp ?_
 case hS=>
  intro x hx;simp only[mC,nM,or_false]at hx
  rcases hx with rfl|rfl <;> exact⟨_,rfl⟩
 case hp=>
  intro x hx;simp only[mC,nM,or_false]at hx
  rcases hx with rfl|rfl <;> exact fun _ _ _ _ _=>trivial
 simp only[List.take,List.drop];iterate 2 (refine zi rfl rfl rfl (fun K hK=>?_);go_big_quiet_op;refine hK _ ?_;clear hK)
 refine zK rfl rfl (fun w' hg hF=>?_) (fun v1 hv=>?_)
 ·refine zN.call [.agg #[ku1.x,I6 X.hand,ku2.x,ku3.x,ku4.x,ku5.x,ku6.x,ku7.x,I6 X.cnt,ku8.x,.slice (some ad) un uc],I6 (k:Int)] rfl func21 rfl rfl rfl ?_;refine(HC1 w' hg).mono ?_;rintro e w'' ⟨rfl,hg2⟩;exact⟨_,rfl,hg2,rfl,trivial⟩
 cases hv;simp only[Act.put,sB,sS,sZ];iterate 2 (refine zi rfl rfl rfl (fun K hK=>?_);go_big_quiet_op;refine hK _ ?_;clear hK)
 refine zK rfl rfl (fun w' hg hF=>?_) (fun v1 hv=>?_)
 ·refine zN.call [.agg #[kv1.x,I6 m.hand,kv2.x,kv3.x,kv4.x,kv5.x,kv6.x,kv7.x,I6 m.cnt,kv8.x,.slice (some ae) vn vc],I6 (q:Int)] rfl func21 rfl rfl rfl ?_;refine(HC2 w' hg).mono ?_;rintro e w'' ⟨rfl,hg2⟩;exact⟨_,rfl,hg2,rfl,trivial⟩
 cases hv;simp only[Act.put,sB,sS,sZ];iterate 1 (refine zi rfl rfl rfl (fun K hK=>?_);go_big_quiet_op;refine hK _ ?_;clear hK)
 refine qF fun WD gD _=>?_
 have gD:zc WC WD:=show zc _ _ from gD
 have PD:=dD (P9.grew gD);have QD:=dD (Q9.grew gD);have AD:=dD (A9.grew gD);have KD:=dD (K9.grew gD);have GD:=dD (G9.trans gD);clear gD hne hu0 hu1 hu2 hu3 hu4 hu5 hu6 hu7 hu8 hu9 hu10 hv0 hv1 hv2 hv3 hv4 hv5 hv6 hv7 hv8 hv9 hv10;have x7:=PD.box.c 7 rfl;(try simp only[Sli.x]at x7);rw[HN7.out,HFN.out]at x7;go_upto_region 18 with fail;clear x7
 go_loopg [109] fn (fun gg s109 wr=>∃jj:Nat,jj<=fn/\fn - jj<=gg/\s109=I6 jj/\Hid (zc WD wr))
 case atStart=>exact⟨0,nZ _,by omega,rfl,zc.refl _⟩
 obtain⟨jj,hjj,hgg2,rfl,GV⟩:=hrel
 by_cases hlt:jj<fn
 ·have hltz2:(jj:Int)< (fn:Int):=by omega
  have P10:=dD (PD.grew GV);have Q10:=dD (QD.grew GV);have hc:=zbe ⟨kv1,kv2,kv3,kv4,kv5,kv6,kv7,kv8,⟨some ae,vn,vc⟩⟩ m jj wr (AD.grew GV) HRT.w;obtain⟨x0,x1,x2,x3,x4,x5,x6,x7,x8,x9,x10⟩:=P10.box.c11;go_wp2_with fail;refine hc.mono ?_;clear hc x0 x1 x2 x3 x4 x5 x6 x7 x8 x9 x10;rintro r W11 ⟨⟨ua',rfl,owa⟩,g11⟩;obtain⟨aa,ca,rfl⟩:=owa.form;have RA:Hid (zr byE W11 (.slice aa (Zb m jj).length ca) (Zb m jj)):=owa.at;have Q11:=dD (Q10.grew g11);have K11:=dD ((KD.grew GV).grew g11);have G11:=dD (GV.trans g11);clear owa g11;have hc:=zbe ⟨ku1,ku2,ku3,ku4,ku5,ku6,ku7,ku8,⟨some ad,un,uc⟩⟩ X jj W11 K11 HFK.rt.w;have HBS:Hid (Zb X (jj:Int)=Zb m (jj:Int)):=HFK.bytes HRT jj;obtain⟨x0,x1,x2,x3,x4,x5,x6,x7,x8,x9,x10⟩:=Q11.box.c11;go_wp2_with fail;refine hc.mono ?_;clear hc x0 x1 x2 x3 x4 x5 x6 x7 x8 x9 x10;rintro r W12 ⟨⟨ub,rfl,owb⟩,g12⟩;rw[HBS.out]at owb;obtain⟨ab,cb,rfl⟩:=owb.form;have RB:Hid (zr byE W12 (.slice ab (Zb m jj).length cb) (Zb m jj)):=owb.at;have G12:=dD (G11.trans g12);have hs1:=zcm (RA.grew g12);have hs2:=zcm RB.out;clear owb g12;obtain⟨bn,HBN⟩:∃bn,Hid ((Zb m (jj:Int)).length=bn):=⟨_,rfl⟩;rw[HBN.out]at hs1 hs2⊢
  generalize strOfNums (Zb m (jj:Int))=str at hs1 hs2
  go_wp2;clear hs1 hs2
  go_roundg (fn -(jj+1))
  case measure=>omega
  exact⟨jj+1,by omega,by omega,by go_num,G12⟩
 have hltz2:¬(jj:Int)< (fn:Int):=by omega
 have:jj=fn:=by omega
 subst this;have G10:=dD (GD.trans GV);go_wp2;go_ret;exact⟨rfl,G10⟩
end
section
open Go.ChangeShapes Go.WideShapes Go.ChangeAt Go.RowKit
theorem zmr:Tryz.prog.cellsOf 3=1:=by kernel_rfl
theorem zms:Tryz.prog.cellsOf 5=1:=by kernel_rfl
theorem zmt:Tryz.prog.cellsOf 23=3:=by kernel_rfl
theorem zmu:Tryz.prog.bytesOf 5=1:=by kernel_rfl
section
variable{H:Type} {enc:TypeId × Value->H} {w:World} {base:Nat} {spare:Nat->Bool} {held:Bool}
theorem zc8 {α:Type} {enc0:α->List Value} {k:Nat}:∀(l:List α) (x:Addr),(∀a∈l,(enc0 a).length=k)->(∀(i:Nat) a,l[i]? =some a->jp w (x.add (i*k)) (enc0 a))->jp w x (l.flatMap enc0)
 | [],x,_,_=>fun j u hj=>by simp at hj
 | a :: l,x,hk,h=>fun j u hj=>by
  rw[List.flatMap_cons]at hj;have ha:=hk a (by simp)
  rcases Nat.lt_or_ge j k with hjk|hjk
  ·rw[List.getElem?_append_left (by omega)]at hj
   have:=h 0 a rfl j u hj;rw[zU]at this
   simpa using this
  rw[aR (by omega),ha]at hj
  have ih:=zc8 l (x.add k) (fun b hb=>hk b (by simp[hb])) (fun i b hi=>by
   have:=h (i+1) b (by simpa using hi)
   rw[zU];rw[show k+i*k=(i+1)*k by rw[Nat.add_mul];omega]
   exact this) (j - k) u hj
  rw[zU,show k+(j - k)=j by omega]at ih
  exact ih
theorem zjv {α:Type} [Inhabited α] (enc0:α->List Value) (Q:α->Prop) (k:Nat) (hu:Tryz.prog.underlying t=some (.slice e)) (hk:Tryz.prog.cellsOf e=k) (helem:∀n cs (x:DataW H × List MemPlace),cs.length=k->DataW.trod enc prog w base spare held n e cs=some x->∃a,Q a/\cs=enc0 a)
  {fuel:Nat} {cs:List Value} {x:DataW H × List MemPlace} (h:DataW.trod enc prog w base spare held fuel t cs=some x):
  ∃v l,cs=[v]/\Zn enc0 w v l/\(∀a∈l,Q a/\(enc0 a).length=k)/\(l=[]\/∃es sp,x.1= .slice es sp/\es.length=l.length):=by
 rcases Go.Deep.open_slice hu h with⟨rfl,_⟩|⟨a,len,cap,m,n,D,Pl,rfl,hb,hl,hm,hm',hx,hel⟩
 ·exact⟨_,[],rfl,⟨none,0,rfl,fun _=>rfl,fun x hx=>by cases hx⟩,by simp,.inl rfl⟩
 have hlm:len<=m:=by rw[hm'];split <;> omega
 have hex:∀i,i<len->∃a0,Q a0/\(enc0 a0).length=k/\jp w (a.add (i*k)) (enc0 a0):=fun i hi=>by
  obtain⟨cs',h1,h2⟩:=hel i (by omega)
  rw[hk]at h1;obtain⟨_,hcl,hcc⟩:=World.cells?_some h1;obtain⟨a0,hq,rfl⟩:=helem _ _ _ hcl h2;refine⟨a0,hq,hcl,fun j u hj=>?_⟩
  have hj':j<k:=by rw[<-hcl];exact(gS.1 hj).1
  rw[hcc j hj'];exact hj
 obtain⟨f,hf⟩:=Go.Deep.choose_lt hex;refine⟨_,(List.range len).map f,rfl,⟨some a,cap,by simp,fun h=>(by cases h),fun y hy=>?_⟩,fun b hb=>?_,.inr ⟨_,_,by rw[hx],by simp⟩⟩
 ·cases hy;refine zc8 (k:=k) _ _ (fun b hb=>?_) (fun i b hi=>?_)
  ·obtain⟨i,hi,rfl⟩:=List.mem_map.1 hb;exact(hf i (List.mem_range.1 hi)).2.1
  have hil:i<len:=by have:=(gS.1 hi).1;simpa using this
  simp[hil]at hi
  subst hi;exact(hf i hil).2.2
 obtain⟨i,hi,rfl⟩:=List.mem_map.1 hb;have:=hf i (List.mem_range.1 hi);exact⟨this.1,this.2.1⟩
theorem zg8 {b0:Nat} {r:Reach} {v:Value} {d:DataW H} {p:List MemPlace} (hv:Value.okWide prog w r b0 24 v) (h:DataW.Trod enc prog w base spare held 24 v d p) (hw:∀n∈d.weights prog 24,n<=reachBytes):
  ∃(vl:Sli) (s:List Int),v=vl.x/\zr byE w (vl.x) s/\vl.n<=vl.c/\∀z∈s,0<=z/\z<256:=by
 obtain⟨fuel,hf⟩:=h;obtain⟨v0,ps,e0,s0,q0,w0⟩:=zjv byE.enc (fun z=>0<=z/\z<256) 1 underlying24 zms (fun n cs x _ ht=>by
  obtain⟨z,hz,hz2,hz3⟩:=DataW.trod_int underlying5 ht;refine⟨z,?_,hz⟩;have:=hz3;simp only[Lit.wf,Bool.and_eq_true,decide_eq_true_eq]at this;have e1:IntKind.u8.min=0:=rfl;have e2:IntKind.u8.max=255:=rfl;rw[e1,e2]at this;exact⟨this.1,by have:=this.2;omega⟩) hf
 obtain⟨a,c,rfl,s2,s3⟩:=s0;obtain⟨a1,l1,c1,rfl⟩:=okWide_slice underlying24 hv;have e1:Value.slice a1 l1 c1= .slice a ps.length c:=by simpa [Value.cells]using e0
 cases e1;refine⟨⟨a,ps.length,c⟩,ps,rfl,⟨⟨a,c,rfl,s2,s3⟩,?_⟩,?_,fun z hz=>(q0 z hz).1⟩
 ·rcases w0 with rfl|⟨es,sp,he,hel⟩
  ·show 0*1<=_
   omega
  have he':d= .slice es sp:=he;have:=hw ((es.length+sp.length)*Tryz.prog.bytesOf 5) (by rw[he'];simp[DataW.weights,underlying24])
  rw[zmu]at this;unfold reachBytes at this
  show ps.length*1<=_
  omega
 rcases Go.Deep.open_slice underlying24 hf with⟨h1,_⟩|⟨a',len,cap,_,_,_,_,h1,_,hl,_⟩
 ·have e2:Value.slice a ps.length c=eS:=by simpa [Value.cells]using h1
  simp only[vJ]at e2
  show ps.length<=c
  omega
 have e2:Value.slice a ps.length c= .slice (some a') len cap:=by simpa [Value.cells]using h1
 simp only[vJ]at e2
 show ps.length<=c
 omega
theorem zfP {b0:Nat} {r:Reach} {v:Value} {d:DataW H} {p:List MemPlace} (hv:Value.okWide prog w r b0 23 v) (h:DataW.Trod enc prog w base spare held 23 v d p):∃F S B:Int,v= .agg #[I6 F,I6 S,I6 B]:=by
 obtain⟨cs,rfl,hsz,_⟩:∃cs,v= .agg cs/\cs.size=Tryz.prog.cellsOf 23/\Row.okWide prog w r b0 23 cs:=by
  simpa [Value.okWide,underlying23]using hv
 obtain⟨fuel,hf⟩:=h;obtain⟨xs,n,_,_,hlen,hl,hf⟩:=DataW.trod_struct underlying23 hf;rw[zmt]at hlen;have hxl:xs.length=3:=hl;obtain⟨cs⟩:=cs;simp only[Value.cells]at hlen hf;have h0:DataW.trod enc prog w base spare held n 3 ((cs.drop 0).take (Tryz.prog.cellsOf 3))=xs[0]?:=hf 0 _ rfl;have h1:DataW.trod enc prog w base spare held n 3 ((cs.drop 1).take (Tryz.prog.cellsOf 3))=xs[1]?:=hf 1 _ rfl;have h2:DataW.trod enc prog w base spare held n 3 ((cs.drop 2).take (Tryz.prog.cellsOf 3))=xs[2]?:=hf 2 _ rfl;rw[zmr]at h0 h1 h2;rw[gE (by omega)]at h0 h1 h2
 obtain⟨r0,e0,_,_⟩:=DataW.trod_int underlying3 h0;obtain⟨r1,e1,_,_⟩:=DataW.trod_int underlying3 h1;obtain⟨r2,e2,_,_⟩:=DataW.trod_int underlying3 h2;obtain⟨c0,c1,c2,rfl⟩:∃c0 c1 c2,cs=[c0,c1,c2]:=by
  match cs,hlen with
  | [c0,c1,c2],_=>exact⟨c0,c1,c2,rfl⟩
 simp only[List.drop_succ_cons,List.drop_zero,List.take_succ_cons,List.take_zero,List.cons.injEq,and_true]at e0 e1 e2;subst e0 e1 e2;exact⟨r0,r1,r2,rfl⟩
end
theorem own:ownKnob Tryz.prog.godebug=none:=by kernel_rfl
theorem laidOut:laidOutB prog=true:=by kernel_rfl
theorem zca (os:Os) (started:os.Started) (H:Type) (enc:TypeId × Value->H):
  ReturnsInHanded {} Tryz.checked os 3 .any (Rows.forkSameSpec.pre6 enc prog Tryz.f3 Rows.forkSameRow.domain false) (Rows.forkSameSpec.post enc prog Tryz.f3 false true false false):=by
 refine returnsInHanded_of_change_sized (C:=Tryz.checked) own started (by kernel_rfl) func3
  (ChangeSpec.witness6 (enc:=enc) (C:=Tryz.checked) false ⟨#[],#[.agg #[I6 0,I6 0,I6 0],eS,I6 0],[]⟩ 8 (by kernel_rfl) (by kernel_rfl) (by kernel_rfl) (by kernel_rfl)) ?_
 intro W base args ds gs before hval0 hW hcnd hsz0 _;have hsz:(DataW.weightsEach prog (Tryz.f3.params.toList++Rows.forkSameSpec.plain.varTypes prog) (ds++gs)).all (·<=reachBytes)=true:=hsz0;have hval:∀(j:Nat) t v,Tryz.f3.params[j]? =some t->args[j]? =some v->Value.okWide prog W .any base t v:=hval0;have hW':=hW;obtain⟨p,q,hA0,hV,rfl,hfz,hnd⟩:=hW;have hA:DataW.TrodAll enc prog W 0 (fun _=>true) true Tryz.f3.params.toList args.toList ds p:=hA0
 rw[Tryz.params3]at hA hval hsz;obtain⟨v0,vs0,d0,ds0,p0,q0,hargs,rfl,rfl,k0,r0⟩:=trodAll_cons hA;obtain⟨v1,vs1,d1,ds1,p1,q1,rfl,rfl,rfl,k1,r1⟩:=trodAll_cons r0;obtain⟨v2,vs2,d2,ds2,p2,q2,rfl,rfl,rfl,k2,r2⟩:=trodAll_cons r1;obtain⟨rfl,rfl,rfl⟩:=trodAll_nil r2;obtain rfl:args=#[v0,v1,v2]:=by cases args;simp_all
 obtain⟨rfl,rfl⟩:=trodVars_none hV;have lt0:∀x∈p0,x.block<W.heap.size:=by obtain⟨m,hm⟩:=k0;exact DataW.trod_lt m _ _ _ hm
 have lt1:∀x∈p1,x.block<W.heap.size:=by obtain⟨m,hm⟩:=k1;exact DataW.trod_lt m _ _ _ hm
 have lt2:∀x∈p2,x.block<W.heap.size:=by obtain⟨m,hm⟩:=k2;exact DataW.trod_lt m _ _ _ hm
 obtain⟨cF,cS,cB,hce⟩:=zfP (hval 0 23 v0 rfl rfl) k0;subst hce;obtain⟨vl,ll,hvl,hrow,hcap,hbyt⟩:=zg8 (hval 1 24 v1 rfl rfl) k1 (fun n hn=>by
  have:=List.all_eq_true.1 hsz n (DataW.weights_mem_each (j:=1) (t:=24) (d:=d1) rfl rfl n hn)
  simpa using this)
 subst hvl;have k2':=k2;obtain⟨n2,rfl,rfl,rfl,w2⟩:=open_int underlying3 (hval 2 3 v2 rfl rfl) k2;clear hA0 hval0 hsz0;refine(zfE cF cS cB vl ll n2 W hrow hcap hbyt).mono fun e W' ⟨he,bel⟩=>?_
 subst he;have stay:∀{t:TypeId} {v:Value} {d:DataW H} {ps:List MemPlace},Tryz.prog.readableRec t=true->t<Tryz.prog.types.size->DataW.Trod enc prog W 0 (fun _=>true) true t v d ps->(∀x∈ps,x.block<W.heap.size)->DataW.Trod enc prog W' 0 (fun b=>decide (b<W.heap.size)) true t v d ps:=
  fun h1 h2 h3 h4=>Below.trod laidOut h1 h2 h3 bel h4
 exact⟨_,rfl,_,_,_,[],_,[],hW',trodAll_mk1 (shut_bool underlying4 _),(trodAll_cons_mk (stay (by kernel_rfl) (of_decide_eq_true (by kernel_rfl)) k0 lt0) (trodAll_cons_mk (stay (by kernel_rfl) (of_decide_eq_true (by kernel_rfl)) k1 lt1) (trodAll_cons_mk (stay (by kernel_rfl) (of_decide_eq_true (by kernel_rfl)) k2' lt2) trodAll_mk0))),rfl,Below.frame bel _,fun h=>by cases h⟩
theorem zd0:Rows.forkSameRow.holds Tryz.pinned (OpenSpec.ofChange Rows.forkSameSpec):=
 OpenClaim.holds_of_wide 3 Tryz.f3 rfl rfl rfl rfl rfl rfl rfl ⟨rfl,rfl,rfl,rfl,rfl⟩ rfl rfl rfl rfl rfl (by kernel_rfl) func3 (by kernel_rfl)
  (of_decide_eq_true (by kernel_rfl)) (by unfold Func.isWrapper;first | (rw[if_pos (by decide+kernel)];kernel_rfl) | (rw[if_neg (by decide+kernel)];exact⟨rfl,rfl⟩))
  (fun os started H enc _=>zca os started H enc)
theorem forkSame_holds:Rows.ForkSameSaid:=zd0
#print axioms forkSame_holds
end
end Go.Proofs.YtdgccecjbpgmfaaGreat
