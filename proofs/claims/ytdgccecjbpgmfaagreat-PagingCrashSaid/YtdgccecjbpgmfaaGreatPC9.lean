import Derived.Test.YtdgccecjbpgmfaaGreatPC8
import Derived.Deep.DeepCutAuto
import Derived.Laws.StructEq
import Derived.BigQuiet
import Derived.WalkSmall
import Derived.Laws.BytesArg
namespace Go.Proofs.YtdgccecjbpgmfaaGreat
set_option maxRecDepth 100000
set_option maxHeartbeats 4000000
section
open Go.RowKit
def zfv (all:Bool) (m:Int) (j:Nat):Bool:=all || jD m j
theorem zit (m:Int) (k:Nat):m / 2 ^ k / 2=m / 2 ^(k+1):=by
 rw[Int.ediv_ediv_of_nonneg (by exact Int.pow_nonneg (by decide)),Int.pow_succ]
theorem zeV (d:Value) (ps:List (List Int)) (qs:List (Int × List Int)) (m:Int) (all:Bool) (w:World) (hd:ZD w d ps qs):
  Calls Tryz.prog 40 #[d,.int .i64 m,.bool all] w fun e w'=>∃d',e= .returned (.tuple #[d',.int .i64 (zy ps.length qs)])/\qM w.heap.size w' d' (Qd (zfv all m) ps qs) []/\zc w w':=by
 obtain⟨b,q,rfl,hb,hq⟩:=hd;have HB:Hid (qt w b ps):=hb;have HQ:Hid (qK w q qs):=hq;obtain⟨ab,cb,rfl,_⟩:=hb.rows;obtain⟨aq,cq,rfl,hrow⟩:=hq.rows;have HR:Hid (ZA w aq qs):=hrow;clear hb hq hrow;have HK:Hid (Qd (zfv all m) ps qs=if zy ps.length qs=0 then qn (zfv all m) qs 0 ps else []):=rfl;obtain⟨nb,HNB⟩:∃nb,Hid (ps.length=nb):=⟨_,rfl⟩;obtain⟨kq,HNQ⟩:∃kq,Hid (qs.length=kq):=⟨_,rfl⟩;have hcon:∀W,zc w W->Calls Tryz.prog 83 #[.agg #[.slice ab nb cb,.slice aq kq cq]] W fun e w'=>e= .returned (.int .i64 (zy ps.length qs))/\zc W w':=fun W hW=>by
  rw[<-HNB.out,<-HNQ.out];exact jY ab ps.length cb _ qs W (HQ.out.grew hW)
 rw[HNB.out]at HB;rw[HNB.out,HNQ.out];obtain⟨r,HW⟩:∃r,Hid (zy ps.length qs=r):=⟨_,rfl⟩;rw[HW.out]at HK;simp only[HW.out]at hcon;have HW':Hid (zy nb qs=r):=show zy nb qs=r by rw[<-HNB.out];exact HW.out
 rw[HW'.out];have HG0:Hid (zc w ((w.alloc (.cells #[.slice ab nb cb,.slice aq kq cq] 34)).alloc (.cells #[.slice none 0 0,.slice none 0 0] 34))):=show zc _ _ from(za _ _).trans (za _ _)
 by_cases hr:r=0
 ·subst hr;rw[if_pos rfl]at HK;obtain⟨hn80,hq400,hin⟩:=zbh HW.out;have HIN:Hid (∀q∈qs,∃i:Nat,q.1=(i:Int)/\i<ps.length):=hin;have hnq:kq<=400:=by rw[<-HNQ.out];exact hq400
  have H80:Hid (ps.length<=80):=hn80;clear hin hq400 hn80
  go_enter Tryz.func40,Tryz.ntmps40
  go_wp2_with (first
   | (go_at_call 83;refine(hcon _ HG0.out).mono ?_;clear hcon;rintro e W1 ⟨rfl,hg1⟩;have e0:W1.cell? ⟨w.heap.size,0,none⟩=some (.slice ab nb cb):=(Below.cell hg1 (by simp;omega)).trans (by simp);have e1:W1.cell? ⟨w.heap.size,1,none⟩=some (.slice aq kq cq):=(Below.cell hg1 (by simp;omega)).trans (by simp);have HG1:=dD (HG0.out.trans hg1)
      have el:w.heap.size<W1.heap.size:=(World.block_lt_of_cell? _ _ e0))
   | (refine JP rfl (.tmp 20) (.tmp 22) rfl W1.heap.size _ [] rfl (zc1 W1) (.slice ab nb cb) ps rfl (HB.out.grew (HG1.out.trans (za W1 _))) (by have:=H80.out;simp;omega) (by simp) ?_
      intro v W2 ow gr;have OW:Hid (zj W1.heap.size W2 v ps):=ow;have HG12:Hid (zc W1 W2):=show zc W1 W2 from Below.grown (za W1 _) gr (by simp) (fun k hk=>by cases hk;exact nR _)
      have j1:W2.cell? ⟨w.heap.size,1,none⟩=some (.slice aq kq cq):=(Below.cell HG12.out (World.block_lt_of_cell? _ _ e1)).trans e1;obtain⟨av,nv,cv,hvv⟩:=ow.slice;subst hvv;clear ow gr))
  have HG2:=dD (HG1.out.trans HG12.out);have HS1:Hid (w.heap.size+2<=W1.heap.size):=show _<=_ by have:=bS hg1;simpa using this
  have HS2:Hid (W1.heap.size<=W2.heap.size):=bS HG12.out;have c2:W2.cell? ⟨w.heap.size+1,0,none⟩=some (.slice none 0 0):=(Below.cell (hg1.trans HG12.out) (by simp)).trans (by simp)
  have c3:W2.cell? ⟨w.heap.size+1,1,none⟩=some (.slice none 0 0):=(Below.cell (hg1.trans HG12.out) (by simp)).trans (by simp)
  have f2:W2.frozen? ⟨w.heap.size+1,0,none⟩=false:=(Below.frozen (hg1.trans HG12.out) (by simp)).trans (by simp)
  have f3:W2.frozen? ⟨w.heap.size+1,1,none⟩=false:=(Below.frozen (hg1.trans HG12.out) (by simp)).trans (by simp)
  have C2:Hid (W2.cell? ⟨w.heap.size+1,0,none⟩=some (.slice none 0 0)):=c2;have C3:Hid (W2.cell? ⟨w.heap.size+1,1,none⟩=some (.slice none 0 0)):=c3;have F2:Hid (W2.frozen? ⟨w.heap.size+1,0,none⟩=false):=f2;have F3:Hid (W2.frozen? ⟨w.heap.size+1,1,none⟩=false):=f3;have HL:Hid (∀(j:Nat) q,qs[j]? =some q->qs.drop j=q :: qs.drop (j+1)):=show∀(j:Nat) q,_ from fun j q h=>by
   obtain⟨hlt,rfl⟩:=gS.1 h;exact List.drop_eq_getElem_cons hlt
  clear e0 e1 j1 hg1 c2 c3 f2 f3 el
  go_loopg [10,11,12,13,27] kq (fun gg _ _ _ _ s27 wr=>∃(kk:Nat) (pk:List (List Int)),kk<=kq/\kq - kk<=gg/\s27= .int .i64 kk/\Hid (Below W1.heap.size W2 wr)/\Hid (zj W1.heap.size wr (.slice av nv cv) pk)/\Hid (pk.length=nb)/\Hid (qn (zfv all m) (qs.drop kk) kk pk=qn (zfv all m) qs 0 ps))
  case atStart=>exact⟨0,ps,nZ _,by omega,rfl,bR _ _,OW.out,HNB.out,rfl⟩
  obtain⟨kk,pk,hkk,hgg,rfl,BW,OP,HP,HST⟩:=hrel;have GW:Hid (zc w wr):=show zc w wr from Below.trans HG2.out (BW.out.mono (by have:=HS1.out;omega))
  by_cases hlt:kk<kq
  ·have hltz:(kk:Int)< (kq:Int):=by omega
   obtain⟨q,HQK⟩:∃q,Hid (qs[kk]? =some q):=⟨_,gE (by rw[HNQ.out];exact hlt)⟩
   obtain⟨x,mq,b0,b1,b2,b3,b4,b5,b6,b7,rfl,rfl,hl⟩:=HR.out kk q HQK.out;obtain⟨d0,d1,d2,d3,d4,d5,d6,d7,d8⟩:=hl wr GW.out;obtain⟨i,hmi,hi⟩:=HIN.out _ (mG HQK.out);simp only at hmi;subst hmi;have hinb:i<nb:=by rw[<-HNB.out];exact hi
   have hib:(i:Int)< (nb:Int):=by omega
   have hi0:(0:Int)<=(i:Int):=by omega
   have HN:Hid (qs.drop kk=((i:Int),[b0,b1,b2,b3,b4,b5,b6,b7]) :: qs.drop (kk+1)):=HL.out kk _ HQK.out;clear hl hi;obtain⟨gv,cap,hav,hgv⟩:∃gv cap,Value.slice av nv cv= .slice (some ⟨gv,0,none⟩) nb cap/\W1.heap.size<=gv:=by
    rcases OP.out.1.2 with⟨_,h0⟩ | ⟨gv,cap,cur,h0,h1,_⟩
    ·have:=HP.out;omega
    exact⟨gv,cap,by rw[h0,HP.out],h1⟩
   have HGV:Hid (W1.heap.size<=gv):=hgv;cases hav;clear hgv;obtain⟨W3,hW3⟩:∃W3,wr.alloc (.cells #[.int .i64 (i:Int),.int .u8 b0,.int .u8 b1,.int .u8 b2,.int .u8 b3,.int .u8 b4,.int .u8 b5,.int .u8 b6,.int .u8 b7] 103)=W3:=⟨_,rfl⟩;have B3:=xA hW3
   have g3:=gA hW3
   have OP3:=dD (OP.out.grew g3.out);have HW3:Hid (_=W3):=hW3;clear hW3;go_wp2;rw[HW3.out];clear d0 d1 d2 d3 d4 d5 d6 d7 d8
   go_loopg [12,13] (kk % 60) (fun gg s12 s13 wr'=>∃k:Nat,k<=kk % 60/\kk % 60 - k<=gg/\s12= .int .i64 (m / 2 ^ k)/\s13= .int .i64 k/\W3=wr')
   case atStart=>exact⟨0,nZ _,by omega,by simp,rfl,rfl⟩
   obtain⟨k,hk60,hgk,rfl,rfl,rfl⟩:=hrel
   by_cases hk:k<kk % 60
   ·have hkz:(k:Int)< (kk:Int) % 60:=by omega
    go_wp2
    go_roundg (kk % 60 -(k+1))
    case measure=>omega
    exact⟨k+1,by omega,by omega,(by rw[<-zit]),by go_num,rfl⟩
   have hkz:¬(k:Int)< (kk:Int) % 60:=by omega
   have hke:k=kk % 60:=by omega
   subst hke;have hstep:∀(kp:Bool),Hid (zfv all m kk=kp)->Hid (qn (zfv all m) (qs.drop (kk+1)) (kk+1) (if kp then pk.set i [b0,b1,b2,b3,b4,b5,b6,b7]else pk)=qn (zfv all m) qs 0 ps):=fun kp hkp=>show _=_ by
    rw[<-HST.out,HN.out]
    simp[qn,hkp.out]
   have y0:=B3.out.c 0 rfl;have y1:=B3.out.c 1 rfl;have y2:=B3.out.c 2 rfl;have y3:=B3.out.c 3 rfl;have y4:=B3.out.c 4 rfl;have y5:=B3.out.c 5 rfl;have y6:=B3.out.c 6 rfl;have y7:=B3.out.c 7 rfl;have y8:=B3.out.c 8 rfl;have HB3:Hid (Below W1.heap.size W2 W3):=show Below _ _ _ from zdq BW.out (by have:=BW.out.size;have:=HS2.out;omega) g3.out
   have HZ3:Hid (W1.heap.size<=W3.heap.size):=show _<=_ by have:=HB3.out.size;have:=HS2.out;omega
   cases hk':zfv all m kk with
   | true=>
    have hst:Hid (qn (zfv all m) (qs.drop (kk+1)) (kk+1) (pk.set i [b0,b1,b2,b3,b4,b5,b6,b7])=qn (zfv all m) qs 0 ps):=hstep true hk'
    cases all with
    | true=>
     go_wp2_with (refine jb rfl (.tmp 52) (.tmp 51) rfl W1.heap.size _ pk OP3.out gv i rfl (by rw[HP.out];exact hinb) [b0,b1,b2,b3,b4,b5,b6,b7] rfl _ rfl (by simp) rfl ?_;intro W4 ow4 gr4 sz4)
     go_roundg (kq -(kk+1))
     case measure=>omega
     exact⟨kk+1,_,by omega,by omega,by go_num,Below.grown HB3.out gr4 HZ3.out (fun k hk=>by cases hk;exact HGV.out),ow4,(show Hid _ from by rw[List.length_set];exact HP.out),hst.out⟩
    | false=>
     have hbit:(bits BinOp.and IntKind.i64 (m / 2 ^(kk % 60)) 1 == 1)=true:=hk'
     go_wp2_with (refine jb rfl (.tmp 52) (.tmp 51) rfl W1.heap.size _ pk OP3.out gv i rfl (by rw[HP.out];exact hinb) [b0,b1,b2,b3,b4,b5,b6,b7] rfl _ rfl (by simp) rfl ?_;intro W4 ow4 gr4 sz4)
     go_roundg (kq -(kk+1))
     case measure=>omega
     exact⟨kk+1,_,by omega,by omega,by go_num,Below.grown HB3.out gr4 HZ3.out (fun k hk=>by cases hk;exact HGV.out),ow4,(show Hid _ from by rw[List.length_set];exact HP.out),hst.out⟩
   | false=>
    have hst:Hid (qn (zfv all m) (qs.drop (kk+1)) (kk+1) pk=qn (zfv all m) qs 0 ps):=hstep false hk'
    cases all with
    | true=>exact absurd hk' (by simp[zfv])
    | false=>
     have hbit:(bits BinOp.and IntKind.i64 (m / 2 ^(kk % 60)) 1 == 1)=false:=hk';go_wp2
     go_roundg (kq -(kk+1))
     case measure=>omega
     exact⟨kk+1,pk,by omega,by omega,by go_num,HB3.out,OP3.out,HP.out,hst.out⟩
  have hltz:¬(kk:Int)< (kq:Int):=by omega
  have:kk=kq:=by omega
  subst this;have c2:wr.cell? ⟨w.heap.size+1,0,none⟩=some (.slice none 0 0):=(Below.cell BW.out (p:=⟨w.heap.size+1,0,none⟩) (by have:=HS1.out;show w.heap.size+1<_;omega)).trans C2.out
  have c3:wr.cell? ⟨w.heap.size+1,1,none⟩=some (.slice none 0 0):=(Below.cell BW.out (p:=⟨w.heap.size+1,1,none⟩) (by have:=HS1.out;show w.heap.size+1<_;omega)).trans C3.out
  have f2:wr.frozen? ⟨w.heap.size+1,0,none⟩=false:=(Below.frozen BW.out (p:=⟨w.heap.size+1,0,none⟩) (by have:=HS1.out;show w.heap.size+1<_;omega)).trans F2.out
  have f3:wr.frozen? ⟨w.heap.size+1,1,none⟩=false:=(Below.frozen BW.out (p:=⟨w.heap.size+1,1,none⟩) (by have:=HS1.out;show w.heap.size+1<_;omega)).trans F3.out
  go_wp2;refine bodyPost_ret (v:= .tuple #[.agg #[.slice av nv cv,.slice none 0 0],.int .i64 0]) (by simp[results,Tryz.results40,go_sem, *]) rfl ⟨_,rfl,⟨_,_,rfl,?_,ze2 _,fun x n c e=>nT (by have:=HS1.out;omega) (OP.out.fresh x n c e),jJ _⟩,?_⟩
  ·rw[HK.out];have e:qn (zfv all m) qs 0 ps=pk:=by
    rw[<-HST.out,List.drop_of_length_le (by rw[HNQ.out];exact nR _)]
    rfl
   rw[e];exact((OP.out.setCell (by have:=HS1.out;show w.heap.size+1<_;omega) _).setCell (by have:=HS1.out;show w.heap.size+1<_;omega) _).at
  exact Below.setCell (Below.setCell GW.out (p:=⟨w.heap.size+1,0,none⟩) (by simp) _) (p:=⟨w.heap.size+1,1,none⟩) (by simp) _
 have hne:(r != 0)=true:=by simpa using hr
 rw[if_neg hr]at HK
 go_enter Tryz.func40,Tryz.ntmps40
 go_wp2_with (go_at_call 83;refine(hcon _ HG0.out).mono ?_;rintro e W1 ⟨rfl,hg1⟩
              have c2:W1.cell? ⟨w.heap.size+1,0,none⟩=some (.slice none 0 0):=(Below.cell hg1 (by simp)).trans (by simp)
              have c3:W1.cell? ⟨w.heap.size+1,1,none⟩=some (.slice none 0 0):=(Below.cell hg1 (by simp)).trans (by simp)
              have f2:W1.frozen? ⟨w.heap.size+1,0,none⟩=false:=(Below.frozen hg1 (by simp)).trans (by simp)
              have f3:W1.frozen? ⟨w.heap.size+1,1,none⟩=false:=(Below.frozen hg1 (by simp)).trans (by simp)
              have HG1:Hid (zc w W1):=HG0.out.trans hg1)
 refine bodyPost_ret (v:= .tuple #[.agg #[.slice none 0 0,.slice none 0 0],.int .i64 r]) (by simp[results,Tryz.results40,go_sem, *]) rfl ⟨_,rfl,?_,?_⟩
 ·rw[HK.out];exact zc3 _ _
 exact Below.setCell (Below.setCell HG1.out (p:=⟨w.heap.size+1,0,none⟩) (by simp) _) (p:=⟨w.heap.size+1,1,none⟩) (by simp) _
end
end Go.Proofs.YtdgccecjbpgmfaaGreat
