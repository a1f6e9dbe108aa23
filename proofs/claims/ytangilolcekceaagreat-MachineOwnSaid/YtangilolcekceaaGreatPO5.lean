import Derived.Test.YtangilolcekceaaGreatPO4
import Derived.ChangeKeysEq
namespace Go.Proofs.YtangilolcekceaaGreat
set_option maxRecDepth 100000
set_option maxHeartbeats 4000000
variable{B b cl i j:Nat} {Q:Exit->Act->World->Prop} {e t:TypeId} {l:List Ar} {m:Ma} {o:Oper} {ops:Array Oper} {w':World} {z:Int}
open Go.Proofs.Tryz
section
open Go.RowKit
theorem goJ_eq (x y:On):onEqB ⟨y.is,y.rd,y.wr,y.sh,y.file,if 0<=x.file then y.page+1 else y.page⟩ x=goJ x y:=by
 unfold onEqB goJ;have hd:∀x y:Int,(x == y)=decide (x=y):=fun x y=>rfl
 simp only[hd]
theorem refAreas_any (f:Nat->On) (w:World) (hg:Good f):
  Calls prog 145 #[.agg (cellsO (tab f)).toArray] w fun e w'=>(∃v,e= .returned v/\OwnRow arE (w.heap.size+1) w' v (joinL f))/\Grew w w':=by
 have HGD:Hid (Good f):=hg;clear hg;have HCL:Hid ((cellsO (tab f)).length=384):=tabO_len _;obtain⟨W0,hW0⟩:∃W0,w.alloc (.cells (cellsO (tab f)).toArray 97)=W0:=⟨_,rfl⟩;have HG0:=gA hW0
 have X0:=xA hW0
 have HS0:=sA hW0
 have HW0:Hid (_=W0):=hW0;clear hW0
 go_enter func145,ntmps145
 go_upto_region 1 with fail;rw[HW0.out]
 go_wp2_with (refine wp_loadAll rfl 97 (.tmp 1) rfl w.heap.size rfl X0.out underlying97 rfl (by rw[HCL.out];exact Tryz.sizeOnes) ?_)
 go_loopg [3,9] 64 (fun gg s3 s9 wr=>∃(kk:Nat) (acc:List Ar) (xa:Option Addr) (xc:Nat),kk<=64/\64 - kk<=gg/\s9= .int .i64 kk/\s3= .slice xa acc.length xc/\Hid (Grew W0 wr)/\Hid (OwnRow arE (w.heap.size+1) wr (.slice xa acc.length xc) acc)/\Hid (J f kk acc))
 case atStart=>exact⟨0,[],none,0,nZ _,by omega,rfl,rfl,Grew.refl _,OwnRow.nil _ _ _,J.zero f⟩
 obtain⟨kk,acc,xa,xc,hkk,hgg,rfl,rfl,BW,OW,JW⟩:=hrel
 by_cases hlt:kk<64
 ·have hltz:(kk:Int)<64:=by omega
  have HLEN:Hid (acc.length<=kk):=JW.out.len;have XW:=dD (X0.out.grew BW.out);obtain⟨p,HP⟩:∃p,Hid (wr.heap.size=p):=⟨_,rfl⟩;have HPW:Hid (wr.heap.size<=p):=show _<=_ by rw[HP.out];exact nR _
  cases hs:(f kk).is with
  | false=>
   have HIV:Hid (Value.agg (onv (f kk)).toArray= .agg #[.bool false,.bool (f kk).rd,.bool (f kk).wr,.bool (f kk).sh,.int .i64 (f kk).file,.int .i64 (f kk).page]):=dD<|by rw[<-hs];rfl
   have J2:Hid (J f (kk+1) acc):=JW.out.skip ((HGD.out kk hlt).1 hs);clear hs
   go_wp2_with (refine wp_idxOv rfl (.tmp 8) (.tmp 9) rfl f rfl kk rfl hlt HIV.out ?_)
   go_roundg (64 -(kk+1))
   case measure=>omega
   exact⟨kk+1,acc,xa,xc,by omega,by omega,by go_num,rfl,BW.out.trans (grew_alloc _ _),OW.out.grew (grew_alloc _ _),J2.out⟩
  | true=>
   have HS:Hid ((f kk).is=true):=hs;have HPF:Hid (arOf kk (f kk)=⟨kk,(kk:Int)+1,(f kk).rd,(f kk).wr,(f kk).sh,(f kk).file,(f kk).page⟩):=partF_is hs;have HNEW:Hid ((∀b,acc.getLast? =some b->goB (arOf kk (f kk)) b=false)->J f (kk+1) (acc++ [arOf kk (f kk)])):=fun h=>JW.out.new HGD.out hlt HS.out h
   have HEXT:Hid (∀i b,acc=i++ [b]->goB (arOf kk (f kk)) b=true->J f (kk+1) (i++ [{ b with tz:=(kk:Int)+1 }])):=fun i b h1 h2=>by
    have:=JW.out;rw[h1]at this;exact this.ext HGD.out hlt HS.out h2
   have HIV:Hid (Value.agg (onv (f kk)).toArray= .agg #[.bool true,.bool (f kk).rd,.bool (f kk).wr,.bool (f kk).sh,.int .i64 (f kk).file,.int .i64 (f kk).page]):=dD<|by rw[<-hs];rfl
   clear hs;obtain⟨x,HX⟩:∃x,Hid (f kk=x):=⟨_,rfl⟩;rw[HX.out]at HIV;have HIV2:Hid (Value.agg (onv (f kk)).toArray= .agg #[.bool true,.bool x.rd,.bool x.wr,.bool x.sh,.int .i64 x.file,.int .i64 x.page]):=dD<|by rw[HX.out];exact HIV.out
   go_upto_region 5 with(refine wp_idxOv rfl (.tmp 8) (.tmp 9) rfl f rfl kk rfl hlt HIV2.out ?_)
   obtain⟨W1,hW1⟩:∃W1,wr.alloc (.cells #[.bool true,.bool x.rd,.bool x.wr,.bool x.sh,.int .i64 x.file,.int .i64 x.page] 96)=W1:=⟨_,rfl⟩;have G1:=gT hW1 BW
   have O1:Hid (OwnRow arE (w.heap.size+1) W1 (.slice xa acc.length xc) acc):=dD<|by rw[<-hW1];exact OW.out.grew (grew_alloc _ _)
   have P1:=xP hW1 HP
   have X1:=yA hW1 XW
   rw[hW1,HP.out];clear hW1;have p0:=P1.out.c 0 rfl
   cases kk with
   | zero=>
    have HNIL:Hid (acc=[]):=JW.out.first;have J2:Hid (J f (0+1) (acc++ [⟨((0:Nat):Int),((0:Nat):Int)+1,x.rd,x.wr,x.sh,x.file,x.page⟩])):=show J _ _ _ by
     have:=HNEW.out (fun b hb=>by rw[HNIL.out]at hb;cases hb)
     rw[HPF.out,HX.out]at this;exact this
    go_upto_region 14 with fail;clear p0;have HSZ:Hid (w.heap.size+1<=W1.heap.size):=dD<|by rw[<-HS0.out];exact bS G1.out
    have p1:=P1.out.c 1 rfl;have p2:=P1.out.c 2 rfl;have p3:=P1.out.c 3 rfl;have p4:=P1.out.c 4 rfl;have p5:=P1.out.c 5 rfl
    go_wp2_with (at_builtin;refine wpList_append_row (E:=arE) rfl (.tmp 41) (.tmp 56) rfl (w.heap.size+1) _ acc rfl (O1.out.grew (grew_alloc _ _)) _ [⟨((0:Nat):Int),((0:Nat):Int)+1,x.rd,x.wr,x.sh,x.file,x.page⟩] rfl (one_row arE W1 ⟨((0:Nat):Int),((0:Nat):Int)+1,x.rd,x.wr,x.sh,x.file,x.page⟩ _ _ rfl (by show 40<=_;omega)) ?qb ?qc ?_)
    case qb=>
     show(acc.length+1)*40<=_
     have:=HLEN.out;omega
    case qc=>first | exact HSZ.out | exact nT HSZ.out (Nat.le_succ _) | (have:=HSZ.out;omega) | (simp;have:=HSZ.out;omega)
    intro vn Wn own grn;obtain⟨xan,xcn,rfl⟩:=own.form;have On':Hid (OwnRow arE (w.heap.size+1) Wn (.slice xan (acc++ [(⟨((0:Nat):Int),((0:Nat):Int)+1,x.rd,x.wr,x.sh,x.file,x.page⟩:Ar)]).length xcn) (acc++ [⟨((0:Nat):Int),((0:Nat):Int)+1,x.rd,x.wr,x.sh,x.file,x.page⟩])):=own;have Gn:Hid (Grew W0 Wn):=show Grew _ _ from grew_beside (G1.out.trans (grew_alloc _ _)) grn (fun g hg=>by
     have h1:=(O1.out.lt g hg).1;rw[HS0.out];exact h1)
    have Xn:=dD (X0.out.grew Gn.out);clear own grn p1 p2 p3 p4 p5;go_wp2
    go_roundg (64 -(0+1))
    case measure=>omega
    exact⟨0+1,acc++ [(⟨((0:Nat):Int),((0:Nat):Int)+1,x.rd,x.wr,x.sh,x.file,x.page⟩:Ar)],xan,xcn,by omega,by omega,by go_num,rfl,Gn.out,On'.out,J2.out⟩
   | succ j=>
    have hj64:j<64:=by omega
    have hj64z:(j:Int)<64:=by omega
    have hjz:(0:Int)< ((j+1:Nat):Int):=by omega
    have hj1:((j+1:Nat):Int) - 1=(j:Int):=by omega
    have HGO:=JW.out.go HS.out;obtain⟨y,HY⟩:∃y,Hid (f j=y):=⟨_,rfl⟩;have hyp:0<=y.page/\y.page<=12:=by
     rw[<-HY.out];have h1:=HGD.out j hj64
     cases hq:(f j).is with
     | false=>rw[h1.1 hq];exact⟨by decide,by decide⟩
     | true=>
      have h2:=h1.2 hq;unfold ArOk arOf at h2;rw[if_pos hq]at h2;simp only at h2
      rcases Int.lt_or_le (f j).file 0 with h|h
      ·omega
      omega
    obtain⟨hy0,hy1⟩:=hyp;have HYV:Hid (Value.agg (onv (f j)).toArray= .agg #[.bool y.is,.bool y.rd,.bool y.wr,.bool y.sh,.int .i64 y.file,.int .i64 y.page]):=dD<|by rw[HY.out];rfl
    have HGJ:=goJ_eq x y;rw[HX.out,HY.out]at HGO;have HGO':Hid _:=HGO;obtain⟨p7,HP7⟩:∃p7,Hid (W1.heap.size=p7):=⟨_,rfl⟩;have HPP:Hid (p<p7):=dD<|by rw[<-HP7.out];exact P1.out.lt
    go_upto_region 9 with(refine wp_loadOnv rfl (.tmp 20) rfl w.heap.size j hj64 rfl X1.out HYV.out ?_)
    clear p0;obtain⟨W2,hW2⟩:∃W2,W1.alloc (.cells #[.bool y.is,.bool y.rd,.bool y.wr,.bool y.sh,.int .i64 y.file,.int .i64 y.page] 96)=W2:=⟨_,rfl⟩;have G2:=gT hW2 G1
    have O2:Hid (OwnRow arE (w.heap.size+1) W2 (.slice xa acc.length xc) acc):=dD<|by rw[<-hW2];exact O1.out.grew (grew_alloc _ _)
    have P2:=yA hW2 P1
    have Y2:=xPT hW2 HP7
    rw[hW2,HP7.out];clear hW2;have p4:=P2.out.c 4 rfl
    by_cases hfile:0<=x.file
    ·rw[if_pos hfile]at HGJ;have HQ:=fun W=>on_eq y.is true y.rd x.rd y.wr x.wr y.sh x.sh y.file x.file (y.page+1) x.page W
     have HXT:Hid ((⟨true,x.rd,x.wr,x.sh,x.file,x.page⟩:On)=x):=dD<|by
      have h:=HS.out;rw[HX.out]at h;rw[<-h]
     rw[HXT.out,HGJ]at HQ;obtain⟨R,HR⟩:∃R,Hid (goJ x y=R):=⟨_,rfl⟩;rw[HR.out]at HQ HGO';have y5:=Y2.out.box.c 5 rfl;have yf:=Y2.out.box.f;go_upto_region 11 with fail;obtain⟨W3,hW3⟩:∃W3,W2.setCell ⟨p7,5,none⟩ (.int .i64 (y.page+1))=W3:=⟨_,rfl⟩;have HW0P:Hid (W0.heap.size<=p7):=dD<|by have h1:=HPP.out;have h2:=bS BW.out;have h3:=HPW.out;omega
     have G3:Hid (Grew W0 W3):=dD<|by rw[<-hW3];exact grew_set G2.out HW0P.out _
     have O3:Hid (OwnRow arE (w.heap.size+1) W3 (.slice xa acc.length xc) acc):=dD<|by rw[<-hW3];exact O2.out.setOther (fun g hg=>O2.out.ne Y2.out (by decide) g hg) _
     have P3:Hid (Box W3 p [.bool true,.bool x.rd,.bool x.wr,.bool x.sh,.int .i64 x.file,.int .i64 x.page]):=dD<|by rw[<-hW3];exact P2.out.other (by have:=HPP.out;simp;omega) _
     have Y3:Hid (Box W3 p7 [.bool y.is,.bool y.rd,.bool y.wr,.bool y.sh,.int .i64 y.file,.int .i64 (y.page+1)]):=dD<|by rw[<-hW3];exact Y2.out.box.set 5 _
     rw[hW3];clear hW3 y5 yf p4
     cases R with
     | true=>
      obtain⟨b,hlast,hgb⟩:=HGO'.out.1 rfl;have hacc:=snoc_of hlast;obtain⟨ini,hini⟩:∃ini,acc.dropLast=ini:=⟨_,rfl⟩;rw[hini]at hacc;have HACC:Hid (acc=ini++ [b]):=hacc;have J2:Hid (J f (j+1+1) (ini++ [{ b with tz:=((j+1:Nat):Int)+1 }])):=HEXT.out ini b hacc (by rw[HX.out];exact hgb)
      obtain⟨m,HM⟩:∃m,Hid (ini.length=m):=⟨_,rfl⟩;have HAL:Hid (acc.length=m+1):=dD<|by rw[HACC.out,<-HM.out];simp
      have HBI:Hid (acc[m]? =some b):=dD<|by rw[HACC.out,<-HM.out];simp
      obtain⟨g,xc',hxe⟩:=O3.out.formS (by rw[HAL.out];omega)
      cases hxe;have hmm:((m+1:Nat):Int) - 1=(m:Int):=by omega
      have hm0:(0:Int)<=(m:Int):=by omega
      have hmlt:(m:Int)< ((m+1:Nat):Int):=by omega
      have hmk:m+1<=64:=by have:=HLEN.out;rw[HAL.out]at this;omega
      clear hlast hgb hacc hini;rw[HAL.out]at O3⊢;have HSET:Hid (acc.set m { b with tz:=((j+1:Nat):Int)+1 }=ini++ [{ b with tz:=((j+1:Nat):Int)+1 }]):=dD<|by rw[HACC.out,List.set_append_right _ _ (by rw[HM.out];exact nR _),HM.out,Nat.sub_self];rfl
      go_wp2_with (first | refine wp_loadAll rfl 96 (.tmp 7) rfl p7 rfl Y3.out underlying96 rfl Tryz.sizeOne ?_ | refine wp_loadAll rfl 96 (.tmp 5) rfl p rfl P3.out underlying96 rfl Tryz.sizeOne ?_ | refine wpList_store_part (E:=arE) rfl (.tmp 40) (.tmp 38) 3 rfl (w.heap.size+1) (.slice (some ⟨g,0,none⟩) (m+1) xc) acc O3.out g m 1 rfl b { b with tz:=((j+1:Nat):Int)+1 } HBI.out [.int .i64 (((j+1:Nat):Int)+1)] (by kernel_rfl) rfl (Nat.le_of_ble_eq_true rfl) (by intro u hu;simp at hu;subst hu;rfl) _ rfl (by simp;rfl) _ rfl rfl ?_)
      intro W4 ow4 gr4 sz4;have HBG:=O3.out.lt g rfl;have G4:Hid (Grew W0 W4):=dD<|grew_grown G3.out gr4 (by rw[HS0.out];exact HBG.1)
      have HL4:Hid ((ini++ [({ b with tz:=((j+1:Nat):Int)+1 }:Ar)]).length=m+1):=dD<|by simp[HM.out]
      have O4:Hid (OwnRow arE (w.heap.size+1) W4 (.slice (some ⟨g,0,none⟩) (ini++ [({ b with tz:=((j+1:Nat):Int)+1 }:Ar)]).length xc) (ini++ [{ b with tz:=((j+1:Nat):Int)+1 }])):=dD<|by rw[HL4.out,<-HSET.out];exact ow4
      clear ow4 gr4 sz4;rw[<-HL4.out];go_wp2
      go_roundg (64 -(j+1+1))
      case measure=>omega
      exact⟨j+1+1,ini++ [({ b with tz:=((j+1:Nat):Int)+1 }:Ar)],some ⟨g,0,none⟩,xc,by omega,by omega,by go_num,rfl,G4.out,O4.out,J2.out⟩
     | false=>
      have J2:Hid (J f (j+1+1) (acc++ [⟨((j+1:Nat)),(((j+1:Nat)):Int)+1,x.rd,x.wr,x.sh,x.file,x.page⟩])):=dD<|by
       have:=HNEW.out (fun b hb=>by rw[HX.out];exact HGO'.out.2 rfl b hb)
       rw[HPF.out,HX.out]at this;exact this
      go_upto_region 14 with(first | refine wp_loadAll rfl 96 (.tmp 7) rfl p7 rfl Y3.out underlying96 rfl Tryz.sizeOne ?_ | refine wp_loadAll rfl 96 (.tmp 5) rfl p rfl P3.out underlying96 rfl Tryz.sizeOne ?_)
      have HSZ:Hid (w.heap.size+1<=W3.heap.size):=dD<|by rw[<-HS0.out];exact bS G3.out
      have p1:=P3.out.c 1 rfl;have p2:=P3.out.c 2 rfl;have p3:=P3.out.c 3 rfl;have p4:=P3.out.c 4 rfl;have p5:=P3.out.c 5 rfl
      go_wp2_with (at_builtin;refine wpList_append_row (E:=arE) rfl (.tmp 41) (.tmp 56) rfl (w.heap.size+1) _ acc rfl (O3.out.grew (grew_alloc _ _)) _ [⟨((j+1:Nat):Int),((j+1:Nat):Int)+1,x.rd,x.wr,x.sh,x.file,x.page⟩] rfl (one_row arE W3 ⟨((j+1:Nat):Int),((j+1:Nat):Int)+1,x.rd,x.wr,x.sh,x.file,x.page⟩ _ _ rfl (by show 40<=_;omega)) ?qb ?qc ?_)
      case qb=>
       show(acc.length+1)*40<=_
       have:=HLEN.out;omega
      case qc=>first | exact HSZ.out | exact nT HSZ.out (Nat.le_succ _) | (have:=HSZ.out;omega) | (simp;have:=HSZ.out;omega)
      intro vn Wn own grn;obtain⟨xan,xcn,rfl⟩:=own.form;have On':Hid (OwnRow arE (w.heap.size+1) Wn (.slice xan (acc++ [(⟨((j+1:Nat):Int),((j+1:Nat):Int)+1,x.rd,x.wr,x.sh,x.file,x.page⟩:Ar)]).length xcn) (acc++ [⟨((j+1:Nat):Int),((j+1:Nat):Int)+1,x.rd,x.wr,x.sh,x.file,x.page⟩])):=own;have Gn:Hid (Grew W0 Wn):=show Grew _ _ from grew_beside (G3.out.trans (grew_alloc _ _)) grn (fun g hg=>by
       have h1:=(O3.out.lt g hg).1;rw[HS0.out];exact h1)
      have Xn:=dD (X0.out.grew Gn.out);clear own grn p1 p2 p3 p4 p5;go_wp2
      go_roundg (64 -((j+1)+1))
      case measure=>omega
      exact⟨(j+1)+1,acc++ [(⟨((j+1:Nat):Int),((j+1:Nat):Int)+1,x.rd,x.wr,x.sh,x.file,x.page⟩:Ar)],xan,xcn,by omega,by omega,by go_num,rfl,Gn.out,On'.out,J2.out⟩
    rw[if_neg hfile]at HGJ;have HQ:=fun W=>on_eq y.is true y.rd x.rd y.wr x.wr y.sh x.sh y.file x.file y.page x.page W
    have HXT:Hid ((⟨true,x.rd,x.wr,x.sh,x.file,x.page⟩:On)=x):=dD<|by
     have h:=HS.out;rw[HX.out]at h;rw[<-h]
    rw[HXT.out,HGJ]at HQ;obtain⟨R,HR⟩:∃R,Hid (goJ x y=R):=⟨_,rfl⟩;rw[HR.out]at HQ HGO';go_upto_region 11 with fail;clear p4;have G3:Hid (Grew W0 W2):=G2;have O3:Hid (OwnRow arE (w.heap.size+1) W2 (.slice xa acc.length xc) acc):=O2;have P3:Hid (Box W2 p [.bool true,.bool x.rd,.bool x.wr,.bool x.sh,.int .i64 x.file,.int .i64 x.page]):=P2;have Y3:Hid (Box W2 p7 [.bool y.is,.bool y.rd,.bool y.wr,.bool y.sh,.int .i64 y.file,.int .i64 y.page]):=Y2.out.box;obtain⟨W3,hW3⟩:∃W3,W2=W3:=⟨_,rfl⟩;rw[hW3]at G3 O3 P3 Y3⊢;clear hW3
    cases R with
    | true=>
     obtain⟨b,hlast,hgb⟩:=HGO'.out.1 rfl;have hacc:=snoc_of hlast;obtain⟨ini,hini⟩:∃ini,acc.dropLast=ini:=⟨_,rfl⟩;rw[hini]at hacc;have HACC:Hid (acc=ini++ [b]):=hacc;have J2:Hid (J f (j+1+1) (ini++ [{ b with tz:=((j+1:Nat):Int)+1 }])):=HEXT.out ini b hacc (by rw[HX.out];exact hgb)
     obtain⟨m,HM⟩:∃m,Hid (ini.length=m):=⟨_,rfl⟩;have HAL:Hid (acc.length=m+1):=dD<|by rw[HACC.out,<-HM.out];simp
     have HBI:Hid (acc[m]? =some b):=dD<|by rw[HACC.out,<-HM.out];simp
     obtain⟨g,xc',hxe⟩:=O3.out.formS (by rw[HAL.out];omega)
     cases hxe;have hmm:((m+1:Nat):Int) - 1=(m:Int):=by omega
     have hm0:(0:Int)<=(m:Int):=by omega
     have hmlt:(m:Int)< ((m+1:Nat):Int):=by omega
     have hmk:m+1<=64:=by have:=HLEN.out;rw[HAL.out]at this;omega
     clear hlast hgb hacc hini;rw[HAL.out]at O3⊢;have HSET:Hid (acc.set m { b with tz:=((j+1:Nat):Int)+1 }=ini++ [{ b with tz:=((j+1:Nat):Int)+1 }]):=dD<|by rw[HACC.out,List.set_append_right _ _ (by rw[HM.out];exact nR _),HM.out,Nat.sub_self];rfl
     go_wp2_with (first | refine wp_loadAll rfl 96 (.tmp 7) rfl p7 rfl Y3.out underlying96 rfl Tryz.sizeOne ?_ | refine wp_loadAll rfl 96 (.tmp 5) rfl p rfl P3.out underlying96 rfl Tryz.sizeOne ?_ | refine wpList_store_part (E:=arE) rfl (.tmp 40) (.tmp 38) 3 rfl (w.heap.size+1) (.slice (some ⟨g,0,none⟩) (m+1) xc) acc O3.out g m 1 rfl b { b with tz:=((j+1:Nat):Int)+1 } HBI.out [.int .i64 (((j+1:Nat):Int)+1)] (by kernel_rfl) rfl (Nat.le_of_ble_eq_true rfl) (by intro u hu;simp at hu;subst hu;rfl) _ rfl (by simp;rfl) _ rfl rfl ?_)
     intro W4 ow4 gr4 sz4;have HBG:=O3.out.lt g rfl;have G4:Hid (Grew W0 W4):=dD<|grew_grown G3.out gr4 (by rw[HS0.out];exact HBG.1)
     have HL4:Hid ((ini++ [({ b with tz:=((j+1:Nat):Int)+1 }:Ar)]).length=m+1):=dD<|by simp[HM.out]
     have O4:Hid (OwnRow arE (w.heap.size+1) W4 (.slice (some ⟨g,0,none⟩) (ini++ [({ b with tz:=((j+1:Nat):Int)+1 }:Ar)]).length xc) (ini++ [{ b with tz:=((j+1:Nat):Int)+1 }])):=dD<|by rw[HL4.out,<-HSET.out];exact ow4
     clear ow4 gr4 sz4;rw[<-HL4.out];go_wp2
     go_roundg (64 -(j+1+1))
     case measure=>omega
     exact⟨j+1+1,ini++ [({ b with tz:=((j+1:Nat):Int)+1 }:Ar)],some ⟨g,0,none⟩,xc,by omega,by omega,by go_num,rfl,G4.out,O4.out,J2.out⟩
    | false=>
     have J2:Hid (J f (j+1+1) (acc++ [⟨((j+1:Nat)),(((j+1:Nat)):Int)+1,x.rd,x.wr,x.sh,x.file,x.page⟩])):=dD<|by
      have:=HNEW.out (fun b hb=>by rw[HX.out];exact HGO'.out.2 rfl b hb)
      rw[HPF.out,HX.out]at this;exact this
     go_upto_region 14 with(first | refine wp_loadAll rfl 96 (.tmp 7) rfl p7 rfl Y3.out underlying96 rfl Tryz.sizeOne ?_ | refine wp_loadAll rfl 96 (.tmp 5) rfl p rfl P3.out underlying96 rfl Tryz.sizeOne ?_)
     have HSZ:Hid (w.heap.size+1<=W3.heap.size):=dD<|by rw[<-HS0.out];exact bS G3.out
     have p1:=P3.out.c 1 rfl;have p2:=P3.out.c 2 rfl;have p3:=P3.out.c 3 rfl;have p4:=P3.out.c 4 rfl;have p5:=P3.out.c 5 rfl
     go_wp2_with (at_builtin;refine wpList_append_row (E:=arE) rfl (.tmp 41) (.tmp 56) rfl (w.heap.size+1) _ acc rfl (O3.out.grew (grew_alloc _ _)) _ [⟨((j+1:Nat):Int),((j+1:Nat):Int)+1,x.rd,x.wr,x.sh,x.file,x.page⟩] rfl (one_row arE W3 ⟨((j+1:Nat):Int),((j+1:Nat):Int)+1,x.rd,x.wr,x.sh,x.file,x.page⟩ _ _ rfl (by show 40<=_;omega)) ?qb ?qc ?_)
     case qb=>
      show(acc.length+1)*40<=_
      have:=HLEN.out;omega
     case qc=>first | exact HSZ.out | exact nT HSZ.out (Nat.le_succ _) | (have:=HSZ.out;omega) | (simp;have:=HSZ.out;omega)
     intro vn Wn own grn;obtain⟨xan,xcn,rfl⟩:=own.form;have On':Hid (OwnRow arE (w.heap.size+1) Wn (.slice xan (acc++ [(⟨((j+1:Nat):Int),((j+1:Nat):Int)+1,x.rd,x.wr,x.sh,x.file,x.page⟩:Ar)]).length xcn) (acc++ [⟨((j+1:Nat):Int),((j+1:Nat):Int)+1,x.rd,x.wr,x.sh,x.file,x.page⟩])):=own;have Gn:Hid (Grew W0 Wn):=show Grew _ _ from grew_beside (G3.out.trans (grew_alloc _ _)) grn (fun g hg=>by
      have h1:=(O3.out.lt g hg).1;rw[HS0.out];exact h1)
     have Xn:=dD (X0.out.grew Gn.out);clear own grn p1 p2 p3 p4 p5;go_wp2
     go_roundg (64 -((j+1)+1))
     case measure=>omega
     exact⟨(j+1)+1,acc++ [(⟨((j+1:Nat):Int),((j+1:Nat):Int)+1,x.rd,x.wr,x.sh,x.file,x.page⟩:Ar)],xan,xcn,by omega,by omega,by go_num,rfl,Gn.out,On'.out,J2.out⟩
 have hltz:¬(kk:Int)<64:=by omega
 have:kk=64:=by omega
 subst this;have HE:Hid (acc=joinL f):=JW.out.all HGD.out;have OE:Hid (OwnRow arE (w.heap.size+1) wr (.slice xa acc.length xc) (joinL f)):=show OwnRow _ _ _ _ _ by rw[<-HE.out];exact OW.out
 have GE:=dD (HG0.out.trans BW.out);go_wp2;go_ret;exact⟨⟨_,rfl,OE.out⟩,GE.out⟩
theorem refFew_any (f:Nat->On) (w:World) (hg:Good f):
  Calls prog 126 #[.agg (cellsO (tab f)).toArray] w fun e w'=>(∃u,e= .returned (.tuple #[u,.int .i64 (fewL f).2])/\OwnRow arE w.heap.size w' u (fewL f).1)/\Grew w w':=by
 have HA:Hid (∀W,Calls prog 145 #[.agg (cellsO (tab f)).toArray] W fun e w'=>(∃v,e= .returned v/\OwnRow arE (W.heap.size+1) w' v (joinL f))/\Grew W w'):=fun W=>refAreas_any f W hg
 have HFW:Hid (¬16< (joinL f).length->fewL f=(joinL f,0)):=fun h=>by unfold fewL;rw[if_neg h]
 have HFM:Hid (16< (joinL f).length->fewL f=([],4)):=fun h=>by unfold fewL;rw[if_pos h]
 have HJS:Hid ((joinL f).length<=64):=(joinL_J hg).len;clear hg;obtain⟨FW,HFE⟩:∃FW,Hid (fewL f=FW):=⟨_,rfl⟩;simp only[HFE.out]at HFW HFM⊢;obtain⟨JL,HJL⟩:∃JL,Hid (joinL f=JL):=⟨_,rfl⟩;simp only[HJL.out]at HFW HFM HJS HA;have HCL:Hid ((cellsO (tab f)).length=384):=tabO_len _
 generalize cellsO (tab f)=C at HA HCL⊢
 obtain⟨W0,hW0⟩:∃W0,w.alloc (.cells C.toArray 97)=W0:=⟨_,rfl⟩;have HG0:=gA hW0
 have X0:=xA hW0
 have HW0:Hid (_=W0):=hW0;clear hW0
 go_enter func126,ntmps126
 go_upto_region 1 with fail;rw[HW0.out]
 go_wp2_with (refine wp_loadAll rfl 97 (.tmp 1) rfl w.heap.size rfl X0.out underlying97 rfl (by rw[HCL.out];exact Tryz.sizeOnes) ?_)
 refine(HA.out W0).mono ?_;rintro e W5 ⟨⟨u,rfl,ow5⟩,g5⟩;obtain⟨xa,xc,rfl⟩:=ow5.form;have G5:=dD (HG0.out.trans g5);have O5:Hid (OwnRow arE w.heap.size W5 (.slice xa JL.length xc) JL):=ow5.base (nT (bS HG0.out) (Nat.le_succ _));clear g5 ow5;obtain⟨m,HM⟩:∃m,Hid (JL.length=m):=⟨_,rfl⟩;rw[HM.out]at HFW HFM HJS O5⊢;have hm64:m<=64:=HJS.out
 by_cases hmany:16<m
 ·have hmz:(16:Int)< (m:Int):=by omega
  have HR:Hid (FW=([],4)):=HFM.out hmany;go_wp2;refine bodyPost_ret (results_tmp2 rfl _ _ _) rfl ?_;rw[HR.out];exact⟨⟨_,rfl,OwnRow.nil _ _ _⟩,G5.out⟩
 have hmz:¬(16:Int)< (m:Int):=by omega
 have HR:Hid (FW=(JL,0)):=HFW.out hmany;go_wp2;refine bodyPost_ret (results_tmp2 rfl _ _ _) rfl ?_;rw[HR.out];exact⟨⟨_,rfl,O5.out⟩,G5.out⟩
theorem two_good {b a:Ar} (hb:ArOk b) (ha:ArOk a):Good (onAt [b,a]):=fun k _=>⟨onAt_no,fun h1=>by
 obtain⟨i,c,h2,h3,h4⟩:=onAt_some h1;rw[h4];have:c=b\/c=a:=by simpa using mG h2
 rcases this with e|e <;> subst e
 ·exact oneOf_ok hb h3
 exact oneOf_ok ha h3⟩
theorem sub_two {w:World} {ad:Addr} {n c:Nat} {b q:Ar} (h:RowAt arE w (.slice (some ad) n c) l) (hb:l[j]? =some b) (hq:l[j+1]? =some q):RowAt arE w (.slice (some (ad.add (j*7))) 2 (c - j)) [b,q]:=by
 obtain⟨⟨a',c',h1,h2,h3⟩,h4⟩:=h;cases h1;refine⟨⟨some (ad.add (j*7)),c - j,rfl,fun h=>(by cases h),fun x hx k u hu=>?_⟩,by show 2*40<=_;omega⟩
 cases hx;rw[add_add'];refine h3 ad rfl (j*7+k) u ?_;have hu':(arv b++arv q)[k]? =some u:=by simpa [arE]using hu
 by_cases hk:k<7
 ·rw[List.getElem?_append_left (by simpa [arv]using hk)]at hu'
  exact flatMap_elem (enc:=arv) (k:=7) l j b (fun _ _=>rfl) hb k u hu'
 rw[aR (by simp[arv];omega)]at hu'
 have:=flatMap_elem (enc:=arv) (k:=7) l (j+1) q (fun _ _=>rfl) hq (k - 7) u (by simpa [arv]using hu')
 rw[show(j+1)*7+(k - 7)=j*7+k by omega]at this
 exact this
theorem run_slice2 {w:World} {ad:Addr} {n c:Nat} (hj:j+2<=c):(Instr.sliceAt 60 (.slice (some ad) n c) (some (.int .i64 (j:Int))) (some (.int .i64 ((j:Int)+1+1))) none).run prog w= .ok (.slice (some (ad.add (j*7))) 2 (c - j)) w:=by
 have hs:(Go.sizeOf 69).run prog w= .ok 7 w:=by
  obtain⟨i0,h1,h2⟩:∃i0,Tryz.prog.info? 69=some i0/\i0.size=7:=by
   have:=Tryz.sizeArea
   cases hq:Tryz.prog.info? 69 with
   | none=>rw[hq]at this;cases this
   | some i0=>rw[hq]at this;exact⟨i0,rfl,by simpa using this⟩
  simp[Go.sizeOf,typeInfo,h1,h2]
 have h1:(0:Int)<=(j:Int)+1+1/\(j:Int)+1+1<=(c:Int):=by omega
 have h2:((j:Int)+1+1).toNat=j+2:=by omega
 have h3:(0:Int)<=(j:Int)/\(j:Int)<=((j+2:Nat):Int):=by omega
 have h4:¬c=j:=by omega
 simp only[Instr.sliceAt,Instr.slice,Instr.sliceBounds,Instr.sliceBound,asIntOf,Sem.run_bind,Sem.run_pure,rA,run_underlying underlying60];rw[if_pos h1];simp only[Sem.run_pure,rA,h2];rw[if_pos h3];simp only[Sem.run_pure,rA,hs,tN,if_neg h4,Option.map_some]
 congr 2
 omega
theorem refWrongAr_any (v:Value) (l:List Ar) (w:World) (hv:RowAt arE w v l) (hcap:Cap v):
  Calls prog 100 #[v] w fun e w'=>e= .returned (.agg #[.int .i64 (wrL l).1,.int .i64 (wrL l).2])/\Grew w w':=by
 have hbig:=hv.short;obtain⟨a,c,rfl,hrow⟩:=hv.ars;have HR':Hid (ArRows w a l):=hrow;have hwa:Hid (∀(q:Ar) W,Calls prog 125 #[.agg #[.int .i64 q.fr,.int .i64 q.tz,.bool q.rd,.bool q.wr,.bool q.sh,.int .i64 q.file,.int .i64 q.base]] W fun e w'=>e= .returned (.int .i64 (arW q))/\Grew W w'):=fun q W=>refWrongArea_any q W
 have HV:Hid (RowAt arE w (.slice a l.length c) l):=hv;have hcp:l.length<=c:=hcap;have h1:Hid (∀(b q:Ar) v W,RowAt arE W v [b,q]->ArOk b->ArOk q->b.tz<=q.fr->Calls prog 41 #[v] W fun e w'=>e= .returned (.agg (cellsO (tab (onAt [b,q]))).toArray)/\Grew W w'):=fun b q v W hv hb hq hf=>refOnes_any v [b,q] W hv (lies_two hb hq hf)
 have h2:Hid (∀(b q:Ar) W,ArOk b->ArOk q->b.tz<=q.fr->Calls prog 145 #[.agg (cellsO (tab (onAt [b,q]))).toArray] W fun e w'=>(∃xa xc,e= .returned (.slice xa (joinL (onAt [b,q])).length xc))/\Grew W w'):=fun b q W hb hq hf=>(refAreas_any (onAt [b,q]) W (two_good hb hq)).mono (by
  rintro e w' ⟨⟨v,rfl,ow⟩,g⟩;obtain⟨xa,xc,rfl⟩:=ow.form;exact⟨⟨xa,xc,rfl⟩,g⟩)
 clear hrow hv hcap;have HST:Hid (¬16<l.length->wrGo (prevO l 0) (l.drop 0) 0=wrL l):=wrL_start;have HMA:Hid (16<l.length->wrL l=(4,0)):=fun h=>by unfold wrL;rw[if_pos h]
 have HEND:Hid (∀r,wrGo (prevO l l.length) (l.drop l.length) l.length=r->r=(0,0)):=fun r=>wrn_end
 obtain⟨n,HN⟩:∃n,Hid (l.length=n):=⟨_,rfl⟩;rw[HN.out]at hbig hcp HV⊢;have HST':Hid (¬16<n->wrGo (prevO l 0) (l.drop 0) 0=wrL l):=dD<|by rw[<-HN.out];exact HST.out
 have HMA':Hid (16<n->wrL l=(4,0)):=dD<|by rw[<-HN.out];exact HMA.out
 have HEND':Hid (∀r,wrGo (prevO l n) (l.drop n) n=r->r=(0,0)):=dD<|by rw[<-HN.out];exact HEND.out
 skip
 generalize hA:wrL l=ANS at HST' HMA'⊢
 clear hA;obtain⟨W0,hW0⟩:∃W0,w.alloc (.cells #[.int .i64 0,.int .i64 0] 167)=W0:=⟨_,rfl⟩;have HG0:=gA hW0
 have X0:=xA hW0
 have HW0:Hid (_=W0):=hW0;clear hW0
 by_cases hmany:16<n
 ·have HR:Hid (ANS=(4,0)):=HMA'.out hmany;have hmz:(16:Int)< (n:Int):=by omega
  go_enter func100,ntmps100
  go_upto_region 1 with fail;rw[HW0.out];have f0:=X0.out.c 0 rfl;have f1:=X0.out.c 1 rfl;have ff:=X0.out.f;have RB:Hid (Box ((W0.setCell ⟨w.heap.size,0,none⟩ (.int .i64 4)).setCell ⟨w.heap.size,1,none⟩ (.int .i64 0)) w.heap.size [.int .i64 4,.int .i64 0]):=dD<|(X0.out.set 0 _).set 1 _
  have RG:Hid (Grew w ((W0.setCell ⟨w.heap.size,0,none⟩ (.int .i64 4)).setCell ⟨w.heap.size,1,none⟩ (.int .i64 0))):=dD<|grew_set (grew_set HG0.out (by simp) _) (by simp) _
  go_wp2;refine bodyPost_ret (ret_cell (vs:=[.int .i64 4,.int .i64 0]) rfl _ rfl RB.out underlying167 rfl Tryz.sizeFault) rfl ⟨?_,RG.out⟩;rw[HR.out]
 have hmz:¬(16:Int)< (n:Int):=by omega
 have HI:Hid (wrGo (prevO l 0) (l.drop 0) 0=ANS):=HST'.out hmany
 go_enter func100,ntmps100
 go_upto_region 1 with fail;rw[HW0.out];go_wp2
 go_loopg [12] n (fun gg s12 wr=>∃kk:Nat,kk<=n/\n - kk<=gg/\s12= .int .i64 kk/\Hid (Grew w wr)/\Hid (Box wr w.heap.size [.int .i64 0,.int .i64 0])/\Hid (wrGo (prevO l kk) (l.drop kk) kk=ANS)/\Hid (∀(j:Nat) q,j<kk->l[j]? =some q->ArOk q))
 case atStart=>exact⟨0,nZ _,by omega,rfl,HG0.out,X0.out,HI.out,fun j q hj=>absurd hj (nL _)⟩
 obtain⟨kk,hkk,hg,rfl,BW,FW,IW,OW⟩:=hrel
 by_cases hlt:kk<n
 ·have hltz:(kk:Int)< (n:Int):=by omega
  obtain⟨q,HQ⟩:∃q,Hid (l[kk]? =some q):=⟨_,gE (by rw[HN.out];exact hlt)⟩
  obtain⟨ad,rfl,hl⟩:=HR'.out kk q HQ.out;obtain⟨d0,d1,d2,d3,d4,d5,d6⟩:=hl wr BW.out;have HL:Hid (w.heap.size<wr.heap.size):=FW.out.lt;obtain⟨p,HP⟩:∃p,Hid (wr.heap.size=p):=⟨_,rfl⟩;have HLP:Hid (w.heap.size<p):=show _<_ by rw[<-HP.out];exact HL.out
  clear hl;go_upto_region 6 with fail;obtain⟨W1,hW1⟩:∃W1,wr.alloc (.cells #[.int .i64 q.fr,.int .i64 q.tz,.bool q.rd,.bool q.wr,.bool q.sh,.int .i64 q.file,.int .i64 q.base] 69)=W1:=⟨_,rfl⟩;have G1:=gT hW1 BW
  have F1:=yA hW1 FW
  have P1:=xP hW1 HP
  rw[hW1,HP.out];clear hW1 d0 d1 d2 d3 d4 d5 d6
  go_wp2_with (refine wp_loadAll rfl 69 (.tmp 4) rfl p rfl P1.out underlying69 rfl Tryz.sizeArea ?_)
  refine(hwa.out q _).mono ?_;rintro e W2 ⟨rfl,g2⟩;have G2:=dD (G1.out.trans g2);have F2:=dD (F1.out.grew g2);have P2:=dD (P1.out.grew g2);clear g2;have hpne:p≠w.heap.size:=by have:=HLP.out;omega
  have hpne':w.heap.size≠p:=by have:=HLP.out;omega
  by_cases hz:arW q=0
  ·have HZ:Hid (arW q=0):=hz;have hzb:(arW q != 0)=false:=by simp[hz]
   have HOK:Hid (ArOk q):=arW_zero.1 hz;have OW':Hid (∀(j:Nat) x,j<kk+1->l[j]? =some x->ArOk x):=show∀(j:Nat) x,_ from fun j x hj hx=>by
    by_cases e:j=kk
    ·subst e;rw[HQ.out]at hx;cases hx;exact HOK.out
    exact OW.out j x (by omega) hx
   clear hz;go_upto_region 9 with fail
   generalize arW q=zq
   cases kk with
   | zero=>
    have HNX:Hid (wrGo (prevO l 1) (l.drop 1) 1=ANS):=wrn_first IW.out HQ.out HZ.out;have hz0:¬(0:Int)< ((0:Nat):Int):=by decide
    have hz1:decide ((0:Int)< ((0:Nat):Int))=false:=by decide
    go_quiet (fail);go_wp2
    go_roundg (n - 1)
    case measure=>omega
    exact⟨1,by omega,by omega,by go_num,G2.out.trans (show Below _ _ _ from bD (bR _ _) _),F2.out.grew (show Below _ _ _ from bD (bR _ _) _),HNX.out,OW'.out⟩
   | succ j=>
    obtain⟨b,HB⟩:∃b,Hid (l[j]? =some b):=⟨_,gE (by rw[HN.out];omega)⟩
    have HBK:Hid (ArOk b):=OW.out j b (by omega) HB.out
    have hz0:(0:Int)< ((j+1:Nat):Int):=by omega
    have hz1:decide ((0:Int)< ((j+1:Nat):Int))=true:=by simp
    have hj1:((j+1:Nat):Int) - 1=(j:Int):=by omega
    have hjn:(j:Int)< (n:Int):=by omega
    obtain⟨ad',had,hl⟩:=HR'.out j b HB.out;obtain rfl:ad=ad':=by cases had;rfl
    by_cases hc:q.fr<b.tz
    ·have HR:Hid (ANS=(2,((j+1:Nat):Int))):=wrn_form IW.out HB.out HQ.out HZ.out (.inl hc);have hcd:decide (q.fr<b.tz)=true:=by simpa using hc
     obtain⟨e0,e1,e2,e3,e4,e5,e6⟩:=hl W2 G2.out;have p0:=P2.out.c 0 rfl;clear hl;go_quiet (fail);obtain⟨W3,hW3⟩:∃W3,W2.drewN nq=W3:=⟨_,rfl⟩;have G3:Hid (Grew w W3):=dD<|by rw[<-hW3];exact G2.out.trans (show Below _ _ _ from bD (bR _ _) _)
     have F3:Hid (Box W3 w.heap.size [.int .i64 0,.int .i64 0]):=dD<|by rw[<-hW3];exact F2.out.grew (show Below _ _ _ from bD (bR _ _) _)
     rw[hW3];clear hW3 e0 e1 e2 e3 e4 e5 e6 p0;have f0:=F3.out.c 0 rfl;have f1:=F3.out.c 1 rfl;have ff:=F3.out.f;have RB:Hid (Box ((W3.setCell ⟨w.heap.size,0,none⟩ (.int .i64 2)).setCell ⟨w.heap.size,1,none⟩ (.int .i64 ((j+1:Nat):Int))) w.heap.size [.int .i64 2,.int .i64 ((j+1:Nat):Int)]):=dD<|(F3.out.set 0 _).set 1 _
     have RG:Hid (Grew w ((W3.setCell ⟨w.heap.size,0,none⟩ (.int .i64 2)).setCell ⟨w.heap.size,1,none⟩ (.int .i64 ((j+1:Nat):Int)))):=dD<|grew_set (grew_set G3.out (by simp) _) (by simp) _
     go_wp2;refine bodyPost_ret (ret_cell (vs:=[.int .i64 2,.int .i64 ((j+1:Nat):Int)]) rfl _ rfl RB.out underlying167 rfl Tryz.sizeFault) rfl ⟨?_,RG.out⟩;rw[HR.out]
    have hcd:decide (q.fr<b.tz)=false:=by simpa using hc
    have HC:Hid (¬q.fr<b.tz):=hc;have hx0:=P2.out.gw 0 rfl
    have hx1:=P2.out.gw 1 rfl
    have hx2:=P2.out.gw 2 rfl
    have hx3:=P2.out.gw 3 rfl
    have hx4:=P2.out.gw 4 rfl
    have hx5:=P2.out.gw 5 rfl
    have hx6:=P2.out.gw 6 rfl
    have hy0:∀y:GrownW W2,y.world.cell? (ad.add (j*7))=some (.int .i64 b.fr):=fun y=>(hl _ (G2.out.trans y.grew)).1
    have hy1:∀y:GrownW W2,y.world.cell? { block:=(ad.add (j*7)).block,off:=(ad.add (j*7)).off+1 }=some (.int .i64 b.tz):=fun y=>(hl _ (G2.out.trans y.grew)).2.1
    have hy2:∀y:GrownW W2,y.world.cell? { block:=(ad.add (j*7)).block,off:=(ad.add (j*7)).off+2 }=some (.bool b.rd):=fun y=>(hl _ (G2.out.trans y.grew)).2.2.1
    have hy3:∀y:GrownW W2,y.world.cell? { block:=(ad.add (j*7)).block,off:=(ad.add (j*7)).off+3 }=some (.bool b.wr):=fun y=>(hl _ (G2.out.trans y.grew)).2.2.2.1
    have hy4:∀y:GrownW W2,y.world.cell? { block:=(ad.add (j*7)).block,off:=(ad.add (j*7)).off+4 }=some (.bool b.sh):=fun y=>(hl _ (G2.out.trans y.grew)).2.2.2.2.1
    have hy5:∀y:GrownW W2,y.world.cell? { block:=(ad.add (j*7)).block,off:=(ad.add (j*7)).off+5 }=some (.int .i64 b.file):=fun y=>(hl _ (G2.out.trans y.grew)).2.2.2.2.2.1
    have hy6:∀y:GrownW W2,y.world.cell? { block:=(ad.add (j*7)).block,off:=(ad.add (j*7)).off+6 }=some (.int .i64 b.base):=fun y=>(hl _ (G2.out.trans y.grew)).2.2.2.2.2.2
    have hne:Nonempty (GrownW W2):=⟨⟨_,Grew.refl _⟩⟩;have HSL:Hid (∀W,Grew w W->RowAt arE W (.slice (some (ad.add (j*7))) 2 (c - j)) [b,q]):=fun W hW=>sub_two (HV.out.grew hW) HB.out HQ.out
    have hsl:=fun W=>run_slice2 (w:=W) (ad:=ad) (n:=n) (c:=c) (j:=j) (by omega)
    obtain⟨M,HM⟩:∃M,Hid ((joinL (onAt [b,q])).length=M):=⟨_,rfl⟩;have HTG:Hid (decide (M<2)=goB q b):=dD<|by rw[<-HM.out];exact two_go HBK.out HOK.out (by have:=HC.out;omega)
    have HF2:Hid (b.tz<=q.fr):=dD<|by have:=HC.out;omega
    clear hl;obtain⟨O2,HO2⟩:∃O2,Hid (cellsO (tab (onAt [b,q]))=O2):=⟨_,rfl⟩;refine wp_lax [(19,⟨fun v=>v= .agg O2.toArray,fun _ _=>True⟩),(20,⟨fun v=>∃xa xc,v= .slice xa M xc,fun _ _=>True⟩)] mixed (by kernel_rfl) ?_ ?_ ?_
    ·intro x hx
     simp at hx
     rcases hx with rfl|rfl
     ·exact⟨_,rfl⟩
     exact⟨.slice none M 0,none,0,rfl⟩
    ·intro x hx
     simp at hx
     rcases hx with rfl|rfl
     ·exact fun _ _ _ _ h=>h
     exact fun _ _ _ _ h=>h
    iterate 19 (refine lax_quiet rfl rfl rfl (fun K hK=>?_);go_big_quiet_op;refine hK _ ?_;clear hK)
    refine lax_spec rfl rfl (fun w' hg hF=>?_) (fun v1 hv=>?_)
    ·refine Does.call [.slice (some (ad.add (j*7))) 2 (c - j)] rfl func41 rfl rfl rfl ?_;refine(h1.out b q _ w' (HSL.out w' (G2.out.trans hg)) HBK.out HOK.out HF2.out).mono ?_;rintro e w'' ⟨rfl,hg2⟩;exact⟨_,rfl,hg2,by rw[HO2.out],trivial⟩
    subst hv;simp only[Act.put,sB,sS,sZ];refine lax_spec rfl rfl (fun w' hg hF=>?_) (fun v1 hv=>?_)
    ·refine Does.call [.agg O2.toArray] rfl func145 rfl rfl rfl ?_;rw[<-HO2.out];refine(h2.out b q w' HBK.out HOK.out HF2.out).mono ?_;rintro e w'' ⟨⟨xa,xc,rfl⟩,hg2⟩;exact⟨_,rfl,hg2,⟨xa,xc,by rw[HM.out]⟩,trivial⟩
    obtain⟨xa2,xc2,rfl⟩:=hv;simp only[Act.put,sB,sS,sZ];have hmz:decide ((M:Int)<2)=goB q b:=by rw[<-HTG.out];exact decide_eq_decide.2 (by omega)
    iterate 4 (refine lax_quiet rfl rfl rfl (fun K hK=>?_);go_big_quiet_op;refine hK _ ?_;clear hK)
    refine lax_nil fun W3 hg1 hF=>?_
    have G3:=dD (G2.out.trans hg1);have F3:=dD (F2.out.grew hg1);clear hmz hsl hg1 hF hx0 hx1 hx2 hx3 hx4 hx5 hx6 hy0 hy1 hy2 hy3 hy4 hy5 hy6 hne
    cases hgb:goB q b with
    | true=>
     have HR:Hid (ANS=(2,((j+1:Nat):Int))):=wrn_form IW.out HB.out HQ.out HZ.out (.inr hgb);clear hgb;have f0:=F3.out.c 0 rfl;have f1:=F3.out.c 1 rfl;have ff:=F3.out.f;have RB:Hid (Box ((W3.setCell ⟨w.heap.size,0,none⟩ (.int .i64 2)).setCell ⟨w.heap.size,1,none⟩ (.int .i64 ((j+1:Nat):Int))) w.heap.size [.int .i64 2,.int .i64 ((j+1:Nat):Int)]):=show Box _ _ _ from(F3.out.set 0 _).set 1 _
     have RG:Hid (Grew w ((W3.setCell ⟨w.heap.size,0,none⟩ (.int .i64 2)).setCell ⟨w.heap.size,1,none⟩ (.int .i64 ((j+1:Nat):Int)))):=dD<|grew_set (grew_set G3.out (by simp) _) (by simp) _
     go_wp2;refine bodyPost_ret (ret_cell (vs:=[.int .i64 2,.int .i64 ((j+1:Nat):Int)]) rfl _ rfl RB.out underlying167 rfl Tryz.sizeFault) rfl ⟨?_,RG.out⟩;rw[HR.out]
    | false=>
     have HNX:Hid (wrGo (prevO l (j+1+1)) (l.drop (j+1+1)) (j+1+1)=ANS):=wrn_next IW.out HB.out HQ.out HZ.out HC.out hgb;clear hgb;go_wp2
     go_roundg (n -(j+1+1))
     case measure=>omega
     exact⟨j+1+1,by omega,by omega,by go_num,G3.out,F3.out,HNX.out,OW'.out⟩
  have HR:Hid (ANS=(arW q,(kk:Int))):=wrn_bad IW.out HQ.out hz;have hzb:(arW q != 0)=true:=by simp[hz]
  clear hz;have f0:=F2.out.c 0 rfl;have f1:=F2.out.c 1 rfl;have ff:=F2.out.f;have RB:Hid (Box ((W2.setCell ⟨w.heap.size,0,none⟩ (.int .i64 (arW q))).setCell ⟨w.heap.size,1,none⟩ (.int .i64 (kk:Int))) w.heap.size [.int .i64 (arW q),.int .i64 (kk:Int)]):=dD<|(F2.out.set 0 _).set 1 _
  have RG:Hid (Grew w ((W2.setCell ⟨w.heap.size,0,none⟩ (.int .i64 (arW q))).setCell ⟨w.heap.size,1,none⟩ (.int .i64 (kk:Int)))):=dD<|grew_set (grew_set G2.out (by simp) _) (by simp) _
  go_wp2;refine bodyPost_ret (ret_cell (vs:=[.int .i64 (arW q),.int .i64 (kk:Int)]) rfl _ rfl RB.out underlying167 rfl Tryz.sizeFault) rfl ⟨?_,RG.out⟩;rw[HR.out]
 have hltz:¬(kk:Int)< (n:Int):=by omega
 have:kk=n:=by omega
 subst this;have HR:Hid (ANS=(0,0)):=HEND'.out _ IW.out;have f0:=FW.out.c 0 rfl;have f1:=FW.out.c 1 rfl;have ff:=FW.out.f;have RB:Hid (Box ((wr.setCell ⟨w.heap.size,0,none⟩ (.int .i64 0)).setCell ⟨w.heap.size,1,none⟩ (.int .i64 0)) w.heap.size [.int .i64 0,.int .i64 0]):=show Box _ _ _ from(FW.out.set 0 _).set 1 _
 have RG:Hid (Grew w ((wr.setCell ⟨w.heap.size,0,none⟩ (.int .i64 0)).setCell ⟨w.heap.size,1,none⟩ (.int .i64 0))):=dD<|grew_set (grew_set BW.out (by simp) _) (by simp) _
 go_wp2;refine bodyPost_ret (ret_cell (vs:=[.int .i64 0,.int .i64 0]) rfl _ rfl RB.out underlying167 rfl Tryz.sizeFault) rfl ⟨?_,RG.out⟩;rw[HR.out]
theorem used_any (v:Value) (fs:List Fl) (cnt b:Int) (w:World) (hv:FilesAt w v fs):
  Calls prog 29 #[.agg #[v,.int .i64 cnt],.int .i64 b] w fun e w'=>e= .returned (.bool (usedB fs b))/\Grew w w':=by
 obtain⟨a,c,rfl,hbig,hrow⟩:=hv.rows;have HR:Hid (FlRows w a fs):=hrow;clear hrow hv;obtain⟨n,HN⟩:∃n,Hid (fs.length=n):=⟨_,rfl⟩;rw[HN.out]at hbig⊢;obtain⟨ANS,HANS⟩:∃ANS,Hid (usedB fs b=ANS):=⟨_,rfl⟩;rw[HANS.out];obtain⟨W0,hW0⟩:∃W0,w.alloc (.cells #[.slice a n c,.int .i64 cnt] 36)=W0:=⟨_,rfl⟩;have HG0:=gA hW0
 have HW0:Hid (_=W0):=hW0;clear hW0
 go_enter func29,ntmps29
 go_wp2;rw[HW0.out]
 go_loopg [12] n (fun gg s12 wr=>∃kk:Nat,kk<=n/\n - kk<=gg/\s12= .int .i64 kk/\Hid (Grew w wr)/\Hid (∀(j:Nat) (q:Fl),j<kk->fs[j]? =some q->q.bl.contains b=false))
 case atStart=>exact⟨0,nZ _,by omega,rfl,HG0.out,fun j q hj=>absurd hj (nL _)⟩
 obtain⟨kk,hkk,hg,rfl,BW,A⟩:=hrel
 by_cases hlt:kk<n
 ·have hltz:(kk:Int)< (n:Int):=by omega
  obtain⟨q,HQ⟩:∃q,Hid (fs[kk]? =some q):=⟨_,gE (by rw[HN.out];exact hlt)⟩
  obtain⟨ad,rfl,xa,xc,hra,hl⟩:=HR.out kk q HQ.out;obtain⟨d0,d1⟩:=hl wr BW.out;have hqbig:=hra.short;obtain⟨a',c',heq,hnum⟩:=hra.nums;cases heq;have HRA:Hid (NumRows w xa q.bl):=hnum;clear hl hra hnum;obtain⟨nb,HNB⟩:∃nb,Hid (q.bl.length=nb):=⟨_,rfl⟩;rw[HNB.out]at d1 hqbig;obtain⟨W2,hW2⟩:∃W2,wr.alloc (.cells #[.int .i64 q.size,.slice xa nb xc] 71)=W2:=⟨_,rfl⟩;have G2:=gT hW2 BW
  have HW2:Hid (_=W2):=hW2;clear hW2;go_wp2;rw[HW2.out]
  go_loopg [19] nb (fun g2 s19 wr2=>∃k2:Nat,k2<=nb/\nb - k2<=g2/\s19= .int .i64 k2/\Hid (Grew w wr2)/\Hid (∀(j:Nat) z,j<k2->q.bl[j]? =some z->¬z=b))
  case atStart=>exact⟨0,nZ _,by omega,rfl,G2.out,fun j z hj=>absurd hj (nL _)⟩
  obtain⟨k2,hk2,hg2,rfl,BW2,A2⟩:=hrel;clear d0 d1
  by_cases hlt2:k2<nb
  ·have hltz2:(k2:Int)< (nb:Int):=by omega
   obtain⟨z,HZ⟩:∃z,Hid (q.bl[k2]? =some z):=⟨_,gE (by rw[HNB.out];exact hlt2)⟩
   obtain⟨ad2,rfl,hl2⟩:=HRA.out k2 z HZ.out;have d2:=hl2 _ BW2.out;clear hl2
   by_cases hz:z=b
   ·have hzb:(z == b)=true:=by simpa using hz
    have HF:Hid (ANS=true):=dD<|by
     rw[<-HANS.out];unfold usedB;exact anyAt HQ.out (List.contains_iff_mem.2 (hz ▸ mG HZ.out))
    clear hz;go_wp2;go_ret;exact⟨by rw[HF.out];rfl,BW2.out⟩
   have hzb:(z == b)=false:=by simpa using hz
   have HA2:Hid (∀(j:Nat) z,j<k2+1->q.bl[j]? =some z->¬z=b):=dD<|fun j z' hj hz'=>by
    by_cases e:j=k2
    ·subst e;rw[HZ.out]at hz';cases hz';exact hz
    exact A2.out j z' (by omega) hz'
   clear hz;go_wp2
   go_roundg (nb -(k2+1))
   case measure=>omega
   exact⟨k2+1,by omega,by omega,by go_num,BW2.out,HA2.out⟩
  have hltz2:¬(k2:Int)< (nb:Int):=by omega
  have:k2=nb:=by omega
  subst this;have HA:Hid (∀(j:Nat) (q:Fl),j<kk+1->fs[j]? =some q->q.bl.contains b=false):=dD<|fun j q' hj hq'=>by
   by_cases e:j=kk
   ·subst e;rw[HQ.out]at hq';cases hq'
    cases hb:q.bl.contains b with
    | false=>rfl
    | true=>
     obtain⟨p,hp⟩:=List.getElem?_of_mem (List.contains_iff_mem.1 hb);exact absurd rfl (A2.out p b (by rw[<-HNB.out];exact(gS.1 hp).1) hp)
   exact A.out j q' (by omega) hq'
  go_wp2
  go_roundg (n -(kk+1))
  case measure=>omega
  exact⟨kk+1,by omega,by omega,by go_num,BW2.out,HA.out⟩
 have hltz:¬(kk:Int)< (n:Int):=by omega
 have:kk=n:=by omega
 subst this;have HF:Hid (ANS=false):=dD<|by
  rw[<-HANS.out];unfold usedB;rw[anyNo (fun j q hj=>A.out j q (by rw[<-HN.out];exact(gS.1 hj).1) hj)]
 go_wp2;go_ret;exact⟨by rw[HF.out];rfl,BW.out⟩
def filedTo (fl:List Fl) (i:Nat) (bl:List Int):List Int:=(allB (fl.take i))++bl
theorem marks_congr {n:Nat} {g h:List Int} (e:∀i:Nat,i<n->g.contains (i:Int)=h.contains (i:Int)):marks n g=marks n h:=by
 unfold marks
 apply List.map_congr_left
 intro i hi;rw[e i (List.mem_range.1 hi)]
theorem filed_skip (fl:List Fl) (i:Nat) (bl:List Int) {b:Int} (hb:b<0) (n:Nat):marks n (filedTo fl i (bl++ [b]))=marks n (filedTo fl i bl):=marks_congr fun j _=>by
 unfold filedTo;have:¬(j:Int)=b:=by omega
 simp[this]
theorem filed_put (fl:List Fl) (i:Nat) (bl:List Int) (b:Nat) (n:Nat):marks n ((b:Int) :: filedTo fl i bl)=marks n (filedTo fl i (bl++ [(b:Int)])):=marks_congr fun j _=>by
 unfold filedTo;rw[Bool.eq_iff_iff];simp only[List.contains_eq_mem,mC,List.mem_append,nM,or_false,decide_eq_true_eq];constructor
 ·rintro(h|h|h)
  ·exact .inr (.inr h)
  ·exact .inl h
  exact .inr (.inl h)
 rintro(h|h|h)
 ·exact .inr (.inl h)
 ·exact .inr (.inr h)
 exact .inl h
theorem filed_next {fl:List Fl} {f:Fl} (hf:fl[i]? =some f):filedTo fl i f.bl=filedTo fl (i+1) []:=by
 unfold filedTo allB;rw[List.take_add_one,hf];simp
theorem filed_all (fl:List Fl) (b:Int):(filedTo fl fl.length []).contains b=usedB fl b:=by
 unfold filedTo allB usedB;rw[List.take_length,List.append_nil,Bool.eq_iff_iff];simp
theorem Tryz.sizeGiven:(Tryz.prog.info? 156).map (·.size)=some 80:=by kernel_rfl
theorem marks_one (n:Nat) (g:List Int):∀v∈marks n g,v.oneCell'=true:=fun v hv=>by
 unfold marks at hv;obtain⟨i,_,rfl⟩:=List.mem_map.1 hv;rfl
theorem marks_len (n:Nat) (g:List Int):(marks n g).length=n:=by simp[marks]
theorem filedBlocks_any (v:Value) (fl:List Fl) (cnt:Int) (w:World) (hv:FilesAt w v fl) (hst:stW fl cnt=0):
  Calls prog 88 #[.agg #[v,.int .i64 cnt]] w fun e w'=>e= .returned (.agg (marks 80 (filedTo fl fl.length [])).toArray)/\Grew w w':=by
 have hz:=run_zGiven;obtain⟨a,c,rfl,hbig,hrow⟩:=hv.rows;have HR:Hid (FlRows w a fl):=hrow;clear hrow hv;have HB:Hid (∀f∈fl,∀b∈f.bl,b=-1\/(0<=b/\b<80)):=show∀f∈fl,_ from fun f hf b hb=>by
  obtain⟨⟨_,_,h80⟩,h2,_⟩:=(stW_zero fl cnt).1 hst
  rcases(h2 f hf).2.2 b hb with h|h
  ·exact .inl h
  exact .inr (by omega)
 clear hst;obtain⟨n,HN⟩:∃n,Hid (fl.length=n):=⟨_,rfl⟩;rw[HN.out]at hbig⊢;obtain⟨W0,hW0⟩:∃W0,((w.alloc (.cells #[.slice a n c,.int .i64 cnt] 36)).alloc (.cells zGiven 156)).alloc (.cells zGiven 156)=W0:=⟨_,rfl⟩;have HG0:Hid (Grew w W0):=dD<|by rw[<-hW0];exact((grew_alloc _ _).trans (grew_alloc _ _)).trans (grew_alloc _ _)
 have X0:Hid (Box W0 w.heap.size [.slice a n c,.int .i64 cnt]):=dD<|by rw[<-hW0];exact((Box.top _ _ _ rfl).alloc _).alloc _
 have Y0:Hid (Box W0 (w.heap.size+1) (marks 80 [])):=dD<|by rw[<-hW0,marks_nil];exact(Box.top _ (List.replicate 80 (.bool false)) _ (by simp)).alloc _
 have Z0:Hid (Box W0 (w.heap.size+1+1) (marks 80 (filedTo fl 0 []))):=dD<|by
  have:marks 80 (filedTo fl 0 [])=marks 80 []:=marks_congr fun i _=>by simp[filedTo,allB]
  rw[<-hW0,this,marks_nil];exact Box.top _ (List.replicate 80 (.bool false)) _ (by simp)
 have HW0:Hid (_=W0):=hW0;clear hW0
 go_enter func88,ntmps88
 go_upto_region 2 with fail;rw[HW0.out];clear hz;have x0:=X0.out.c 0 rfl;go_wp2;clear x0
 go_loopg [5,11] n (fun gg _ s11 wr=>∃i:Nat,i<=n/\n - i<=gg/\s11= .int .i64 i/\Hid (Grew w wr)/\Hid (Box wr (w.heap.size+1) (marks 80 []))/\Hid (Box wr (w.heap.size+1+1) (marks 80 (filedTo fl i []))))
 case atStart=>exact⟨0,nZ _,by omega,rfl,HG0.out,Y0.out,Z0.out⟩
 obtain⟨i,hi,hgg,rfl,BW,YW,ZW⟩:=hrel
 by_cases hlt:i<n
 ·have hltz:(i:Int)< (n:Int):=by omega
  obtain⟨f,HF⟩:∃f,Hid (fl[i]? =some f):=⟨_,gE (by rw[HN.out];exact hlt)⟩
  obtain⟨ad,rfl,xa,xc,hr2,hl⟩:=HR.out i f HF.out;obtain⟨d0,d1⟩:=hl wr BW.out;obtain⟨_,_,heq,hnr⟩:=hr2.nums;have hq:=hr2.short;have HNR:Hid (NumRows w xa f.bl):=dD<|by
   simp only[vJ]at heq;rw[heq.1];exact hnr
  clear heq hnr hr2 hl;obtain⟨q,HQ⟩:∃q,Hid (f.bl.length=q):=⟨_,rfl⟩;rw[HQ.out]at d1 hq;go_upto_region 5 with fail;obtain⟨W1,hW1⟩:∃W1,wr.alloc (.cells #[.int .i64 f.size,.slice xa q xc] 71)=W1:=⟨_,rfl⟩;have HG1:=gT hW1 BW
  have F1:=xA hW1
  have Y1:=yA hW1 YW
  have Z1:=yA hW1 ZW
  rw[hW1];clear hW1 d0 d1;have f1:=F1.out.c 1 rfl;go_wp2;clear f1;have HBW:Hid (Grew w wr):=BW
  go_loopg [7,18] q (fun gg _ s18 wr=>∃j:Nat,j<=q/\q - j<=gg/\s18= .int .i64 j/\Hid (Grew w wr)/\Hid (Box wr (w.heap.size+1) (marks 80 []))/\Hid (Box wr (w.heap.size+1+1) (marks 80 (filedTo fl i (f.bl.take j)))))
  case atStart=>exact⟨0,nZ _,by omega,rfl,HG1.out,Y1.out,by rw[List.take_zero];exact Z1.out⟩
  obtain⟨j,hj,hg2,rfl,BW,YW,ZW⟩:=hrel
  by_cases hlt2:j<q
  ·have hltz2:(j:Int)< (q:Int):=by omega
   obtain⟨b,HBJ⟩:∃b,Hid (f.bl[j]? =some b):=⟨_,gE (by rw[HQ.out];exact hlt2)⟩
   obtain⟨ad2,rfl,hl2⟩:=HNR.out j b HBJ.out;have e0:=hl2 wr BW.out;have HRB:Hid (b=-1\/(0<=b/\b<80)):=HB.out f (mG HF.out) b (mG HBJ.out);have HTS:Hid (f.bl.take (j+1)=f.bl.take j++ [b]):=take_snoc HBJ.out;clear hl2
   by_cases hb:0<=b
   ·obtain⟨k,rfl⟩:∃k:Nat,b=(k:Int):=⟨b.toNat,by omega⟩
    have hk80:k<80:=by have:=HRB.out;omega
    have z0:=ZW.out.c k (marks_at _ hk80);have zf:=ZW.out.f;have Z2:Hid (Box (wr.setCell ⟨w.heap.size+1+1,k,none⟩ (.bool true)) (w.heap.size+1+1) (marks 80 (filedTo fl i (f.bl.take (j+1))))):=dD<|by
     rw[HTS.out,<-filed_put,<-marks_set _ hk80];exact ZW.out.set k _
    have Y2:Hid (Box (wr.setCell ⟨w.heap.size+1+1,k,none⟩ (.bool true)) (w.heap.size+1) (marks 80 [])):=dD<|YW.out.other (by simp) _
    have G2:Hid (Grew w (wr.setCell ⟨w.heap.size+1+1,k,none⟩ (.bool true))):=dD<|grew_set BW.out (by simp;omega) _
    go_wp2
    go_roundg (q -(j+1))
    case measure=>omega
    exact⟨j+1,by omega,by omega,by go_num,G2.out,Y2.out,Z2.out⟩
   have Z2:Hid (Box wr (w.heap.size+1+1) (marks 80 (filedTo fl i (f.bl.take (j+1))))):=dD<|by
    rw[HTS.out,filed_skip _ _ _ (by omega)]
    exact ZW.out
   go_wp2
   go_roundg (q -(j+1))
   case measure=>omega
   exact⟨j+1,by omega,by omega,by go_num,BW.out,YW.out,Z2.out⟩
  have hltz2:¬(j:Int)< (q:Int):=by omega
  have:j=q:=by omega
  subst this;have Z2:Hid (Box wr (w.heap.size+1+1) (marks 80 (filedTo fl (i+1) []))):=dD<|by
   have h1:=ZW.out;rw[List.take_of_length_le (by rw[HQ.out];exact nR _),filed_next HF.out]at h1
   exact h1
  go_wp2
  go_roundg (n -(i+1))
  case measure=>omega
  exact⟨i+1,by omega,by omega,by go_num,BW.out,YW.out,Z2.out⟩
 have hltz:¬(i:Int)< (n:Int):=by omega
 have:i=n:=by omega
 subst this;obtain⟨ms,HMS⟩:∃ms,Hid (marks 80 (filedTo fl i [])=ms):=⟨_,rfl⟩;have HML:Hid (ms.length=80):=dD<|by rw[<-HMS.out];exact marks_len _ _
 have HMO:Hid (∀v∈ms,v.oneCell'=true):=dD<|by rw[<-HMS.out];exact marks_one _ _
 rw[HMS.out]at ZW;go_upto_region 12 with fail
 go_wp2_with (first | (refine wp_loadAll rfl 156 (.tmp 3) rfl (w.heap.size+1+1) rfl ZW.out underlying156 rfl (by rw[HML.out];exact Tryz.sizeGiven) ?_) | (refine wp_storeAll rfl 156 (.tmp 2) (.tmp 28) rfl (w.heap.size+1) rfl ms rfl YW.out (by rw[HML.out,marks_len]) (by rw[marks_len];exact Tryz.sizeGiven) HMO.out ?_))
 intro W5 hb5 hg5 _;have G5:Hid (Grew w W5):=dD<|grew_grown BW.out hg5 (by omega)
 go_wp2;refine bodyPost_ret (ret_cell rfl _ rfl hb5 underlying156 rfl (by rw[HML.out];exact Tryz.sizeGiven)) rfl ⟨by rw[<-HMS.out],G5.out⟩
theorem zero_page (b0 b1 b2 b3 b4 b5 b6 b7:Int):pgEqB ⟨b0,b1,b2,b3,b4,b5,b6,b7⟩ ⟨0,0,0,0,0,0,0,0⟩=([b0,b1,b2,b3,b4,b5,b6,b7] == zero8):=by
 rw[Bool.eq_iff_iff,pgEqB_iff]
 simp[zero8]
def badBlk (m:Ma) (b:Nat):Bool:=!usedB m.fl (b:Int) && !(m.db.getD b [] == zero8)
theorem blockE_no (h:∀b,b<m.db.length->badBlk m b=false):blockE m=0:=by
 unfold blockE;rw[if_neg];rw[List.any_eq_true];rintro⟨b,hb,hx⟩;have:=h b (List.mem_range.1 hb);unfold badBlk at this;rw[this]at hx;cases hx
theorem blockE_yes (hb:b<m.db.length) (h:badBlk m b=true):blockE m=7:=by
 unfold blockE;rw[if_pos];rw[List.any_eq_true];exact⟨b,List.mem_range.2 hb,h⟩
theorem queueE_no (h:∀(j:Nat) q,m.dq[j]? =some q->usedB m.fl q.1=true):queueE m=0:=by
 unfold queueE;rw[if_neg];rw[List.any_eq_true];rintro⟨q,hq,hx⟩;obtain⟨j,hj⟩:=List.getElem?_of_mem hq;rw[h j q hj]at hx;cases hx
theorem queueE_yes {q:Int × List Int} (hq:m.dq[j]? =some q) (h:usedB m.fl q.1=false):queueE m=7:=by
 unfold queueE;rw[if_pos];rw[List.any_eq_true];exact⟨q,mG hq,by rw[h];rfl⟩
theorem wrongL_fine {n:Nat} {qs:List (Int × List Int)} (h:wrongL n qs=0):n<=80/\∀(j:Nat) q,qs[j]? =some q->0<=q.1/\q.1<n:=by
 unfold wrongL at h
 split at h
 ·cases h
 split at h
 ·cases h
 split at h
 ·cases h
 rename_i h1 h2 h3
 refine⟨by omega,fun j q hq=>?_⟩
 have:(!dkInB q.1 n)=false:=by
  cases e:(!dkInB q.1 n)with
  | false=>rfl
  | true=>exact absurd (List.any_eq_true.2 ⟨q,mG hq,e⟩) h3
 simp[dkInB]at this
 exact this
theorem filed_at (hb:b<80):(marks 80 (filedTo m.fl m.fl.length []))[b]? =some (.bool (usedB m.fl (b:Int))):=by
 rw[marks_at _ hb,filed_all]
theorem wrongDisks_any (V:MaV) (m:Ma) (w:World) (hm:MachAt w V m) (h1:Right1 m):
  Calls prog 35 #[.agg #[.slice V.f.a V.f.n V.f.c,.int .i64 m.hand,.slice V.s.a V.s.n V.s.c,.slice V.sb.a V.sb.n V.sb.c,.slice V.sq.a V.sq.n V.sq.c,.slice V.db.a V.db.n V.db.c,.slice V.dq.a V.dq.n V.dq.c,.slice V.fl.a V.fl.n V.fl.c,.int .i64 m.cnt,.slice V.ca.a V.ca.n V.ca.c,.slice V.sp.a V.sp.n V.sp.c]] w fun e w'=>e= .returned (.int .i64 (firstE (wDisksL m)))/\Grew w w':=by
 obtain⟨vf,vs,vsb,vsq,⟨dba,dbn,dbc⟩,⟨dqa,dqn,dqc⟩,vfl,vca,vsp⟩:=V;dsimp only;have hz:=run_zGiven;obtain⟨-,n2,n3,-,n5,n6,-⟩:=hm.ns;dsimp only at n2 n3 n5 n6;have HFB:Hid (∀W,Grew w W->Calls prog 88 #[.agg #[.slice vfl.a vfl.n vfl.c,.int .i64 m.cnt]] W fun e w'=>e= .returned (.agg (marks 80 (filedTo m.fl m.fl.length [])).toArray)/\Grew W w'):=dD<|fun W hW=>filedBlocks_any _ m.fl m.cnt W (hm.grew hW).fl h1.st
 have HPG:Hid (PageRows w dba m.db):=hm.pgs;have HPU:Hid (PutRows w dqa m.dq):=hm.puts;obtain⟨h80,hqs⟩:=wrongL_fine h1.dq;have HQS:Hid (∀(j:Nat) q,m.dq[j]? =some q->0<=q.1/\q.1<m.db.length):=hqs;have HN5:Hid (m.db.length=dbn):=n5.symm;have HN6:Hid (m.dq.length=dqn):=n6.symm;have hb6:dqn<=9223372036854775807:=by have:=hm.dq.2.2;omega
 rw[HN5.out]at h80;obtain⟨Z,HZ⟩:∃Z,Hid (firstE (wDisksL m)=Z):=⟨_,rfl⟩;rw[HZ.out];have HZ2:Hid (firstE [fitE m,blockE m,queueE m]=Z):=HZ.out;have hfit:fitE m=if vs.n≠vsb.n\/m.cnt≠(dbn:Int)then 7 else 0:=by unfold fitE;rw[n2,n3,n5]
 clear hm h1 hqs n2 n3 n5 n6;obtain⟨W0,hW0⟩:∃W0,w.alloc (.cells #[.slice vf.a vf.n vf.c,.int .i64 m.hand,.slice vs.a vs.n vs.c,.slice vsb.a vsb.n vsb.c,.slice vsq.a vsq.n vsq.c,.slice dba dbn dbc,.slice dqa dqn dqc,.slice vfl.a vfl.n vfl.c,.int .i64 m.cnt,.slice vca.a vca.n vca.c,.slice vsp.a vsp.n vsp.c] 40)=W0:=⟨_,rfl⟩;have HG0:=gA hW0
 have X0:=xA hW0
 have HS0:Hid (w.heap.size<W0.heap.size):=dD<|by rw[<-hW0];simp
 have HW0:Hid (_=W0):=hW0;clear hW0
 by_cases c1:vsb.n=vs.n
 ·by_cases c2:m.cnt=(dbn:Int)
  ·have HF:Hid (fitE m=0):=dD<|by rw[hfit,if_neg (by omega)]
   have c1e:((vsb.n:Int) !=(vs.n:Int))=false:=by simp[c1]
   have c2e:((dbn:Int) != m.cnt)=false:=by simp[c2]
   have c1f:(vsb.n != vs.n)=false:=by simp[c1]
   have HB0:Hid (∀b,b<m.db.length->badBlk m b=true->Z=7):=dD<|fun b hb h=>by rw[<-HZ2.out,firstE_cons,if_pos HF.out,firstE_cons,blockE_yes hb h];rfl
   have HB1:Hid ((∀b,b<m.db.length->badBlk m b=false)->∀(j:Nat) q,m.dq[j]? =some q->usedB m.fl q.1=false->Z=7):=dD<|fun h j q hq hu=>by rw[<-HZ2.out,firstE_cons,if_pos HF.out,firstE_cons,if_pos (blockE_no h),firstE_cons,queueE_yes hq hu];rfl
   have HB2:Hid ((∀b,b<m.db.length->badBlk m b=false)->(∀(j:Nat) q,m.dq[j]? =some q->usedB m.fl q.1=true)->Z=0):=dD<|fun h h'=>by rw[<-HZ2.out,firstE_cons,if_pos HF.out,firstE_cons,if_pos (blockE_no h),firstE_cons,queueE_no h'];rfl
   have hFB:=HFB.out W0 HG0.out;clear hfit;have HC1:Hid (vsb.n=vs.n):=c1;have HC2:Hid (m.cnt=(dbn:Int)):=c2;clear c1 c2
   go_enter func35,ntmps35
   go_upto_region 1 with fail;rw[HW0.out];have x2:=X0.out.c 2 rfl;have x3:=X0.out.c 3 rfl;have x5:=X0.out.c 5 rfl;have x6:=X0.out.c 6 rfl;have x7:=X0.out.c 7 rfl;have x8:=X0.out.c 8 rfl;go_upto_region 3 with fail;go_wp2_with fail;refine hFB.mono ?_;clear hFB x2 x3 x5 x6 x7 x8;rintro e W1 ⟨rfl,hg1⟩;have HG1:=dD (HG0.out.trans hg1);have X1:=dD (X0.out.grew hg1);clear hg1;obtain⟨ms,HMS⟩:∃ms,Hid (marks 80 (filedTo m.fl m.fl.length [])=ms):=⟨_,rfl⟩;have HML:Hid (ms.length=80):=show _=_ by rw[<-HMS.out];exact marks_len _ _
   have HMO:Hid (∀v∈ms,v.oneCell'=true):=dD<|by rw[<-HMS.out];exact marks_one _ _
   have HMA:Hid (∀b:Nat,b<80->ms[b]? =some (.bool (usedB m.fl (b:Int)))):=dD<|fun b hb=>by rw[<-HMS.out];exact filed_at hb
   rw[HMS.out];obtain⟨W2,hW2⟩:∃W2,W1.alloc (.cells zGiven 156)=W2:=⟨_,rfl⟩;have HG2:=gT hW2 HG1
   have X2:=yA hW2 X1
   have Z2:Hid (Box W2 W1.heap.size (List.replicate 80 (.bool false))):=dD<|by rw[<-hW2];exact Box.top _ (List.replicate 80 (.bool false)) _ rfl
   have HW2:Hid (_=W2):=hW2;clear hW2;have HLT:Hid (w.heap.size<=W1.heap.size):=show _<=_ from bS HG1.out
   have HXL:Hid (w.heap.size<W1.heap.size):=dD<|X1.out.lt
   go_wp2_with (first | (rw[HW2.out];refine wp_storeAll rfl 156 (.tmp 3) (.tmp 28) rfl W1.heap.size rfl ms rfl Z2.out (by rw[HML.out];simp) (by simpa using Tryz.sizeGiven) HMO.out ?_))
   intro W3 hb3 hg3 _;have HG3:Hid (Grew w W3):=dD<|grew_grown HG2.out hg3 HLT.out
   have X3:Hid (Box W3 w.heap.size [.slice vf.a vf.n vf.c,.int .i64 m.hand,.slice vs.a vs.n vs.c,.slice vsb.a vsb.n vsb.c,.slice vsq.a vsq.n vsq.c,.slice dba dbn dbc,.slice dqa dqn dqc,.slice vfl.a vfl.n vfl.c,.int .i64 m.cnt,.slice vca.a vca.n vca.c,.slice vsp.a vsp.n vsp.c]):=X2.out.grown hg3 (by have:=HXL.out;omega)
   have Z3:Hid (Box W3 W1.heap.size ms):=hb3;obtain⟨p3,HP3⟩:∃p3,Hid (W1.heap.size=p3):=⟨_,rfl⟩;rw[HP3.out]at Z3⊢;clear hb3 hg3 hz;have x5:=X3.out.c 5 rfl;go_wp2;clear x5;obtain⟨n,HN⟩:∃n,Hid (dbn=n):=⟨_,rfl⟩;rw[HN.out]at h80⊢
   go_loopg [33] n (fun gg s33 wr=>∃kk:Nat,kk<=n/\n - kk<=gg/\s33= .int .i64 kk/\Hid (Grew w wr)/\Hid (Box wr w.heap.size [.slice vf.a vf.n vf.c,.int .i64 m.hand,.slice vs.a vs.n vs.c,.slice vsb.a vsb.n vsb.c,.slice vsq.a vsq.n vsq.c,.slice dba dbn dbc,.slice dqa dqn dqc,.slice vfl.a vfl.n vfl.c,.int .i64 m.cnt,.slice vca.a vca.n vca.c,.slice vsp.a vsp.n vsp.c])/\Hid (Box wr p3 ms)/\Hid (∀b,b<kk->badBlk m b=false))
   case atStart=>exact⟨0,nZ _,by omega,rfl,HG3.out,X3.out,Z3.out,fun b hb=>absurd hb (nL _)⟩
   obtain⟨kk,hkk,hgg,rfl,BW,XW,ZW,OW⟩:=hrel
   by_cases hlt:kk<n
   ·have hltz:(kk:Int)< (n:Int):=by omega
    have hk80:kk<80:=by omega
    have HKL:Hid (kk<m.db.length):=dD<|by rw[HN5.out,HN.out];exact hlt
    obtain⟨p,HP⟩:∃p,Hid (m.db[kk]? =some p):=⟨_,gE HKL.out⟩;obtain⟨ad,b0,b1,b2,b3,b4,b5,b6,b7,rfl,rfl,hl⟩:=HPG.out kk p HP.out;have HBD:Hid (badBlk m kk=(!usedB m.fl (kk:Int) && !([b0,b1,b2,b3,b4,b5,b6,b7] == zero8))):=dD<|by unfold badBlk;rw[gD,HP.out];rfl
    obtain⟨d0,d1,d2,d3,d4,d5,d6,d7⟩:=hl wr BW.out;have hqp:=fun W=>page_eq_at 9998 b0 b1 b2 b3 b4 b5 b6 b7 0 0 0 0 0 0 0 0 W
    simp only[zero_page]at hqp;obtain⟨U,HU⟩:∃U,Hid (usedB m.fl (kk:Int)=U):=⟨_,rfl⟩;have hmu:=HMA.out kk hk80;rw[HU.out]at hmu;rw[HU.out]at HBD;obtain⟨PZ,HPZ⟩:∃PZ,Hid (([b0,b1,b2,b3,b4,b5,b6,b7] == zero8)=PZ):=⟨_,rfl⟩;rw[HPZ.out]at hqp HBD;clear hl;go_upto_region 7 with fail;obtain⟨W4,hW4⟩:∃W4,wr.alloc (.cells #[.int .u8 b0,.int .u8 b1,.int .u8 b2,.int .u8 b3,.int .u8 b4,.int .u8 b5,.int .u8 b6,.int .u8 b7] 50)=W4:=⟨_,rfl⟩;have HG4:=gT hW4 BW
    have X4:=yA hW4 XW
    have Z4:=yA hW4 ZW
    have P4:=xA hW4
    rw[hW4];clear hW4 d0 d1 d2 d3 d4 d5 d6 d7;have z0:=Z4.out.c kk hmu;obtain⟨p0,p1,p2,p3,p4,p5,p6,p7⟩:=P4.out.c8;clear hmu
    cases U with
    | true=>
     have HB:Hid (badBlk m kk=false):=dD<|by rw[HBD.out];rfl
     have OW':Hid (∀b,b<kk+1->badBlk m b=false):=dD<|fun b hb=>by
      by_cases e:b=kk
      ·rw[e];exact HB.out
      exact OW.out b (by omega)
     clear p0 p1 p2 p3 p4 p5 p6 p7 hqp;go_wp2
     go_roundg (n -(kk+1))
     case measure=>omega
     exact⟨kk+1,by omega,by omega,by go_num,HG4.out,X4.out,Z4.out,OW'.out⟩
    | false=>
     cases PZ with
     | true=>
      have HB:Hid (badBlk m kk=false):=dD<|by rw[HBD.out];rfl
      have OW':Hid (∀b,b<kk+1->badBlk m b=false):=dD<|fun b hb=>by
       by_cases e:b=kk
       ·rw[e];exact HB.out
       exact OW.out b (by omega)
      go_wp2
      go_roundg (n -(kk+1))
      case measure=>omega
      exact⟨kk+1,by omega,by omega,by go_num,HG4.out,X4.out,Z4.out,OW'.out⟩
     | false=>
      have HE:Hid (Z=7):=HB0.out kk HKL.out (by rw[HBD.out];rfl)
      go_wp2;go_ret;exact⟨by rw[HE.out];rfl,HG4.out⟩
   have hltz:¬(kk:Int)< (n:Int):=by omega
   have:kk=n:=by omega
   subst this;have OA:Hid (∀b,b<m.db.length->badBlk m b=false):=dD<|fun b hb=>OW.out b (by rw[<-HN.out,<-HN5.out];exact hb)
   have x6:=XW.out.c 6 rfl;go_wp2;clear x6;obtain⟨n2,HN2⟩:∃n2,Hid (dqn=n2):=⟨_,rfl⟩;rw[HN2.out]at hb6⊢;have HBW:Hid (Grew w wr):=BW;have HZW:Hid (Box wr p3 ms):=ZW
   go_loopg [52] n2 (fun gg s52 wr=>∃j:Nat,j<=n2/\n2 - j<=gg/\s52= .int .i64 j/\Hid (Grew w wr)/\Hid (Box wr p3 ms)/\Hid (∀(i:Nat) q,i<j->m.dq[i]? =some q->usedB m.fl q.1=true))
   case atStart=>exact⟨0,nZ _,by omega,rfl,HBW.out,HZW.out,fun i q hi=>absurd hi (nL _)⟩
   obtain⟨j,hj,hg2,rfl,BW,ZW,OW⟩:=hrel
   by_cases hlt2:j<n2
   ·have hltz2:(j:Int)< (n2:Int):=by omega
    obtain⟨q,HQ⟩:∃q,Hid (m.dq[j]? =some q):=⟨_,gE (by rw[HN6.out,HN2.out];exact hlt2)⟩
    obtain⟨ad,mm,b0,b1,b2,b3,b4,b5,b6,b7,rfl,rfl,hl⟩:=HPU.out j q HQ.out;obtain⟨r0,r1⟩:=HQS.out j _ HQ.out;simp only at r0 r1;obtain⟨b,rfl⟩:∃b:Nat,mm=(b:Int):=⟨mm.toNat,by omega⟩
    have hk80:b<80:=by rw[HN5.out,HN.out]at r1;omega
    obtain⟨d0,d1,d2,d3,d4,d5,d6,d7,d8⟩:=hl wr BW.out;obtain⟨U,HU⟩:∃U,Hid (usedB m.fl (b:Int)=U):=⟨_,rfl⟩;have hmu:=HMA.out b hk80;rw[HU.out]at hmu;clear hl r0 r1;go_upto_region 13 with fail;obtain⟨W4,hW4⟩:∃W4,wr.alloc (.cells #[.int .i64 (b:Int),.int .u8 b0,.int .u8 b1,.int .u8 b2,.int .u8 b3,.int .u8 b4,.int .u8 b5,.int .u8 b6,.int .u8 b7] 91)=W4:=⟨_,rfl⟩;have HG4:=gT hW4 BW
    have Z4:=yA hW4 ZW
    have P4:=xA hW4
    rw[hW4];clear hW4 d0 d1 d2 d3 d4 d5 d6 d7 d8;have z0:=Z4.out.c b hmu;have p0:=P4.out.c 0 rfl;clear hmu
    cases U with
    | true=>
     have OW':Hid (∀(i:Nat) q,i<j+1->m.dq[i]? =some q->usedB m.fl q.1=true):=dD<|fun i q hi hq=>by
      by_cases e:i=j
      ·subst e;rw[HQ.out]at hq;cases hq;exact HU.out
      exact OW.out i q (by omega) hq
     go_wp2
     go_roundg (n2 -(j+1))
     case measure=>omega
     exact⟨j+1,by omega,by omega,by go_num,HG4.out,Z4.out,OW'.out⟩
    | false=>
     have HE:Hid (Z=7):=HB1.out OA.out j _ HQ.out HU.out;go_wp2;go_ret;exact⟨by rw[HE.out];rfl,HG4.out⟩
   have hltz2:¬(j:Int)< (n2:Int):=by omega
   have:j=n2:=by omega
   subst this;have HE:Hid (Z=0):=HB2.out OA.out fun i q hq=>OW.out i q (by rw[<-HN2.out,<-HN6.out];exact(gS.1 hq).1) hq
   go_wp2;go_ret;exact⟨by rw[HE.out];rfl,BW.out⟩
  have HE:Hid (Z=7):=dD<|by
   have hf7:fitE m=7:=by rw[hfit,if_pos (.inr c2)]
   rw[<-HZ2.out,firstE_cons,hf7];rfl
  have c1e:((vsb.n:Int) !=(vs.n:Int))=false:=by simp[c1]
  have c1f:(vsb.n != vs.n)=false:=by simp[c1]
  have c2e:((dbn:Int) != m.cnt)=true:=by simp;omega
  clear c1 c2 hfit
  go_enter func35,ntmps35
  go_upto_region 1 with fail;rw[HW0.out];have x2:=X0.out.c 2 rfl;have x3:=X0.out.c 3 rfl;have x5:=X0.out.c 5 rfl;have x8:=X0.out.c 8 rfl;go_wp2;go_ret;exact⟨by rw[HE.out];rfl,HG0.out⟩
 have HE:Hid (Z=7):=dD<|by
  have hf7:fitE m=7:=by rw[hfit,if_pos (.inl (fun e=>c1 e.symm))]
  rw[<-HZ2.out,firstE_cons,hf7];rfl
 have c1e:((vsb.n:Int) !=(vs.n:Int))=true:=by simp;omega
 have c1f:(vsb.n != vs.n)=true:=by simp[c1]
 clear c1 hfit
 go_enter func35,ntmps35
 go_upto_region 1 with fail;rw[HW0.out];have x2:=X0.out.c 2 rfl;have x3:=X0.out.c 3 rfl;go_wp2;go_ret;exact⟨by rw[HE.out];rfl,HG0.out⟩
theorem firstE_pos {e A:Int} {l:List Int} (h:firstE (e :: l)=A) (he:e≠0):A=e:=by rw[<-h];unfold firstE;rw[if_neg he]
theorem firstE_neg {e A:Int} {l:List Int} (h:firstE (e :: l)=A) (he:e=0):firstE l=A:=by rw[<-h,firstE_cons,if_pos he]
theorem refParts_any (V:MaV) (m:Ma) (w:World) (hm:MachAt w V m):
  Calls prog 40 #[.agg #[.slice V.f.a V.f.n V.f.c,.int .i64 m.hand,.slice V.s.a V.s.n V.s.c,.slice V.sb.a V.sb.n V.sb.c,.slice V.sq.a V.sq.n V.sq.c,.slice V.db.a V.db.n V.db.c,.slice V.dq.a V.dq.n V.dq.c,.slice V.fl.a V.fl.n V.fl.c,.int .i64 m.cnt,.slice V.ca.a V.ca.n V.ca.c,.slice V.sp.a V.sp.n V.sp.c]] w fun e w'=>e= .returned (.int .i64 (partE m))/\Grew w w':=by
 have HM:Hid (MachAt w V m):=hm;obtain⟨n1,n2,n3,-,n5,n6,-,-,n9⟩:=hm.ns;obtain⟨xs,hxl,hrow,hsp⟩:=hm.spaces;have hfs:=hm.fs;have hsl:=hm.sl;have HPG:Hid (PageRows w V.db.a m.db):=hm.pgs;have HPU:Hid (PutRows w V.dq.a m.dq):=hm.puts;have hsl9:=hm.sp;obtain⟨Z,HZ⟩:∃Z,Hid (partE m=Z):=⟨_,rfl⟩;rw[HZ.out];obtain⟨vf,vs,vsb,vsq,⟨dba,dbn,dbc⟩,⟨dqa,dqn,dqc⟩,vfl,vca,⟨spa,spn,spc⟩⟩:=V;dsimp only at n1 n2 n3 n5 n6 n9 HPG HPU hfs hsl hrow⊢;have HC1:Hid (∀W,Grew w W->Calls prog 96 #[.agg #[.slice vf.a vf.n vf.c,.int .i64 m.hand]] W fun e w'=>e= .returned (.int .i64 (memW m.fs m.hand))/\Grew W w'):=show∀W,_ from fun W hW=>by rw[n1]at hfs⊢;exact refWrongMem_any vf.a vf.c m.fs m.hand W (frm_at.1 (hfs.grew hW))
 have HC2:Hid (∀W,Grew w W->Calls prog 97 #[.slice vs.a vs.n vs.c] W fun e w'=>e= .returned (.int .i64 (slW m.sl))/\Grew W w'):=dD<|fun W hW=>by rw[n2]at hsl⊢;exact refWrongS_any vs.a vs.c m.sl W (hsl.grew hW)
 have HC3:Hid (∀W,Grew w W->Calls prog 98 #[.agg #[.slice vsb.a vsb.n vsb.c,.slice vsq.a vsq.n vsq.c]] W fun e w'=>e= .returned (.int .i64 (wrongL m.sb.length m.sq))/\Grew W w'):=dD<|fun W hW=>by rw[<-n3];exact refWrong_any vsb.a vsb.n vsb.c _ m.sq W (HM.out.grew hW).sq
 have HC4:Hid (∀W,Grew w W->Calls prog 98 #[.agg #[.slice dba dbn dbc,.slice dqa dqn dqc]] W fun e w'=>e= .returned (.int .i64 (wrongL m.db.length m.dq))/\Grew W w'):=dD<|fun W hW=>by rw[<-n5];exact refWrong_any dba dbn dbc _ m.dq W (HM.out.grew hW).dq
 have HC5:Hid (∀W,Grew w W->Calls prog 99 #[.agg #[.slice vfl.a vfl.n vfl.c,.int .i64 m.cnt]] W fun e w'=>e= .returned (.int .i64 (stW m.fl m.cnt))/\Grew W w'):=dD<|fun W hW=>refWrongSt_any _ m.fl m.cnt W (HM.out.grew hW).fl
 have HUS:Hid (∀W b,Grew w W->Calls prog 29 #[.agg #[.slice vfl.a vfl.n vfl.c,.int .i64 m.cnt],.int .i64 b] W fun e w'=>e= .returned (.bool (usedB m.fl b))/\Grew W w'):=dD<|fun W b hW=>used_any _ m.fl m.cnt b W (HM.out.grew hW).fl
 have HN5:Hid (m.db.length=dbn):=n5.symm;have HN6:Hid (m.dq.length=dqn):=n6.symm;have HN9:Hid (m.sp.length=spn):=n9.symm;have hb6:dqn<=9223372036854775807:=by have:=hm.dq.2.2;omega
 have hb5:dbn<=9223372036854775807:=by have:=hm.db.2.2;omega
 have hb9:spn<=9223372036854775807:=by obtain⟨ys,k1,k2,_⟩:=hsl9;have:=k1.short;omega
 have HXL:Hid (xs.length=spn):=dD<|by rw[hxl];exact HN9.out
 have HRW:Hid (∀(j:Nat) x,xs[j]? =some x->∃ad,spa=some ad/\∀W,Grew w W->Sp10 W (ad.add (j*10)) x):=dD<|hrow
 have HSP:Hid (∀(i:Nat) x s,xs[i]? =some x->m.sp[i]? =some s->SpaceAt w x s):=dD<|hsp
 have hfit:fitE m=if vs.n≠vsb.n\/m.cnt≠(dbn:Int)then 7 else 0:=by unfold fitE;rw[n2,n3,n5]
 have HFT:Hid (fitE m=if vs.n≠vsb.n\/m.cnt≠(dbn:Int)then 7 else 0):=hfit;clear hm n1 n2 n3 n5 n6 n9 hxl hrow hsp hfs hsl hsl9 hfit;have Z1:Hid (firstE [memW m.fs m.hand,slW m.sl,wrongL m.sb.length m.sq,wrongL m.db.length m.dq,stW m.fl m.cnt,fitE m,blockE m,queueE m,if 4<m.sp.length then 4 else 0,firstE (m.sp.map spE)]=Z):=HZ.out;obtain⟨W0,hW0⟩:∃W0,w.alloc (.cells #[.slice vf.a vf.n vf.c,.int .i64 m.hand,.slice vs.a vs.n vs.c,.slice vsb.a vsb.n vsb.c,.slice vsq.a vsq.n vsq.c,.slice dba dbn dbc,.slice dqa dqn dqc,.slice vfl.a vfl.n vfl.c,.int .i64 m.cnt,.slice vca.a vca.n vca.c,.slice spa spn spc] 40)=W0:=⟨_,rfl⟩;have G0:=gA hW0
 have X0:=xA hW0
 have HW0:Hid (_=W0):=hW0;clear hW0
 go_enter func40,ntmps40
 go_upto_region 1 with fail;rw[HW0.out];have x0:=X0.out.c 0 rfl;have x1:=X0.out.c 1 rfl;have hc:=HC1.out W0 G0.out;obtain⟨E1,HE1⟩:∃E1,Hid (memW m.fs m.hand=E1):=⟨_,rfl⟩;rw[HE1.out]at hc Z1;go_wp2_with fail;refine hc.mono ?_;clear hc;clear x0 x1;rintro e W1 ⟨rfl,g⟩;have G1:=dD (G0.out.trans g);have X1:=dD (X0.out.grew g);clear g
 by_cases hz:E1=0
 rotate_left
 ·have hze:(E1 != 0)=true:=by simp[hz]
  have HF:Hid (Z=E1):=firstE_pos Z1.out hz;clear hz;go_wp2;go_ret;exact⟨by rw[HF.out];first | rfl | skip,G1.out⟩
 have hze:(E1 != 0)=false:=by simp[hz]
 have Z2:Hid (firstE [slW m.sl,wrongL m.sb.length m.sq,wrongL m.db.length m.dq,stW m.fl m.cnt,fitE m,blockE m,queueE m,if 4<m.sp.length then 4 else 0,firstE (m.sp.map spE)]=Z):=firstE_neg Z1.out hz;clear hz;have x2:=X1.out.c 2 rfl;have hc:=HC2.out W1 G1.out;obtain⟨E2,HE2⟩:∃E2,Hid (slW m.sl=E2):=⟨_,rfl⟩;rw[HE2.out]at hc Z2;go_wp2_with fail;refine hc.mono ?_;clear hc;clear x2;rintro e W2 ⟨rfl,g⟩;have G2:=dD (G1.out.trans g);have X2:=dD (X1.out.grew g);clear g
 by_cases hz:E2=0
 rotate_left
 ·have hze:(E2 != 0)=true:=by simp[hz]
  have HF:Hid (Z=E2):=firstE_pos Z2.out hz;clear hz;go_wp2;go_ret;exact⟨by rw[HF.out];first | rfl | skip,G2.out⟩
 have hze:(E2 != 0)=false:=by simp[hz]
 have Z3:Hid (firstE [wrongL m.sb.length m.sq,wrongL m.db.length m.dq,stW m.fl m.cnt,fitE m,blockE m,queueE m,if 4<m.sp.length then 4 else 0,firstE (m.sp.map spE)]=Z):=firstE_neg Z2.out hz;clear hz;have x3:=X2.out.c 3 rfl;have x4:=X2.out.c 4 rfl;have hc:=HC3.out W2 G2.out;obtain⟨E3,HE3⟩:∃E3,Hid (wrongL m.sb.length m.sq=E3):=⟨_,rfl⟩;rw[HE3.out]at hc Z3;go_wp2_with fail;refine hc.mono ?_;clear hc;clear x3 x4;rintro e W3 ⟨rfl,g⟩;have G3:=dD (G2.out.trans g);have X3:=dD (X2.out.grew g);clear g
 by_cases hz:E3=0
 rotate_left
 ·have hze:(E3 != 0)=true:=by simp[hz]
  have HF:Hid (Z=E3):=firstE_pos Z3.out hz;clear hz;go_wp2;go_ret;exact⟨by rw[HF.out];first | rfl | skip,G3.out⟩
 have hze:(E3 != 0)=false:=by simp[hz]
 have Z4:Hid (firstE [wrongL m.db.length m.dq,stW m.fl m.cnt,fitE m,blockE m,queueE m,if 4<m.sp.length then 4 else 0,firstE (m.sp.map spE)]=Z):=firstE_neg Z3.out hz;clear hz;have x5:=X3.out.c 5 rfl;have x6:=X3.out.c 6 rfl;have hc:=HC4.out W3 G3.out;obtain⟨E4,HE4⟩:∃E4,Hid (wrongL m.db.length m.dq=E4):=⟨_,rfl⟩;rw[HE4.out]at hc Z4;go_wp2_with fail;refine hc.mono ?_;clear hc;clear x5 x6;rintro e W4 ⟨rfl,g⟩;have G4:=dD (G3.out.trans g);have X4:=dD (X3.out.grew g);clear g
 by_cases hz:E4=0
 rotate_left
 ·have hze:(E4 != 0)=true:=by simp[hz]
  have HF:Hid (Z=E4):=firstE_pos Z4.out hz;clear hz;go_wp2;go_ret;exact⟨by rw[HF.out];first | rfl | skip,G4.out⟩
 have hze:(E4 != 0)=false:=by simp[hz]
 have Z5:Hid (firstE [stW m.fl m.cnt,fitE m,blockE m,queueE m,if 4<m.sp.length then 4 else 0,firstE (m.sp.map spE)]=Z):=firstE_neg Z4.out hz;clear hz;have x7:=X4.out.c 7 rfl;have x8:=X4.out.c 8 rfl;have hc:=HC5.out W4 G4.out;obtain⟨E5,HE5⟩:∃E5,Hid (stW m.fl m.cnt=E5):=⟨_,rfl⟩;rw[HE5.out]at hc Z5;go_wp2_with fail;refine hc.mono ?_;clear hc;clear x7 x8;rintro e W5 ⟨rfl,g⟩;have G5:=dD (G4.out.trans g);have X5:=dD (X4.out.grew g);clear g
 by_cases hz:E5=0
 rotate_left
 ·have hze:(E5 != 0)=true:=by simp[hz]
  have HF:Hid (Z=E5):=firstE_pos Z5.out hz;clear hz;go_wp2;go_ret;exact⟨by rw[HF.out];first | rfl | skip,G5.out⟩
 have hze:(E5 != 0)=false:=by simp[hz]
 have Z6:Hid (firstE [fitE m,blockE m,queueE m,if 4<m.sp.length then 4 else 0,firstE (m.sp.map spE)]=Z):=firstE_neg Z5.out hz;clear hz;obtain⟨UU,HUU⟩:∃UU:Int->Bool,Hid (∀b,usedB m.fl b=UU b):=⟨fun b=>usedB m.fl b,fun _=>rfl⟩
 have x2:=X5.out.c 2 rfl;have x3:=X5.out.c 3 rfl;have x5:=X5.out.c 5 rfl;have x8:=X5.out.c 8 rfl
 by_cases c1:vs.n=vsb.n
 rotate_left
 ·have c1e:((vs.n:Int) !=(vsb.n:Int))=true:=by simp;omega
  have c1f:(vs.n != vsb.n)=true:=by simp[c1]
  have HF:Hid (Z=7):=dD<|by rw[firstE_pos Z6.out (by rw[HFT.out,if_pos (.inl c1)];decide),HFT.out,if_pos (.inl c1)]
  clear c1;go_wp2;go_ret;exact⟨by rw[HF.out];rfl,G5.out⟩
 by_cases c2:m.cnt=(dbn:Int)
 rotate_left
 ·have c1e:((vs.n:Int) !=(vsb.n:Int))=false:=by simp[c1]
  have c1f:(vs.n != vsb.n)=false:=by simp[c1]
  have c2e:(m.cnt !=(dbn:Int))=true:=by simp[c2]
  have HF:Hid (Z=7):=dD<|by rw[firstE_pos Z6.out (by rw[HFT.out,if_pos (.inr c2)];decide),HFT.out,if_pos (.inr c2)]
  clear c1 c2;go_wp2;go_ret;exact⟨by rw[HF.out];rfl,G5.out⟩
 have c1e:((vs.n:Int) !=(vsb.n:Int))=false:=by simp[c1]
 have c1f:(vs.n != vsb.n)=false:=by simp[c1]
 have c2e:(m.cnt !=(dbn:Int))=false:=by simp[c2]
 have Z7:Hid (firstE [blockE m,queueE m,if 4<m.sp.length then 4 else 0,firstE (m.sp.map spE)]=Z):=firstE_neg Z6.out (by rw[HFT.out,if_neg (by omega)])
 have HC12:Hid (vs.n=vsb.n/\m.cnt=(dbn:Int)):=dD<|⟨c1,c2⟩
 clear c1 c2;go_wp2;clear x2 x3 x5 x8;clear c1e c1f c2e
 go_loopg [68] dbn (fun gg s68 wr=>∃kk:Nat,kk<=dbn/\dbn - kk<=gg/\s68= .int .i64 kk/\Hid (Grew w wr)/\Hid (Box wr w.heap.size [.slice vf.a vf.n vf.c,.int .i64 m.hand,.slice vs.a vs.n vs.c,.slice vsb.a vsb.n vsb.c,.slice vsq.a vsq.n vsq.c,.slice dba dbn dbc,.slice dqa dqn dqc,.slice vfl.a vfl.n vfl.c,.int .i64 m.cnt,.slice vca.a vca.n vca.c,.slice spa spn spc])/\Hid (∀b,b<kk->badBlk m b=false))
 case atStart=>exact⟨0,nZ _,by omega,rfl,G5.out,X5.out,fun b hb=>absurd hb (nL _)⟩
 obtain⟨kk,hkk,hgg,rfl,GW,XW,OW⟩:=hrel
 by_cases hlt:kk<dbn
 ·have hltz:(kk:Int)< (dbn:Int):=by omega
  have HKL:Hid (kk<m.db.length):=dD<|by rw[HN5.out];exact hlt
  obtain⟨p,HP⟩:∃p,Hid (m.db[kk]? =some p):=⟨_,gE HKL.out⟩;obtain⟨ad,b0,b1,b2,b3,b4,b5,b6,b7,rfl,rfl,hl⟩:=HPG.out kk p HP.out;have HBD:Hid (badBlk m kk=(!usedB m.fl (kk:Int) && !([b0,b1,b2,b3,b4,b5,b6,b7] == zero8))):=dD<|by unfold badBlk;rw[gD,HP.out];rfl
  obtain⟨d0,d1,d2,d3,d4,d5,d6,d7⟩:=hl wr GW.out;have hqp:=fun W=>page_eq_at 9998 b0 b1 b2 b3 b4 b5 b6 b7 0 0 0 0 0 0 0 0 W
  simp only[zero_page]at hqp;obtain⟨PZ,HPZ⟩:∃PZ,Hid (([b0,b1,b2,b3,b4,b5,b6,b7] == zero8)=PZ):=⟨_,rfl⟩;rw[HPZ.out]at hqp HBD;clear hl;go_upto_region 21 with fail;obtain⟨W6,hW6⟩:∃W6,wr.alloc (.cells #[.int .u8 b0,.int .u8 b1,.int .u8 b2,.int .u8 b3,.int .u8 b4,.int .u8 b5,.int .u8 b6,.int .u8 b7] 50)=W6:=⟨_,rfl⟩;have g6:=gP hW6
  have P6:=xA hW6
  have G6:=dD (GW.out.trans g6);have X6:=dD (XW.out.grew g6);rw[hW6];clear hW6 d0 d1 d2 d3 d4 d5 d6 d7 g6;have hus:=HUS.out W6 (kk:Int) G6.out;obtain⟨U,HU⟩:∃U,Hid (usedB m.fl (kk:Int)=U):=⟨_,rfl⟩;rw[HU.out]at hus HBD;have x7:=X6.out.c 7 rfl;have x8:=X6.out.c 8 rfl;go_wp2_with fail;refine hus.mono ?_;clear hus x7 x8;rintro e W7 ⟨rfl,g7⟩;have G7:=dD (G6.out.trans g7);have X7:=dD (X6.out.grew g7);have P7:=dD (P6.out.grew g7);clear g7;have OW':Hid (badBlk m kk=false->∀b,b<kk+1->badBlk m b=false):=show _->_ from fun h b hb=>by
   by_cases e:b=kk
   ·rw[e];exact h
   exact OW.out b (by omega)
  cases U with
  | true=>
   have OW2:Hid (∀b,b<kk+1->badBlk m b=false):=OW'.out (by rw[HBD.out];rfl)
   clear hqp;go_wp2
   go_roundg (dbn -(kk+1))
   case measure=>omega
   exact⟨kk+1,by omega,by omega,by go_num,G7.out,X7.out,OW2.out⟩
  | false=>
   obtain⟨p0,p1,p2,p3,p4,p5,p6,p7⟩:=P7.out.c8
   cases PZ with
   | true=>
    have OW2:Hid (∀b,b<kk+1->badBlk m b=false):=OW'.out (by rw[HBD.out];rfl)
    go_wp2
    go_roundg (dbn -(kk+1))
    case measure=>omega
    exact⟨kk+1,by omega,by omega,by go_num,G7.out,X7.out,OW2.out⟩
   | false=>
    have HF:Hid (Z=7):=dD<|by
     have hb:=blockE_yes HKL.out (show badBlk m kk=true by rw[HBD.out];rfl)
     rw[firstE_pos Z7.out (by rw[hb];decide),hb]
    go_wp2;go_ret;exact⟨by rw[HF.out];rfl,G7.out⟩
 have hltz:¬(kk:Int)< (dbn:Int):=by omega
 obtain rfl:kk=dbn:=by omega
 have Z8:Hid (firstE [queueE m,if 4<m.sp.length then 4 else 0,firstE (m.sp.map spE)]=Z):=firstE_neg Z7.out (blockE_no fun b hb=>OW.out b (by rw[<-HN5.out];exact hb))
 have x6:=XW.out.c 6 rfl;go_wp2;clear x6;have G8:Hid (Grew w wr):=GW;have X8:Hid (Box wr w.heap.size [.slice vf.a vf.n vf.c,.int .i64 m.hand,.slice vs.a vs.n vs.c,.slice vsb.a vsb.n vsb.c,.slice vsq.a vsq.n vsq.c,.slice dba kk dbc,.slice dqa dqn dqc,.slice vfl.a vfl.n vfl.c,.int .i64 m.cnt,.slice vca.a vca.n vca.c,.slice spa spn spc]):=XW
 go_loopg [88] dqn (fun gg s88 wr=>∃j:Nat,j<=dqn/\dqn - j<=gg/\s88= .int .i64 j/\Hid (Grew w wr)/\Hid (Box wr w.heap.size [.slice vf.a vf.n vf.c,.int .i64 m.hand,.slice vs.a vs.n vs.c,.slice vsb.a vsb.n vsb.c,.slice vsq.a vsq.n vsq.c,.slice dba kk dbc,.slice dqa dqn dqc,.slice vfl.a vfl.n vfl.c,.int .i64 m.cnt,.slice vca.a vca.n vca.c,.slice spa spn spc])/\Hid (∀(i:Nat) q,i<j->m.dq[i]? =some q->usedB m.fl q.1=true))
 case atStart=>exact⟨0,nZ _,by omega,rfl,G8.out,X8.out,fun i q hi=>absurd hi (nL _)⟩
 obtain⟨j,hj,hg2,rfl,GW,XW,OW⟩:=hrel
 by_cases hlt2:j<dqn
 ·have hltz2:(j:Int)< (dqn:Int):=by omega
  obtain⟨q,HQ⟩:∃q,Hid (m.dq[j]? =some q):=⟨_,gE (by rw[HN6.out];exact hlt2)⟩
  obtain⟨ad,mm,b0,b1,b2,b3,b4,b5,b6,b7,rfl,rfl,hl⟩:=HPU.out j q HQ.out;obtain⟨d0,d1,d2,d3,d4,d5,d6,d7,d8⟩:=hl wr GW.out;clear hl;go_upto_region 27 with fail;obtain⟨W6,hW6⟩:∃W6,wr.alloc (.cells #[.int .i64 mm,.int .u8 b0,.int .u8 b1,.int .u8 b2,.int .u8 b3,.int .u8 b4,.int .u8 b5,.int .u8 b6,.int .u8 b7] 91)=W6:=⟨_,rfl⟩;have g6:=gP hW6
  have P6:=xA hW6
  have G6:=dD (GW.out.trans g6);have X6:=dD (XW.out.grew g6);rw[hW6];clear hW6 d0 d1 d2 d3 d4 d5 d6 d7 d8 g6;have hus:=HUS.out W6 mm G6.out;obtain⟨U,HU⟩:∃U,Hid (usedB m.fl mm=U):=⟨_,rfl⟩;rw[HU.out]at hus;have p0:=P6.out.c 0 rfl;have x7:=X6.out.c 7 rfl;have x8:=X6.out.c 8 rfl;go_wp2_with fail;refine hus.mono ?_;clear hus x7 x8 p0;rintro e W7 ⟨rfl,g7⟩;have G7:=dD (G6.out.trans g7);have X7:=dD (X6.out.grew g7);clear g7
  cases U with
  | true=>
   have OW':Hid (∀(i:Nat) q,i<j+1->m.dq[i]? =some q->usedB m.fl q.1=true):=dD<|fun i q' hi hq'=>by
    by_cases e:i=j
    ·subst e;rw[HQ.out]at hq';cases hq';exact HU.out
    exact OW.out i q' (by omega) hq'
   go_wp2
   go_roundg (dqn -(j+1))
   case measure=>omega
   exact⟨j+1,by omega,by omega,by go_num,G7.out,X7.out,OW'.out⟩
  | false=>
   have HF:Hid (Z=7):=dD<|by
    have hb:=queueE_yes HQ.out HU.out;rw[firstE_pos Z8.out (by rw[hb];decide),hb]
   go_wp2;go_ret;exact⟨by rw[HF.out];rfl,G7.out⟩
 have hltz2:¬(j:Int)< (dqn:Int):=by omega
 obtain rfl:j=dqn:=by omega
 have Z9:Hid (firstE [if 4<m.sp.length then 4 else 0,firstE (m.sp.map spE)]=Z):=firstE_neg Z8.out (queueE_no fun i q hq=>OW.out i q (by rw[<-HN6.out];exact(gS.1 hq).1) hq)
 have x10:=XW.out.c 10 rfl
 by_cases h4:4<spn
 ·have h4d:decide ((4:Int)< (spn:Int))=true:=by simp;omega
  have HF:Hid (Z=4):=dD<|by
   have hb:(if 4<m.sp.length then(4:Int)else 0)=4:=by rw[if_pos (by rw[HN9.out];exact h4)]
   rw[firstE_pos Z9.out (by rw[hb];decide),hb]
  clear h4;go_wp2;go_ret;exact⟨by rw[HF.out];rfl,GW.out⟩
 have h4d:decide ((4:Int)< (spn:Int))=false:=by simp;omega
 have Z10:Hid (firstE (m.sp.map spE)=Z):=dD<|by
  have:=firstE_neg Z9.out (by rw[if_neg (by rw[HN9.out];exact h4)])
  rw[firstE_cons]at this
  by_cases e:firstE (m.sp.map spE)=0
  ·rw[if_pos e]at this;rw[e];exact this
  rw[if_neg e]at this;exact this
 clear h4;go_wp2;clear x10;have G9:Hid (Grew w wr):=GW
 go_loopg [106] spn (fun gg s106 wr=>∃i:Nat,i<=spn/\spn - i<=gg/\s106= .int .i64 i/\Hid (Grew w wr)/\Hid (firstE ((m.sp.drop i).map spE)=Z))
 case atStart=>exact⟨0,nZ _,by omega,rfl,G9.out,Z10.out⟩
 obtain⟨i,hi,hg3,rfl,GW,OW⟩:=hrel
 by_cases hlt3:i<spn
 ·have hltz3:(i:Int)< (spn:Int):=by omega
  obtain⟨x,hx⟩:∃x,xs[i]? =some x:=⟨_,gE (by rw[HXL.out];exact hlt3)⟩
  obtain⟨s,hs⟩:∃s,m.sp[i]? =some s:=⟨_,gE (by rw[HN9.out];exact hlt3)⟩
  have HAT:Hid (SpaceAt w x s):=HSP.out i x s hx hs;have ZI:Hid (firstE (spE s ::(m.sp.drop (i+1)).map spE)=Z):=show _=_ by
   have h1:=OW.out;rw[List.drop_eq_getElem_cons (by rw[HN9.out];exact hlt3),mP]at h1
   have h2:m.sp[i]'(by rw[HN9.out];exact hlt3)=s:=by rw[gE (by rw[HN9.out];exact hlt3)]at hs;cases hs;rfl
   rw[h2]at h1;exact h1
  obtain⟨ad,rfl,hl⟩:=HRW.out i x hx;obtain⟨d0,d1,d2,d3,d4,d5,d6,d7,d8,d9⟩:=hl wr GW.out;clear hl hx hs;have HLV:Hid (x.live=s.live):=HAT.out.live;have han:=HAT.out.ar.n;have HAN:Hid (x.ar.n=s.ars.length):=han;clear han;have HAR:Hid (∀W,Grew w W->Calls prog 100 #[.slice x.ar.a x.ar.n x.ar.c] W fun e w'=>e= .returned (.agg #[.int .i64 (wrL s.ars).1,.int .i64 (wrL s.ars).2])/\Grew W w'):=show∀W,_ from fun W hW=>refWrongAr_any _ s.ars W (HAT.out.grew hW).ar (show Cap (.slice x.ar.a x.ar.n x.ar.c)from HAT.out.cap)
  have HTB:Hid (∀W,Grew w W->Calls prog 101 #[.agg #[.slice x.t0.a x.t0.n x.t0.c,.slice x.t1.a x.t1.n x.t1.c,.slice x.t2.a x.t2.n x.t2.c,.slice x.t3.a x.t3.n x.t3.c,.slice x.t4.a x.t4.n x.t4.c,.slice x.t5.a x.t5.n x.t5.c,.slice x.t6.a x.t6.n x.t6.c,.slice x.t7.a x.t7.n x.t7.c]] W fun e w'=>e= .returned (.int .i64 (tbW s.tb))/\Grew W w'):=dD<|fun W hW=>refWrongTb_any x.tab s.tb W (HAT.out.grew hW).tb
  have HST:Hid (∀W,Grew w W->Calls prog 50 #[.agg #[.slice x.t0.a x.t0.n x.t0.c,.slice x.t1.a x.t1.n x.t1.c,.slice x.t2.a x.t2.n x.t2.c,.slice x.t3.a x.t3.n x.t3.c,.slice x.t4.a x.t4.n x.t4.c,.slice x.t5.a x.t5.n x.t5.c,.slice x.t6.a x.t6.n x.t6.c,.slice x.t7.a x.t7.n x.t7.c],.agg #[.slice none 0 0,.slice none 0 0,.slice none 0 0,.slice none 0 0,.slice none 0 0,.slice none 0 0,.slice none 0 0,.slice none 0 0]] W fun e w'=>e= .returned (.bool (s.tb.all (·.isEmpty)))/\Grew W w'):=dD<|fun W hW=>sameTb0_any x.tab s.tb W (HAT.out.grew hW).tb
  go_upto_region 35 with fail;obtain⟨W6,hW6⟩:∃W6,wr.alloc (.cells #[.bool x.live,.slice x.ar.a x.ar.n x.ar.c,.slice x.t0.a x.t0.n x.t0.c,.slice x.t1.a x.t1.n x.t1.c,.slice x.t2.a x.t2.n x.t2.c,.slice x.t3.a x.t3.n x.t3.c,.slice x.t4.a x.t4.n x.t4.c,.slice x.t5.a x.t5.n x.t5.c,.slice x.t6.a x.t6.n x.t6.c,.slice x.t7.a x.t7.n x.t7.c] 65)=W6:=⟨_,rfl⟩;have G6:=gT hW6 GW
  obtain⟨ps,HPS⟩:∃ps,Hid (wr.heap.size=ps):=⟨_,rfl⟩;have S6:=xP hW6 HPS
  rw[hW6,HPS.out];clear hW6 d0 d1 d2 d3 d4 d5 d6 d7 d8 d9;have har:=HAR.out W6 G6.out;have s1:=S6.out.c 1 rfl;obtain⟨E1,HE1⟩:∃E1,Hid ((wrL s.ars).1=E1):=⟨_,rfl⟩;rw[HE1.out]at har;go_wp2_with fail;refine har.mono ?_;clear har s1;rintro e W7 ⟨rfl,g7⟩;have G7:=dD (G6.out.trans g7);have S7:=dD (S6.out.grew g7);clear g7;go_upto_region 36 with fail;obtain⟨W8,hW8⟩:∃W8,W7.alloc (.cells #[.int .i64 E1,.int .i64 (wrL s.ars).2] 167)=W8:=⟨_,rfl⟩;have g8:=gP hW8
  have F8:=xA hW8
  have G8:=dD (G7.out.trans g8);have S8:=dD (S7.out.grew g8);rw[hW8];clear hW8 g8;have f0:=F8.out.c 0 rfl
  by_cases h1:E1=0
  rotate_left
  ·have h1e:(E1 != 0)=true:=by simp[h1]
   have HF:Hid (Z=E1):=dD<|by
    have hb:spE s=E1:=by unfold spE;rw[if_pos (by rw[HE1.out];exact h1)];exact HE1.out
    rw[firstE_pos ZI.out (by rw[hb];exact h1),hb]
   clear h1;go_wp2;go_ret;exact⟨by rw[HF.out];first | rfl | skip,G8.out⟩
  have h1e:(E1 != 0)=false:=by simp[h1]
  have HE10:Hid ((wrL s.ars).1=0):=dD<|by rw[HE1.out];exact h1
  clear h1;have htb:=HTB.out W8 G8.out;obtain⟨E2,HE2⟩:∃E2,Hid (tbW s.tb=E2):=⟨_,rfl⟩;rw[HE2.out]at htb;have s2:=S8.out.c 2 rfl;have s3:=S8.out.c 3 rfl;have s4:=S8.out.c 4 rfl;have s5:=S8.out.c 5 rfl;have s6:=S8.out.c 6 rfl;have s7:=S8.out.c 7 rfl;have s8:=S8.out.c 8 rfl;have s9:=S8.out.c 9 rfl;go_wp2_with fail;refine htb.mono ?_;clear htb f0 s2 s3 s4 s5 s6 s7 s8 s9;rintro e W9 ⟨rfl,g9⟩;have G9:=dD (G8.out.trans g9);have S9:=dD (S8.out.grew g9);clear g9
  by_cases h2:E2=0
  rotate_left
  ·have h2e:(E2 != 0)=true:=by simp[h2]
   have HF:Hid (Z=E2):=dD<|by
    have hb:spE s=E2:=by unfold spE;rw[if_neg (fun h=>h HE10.out),if_pos (by rw[HE2.out];exact h2)];exact HE2.out
    rw[firstE_pos ZI.out (by rw[hb];exact h2),hb]
   clear h2;go_wp2;go_ret;exact⟨by rw[HF.out];first | rfl | skip,G9.out⟩
  have h2e:(E2 != 0)=false:=by simp[h2]
  have HE20:Hid (tbW s.tb=0):=dD<|by rw[HE2.out];exact h2
  clear h2;have HSE:Hid (spE s=if(!s.live &&(!s.ars.isEmpty || !s.tb.all (·.isEmpty)))=true then 7 else 0):=dD<|by unfold spE;rw[if_neg (fun h=>h HE10.out),if_neg (fun h=>h HE20.out)]
  have s0:=S9.out.c 0 rfl;rw[HLV.out]at s0
  cases hlv:s.live with
  | true=>
   rw[hlv]at s0;have OW':Hid (firstE ((m.sp.drop (i+1)).map spE)=Z):=firstE_neg ZI.out (by rw[HSE.out,hlv];rfl)
   go_wp2
   go_roundg (spn -(i+1))
   case measure=>omega
   exact⟨i+1,by omega,by omega,by go_num,G9.out,OW'.out⟩
  | false=>
   rw[hlv]at s0;have s1:=S9.out.c 1 rfl
   by_cases ha:0<x.ar.n
   ·have had:decide ((0:Int)< (x.ar.n:Int))=true:=by simp;omega
    have han:decide (0<x.ar.n)=true:=by simp;omega
    have HF:Hid (Z=7):=dD<|by
     have hne:s.ars.isEmpty=false:=by
      cases e:s.ars with
      | nil=>rw[HAN.out,e]at ha;simp at ha
      | cons a l=>rfl
     have hb:spE s=7:=by rw[HSE.out,hlv,hne];rfl
     rw[firstE_pos ZI.out (by rw[hb];decide),hb]
    have hap:(0:Int)< (x.ar.n:Int):=by omega
    clear ha;go_wp2;go_ret;exact⟨by rw[HF.out];rfl,G9.out⟩
   have had:decide ((0:Int)< (x.ar.n:Int))=false:=by simp;omega
   have han:decide (0<x.ar.n)=false:=by simp;omega
   have HEM:Hid (s.ars.isEmpty=true):=dD<|by rw[List.isEmpty_iff];exact eN (by rw[<-HAN.out];omega)
   clear ha;have hst:=HST.out W9 G9.out;obtain⟨AE,HAE⟩:∃AE,Hid (s.tb.all (·.isEmpty)=AE):=⟨_,rfl⟩;rw[HAE.out]at hst;have s2:=S9.out.c 2 rfl;have s3:=S9.out.c 3 rfl;have s4:=S9.out.c 4 rfl;have s5:=S9.out.c 5 rfl;have s6:=S9.out.c 6 rfl;have s7:=S9.out.c 7 rfl;have s8:=S9.out.c 8 rfl;have s9:=S9.out.c 9 rfl;go_wp2_with fail;refine hst.mono ?_;clear hst s0 s1 s2 s3 s4 s5 s6 s7 s8 s9;rintro e WA ⟨rfl,gA⟩;have GA:=dD (G9.out.trans gA);clear gA
   cases AE with
   | true=>
    have OW':Hid (firstE ((m.sp.drop (i+1)).map spE)=Z):=firstE_neg ZI.out (by rw[HSE.out,hlv,HEM.out,HAE.out];rfl)
    go_wp2
    go_roundg (spn -(i+1))
    case measure=>omega
    exact⟨i+1,by omega,by omega,by go_num,GA.out,OW'.out⟩
   | false=>
    have HF:Hid (Z=7):=dD<|by
     have hb:spE s=7:=by rw[HSE.out,hlv,HEM.out,HAE.out];rfl
     rw[firstE_pos ZI.out (by rw[hb];decide),hb]
    go_wp2;go_ret;exact⟨by rw[HF.out];rfl,GA.out⟩
 have hltz3:¬(i:Int)< (spn:Int):=by omega
 obtain rfl:i=spn:=by omega
 have HF:Hid (Z=0):=dD<|by
  rw[<-OW.out,List.drop_of_length_le (by rw[HN9.out];exact nR _)]
  rfl
 go_wp2;go_ret;exact⟨by rw[HF.out];rfl,GW.out⟩
def RightSp (m:Ma):Prop:=∀s∈m.sp,(wrL s.ars).1=0/\tbW s.tb=0
theorem rightSp (h:wSpaces m=0):RightSp m:=fun s hs=>by
 unfold wSpaces at h
 split at h
 ·cases h
 have:=firstE_zero.1 h (spE s) (List.mem_map.2 ⟨s,hs,rfl⟩);unfold spE at this
 split at this
 ·rename_i a;exact absurd this a
 rename_i a
 split at this
 ·rename_i b;exact absurd this b
 rename_i b;exact⟨by simpa using a,by simpa using b⟩
theorem flat_ok {s:Sp} (h:tbW s.tb=0) (n:Nat):enW (flatN s n)=0:=by
 unfold flatN getN;have hall:=tbW_zero.1 h;have:HaOk (s.tb[n / 8]?.getD []):=by
  cases e:s.tb[n / 8]? with
  | none=>exact .inl rfl
  | some x=>exact hall x (mG e)
 exact this.get (n % 8)
theorem get_flat {s:Sp} {n:Nat} (h:n<64):getT s.tb (n:Int)=flatN s n:=by
 unfold getT flatN;rw[if_pos (by omega),tN]
theorem pagesN_lt {s:Sp} {n:Nat} (h:(pagesN s)[j]? =some n):n<64:=by
 have:=mG h;unfold pagesN at this;rw[List.mem_filter,List.mem_range]at this;exact this.1
theorem canP_at:∀{l:List Ar} {p:Option Ar} {k:Nat} {a:Ar},CanP p l->l[k]? =some a->ArOk a
 | [],_,_,_,_,h=>by simp at h
 | b :: l,p,0,a,hc,h=>by
  simp at h
  subst h;exact hc.1
 | b :: l,p,k+1,a,hc,h=>canP_at hc.2.2 (by simpa using h)
theorem wrongPagesM_any (V:MaV) (m:Ma) (w:World) (hm:MachAt w V m) (h1:Right1 m) (h2:RightSp m):
  Calls prog 38 #[.agg #[.slice V.f.a V.f.n V.f.c,.int .i64 m.hand,.slice V.s.a V.s.n V.s.c,.slice V.sb.a V.sb.n V.sb.c,.slice V.sq.a V.sq.n V.sq.c,.slice V.db.a V.db.n V.db.c,.slice V.dq.a V.dq.n V.dq.c,.slice V.fl.a V.fl.n V.fl.c,.int .i64 m.cnt,.slice V.ca.a V.ca.n V.ca.c,.slice V.sp.a V.sp.n V.sp.c]] w fun e w'=>e= .returned (.int .i64 (wPages m))/\Grew w w':=by
 have HWE:Hid (∀(a:Ar) (n:Nat) (e:En) W,Grew w W->ArOk a->n<=64->0<=e.n->Calls prog 93 #[.agg #[.slice V.f.a V.f.n V.f.c,.int .i64 m.hand,.slice V.s.a V.s.n V.s.c,.slice V.sb.a V.sb.n V.sb.c,.slice V.sq.a V.sq.n V.sq.c,.slice V.db.a V.db.n V.db.c,.slice V.dq.a V.dq.n V.dq.c,.slice V.fl.a V.fl.n V.fl.c,.int .i64 m.cnt,.slice V.ca.a V.ca.n V.ca.c,.slice V.sp.a V.sp.n V.sp.c],.agg #[.int .i64 a.fr,.int .i64 a.tz,.bool a.rd,.bool a.wr,.bool a.sh,.int .i64 a.file,.int .i64 a.base],.int .i64 (n:Int),.agg #[.int .i64 e.kind,.int .i64 e.n,.bool e.wr]] W fun e' w'=>e'= .returned (.int .i64 (wEntry m a n e))/\Grew W w'):=dD<|fun a n e W hW ha hn he=>wrongEntryM_any V m a n e W (hm.grew hW) ha hn he
 have HM1:Hid (memW m.fs m.hand=0):=h1.mem;have HRS:Hid (RightSp m):=h2;obtain⟨vf,vs,vsb,vsq,vdb,vdq,vfl,vca,⟨spa,spn,spc⟩⟩:=V;dsimp only at HWE⊢;obtain⟨-,-,-,-,-,-,-,-,n9⟩:=hm.ns;dsimp only at n9;obtain⟨xs,hxl,hrow,hsp⟩:=hm.spaces;have HXL:Hid (xs.length=m.sp.length):=hxl;have HR:Hid (∀(j:Nat) x,xs[j]? =some x->∃ad,spa=some ad/\∀W,Grew w W->Sp10 W (ad.add (j*10)) x):=hrow;have HSP:Hid (∀(i:Nat) x s,xs[i]? =some x->m.sp[i]? =some s->SpaceAt w x s):=hsp;have HN:Hid (m.sp.length=spn):=n9.symm;have hbig:spn<=9223372036854775807:=by
  obtain⟨ys,k1,k2,_⟩:=hm.sp;have:=k1.short;omega
 obtain⟨Z,HZ⟩:∃Z,Hid (wPages m=Z):=⟨_,rfl⟩;rw[HZ.out];clear hm hxl hrow hsp n9 h1 h2;obtain⟨W0,hW0⟩:∃W0,w.alloc (.cells #[.slice vf.a vf.n vf.c,.int .i64 m.hand,.slice vs.a vs.n vs.c,.slice vsb.a vsb.n vsb.c,.slice vsq.a vsq.n vsq.c,.slice vdb.a vdb.n vdb.c,.slice vdq.a vdq.n vdq.c,.slice vfl.a vfl.n vfl.c,.int .i64 m.cnt,.slice vca.a vca.n vca.c,.slice spa spn spc] 40)=W0:=⟨_,rfl⟩;have HG0:=gA hW0
 have X0:=xA hW0
 have HW0:Hid (_=W0):=hW0;clear hW0
 go_enter func38,ntmps38
 go_upto_region 1 with fail;rw[HW0.out];have x10:=X0.out.c 10 rfl;go_wp2;clear x10
 go_loopg [12] spn (fun gg s12 wr=>∃kk:Nat,kk<=spn/\spn - kk<=gg/\s12= .int .i64 kk/\Hid (Grew w wr)/\Hid (Box wr w.heap.size [.slice vf.a vf.n vf.c,.int .i64 m.hand,.slice vs.a vs.n vs.c,.slice vsb.a vsb.n vsb.c,.slice vsq.a vsq.n vsq.c,.slice vdb.a vdb.n vdb.c,.slice vdq.a vdq.n vdq.c,.slice vfl.a vfl.n vfl.c,.int .i64 m.cnt,.slice vca.a vca.n vca.c,.slice spa spn spc])/\Hid (∀(j:Nat) s,j<kk->m.sp[j]? =some s->spEnt m s=0))
 case atStart=>exact⟨0,nZ _,by omega,rfl,HG0.out,X0.out,fun j s hj=>absurd hj (nL _)⟩
 obtain⟨kk,hkk,hgg,rfl,BW,XW,OW⟩:=hrel
 by_cases hlt:kk<spn
 ·have hltz:(kk:Int)< (spn:Int):=by omega
  obtain⟨s,HS⟩:∃s,Hid (m.sp[kk]? =some s):=⟨_,gE (by rw[HN.out];exact hlt)⟩
  obtain⟨x,HX⟩:∃x,Hid (xs[kk]? =some x):=⟨_,gE (by rw[HXL.out,HN.out];exact hlt)⟩
  have HAT:Hid (SpaceAt w x s):=HSP.out kk x s HX.out HS.out;obtain⟨hok1,hok2⟩:=HRS.out s (mG HS.out);have HCN:Hid (CanP none s.ars):=(wrL_zero.1 hok1).2;have HTB:Hid (tbW s.tb=0):=hok2;have HAL:Hid (s.ars.length=x.ar.n):=HAT.out.ar.n.symm;have HAR:Hid (ArRows w x.ar.a s.ars):=show ArRows _ _ _ by
   obtain⟨_,_,q1,q2⟩:=HAT.out.ar.ars;simp only[vJ]at q1;rw[q1.1];exact q2
  clear hok1 hok2;obtain⟨ad,rfl,hl⟩:=HR.out kk x HX.out;obtain⟨d0,d1,d2,d3,d4,d5,d6,d7,d8,d9⟩:=hl wr BW.out;clear hl;go_upto_region 4 with fail;obtain⟨W1,hW1⟩:∃W1,wr.alloc (.cells #[.bool x.live,.slice x.ar.a x.ar.n x.ar.c,.slice x.t0.a x.t0.n x.t0.c,.slice x.t1.a x.t1.n x.t1.c,.slice x.t2.a x.t2.n x.t2.c,.slice x.t3.a x.t3.n x.t3.c,.slice x.t4.a x.t4.n x.t4.c,.slice x.t5.a x.t5.n x.t5.c,.slice x.t6.a x.t6.n x.t6.c,.slice x.t7.a x.t7.n x.t7.c] 65)=W1:=⟨_,rfl⟩;have HG1:=gT hW1 BW
  have X1:=yA hW1 XW
  have S1:=xA hW1
  rw[hW1];clear hW1 d0 d1 d2 d3 d4 d5 d6 d7 d8 d9;obtain⟨pb,HPB⟩:∃pb,Hid (wr.heap.size=pb):=⟨_,rfl⟩;rw[HPB.out]at S1⊢;have hcall:Calls prog 92 #[.agg #[.slice x.t0.a x.t0.n x.t0.c,.slice x.t1.a x.t1.n x.t1.c,.slice x.t2.a x.t2.n x.t2.c,.slice x.t3.a x.t3.n x.t3.c,.slice x.t4.a x.t4.n x.t4.c,.slice x.t5.a x.t5.n x.t5.c,.slice x.t6.a x.t6.n x.t6.c,.slice x.t7.a x.t7.n x.t7.c]] W1 fun e w'=>∃v,e= .returned v/\OwnRow blE W1.heap.size w' v (pagesTo s.tb anyEn 64)/\Grew W1 w':=pagesTb_any x.tab s.tb W1 (HAT.out.grew HG1.out).tb
  have s2:=S1.out.c 2 rfl;have s3:=S1.out.c 3 rfl;have s4:=S1.out.c 4 rfl;have s5:=S1.out.c 5 rfl;have s6:=S1.out.c 6 rfl;have s7:=S1.out.c 7 rfl;have s8:=S1.out.c 8 rfl;have s9:=S1.out.c 9 rfl;go_wp2_with fail;refine hcall.mono ?_;clear hcall s2 s3 s4 s5 s6 s7 s8 s9;rintro e' W2 ⟨pv,rfl,ow2,hg2⟩;have HG2:=dD (HG1.out.trans hg2);have X2:=dD (X1.out.grew hg2);have S2:=dD (S1.out.grew hg2);clear hg2;obtain⟨pa,pc,rfl,hnr⟩:=ow2.at.nums;have hq0:=ow2.at.short;have HNR:Hid (NumRows W2 pa (pagesTo s.tb anyEn 64)):=hnr;rw[pagesTo_any,List.length_map]at hq0⊢;rw[pagesTo_any]at HNR;clear ow2 hnr;obtain⟨q,HQ⟩:∃q,Hid ((pagesN s).length=q):=⟨_,rfl⟩;rw[HQ.out]at hq0⊢;go_wp2;have HBW:Hid (Grew w wr):=BW;have HOW:Hid (∀(j:Nat) s,j<kk->m.sp[j]? =some s->spEnt m s=0):=OW
  go_loopg [20] q (fun gg s20 wr=>∃i:Nat,i<=q/\q - i<=gg/\s20= .int .i64 i/\Hid (Grew W2 wr)/\Hid (∀(j:Nat) n,j<i->(pagesN s)[j]? =some n->entE m (onAt s.ars n) (flatN s n)=0))
  case atStart=>exact⟨0,nZ _,by omega,rfl,Grew.refl _,fun j s hj=>absurd hj (nL _)⟩
  obtain⟨i,hi,hg2,rfl,BW,OW⟩:=hrel
  by_cases hlt2:i<q
  ·have hltz2:(i:Int)< (q:Int):=by omega
   obtain⟨n,HNI⟩:∃n,Hid ((pagesN s)[i]? =some n):=⟨_,gE (by rw[HQ.out];exact hlt2)⟩
   have hn64:n<64:=pagesN_lt HNI.out;obtain⟨ad2,rfl,hl2⟩:=HNR.out i (n:Int) (by rw[List.getElem?_map,HNI.out];rfl)
   have e0:=hl2 wr BW.out;clear hl2;have HGW:=dD (HG2.out.trans BW.out);have hcf:=find_any (.slice x.ar.a x.ar.n x.ar.c) s.ars (n:Int) wr (HAT.out.ar.grew HGW.out);have s1:=(S2.out.grew BW.out).c 1 rfl;go_wp2_with fail;refine hcf.mono ?_;clear hcf e0 s1;rintro e' W4 ⟨⟨z,rfl,hz⟩,hg4⟩;have HFZ:Hid (FindsZ s.ars (n:Int) z):=hz;have HG4:=dD (BW.out.trans hg4);have HGw4:=dD (HG2.out.trans HG4.out);clear hg4 hz
   by_cases hz0:z<0
   ·have HZE:Hid (Z=5):=dD<|by
     have h5:entE m (onAt s.ars n) (flatN s n)=5:=by
      have:=finds_is HFZ.out;rw[decide_eq_false (by omega)]at this
      unfold entE;rw[if_pos this.symm]
     have h6:spEnt m s=5:=by rw[spEnt_pages,firstE_at HNI.out OW.out (by rw[h5];decide),h5]
     rw[<-HZ.out];unfold wPages;rw[firstE_at HS.out HOW.out (by rw[h6];decide),h6]
    go_wp2;go_ret;exact⟨by rw[HZE.out];rfl,HGw4.out⟩
   obtain⟨k,a,rfl,HKA,HIN⟩:∃(k:Nat) (a:Ar),z=(k:Int)/\Hid (s.ars[k]? =some a)/\Hid (inZ a (n:Int)=true):=by
    rcases HFZ.out with⟨k,a,q1,q2,q3⟩|⟨q1,_⟩
    ·exact⟨k,a,q1,q2,q3⟩
    omega
   have HAO:Hid (ArOk a):=canP_at HCN.out HKA.out;have hkl:k<x.ar.n:=by rw[<-HAL.out];exact(gS.1 HKA.out).1
   have HEN:Hid (entE m (onAt s.ars n) (flatN s n)=wEntry m a n (flatN s n)):=dD<|by rw[onAt_uniq HCN.out HKA.out HIN.out,wEntry_eq HM1.out HAO.out]
   have hen0:0<=(flatN s n).n:=(enW_zero (flat_ok HTB.out n)).2.1.1;have HWE':Hid (∀W,Grew w W->Calls prog 93 #[.agg #[.slice vf.a vf.n vf.c,.int .i64 m.hand,.slice vs.a vs.n vs.c,.slice vsb.a vsb.n vsb.c,.slice vsq.a vsq.n vsq.c,.slice vdb.a vdb.n vdb.c,.slice vdq.a vdq.n vdq.c,.slice vfl.a vfl.n vfl.c,.int .i64 m.cnt,.slice vca.a vca.n vca.c,.slice (some ad) spn spc],.agg #[.int .i64 a.fr,.int .i64 a.tz,.bool a.rd,.bool a.wr,.bool a.sh,.int .i64 a.file,.int .i64 a.base],.int .i64 (n:Int),enV (flatN s n)] W fun e' w'=>e'= .returned (.int .i64 (wEntry m a n (flatN s n)))/\Grew W w'):=dD<|fun W hW=>HWE.out a n (flatN s n) W hW HAO.out (by omega) hen0
   have HGT:Hid (∀W,Grew w W->Calls prog 65 #[.agg #[.slice x.t0.a x.t0.n x.t0.c,.slice x.t1.a x.t1.n x.t1.c,.slice x.t2.a x.t2.n x.t2.c,.slice x.t3.a x.t3.n x.t3.c,.slice x.t4.a x.t4.n x.t4.c,.slice x.t5.a x.t5.n x.t5.c,.slice x.t6.a x.t6.n x.t6.c,.slice x.t7.a x.t7.n x.t7.c],.int .i64 (n:Int)] W fun e w'=>e= .returned (enV (flatN s n))/\Grew W w'):=dD<|fun W hW=>by
    have:=getTb_any x.tab s.tb (n:Int) W (HAT.out.grew hW).tb;rw[get_flat hn64]at this;exact this
   clear hen0;go_upto_region 10 with fail;obtain⟨ada,hva,hl⟩:=HAR.out k a HKA.out;have X4:=dD (X2.out.grew HG4.out);have S4:=dD (S2.out.grew HG4.out);have hx0:=X4.out.gw 0 rfl
   have hx1:=X4.out.gw 1 rfl
   have hx2:=X4.out.gw 2 rfl
   have hx3:=X4.out.gw 3 rfl
   have hx4:=X4.out.gw 4 rfl
   have hx5:=X4.out.gw 5 rfl
   have hx6:=X4.out.gw 6 rfl
   have hx7:=X4.out.gw 7 rfl
   have hx8:=X4.out.gw 8 rfl
   have hx9:=X4.out.gw 9 rfl
   have hx10:=X4.out.gw 10 rfl
   have hs1:=S4.out.gw 1 rfl
   have hs2:=S4.out.gw 2 rfl
   have hs3:=S4.out.gw 3 rfl
   have hs4:=S4.out.gw 4 rfl
   have hs5:=S4.out.gw 5 rfl
   have hs6:=S4.out.gw 6 rfl
   have hs7:=S4.out.gw 7 rfl
   have hs8:=S4.out.gw 8 rfl
   have hs9:=S4.out.gw 9 rfl
   rw[hva]at hs1;have hy0:∀y:GrownW W4,y.world.cell? (ada.add (k*7))=some (.int .i64 a.fr):=fun y=>(hl _ (HGw4.out.trans y.grew)).1
   have hy1:∀y:GrownW W4,y.world.cell? { block:=(ada.add (k*7)).block,off:=(ada.add (k*7)).off+1 }=some (.int .i64 a.tz):=fun y=>(hl _ (HGw4.out.trans y.grew)).2.1
   have hy2:∀y:GrownW W4,y.world.cell? { block:=(ada.add (k*7)).block,off:=(ada.add (k*7)).off+2 }=some (.bool a.rd):=fun y=>(hl _ (HGw4.out.trans y.grew)).2.2.1
   have hy3:∀y:GrownW W4,y.world.cell? { block:=(ada.add (k*7)).block,off:=(ada.add (k*7)).off+3 }=some (.bool a.wr):=fun y=>(hl _ (HGw4.out.trans y.grew)).2.2.2.1
   have hy4:∀y:GrownW W4,y.world.cell? { block:=(ada.add (k*7)).block,off:=(ada.add (k*7)).off+4 }=some (.bool a.sh):=fun y=>(hl _ (HGw4.out.trans y.grew)).2.2.2.2.1
   have hy5:∀y:GrownW W4,y.world.cell? { block:=(ada.add (k*7)).block,off:=(ada.add (k*7)).off+5 }=some (.int .i64 a.file):=fun y=>(hl _ (HGw4.out.trans y.grew)).2.2.2.2.2.1
   have hy6:∀y:GrownW W4,y.world.cell? { block:=(ada.add (k*7)).block,off:=(ada.add (k*7)).off+6 }=some (.int .i64 a.base):=fun y=>(hl _ (HGw4.out.trans y.grew)).2.2.2.2.2.2
   have hne:Nonempty (GrownW W4):=⟨⟨_,Grew.refl _⟩⟩;clear hl hva;refine wp_lax [(10,⟨fun v=>v=enV (flatN s n),fun v w'=>True⟩),(11,⟨fun v=>v= .int .i64 (wEntry m a n (flatN s n)),fun v w'=>True⟩)] mixed (by kernel_rfl) ?hS ?hp ?_
   case hS=>
    intro x hx;simp only[mC,nM,or_false]at hx
    rcases hx with rfl|rfl
    ·exact⟨_,rfl⟩
    exact⟨_,rfl⟩
   case hp=>
    intro x hx;simp only[mC,nM,or_false]at hx
    rcases hx with rfl|rfl
    ·exact fun _ _ _ _ h=>h
    exact fun _ _ _ _ h=>h
   iterate 10 (refine lax_quiet rfl rfl rfl (fun K hK=>?_);go_big_quiet_op;refine hK _ ?_;clear hK)
   refine lax_spec rfl rfl (fun w' hg hF=>?_) (fun v1 hv=>?_)
   ·refine Does.call [.agg #[.slice x.t0.a x.t0.n x.t0.c,.slice x.t1.a x.t1.n x.t1.c,.slice x.t2.a x.t2.n x.t2.c,.slice x.t3.a x.t3.n x.t3.c,.slice x.t4.a x.t4.n x.t4.c,.slice x.t5.a x.t5.n x.t5.c,.slice x.t6.a x.t6.n x.t6.c,.slice x.t7.a x.t7.n x.t7.c],.int .i64 (n:Int)] rfl func65 rfl rfl rfl ?_;refine(HGT.out w' (HGw4.out.trans hg)).mono ?_;rintro e w'' ⟨rfl,hg3⟩;exact⟨_,rfl,hg3,rfl,trivial⟩
   subst hv;simp only[Act.put,sB,sS,sZ];refine lax_spec rfl rfl (fun w' hg hF=>?_) (fun v1 hv=>?_)
   ·refine Does.call [.agg #[.slice vf.a vf.n vf.c,.int .i64 m.hand,.slice vs.a vs.n vs.c,.slice vsb.a vsb.n vsb.c,.slice vsq.a vsq.n vsq.c,.slice vdb.a vdb.n vdb.c,.slice vdq.a vdq.n vdq.c,.slice vfl.a vfl.n vfl.c,.int .i64 m.cnt,.slice vca.a vca.n vca.c,.slice (some ad) spn spc],.agg #[.int .i64 a.fr,.int .i64 a.tz,.bool a.rd,.bool a.wr,.bool a.sh,.int .i64 a.file,.int .i64 a.base],.int .i64 (n:Int),enV (flatN s n)] rfl func93 rfl rfl rfl ?_;refine(HWE'.out w' (HGw4.out.trans hg)).mono ?_;rintro e w'' ⟨rfl,hg3⟩;exact⟨_,rfl,hg3,rfl,trivial⟩
   subst hv;simp only[Act.put,sB,sS,sZ];iterate 1 (refine lax_quiet rfl rfl rfl (fun K hK=>?_);go_big_quiet_op;refine hK _ ?_;clear hK)
   refine lax_nil fun W5 hg5 hF=>?_
   have HG5:=dD (HG4.out.trans hg5);have HGw5:=dD (HG2.out.trans HG5.out);clear hg5 hF hx0 hx1 hx2 hx3 hx4 hx5 hx6 hx7 hx8 hx9 hx10 hs1 hs2 hs3 hs4 hs5 hs6 hs7 hs8 hs9 hy0 hy1 hy2 hy3 hy4 hy5 hy6 hne;obtain⟨e,HEE⟩:∃e,Hid (wEntry m a n (flatN s n)=e):=⟨_,rfl⟩;rw[HEE.out];rw[HEE.out]at HEN
   by_cases h0:e=0
   ·have h0e:(e != 0)=false:=by simp[h0]
    have OW':Hid (∀(j:Nat) n,j<i+1->(pagesN s)[j]? =some n->entE m (onAt s.ars n) (flatN s n)=0):=dD<|fun j n' hj hn'=>by
     by_cases ej:j=i
     ·subst ej;rw[HNI.out]at hn';cases hn';rw[HEN.out];exact h0
     exact OW.out j n' (by omega) hn'
    clear h0;go_wp2
    go_roundg (q -(i+1))
    case measure=>omega
    exact⟨i+1,by omega,by omega,by go_num,HG5.out,OW'.out⟩
   have h0e:(e != 0)=true:=by simp[h0]
   have HZE:Hid (Z=e):=dD<|by
    have h6:spEnt m s=e:=by rw[spEnt_pages,firstE_at HNI.out OW.out (by rw[HEN.out];exact h0),HEN.out]
    rw[<-HZ.out];unfold wPages;rw[firstE_at HS.out HOW.out (by rw[h6];exact h0),h6]
   clear h0;go_wp2;go_ret;exact⟨by rw[HZE.out];rfl,HGw5.out⟩
  have hltz2:¬(i:Int)< (q:Int):=by omega
  have:i=q:=by omega
  subst this;have HSE:Hid (spEnt m s=0):=dD<|by
   rw[spEnt_pages];exact firstE_all fun j n hn=>OW.out j n (by rw[<-HQ.out];exact(gS.1 hn).1) hn
  have OW':Hid (∀(j:Nat) s,j<kk+1->m.sp[j]? =some s->spEnt m s=0):=dD<|fun j s' hj hs=>by
   by_cases ej:j=kk
   ·subst ej;rw[HS.out]at hs;cases hs;exact HSE.out
   exact HOW.out j s' (by omega) hs
  have XX:=dD (X2.out.grew BW.out);have GG:=dD (HG2.out.trans BW.out);go_wp2
  go_roundg (spn -(kk+1))
  case measure=>omega
  exact⟨kk+1,by omega,by omega,by go_num,GG.out,XX.out,OW'.out⟩
 have hltz:¬(kk:Int)< (spn:Int):=by omega
 have:kk=spn:=by omega
 subst this;have HZE:Hid (Z=0):=dD<|by
  rw[<-HZ.out];exact firstE_all fun j s hs=>OW.out j s (by rw[<-HN.out];exact(gS.1 hs).1) hs
 go_wp2;go_ret;exact⟨by rw[HZE.out];rfl,BW.out⟩
structure KeyK where
 ty:TypeId
 enc:Int × Int->Value
 und:∃fs,Tryz.prog.underlying ty=some (.struct fs)
 check:∀(em:Bool) (a:Int × Int) (w:World),(Instr.checkKey em 10000 ty (enc a)).run prog w= .ok () w
 same:∀(a b:Int × Int) (w:World),(Op.equal ty (enc a) (enc b)).run prog w= .ok (decide (a=b)) w
 bits:∀a:Int × Int,Instr.sameBits 10000 (enc a) (enc a)=true
def lookP:List ((Int × Int) × Int)->Int × Int->Option Int
 | [],_=>none
 | p :: l,k=>if k=p.1 then some p.2 else lookP l k
def findP:List ((Int × Int) × Int)->Int × Int->Nat->Option (Nat × Value)
 | [],_,_=>none
 | p :: l,k,i=>if k=p.1 then some (i,.int .i64 p.2)else findP l k (i+1)
def putP:List ((Int × Int) × Int)->Int × Int->Int->List ((Int × Int) × Int)
 | [],k,v=>[(k,v)]
 | p :: l,k,v=>if k=p.1 then(k,v) :: l else p :: putP l k v
theorem lookP_put:∀(l:List ((Int × Int) × Int)) (k x:Int × Int) (v:Int),lookP (putP l k v) x=if x=k then some v else lookP l x
 | [],k,x,v=>by simp[putP,lookP]
 | p :: l,k,x,v=>by
  unfold putP
  by_cases h:k=p.1
  ·rw[if_pos h];unfold lookP
   by_cases hx:x=k
   ·simp[hx]
   have hx':¬x=p.1:=fun e=>hx (e.trans h.symm)
   simp[hx,hx']
  rw[if_neg h];unfold lookP;rw[lookP_put l]
  by_cases hp:x=p.1
  ·rw[if_pos hp,if_pos hp,if_neg (fun e=>h (e.symm.trans hp))]
  rw[if_neg hp,if_neg hp]
theorem findP_none:∀{l:List ((Int × Int) × Int)} {k:Int × Int} {i:Nat},findP l k i=none->lookP l k=none/\∀v,putP l k v=l++ [(k,v)]
 | [],k,i,_=>⟨rfl,fun v=>rfl⟩
 | p :: l,k,i,h=>by
  unfold findP at h
  by_cases e:k=p.1
  ·rw[if_pos e]at h;cases h
  rw[if_neg e]at h;obtain⟨h1,h2⟩:=findP_none h;refine⟨by unfold lookP;rw[if_neg e,h1],fun v=>?_⟩
  unfold putP;rw[if_neg e,h2];rfl
theorem findP_some:∀{l:List ((Int × Int) × Int)} {k:Int × Int} {i j:Nat} {u:Value},findP l k i=some (j,u)->∃n z,u= .int .i64 z/\j=i+n/\l[n]? =some (k,z)/\lookP l k=some z/\∀v,putP l k v=l.set n (k,v)
 | [],k,i,j,u,h=>by cases h
 | p :: l,k,i,j,u,h=>by
  unfold findP at h
  by_cases e:k=p.1
  ·rw[if_pos e]at h;cases h;refine⟨0,p.2,rfl,rfl,by rw[e];rfl,by unfold lookP;rw[if_pos e],fun v=>?_⟩
   unfold putP;rw[if_pos e];rfl
  rw[if_neg e]at h;obtain⟨n,z,h1,h2,h3,h4,h5⟩:=findP_some h;refine⟨n+1,z,h1,by omega,by simpa using h3,by unfold lookP;rw[if_neg e,h4],fun v=>?_⟩
  unfold putP;rw[if_neg e,h5];rfl
def MapF (K:KeyK) (w:World) (b:Nat) (g:Int × Int->Option Int):Prop:=
 ∃es clock l,w.heap[b]? =some (.map es clock)/\(es.toList.map (fun e=>(e.key,e.val))=l.map (fun p:(Int × Int) × Int=>(K.enc p.1,Value.int .i64 p.2))/\(es.toList.map (·.born)).Pairwise (·< ·)/\∀e∈es.toList,e.born<clock)/\∀k,lookP l k=g k
theorem MapF.lt {K:KeyK} {w:World} {g:Int × Int->Option Int} (h:MapF K w b g):b<w.heap.size:=by
 obtain⟨es,c,l,h1,_⟩:=h;exact(aS.1 h1).1
theorem MapF.made (K:KeyK) (w:World):MapF K (w.alloc (.map #[] 0)) w.heap.size (fun _=>none):=⟨#[],0,[],by
 show(w.heap.push _)[w.heap.size]? =_
 simp,⟨rfl,List.Pairwise.nil,fun e he=>by cases he⟩,fun k=>rfl⟩
theorem MapF.grew {K:KeyK} {w:World} {g:Int × Int->Option Int} (h:MapF K w b g) (hg:Grew w w'):MapF K w' b g:=by
 have hlt:=h.lt;obtain⟨es,c,l,h1,h2⟩:=h;exact⟨es,c,l,(Below.block hg b hlt).trans h1,h2⟩
theorem MapF.kept {K:KeyK} {w:World} {g:Int × Int->Option Int} {row:Option Nat} (h:MapF K w b g) (hg:w.grownBy w' row) (hne:some b≠row):MapF K w' b g:=by
 have hlt:=h.lt;obtain⟨es,c,l,h1,h2⟩:=h;exact⟨es,c,l,(hg.block b hlt hne).trans h1,h2⟩
theorem MapF.congr {K:KeyK} {w:World} {g g':Int × Int->Option Int} (h:MapF K w b g) (e:∀k,g k=g' k):MapF K w b g':=by
 obtain⟨es,c,l,h1,h2,h3⟩:=h;exact⟨es,c,l,h1,h2,fun k=>(h3 k).trans (e k)⟩
theorem run_findAsking (K:KeyK) (k:Int × Int) (w:World):∀(l:List ((Int × Int) × Int)) (es:List MapEntry) (i:Nat),es.map (fun e=>(e.key,e.val))=l.map (fun p=>(K.enc p.1,Value.int .i64 p.2))->(Instr.findAsking K.ty (K.enc k) es i).run prog w= .ok (findP l k i) w
 | [],[],i,_=>rfl
 | [],e :: es,i,h=>by simp at h
 | p :: l,[],i,h=>by simp at h
 | p :: l,e :: es,i,h=>by
  simp only[mP,List.cons.injEq,pJ]at h;obtain⟨⟨h1,h2⟩,h3⟩:=h;unfold Instr.findAsking findP;simp only[Sem.run_bind,h1,K.same,rA]
  by_cases e':k=p.1
  ·simp[e',h2]
  simp[e',run_findAsking K k w l es (i+1) h3]
theorem run_findKey (K:KeyK) (k:Int × Int) (w:World) (l:List ((Int × Int) × Int)) (es:List MapEntry) (h:es.map (fun e=>(e.key,e.val))=l.map (fun p=>(K.enc p.1,Value.int .i64 p.2))):(Instr.findKey K.ty (K.enc k) es).run prog w= .ok (findP l k 0) w:=by
 obtain⟨fs,hu⟩:=K.und;unfold Instr.findKey;simp only[Sem.run_bind,run_underlying hu,rA]
 cases es with
 | nil=>
  cases l with
  | nil=>rfl
  | cons p l=>simp at h
 | cons e es=>
  have:Instr.findNow (.struct fs) (K.enc k) (e :: es) 0=none:=by simp[Instr.findNow,Instr.sameNow]
  rw[this];exact run_findAsking K k w l (e :: es) 0 h
theorem MapF.look {K:KeyK} {w:World} {g:Int × Int->Option Int} (h:MapF K w b g) (ht:Tryz.prog.underlying t=some (.map K.ty e)) (hz:(zeroValue e).run prog w= .ok (.int .i64 0) w) (k:Int × Int) (c:Bool):
  (Instr.lookup t (.map (some b)) (K.enc k) c).run prog w= .ok (if c then .tuple #[.int .i64 ((g k).getD 0),.bool (g k).isSome]else .int .i64 ((g k).getD 0)) w:=by
 obtain⟨es,cl,l,h1,⟨h2,_⟩,h3⟩:=h;have hf:=run_findKey K k w l es.toList h2;unfold Instr.lookup
 cases hp:findP l k 0 with
 | none=>
  rw[hp]at hf;have:=(findP_none hp).1;rw[h3 k]at this
  cases c <;> simp[run_underlying ht,MapKept.run_getObj_map h1,K.check,hf,hz,this]
 | some q=>
  obtain⟨j,u⟩:=q;rw[hp]at hf;obtain⟨n,z,rfl,_,_,h4,_⟩:=findP_some hp;rw[h3 k]at h4
  cases c <;> simp[run_underlying ht,MapKept.run_getObj_map h1,K.check,hf,h4]
theorem modify_born (f:MapEntry->MapEntry) (hf:∀e,(f e).born=e.born):∀(es:List MapEntry) (n:Nat),(es.modify n f).map (·.born)=es.map (·.born)
 | [],n=>by simp
 | e :: es,0=>by simp[hf]
 | e :: es,n+1=>by simp[modify_born f hf es n]
structure Stamped (K:KeyK) (es:Array MapEntry) (cl:Nat) (l:List ((Int × Int) × Int)):Prop where
 pairs:es.toList.map (fun e=>(e.key,e.val))=l.map (fun p=>(K.enc p.1,Value.int .i64 p.2))
 rise:(es.toList.map (·.born)).Pairwise (·< ·)
 low:∀e∈es.toList,e.born<cl
theorem Stamped.push {K:KeyK} {es:Array MapEntry} {l:List ((Int × Int) × Int)} (h:Stamped K es cl l) (k:Int × Int) (v:Int):Stamped K (es.push ⟨K.enc k,.int .i64 v,cl⟩) (cl+1) (l++ [(k,v)]):=by
 refine⟨by simp[h.pairs],?_,fun e he=>?_⟩
 ·simp only[Array.toList_push,List.map_append,mP,List.map_nil];rw[List.pairwise_append];refine⟨h.rise,by simp,fun a ha b hb=>?_⟩
  obtain⟨e,he,rfl⟩:=List.mem_map.1 ha
  simp at hb
  rw[hb];exact h.low e he
 simp only[Array.toList_push,List.mem_append,List.mem_singleton]at he
 rcases he with he|rfl
 ·have:=h.low e he;omega
 simp
theorem Stamped.modify {K:KeyK} {es:Array MapEntry} {l:List ((Int × Int) × Int)} (h:Stamped K es cl l) {n:Nat} {k:Int × Int} (hn:l[n]? =some (k,z)) (f:MapEntry->MapEntry) (v:Int) (hf:∀e,(f e).born=e.born) (hg:∀e,e.key=K.enc k->e.val= .int .i64 z->(f e).key=K.enc k/\(f e).val= .int .i64 v):Stamped K (es.modify n f) cl (l.set n (k,v)):=by
 have hb:(es.modify n f).toList.map (·.born)=es.toList.map (·.born):=by rw[Array.toList_modify];exact modify_born f hf es.toList n
 refine⟨?_,by rw[hb];exact h.rise,fun e he=>?_⟩
 ·have hp:=h.pairs;rw[Array.toList_modify]
  apply List.ext_getElem?
  intro j;have hj:=congrArg (fun(x:List (Value × Value))=>x[j]?) hp
  simp only[List.getElem?_map,List.getElem?_modify,List.getElem?_set]at hj⊢
  by_cases e:n=j
  ·subst e;rw[hn]at hj;have hnl:=(gS.1 hn).1
   cases hq:es.toList[n]? with
   | none=>rw[hq]at hj;simp at hj
   | some e0=>
    rw[hq]at hj
    simp at hj
    obtain⟨g1,g2⟩:=hg e0 hj.1 hj.2
    simp[hnl,g1,g2]
  simp only[e,if_false]at hj⊢
  cases hq:es.toList[j]? <;> rw[hq]at hj <;> simpa using hj
 have:e.born∈es.toList.map (·.born):=by rw[<-hb];exact List.mem_map.2 ⟨e,he,rfl⟩
 obtain⟨e',he',h'⟩:=List.mem_map.1 this;rw[<-h'];exact h.low e' he'
theorem Stamped.at {K:KeyK} {es:Array MapEntry} {l:List ((Int × Int) × Int)} (h:Stamped K es cl l) {n:Nat} {k:Int × Int} (hn:l[n]? =some (k,z)):∃e0,es[n]? =some e0/\e0.key=K.enc k/\e0.val= .int .i64 z:=by
 have:=congrArg (fun(x:List (Value × Value))=>x[n]?) h.pairs
 simp only[List.getElem?_map,hn,Option.map_some]at this
 cases hq:es[n]? with
 | none=>simp[hq]at this
 | some e0=>simp[hq]at this;exact⟨e0,rfl,this.1,this.2⟩
theorem born_inj:∀{l:List Nat},l.Pairwise (·< ·)->∀{i j:Nat} {x:Nat},l[i]? =some x->l[j]? =some x->i=j
 | [],_,i,j,x,h,_=>by simp at h
 | a :: l,hp,i,j,x,h,h'=>by
  rw[List.pairwise_cons]at hp
  cases i with
  | zero=>
   cases j with
   | zero=>rfl
   | succ j=>
    simp at h h'
    subst h;have:=hp.1 a (mG h');omega
  | succ i=>
   cases j with
   | zero=>
    simp at h h'
    subst h';have:=hp.1 a (mG h);omega
   | succ j=>
    simp at h h'
    rw[born_inj hp.2 h h']
theorem map_put {K:KeyK} {w:World} {es es':Array MapEntry} {cl':Nat} {l:List ((Int × Int) × Int)} {g:Int × Int->Option Int} {k:Int × Int} {v:Int} (h1:w.heap[b]? =some (.map es cl)) (h3:∀k,lookP l k=g k) (hs:Stamped K es' cl' (putP l k v)):
  MapF K (ChangeMaps.setBlock w b (.map es' cl')) b (fun x=>if x=k then some v else g x)/\w.grownBy (ChangeMaps.setBlock w b (.map es' cl')) (some b)/\(ChangeMaps.setBlock w b (.map es' cl')).heap.size=w.heap.size:=by
 refine⟨⟨es',cl',putP l k v,ChangeMaps.heap_setBlock_same h1 _,⟨hs.pairs,hs.rise,hs.low⟩,fun x=>?_⟩,⟨rfl,rfl,rfl,by simp[ChangeMaps.setBlock],fun i _ hi=>ChangeMaps.heap_setBlock_other h1 _ (fun e=>hi (by rw[e]))⟩,by simp[ChangeMaps.setBlock]⟩
 rw[lookP_put,h3]
theorem MapF.put {K:KeyK} {w:World} {g:Int × Int->Option Int} (h:MapF K w b g) (ht:Tryz.prog.underlying t=some (.map K.ty e)) (k:Int × Int) (v:Int):
  ∃w',(Instr.mapUpdate t (.map (some b)) (K.enc k) (.int .i64 v)).run prog w= .ok () w'/\MapF K w' b (fun x=>if x=k then some v else g x)/\w.grownBy w' (some b)/\w'.heap.size=w.heap.size:=by
 obtain⟨es,cl,l,h1,⟨h2,h4,h5⟩,h3⟩:=h;have hst:Stamped K es cl l:=⟨h2,h4,h5⟩;have hf:=run_findKey K k w l es.toList h2
 cases hp:findP l k 0 with
 | none=>
  rw[hp]at hf;have hput:=(findP_none hp).2 v;refine⟨ChangeMaps.setBlock w b (.map (es.push ⟨K.enc k,.int .i64 v,cl⟩) (cl+1)),?_,map_put h1 h3 (by rw[hput];exact hst.push k v)⟩
  simp[Instr.mapUpdate,run_underlying ht,MapKept.run_getObj_map h1,K.check,hf,MapKept.run_setObj_map _ h1,ChangeMaps.setBlock]
 | some q=>
  obtain⟨j,u⟩:=q;rw[hp]at hf;obtain⟨n,z,rfl,rfl,h6,_,h7⟩:=findP_some hp;rw[zA]at hf;obtain⟨e0,he0,hk0,_⟩:=hst.at h6;refine⟨ChangeMaps.setBlock w b (.map (es.modify n fun e=>{ e with key:=K.enc k,val:= .int .i64 v }) cl),?_,map_put h1 h3 (by rw[h7];exact hst.modify h6 _ v (fun _=>rfl) (fun _ _ _=>⟨rfl,rfl⟩))⟩
  simp[Instr.mapUpdate,run_underlying ht,MapKept.run_getObj_map h1,K.check,hf,he0,hk0,Instr.keyThatStays,K.bits,MapKept.run_setObj_map _ h1,ChangeMaps.setBlock]
def MapE (K:KeyK) (w:World) (b:Nat) (g:Int × Int->Option Int) (k:Int × Int) (st:Int):Prop:=
 ∃es cl l,w.heap[b]? =some (.map es cl)/\Stamped K es cl l/\(∀k,lookP l k=g k)/\∃(n:Nat) (z:Int) (e:MapEntry),l[n]? =some (k,z)/\(∀v,putP l k v=l.set n (k,v))/\es[n]? =some e/\(e.born:Int)=st
theorem MapE.f {K:KeyK} {w:World} {g:Int × Int->Option Int} {k:Int × Int} {st:Int} (h:MapE K w b g k st):MapF K w b g:=by
 obtain⟨es,cl,l,h1,h2,h3,_⟩:=h;exact⟨es,cl,l,h1,⟨h2.pairs,h2.rise,h2.low⟩,h3⟩
theorem putP_snoc:∀{l:List ((Int × Int) × Int)} {k:Int × Int} (z v:Int),lookP l k=none->putP (l++ [(k,z)]) k v=(l++ [(k,z)]).set l.length (k,v)
 | [],k,z,v,_=>by simp[putP]
 | p :: l,k,z,v,h=>by
  unfold lookP at h
  by_cases e:k=p.1
  ·rw[if_pos e]at h;cases h
  rw[if_neg e]at h;simp only[List.cons_append,putP,e,if_false,List.length_cons,sS];rw[putP_snoc z v h]
theorem MapF.entry {K:KeyK} {w:World} {g:Int × Int->Option Int} (h:MapF K w b g) (ht:Tryz.prog.underlying t=some (.map K.ty e)) (hz:(zeroValue e).run prog w= .ok (.int .i64 0) w) (k:Int × Int):
  ∃w' st,(Instr.mapEntry t (.map (some b)) (K.enc k)).run prog w= .ok (.tuple #[.int .i64 ((g k).getD 0),.int .i64 st]) w'/\MapE K w' b (fun x=>if x=k then some ((g k).getD 0)else g x) k st/\w.grownBy w' (some b)/\w'.heap.size=w.heap.size:=by
 obtain⟨es,cl,l,h1,⟨h2,h4,h5⟩,h3⟩:=h;have hst:Stamped K es cl l:=⟨h2,h4,h5⟩;have hf:=run_findKey K k w l es.toList h2
 cases hp:findP l k 0 with
 | none=>
  rw[hp]at hf;obtain⟨hno,hput⟩:=findP_none hp;have hg:g k=none:=by rw[<-h3];exact hno
  have hs':=hst.push k 0;have hm:=map_put h1 h3 (k:=k) (v:=0) (by rw[hput];exact hs')
  refine⟨ChangeMaps.setBlock w b (.map (es.push ⟨K.enc k,.int .i64 0,cl⟩) (cl+1)),cl,?_,⟨_,_,_,ChangeMaps.heap_setBlock_same h1 _,hs',fun x=>?_,l.length,0,⟨K.enc k,.int .i64 0,cl⟩,by simp,fun v=>putP_snoc 0 v hno,?_,rfl⟩,hm.2⟩
  ·rw[hg]
   simp[Instr.mapEntry,run_underlying ht,MapKept.run_getObj_map h1,K.check,hf,hz,MapKept.run_setObj_map _ h1,ChangeMaps.setBlock,goInt]
  ·rw[hg,<-hput,lookP_put,h3];rfl
  have:es.size=l.length:=by have:=congrArg List.length h2;simpa using this
  simp[<-this]
 | some q=>
  obtain⟨j,u⟩:=q;rw[hp]at hf;obtain⟨n,z,rfl,rfl,h6,h8,h7⟩:=findP_some hp;rw[zA]at hf;obtain⟨e0,he0,hk0,hv0⟩:=hst.at h6;have hg:g k=some z:=by rw[<-h3];exact h8
  have hs':Stamped K (es.modify n fun e=>{ e with key:=K.enc k }) cl (l.set n (k,z)):=hst.modify h6 (fun e=>{ e with key:=K.enc k }) z (fun _=>rfl) (fun _ _ hv=>⟨rfl,hv⟩)
  have hm:=map_put h1 h3 (k:=k) (v:=z) (by rw[h7];exact hs')
  have hnl:=(gS.1 h6).1;refine⟨ChangeMaps.setBlock w b (.map (es.modify n fun e=>{ e with key:=K.enc k }) cl),e0.born,?_,⟨_,_,_,ChangeMaps.heap_setBlock_same h1 _,hs',fun x=>?_,n,z,{ e0 with key:=K.enc k },sF hnl,fun v=>?_,?_,rfl⟩,hm.2⟩
  ·rw[hg]
   simp[Instr.mapEntry,run_underlying ht,MapKept.run_getObj_map h1,K.check,hf,he0,hk0,Instr.keyThatStays,K.bits,MapKept.run_setObj_map _ h1,ChangeMaps.setBlock,goInt]
  ·rw[hg,<-h7,lookP_put,h3];rfl
  ·rw[set_same h6,h7]
  rw[Array.getElem?_modify,if_pos rfl,he0];rfl
theorem MapE.store {K:KeyK} {w:World} {g:Int × Int->Option Int} {k:Int × Int} {st:Int} (h:MapE K w b g k st) (t:TypeId) (v:Int):
  ∃w',(Instr.entryStore t (.map (some b)) (.int .i64 st) (.int .i64 v)).run prog w= .ok () w'/\MapF K w' b (fun x=>if x=k then some v else g x)/\w.grownBy w' (some b)/\w'.heap.size=w.heap.size:=by
 obtain⟨es,cl,l,h1,hst,h3,n,z,e0,h6,h7,he0,rfl⟩:=h;have hnl:n<es.size:=(aS.1 he0).1;have hfind:es.findIdx? (fun e=>(e.born:Int) ==(e0.born:Int))=some n:=by
  rw[Array.findIdx?_eq_some_iff_getElem];refine⟨hnl,?_,fun j hj=>?_⟩
  ·have:es[n]=e0:=(aS.1 he0).2
   simp[this]
  intro hc;have hjl:j<es.size:=by omega
  have hc':es[j].born=e0.born:=by
   have:(es[j].born:Int)=(e0.born:Int):=by simpa using hc
   omega
  have q1:(es.toList.map (·.born))[n]? =some e0.born:=by simp[he0]
  have q2:(es.toList.map (·.born))[j]? =some e0.born:=by simp[hjl,hc']
  have:=born_inj hst.rise q1 q2;omega
 refine⟨ChangeMaps.setBlock w b (.map (es.modify n fun e=>{ e with val:= .int .i64 v }) cl),?_,map_put h1 h3 (by rw[h7];exact hst.modify h6 _ v (fun _=>rfl) (fun _ hk _=>⟨hk,rfl⟩))⟩
 simp[Instr.entryStore,MapKept.run_getObj_map h1,asInt,asIntOf,hfind,MapKept.run_setObj_map _ h1,ChangeMaps.setBlock]
theorem wp_putMap {K:KeyK} {w:World} {rest:List Oper} {a:Act} (hgd:o.guard=none) (t e:TypeId) (m x v:Operand) (hop:o.op= .mapUpdate t m x v) (ht:Tryz.prog.underlying t=some (.map K.ty e)) (b:Nat) (g:Int × Int->Option Int) (h:MapF K w b g) (k:Int × Int) (z:Int)
  (hm:a.eval m= .map (some b)) (hx:a.eval x=K.enc k) (hv:a.eval v= .int .i64 z)
  (hK:∀w',MapF K w' b (fun x=>if x=k then some z else g x)->w.grownBy w' (some b)->w'.heap.size=w.heap.size->wpList prog ops Q rest (a.put o.dst undef) w'):wpList prog ops Q (o :: rest) a w:=by
 refine wpList_plain hgd fun K' hK'=>?_
 obtain⟨w',hrun,r1,r2,r3⟩:=h.put ht k z;unfold Oper.wp
 simp[execOp,hop,hm,hx,hv,hrun,Result.andThen]
 exact hK' _ _ (hK w' r1 r2 r3)
theorem plK_check (em:Bool) (a:Int × Int) (w:World):(Instr.checkKey em 10000 177 (.agg #[.int .i64 a.1,.int .i64 a.2])).run prog w= .ok () w:=by
 have hf : (Tryz.prog.fieldsOf 177).toList.map (fun f => (f.name, f.type, f.offset)) = [("file", 3, 0), ("index", 3, 1)] := by kernel_rfl
 have hu:∃fs,Tryz.prog.underlying 177=some (.struct fs)/\Tryz.prog.fieldsOf 177=fs:=⟨_,underlying177,by kernel_rfl⟩
 obtain⟨fs,hu,hfe⟩:=hu;rw[hfe]at hf;obtain⟨f0,f1,hfs⟩:∃f0 f1,fs.toList=[f0,f1]:=by
  have hl:fs.toList.length=2:=by have:=congrArg List.length hf;simpa using this
  match hq:fs.toList,hl with
  | [f0,f1],_=>exact⟨f0,f1,rfl⟩
 rw[hfs]at hf
 simp at hf
 obtain⟨⟨n0,t0,o0⟩,⟨n1,t1,o1⟩⟩:=hf;have pI:∀(zs:Array Value) (o:Nat) v,zs[o]? =some (.int .i64 v)->(part 3 zs o).run prog w= .ok (.int .i64 v) w:=fun zs o v hz=>run_part_plain w (by simp[Program.plainKey,underlying3]) hz
 have pB:∀(zs:Array Value) (o:Nat) v,zs[o]? =some (.bool v)->(part 4 zs o).run prog w= .ok (.bool v) w:=fun zs o v hz=>run_part_plain w (by simp[Program.plainKey,underlying4]) hz
 have cI:∀(v:Int) (n:Nat),(Instr.checkKey em (n+1) 3 (.int .i64 v)).run prog w= .ok () w:=fun v n=>by
  unfold Instr.checkKey
  simp[run_underlying underlying3]
 have cB:∀(v:Bool) (n:Nat),(Instr.checkKey em (n+1) 4 (.bool v)).run prog w= .ok () w:=fun v n=>by
  unfold Instr.checkKey
  simp[run_underlying underlying4]
 rw[show(10000:Nat)=9999+1 from rfl,Instr.checkKey]
 simp only[Sem.run_bind,run_underlying hu,rA];rw[<-Array.forIn_toList,hfs];have k1:=cI a.1 9998;have k2:=cI a.2 9998;have k3:=cB false 9998;have q0:=pI (#[.int .i64 a.1,.int .i64 a.2]) 0 a.1 rfl;have q1:=pI (#[.int .i64 a.1,.int .i64 a.2]) 1 a.2 rfl
 simp[List.forIn_cons,n0,t0,o0,n1,t1,o1,q0,q1,k1,k2]
theorem plK_same (a b:Int × Int) (w:World):(Op.equal 177 (.agg #[.int .i64 a.1,.int .i64 a.2]) (.agg #[.int .i64 b.1,.int .i64 b.2])).run prog w= .ok (decide (a=b)) w:=by
 have hf : (Tryz.prog.fieldsOf 177).toList.map (fun f => (f.name, f.type, f.offset)) = [("file", 3, 0), ("index", 3, 1)] := by kernel_rfl
 unfold Op.equal Op.maxDepth;rw[run_equalIn_struct w 9999 177 _ _ (by kernel_rfl) (by kernel_rfl)]
 obtain⟨f0,f1,hfs⟩:∃f0 f1,(Tryz.prog.fieldsOf 177).toList=[f0,f1]:=by
  have hl:(Tryz.prog.fieldsOf 177).toList.length=2:=by have:=congrArg List.length hf;simpa using this
  match hq:(Tryz.prog.fieldsOf 177).toList,hl with
  | [f0,f1],_=>exact⟨f0,f1,rfl⟩
 rw[hfs]at hf⊢
 simp at hf
 obtain⟨⟨n0,t0,o0⟩,⟨n1,t1,o1⟩⟩:=hf;have pI:∀(zs:Array Value) (o:Nat) v,zs[o]? =some (.int .i64 v)->(part 3 zs o).run prog w= .ok (.int .i64 v) w:=fun zs o v hz=>run_part_plain w (by simp[Program.plainKey,underlying3]) hz
 have pB:∀(zs:Array Value) (o:Nat) v,zs[o]? =some (.bool v)->(part 4 zs o).run prog w= .ok (.bool v) w:=fun zs o v hz=>run_part_plain w (by simp[Program.plainKey,underlying4]) hz
 simp only[Op.eqFields,n0,t0,o0,n1,t1,o1];obtain⟨a1,a2⟩:=a;obtain⟨b1,b2⟩:=b
 simp[pI,run_equalIn_int w _ _ _ _ _ _ underlying3]
 by_cases e1:a1=b1 <;> by_cases e2:a2=b2 <;> simp[e1,e2]
def plK:KeyK where
 ty:=177
 enc:=fun a=> .agg #[.int .i64 a.1,.int .i64 a.2]
 und:=⟨_,underlying177⟩
 check:=plK_check
 same:=plK_same
 bits:=fun a=>by simp[Instr.sameBits]
theorem enK_check (em:Bool) (a:Int × Int) (w:World):(Instr.checkKey em 10000 67 (.agg #[.int .i64 a.1,.int .i64 a.2,.bool false])).run prog w= .ok () w:=by
 have hf : (Tryz.prog.fieldsOf 67).toList.map (fun f => (f.name, f.type, f.offset)) = [("Kind", 3, 0), ("N", 3, 1), ("Write", 4, 2)] := by kernel_rfl
 have hu:∃fs,Tryz.prog.underlying 67=some (.struct fs)/\Tryz.prog.fieldsOf 67=fs:=⟨_,underlying67,by kernel_rfl⟩
 obtain⟨fs,hu,hfe⟩:=hu;rw[hfe]at hf;obtain⟨f0,f1,f2,hfs⟩:∃f0 f1 f2,fs.toList=[f0,f1,f2]:=by
  have hl:fs.toList.length=3:=by have:=congrArg List.length hf;simpa using this
  match hq:fs.toList,hl with
  | [f0,f1,f2],_=>exact⟨f0,f1,f2,rfl⟩
 rw[hfs]at hf
 simp at hf
 obtain⟨⟨n0,t0,o0⟩,⟨n1,t1,o1⟩,⟨n2,t2,o2⟩⟩:=hf;have pI:∀(zs:Array Value) (o:Nat) v,zs[o]? =some (.int .i64 v)->(part 3 zs o).run prog w= .ok (.int .i64 v) w:=fun zs o v hz=>run_part_plain w (by simp[Program.plainKey,underlying3]) hz
 have pB:∀(zs:Array Value) (o:Nat) v,zs[o]? =some (.bool v)->(part 4 zs o).run prog w= .ok (.bool v) w:=fun zs o v hz=>run_part_plain w (by simp[Program.plainKey,underlying4]) hz
 have cI:∀(v:Int) (n:Nat),(Instr.checkKey em (n+1) 3 (.int .i64 v)).run prog w= .ok () w:=fun v n=>by
  unfold Instr.checkKey
  simp[run_underlying underlying3]
 have cB:∀(v:Bool) (n:Nat),(Instr.checkKey em (n+1) 4 (.bool v)).run prog w= .ok () w:=fun v n=>by
  unfold Instr.checkKey
  simp[run_underlying underlying4]
 rw[show(10000:Nat)=9999+1 from rfl,Instr.checkKey]
 simp only[Sem.run_bind,run_underlying hu,rA];rw[<-Array.forIn_toList,hfs];have k1:=cI a.1 9998;have k2:=cI a.2 9998;have k3:=cB false 9998;have q0:=pI (#[.int .i64 a.1,.int .i64 a.2,.bool false]) 0 a.1 rfl;have q1:=pI (#[.int .i64 a.1,.int .i64 a.2,.bool false]) 1 a.2 rfl;have q2:=pB (#[.int .i64 a.1,.int .i64 a.2,.bool false]) 2 false rfl
 simp[List.forIn_cons,n0,t0,o0,n1,t1,o1,n2,t2,o2,q0,q1,q2,k1,k2,k3]
theorem enK_same (a b:Int × Int) (w:World):(Op.equal 67 (.agg #[.int .i64 a.1,.int .i64 a.2,.bool false]) (.agg #[.int .i64 b.1,.int .i64 b.2,.bool false])).run prog w= .ok (decide (a=b)) w:=by
 have hf : (Tryz.prog.fieldsOf 67).toList.map (fun f => (f.name, f.type, f.offset)) = [("Kind", 3, 0), ("N", 3, 1), ("Write", 4, 2)] := by kernel_rfl
 unfold Op.equal Op.maxDepth;rw[run_equalIn_struct w 9999 67 _ _ (by kernel_rfl) (by kernel_rfl)]
 obtain⟨f0,f1,f2,hfs⟩:∃f0 f1 f2,(Tryz.prog.fieldsOf 67).toList=[f0,f1,f2]:=by
  have hl:(Tryz.prog.fieldsOf 67).toList.length=3:=by have:=congrArg List.length hf;simpa using this
  match hq:(Tryz.prog.fieldsOf 67).toList,hl with
  | [f0,f1,f2],_=>exact⟨f0,f1,f2,rfl⟩
 rw[hfs]at hf⊢
 simp at hf
 obtain⟨⟨n0,t0,o0⟩,⟨n1,t1,o1⟩,⟨n2,t2,o2⟩⟩:=hf;have pI:∀(zs:Array Value) (o:Nat) v,zs[o]? =some (.int .i64 v)->(part 3 zs o).run prog w= .ok (.int .i64 v) w:=fun zs o v hz=>run_part_plain w (by simp[Program.plainKey,underlying3]) hz
 have pB:∀(zs:Array Value) (o:Nat) v,zs[o]? =some (.bool v)->(part 4 zs o).run prog w= .ok (.bool v) w:=fun zs o v hz=>run_part_plain w (by simp[Program.plainKey,underlying4]) hz
 simp only[Op.eqFields,n0,t0,o0,n1,t1,o1,n2,t2,o2];obtain⟨a1,a2⟩:=a;obtain⟨b1,b2⟩:=b
 simp[pI,pB,run_equalIn_bool' w _ _ _ _ underlying4,run_equalIn_int w _ _ _ _ _ _ underlying3]
 by_cases e1:a1=b1 <;> by_cases e2:a2=b2 <;> simp[e1,e2]
def enK:KeyK where
 ty:=67
 enc:=fun a=> .agg #[.int .i64 a.1,.int .i64 a.2,.bool false]
 und:=⟨_,underlying67⟩
 check:=enK_check
 same:=enK_same
 bits:=fun a=>by simp[Instr.sameBits]
theorem Box.ne_map {K:KeyK} {w:World} {cs:List Value} {g:Int × Int->Option Int} (h:Box w b cs) (k:MapF K w B g):b≠B:=fun e=>by
 subst e;obtain⟨t,h⟩:=h;obtain⟨es,cl,l,k1,_⟩:=k;rw[h]at k1;cases k1
theorem OwnRow.ne_map {α:Type} {E:Elt α} {K:KeyK} {w:World} {base:Nat} {v:Value} {l:List α} {g:Int × Int->Option Int} (h:OwnRow E base w v l) (k:MapF K w B g):∀x,v.ownBlock=some x->some B≠some x:=fun x hx e=>by
 cases e;obtain⟨cs,h1⟩:=h.obj hx;obtain⟨es,cl,l,k1,_⟩:=k;rw[h1]at k1;cases k1
theorem Tryz.zeroInt (w:World):(zeroValue 3).run prog w= .ok (.int .i64 0) w:=by kernel_rfl
theorem withIndex_any (V:MaV) (m:Ma) (w:World) (hm:MachAt w V m):
  Calls prog 58 #[.agg #[.slice V.f.a V.f.n V.f.c,.int .i64 m.hand,.slice V.s.a V.s.n V.s.c,.slice V.sb.a V.sb.n V.sb.c,.slice V.sq.a V.sq.n V.sq.c,.slice V.db.a V.db.n V.db.c,.slice V.dq.a V.dq.n V.dq.c,.slice V.fl.a V.fl.n V.fl.c,.int .i64 m.cnt,.slice V.ca.a V.ca.n V.ca.c,.slice V.sp.a V.sp.n V.sp.c]] w fun e w'=>∃B,e= .returned (.agg #[.slice V.f.a V.f.n V.f.c,.int .i64 m.hand,.slice V.s.a V.s.n V.s.c,.slice V.sb.a V.sb.n V.sb.c,.slice V.sq.a V.sq.n V.sq.c,.slice V.db.a V.db.n V.db.c,.slice V.dq.a V.dq.n V.dq.c,.slice V.fl.a V.fl.n V.fl.c,.int .i64 m.cnt,.slice V.ca.a V.ca.n V.ca.c,.slice V.sp.a V.sp.n V.sp.c,.map (some B)])/\MapF plK w' B (idxG m.ca)/\Grew w w':=by
 obtain⟨vf,vs,vsb,vsq,vdb,vdq,vfl,⟨caa,can,cac⟩,vsp⟩:=V;dsimp only;obtain⟨-,-,-,-,-,-,-,n8,-⟩:=hm.ns;dsimp only at n8;have HR:Hid (CaRows w caa m.ca):=hm.cas;have HN:Hid (m.ca.length=can):=n8.symm;have hbig:can<=9223372036854775807:=by have:=hm.ca.short;omega
 clear hm n8;have hmm:=@run_makeMap prog;obtain⟨W0,hW0⟩:∃W0,((w.alloc (.cells #[.slice vf.a vf.n vf.c,.int .i64 m.hand,.slice vs.a vs.n vs.c,.slice vsb.a vsb.n vsb.c,.slice vsq.a vsq.n vsq.c,.slice vdb.a vdb.n vdb.c,.slice vdq.a vdq.n vdq.c,.slice vfl.a vfl.n vfl.c,.int .i64 m.cnt,.slice caa can cac,.slice vsp.a vsp.n vsp.c] 40)).alloc (.cells #[.slice none 0 0,.int .i64 0,.slice none 0 0,.slice none 0 0,.slice none 0 0,.slice none 0 0,.slice none 0 0,.slice none 0 0,.int .i64 0,.slice none 0 0,.slice none 0 0,.map none] 117)).alloc (.map #[] 0)=W0:=⟨_,rfl⟩;have HG0:Hid (Grew w W0):=dD<|by rw[<-hW0];exact((grew_alloc _ _).trans (grew_alloc _ _)).trans (grew_alloc _ _)
 have X0:Hid (Box W0 w.heap.size [.slice vf.a vf.n vf.c,.int .i64 m.hand,.slice vs.a vs.n vs.c,.slice vsb.a vsb.n vsb.c,.slice vsq.a vsq.n vsq.c,.slice vdb.a vdb.n vdb.c,.slice vdq.a vdq.n vdq.c,.slice vfl.a vfl.n vfl.c,.int .i64 m.cnt,.slice caa can cac,.slice vsp.a vsp.n vsp.c]):=dD<|by rw[<-hW0];exact((Box.top _ _ _ rfl).alloc _).alloc _
 have Y0:Hid (Box W0 (w.heap.size+1) [.slice none 0 0,.int .i64 0,.slice none 0 0,.slice none 0 0,.slice none 0 0,.slice none 0 0,.slice none 0 0,.slice none 0 0,.int .i64 0,.slice none 0 0,.slice none 0 0,.map none]):=dD<|by rw[<-hW0];exact(Box.top _ _ _ (by simp)).alloc _
 have M0:Hid (MapF plK W0 (w.heap.size+1+1) (idxG (m.ca.take 0))):=dD<|by
  rw[<-hW0];have:=MapF.made plK ((w.alloc (.cells #[.slice vf.a vf.n vf.c,.int .i64 m.hand,.slice vs.a vs.n vs.c,.slice vsb.a vsb.n vsb.c,.slice vsq.a vsq.n vsq.c,.slice vdb.a vdb.n vdb.c,.slice vdq.a vdq.n vdq.c,.slice vfl.a vfl.n vfl.c,.int .i64 m.cnt,.slice caa can cac,.slice vsp.a vsp.n vsp.c] 40)).alloc (.cells #[.slice none 0 0,.int .i64 0,.slice none 0 0,.slice none 0 0,.slice none 0 0,.slice none 0 0,.slice none 0 0,.slice none 0 0,.int .i64 0,.slice none 0 0,.slice none 0 0,.map none] 117));have hs:((w.alloc (.cells #[.slice vf.a vf.n vf.c,.int .i64 m.hand,.slice vs.a vs.n vs.c,.slice vsb.a vsb.n vsb.c,.slice vsq.a vsq.n vsq.c,.slice vdb.a vdb.n vdb.c,.slice vdq.a vdq.n vdq.c,.slice vfl.a vfl.n vfl.c,.int .i64 m.cnt,.slice caa can cac,.slice vsp.a vsp.n vsp.c] 40)).alloc (.cells #[.slice none 0 0,.int .i64 0,.slice none 0 0,.slice none 0 0,.slice none 0 0,.slice none 0 0,.slice none 0 0,.slice none 0 0,.int .i64 0,.slice none 0 0,.slice none 0 0,.map none] 117)).heap.size=w.heap.size+1+1:=by simp
  rw[hs]at this;exact this.congr fun k=>by rw[List.take_zero];rfl
 have HW0:Hid (_=W0):=hW0;clear hW0
 go_enter func58,ntmps58
 go_upto_region 2 with fail;rw[HW0.out];clear hmm;have x9:=X0.out.c 9 rfl;go_wp2;clear x9
 go_loopg [10] can (fun gg s10 wr=>∃kk:Nat,kk<=can/\can - kk<=gg/\s10= .int .i64 kk/\Hid (Grew w wr)/\Hid (Box wr w.heap.size [.slice vf.a vf.n vf.c,.int .i64 m.hand,.slice vs.a vs.n vs.c,.slice vsb.a vsb.n vsb.c,.slice vsq.a vsq.n vsq.c,.slice vdb.a vdb.n vdb.c,.slice vdq.a vdq.n vdq.c,.slice vfl.a vfl.n vfl.c,.int .i64 m.cnt,.slice caa can cac,.slice vsp.a vsp.n vsp.c])/\Hid (Box wr (w.heap.size+1) [.slice none 0 0,.int .i64 0,.slice none 0 0,.slice none 0 0,.slice none 0 0,.slice none 0 0,.slice none 0 0,.slice none 0 0,.int .i64 0,.slice none 0 0,.slice none 0 0,.map none])/\Hid (MapF plK wr (w.heap.size+1+1) (idxG (m.ca.take kk))))
 case atStart=>exact⟨0,nZ _,by omega,rfl,HG0.out,X0.out,Y0.out,M0.out⟩
 obtain⟨kk,hkk,hgg,rfl,BW,XW,YW,MW⟩:=hrel
 by_cases hlt:kk<can
 ·have hltz:(kk:Int)< (can:Int):=by omega
  obtain⟨c,HC⟩:∃c,Hid (m.ca[kk]? =some c):=⟨_,gE (by rw[HN.out];exact hlt)⟩
  obtain⟨ad,rfl,hl⟩:=HR.out kk c HC.out;obtain⟨d0,d1,d2⟩:=hl wr BW.out;clear hl;go_upto_region 5 with fail;obtain⟨W1,hW1⟩:∃W1,wr.alloc (.cells #[.int .i64 c.file,.int .i64 c.idx,.int .i64 c.fr] 83)=W1:=⟨_,rfl⟩;have HG1:=gT hW1 BW
  have X1:=yA hW1 XW
  have Y1:=yA hW1 YW
  have M1:Hid (MapF plK W1 (w.heap.size+1+1) (idxG (m.ca.take kk))):=dD<|by rw[<-hW1];exact MW.out.grew (grew_alloc _ _)
  have C1:=xA hW1
  rw[hW1];clear hW1 d0 d1 d2;obtain⟨c0,c1,c2⟩:=C1.out.c3
  go_wp2_with (refine wp_putMap (K:=plK) rfl 115 3 (.tmp 14) (.tmp 19) (.tmp 21) rfl underlying115 (w.heap.size+1+1) _ M1.out (c.file,c.idx) c.fr rfl rfl rfl ?_)
  clear c0 c1 c2;intro W2 m2 hg2 _;have M2:Hid (MapF plK W2 (w.heap.size+1+1) (idxG (m.ca.take (kk+1)))):=dD<|m2.congr fun k=>by rw[take_snoc HC.out,idxG_snoc]
  have HG2:Hid (Grew w W2):=dD<|grew_grown HG1.out hg2 (by omega)
  have X2:Hid (Box W2 w.heap.size [.slice vf.a vf.n vf.c,.int .i64 m.hand,.slice vs.a vs.n vs.c,.slice vsb.a vsb.n vsb.c,.slice vsq.a vsq.n vsq.c,.slice vdb.a vdb.n vdb.c,.slice vdq.a vdq.n vdq.c,.slice vfl.a vfl.n vfl.c,.int .i64 m.cnt,.slice (some ad) can cac,.slice vsp.a vsp.n vsp.c]):=X1.out.grown hg2 (by omega)
  have Y2:Hid (Box W2 (w.heap.size+1) [.slice none 0 0,.int .i64 0,.slice none 0 0,.slice none 0 0,.slice none 0 0,.slice none 0 0,.slice none 0 0,.slice none 0 0,.int .i64 0,.slice none 0 0,.slice none 0 0,.map none]):=Y1.out.grown hg2 (by omega)
  clear m2 hg2;go_wp2
  go_roundg (can -(kk+1))
  case measure=>omega
  exact⟨kk+1,by omega,by omega,by go_num,HG2.out,X2.out,Y2.out,M2.out⟩
 have hltz:¬(kk:Int)< (can:Int):=by omega
 have:kk=can:=by omega
 subst this;have MA1:Hid (MapF plK wr (w.heap.size+1+1) (idxG m.ca)):=dD<|by
  have:=MW.out;rw[List.take_of_length_le (by rw[HN.out];exact nR _)]at this
  exact this
 obtain⟨x0,x1,x2,x3,x4,x5,x6,x7,x8,x9,x10⟩:=XW.out.c11
 go_wp2_with (refine wp_storeAll rfl 117 (.tmp 2) (.tmp 25) rfl (w.heap.size+1) rfl [.slice vf.a vf.n vf.c,.int .i64 m.hand,.slice vs.a vs.n vs.c,.slice vsb.a vsb.n vsb.c,.slice vsq.a vsq.n vsq.c,.slice vdb.a vdb.n vdb.c,.slice vdq.a vdq.n vdq.c,.slice vfl.a vfl.n vfl.c,.int .i64 m.cnt,.slice caa kk cac,.slice vsp.a vsp.n vsp.c,.map (some (w.heap.size+1+1))] rfl YW.out rfl (by kernel_rfl) (fun v hv=>by
  simp only[mC,nM,or_false]at hv
  rcases hv with rfl|rfl|rfl|rfl|rfl|rfl|rfl|rfl|rfl|rfl|rfl|rfl <;> rfl) ?_)
 clear x0 x1 x2 x3 x4 x5 x6 x7 x8 x9 x10;intro W5 hb5 hg5 _;have G5:Hid (Grew w W5):=dD<|grew_grown BW.out hg5 (by omega)
 have M5:Hid (MapF plK W5 (w.heap.size+1+1) (idxG m.ca)):=MA1.out.kept hg5 (by simp)
 go_wp2;refine bodyPost_ret (ret_cell rfl _ rfl hb5 underlying117 rfl (by kernel_rfl)) rfl ⟨_,rfl,M5.out,G5.out⟩
theorem hasCached_any (V:MaV) (m:Ma) (B k:Nat) (g:Int × Int->Option Int) (w:World) (hm:MachAt w V m) (hk:k<m.fs.length) (hmap:MapF plK w B g):
  Calls prog 95 #[.agg #[.slice V.f.a V.f.n V.f.c,.int .i64 m.hand,.slice V.s.a V.s.n V.s.c,.slice V.sb.a V.sb.n V.sb.c,.slice V.sq.a V.sq.n V.sq.c,.slice V.db.a V.db.n V.db.c,.slice V.dq.a V.dq.n V.dq.c,.slice V.fl.a V.fl.n V.fl.c,.int .i64 m.cnt,.slice V.ca.a V.ca.n V.ca.c,.slice V.sp.a V.sp.n V.sp.c,.map (some B)],.int .i64 (k:Int)] w fun e w'=>e= .returned (.bool (decide (g ((frAt m k).f,(frAt m k).x)=some (k:Int))))/\Grew w w':=by
 obtain⟨⟨fa,fn,fc⟩,vs,vsb,vsq,vdb,vdq,vfl,vca,vsp⟩:=V;dsimp only;obtain⟨n1,-⟩:=hm.ns;dsimp only at n1;have hkn:k<fn:=by omega
 obtain⟨q,HQ⟩:∃q,Hid (m.fs[k]? =some q):=⟨_,gE hk⟩;have hfr:frAt m (k:Int)=q:=by unfold frAt;rw[tN,gD,HQ.out];rfl
 rw[hfr];obtain⟨ad,rfl,hl⟩:=(show FrRows w fa m.fs from hm.frs) k q HQ.out
 clear hfr hm n1 hk;obtain⟨W1,hW1⟩:∃W1,w.alloc (.cells #[.slice (some ad) fn fc,.int .i64 m.hand,.slice vs.a vs.n vs.c,.slice vsb.a vsb.n vsb.c,.slice vsq.a vsq.n vsq.c,.slice vdb.a vdb.n vdb.c,.slice vdq.a vdq.n vdq.c,.slice vfl.a vfl.n vfl.c,.int .i64 m.cnt,.slice vca.a vca.n vca.c,.slice vsp.a vsp.n vsp.c,.map (some B)] 117)=W1:=⟨_,rfl⟩;have HG1:=gA hW1
 have X1:=xA hW1
 have HS1:=sA hW1
 obtain⟨d0,d1,d2,d3,d4,d5,d6,d7,d8,d9,d10,d11,d12⟩:=hl W1 HG1.out;obtain⟨W2,hW2⟩:∃W2,W1.alloc (.cells #[.int .u8 q.p.b0,.int .u8 q.p.b1,.int .u8 q.p.b2,.int .u8 q.p.b3,.int .u8 q.p.b4,.int .u8 q.p.b5,.int .u8 q.p.b6,.int .u8 q.p.b7,.int .i64 q.r,.bool q.u,.bool q.d,.int .i64 q.f,.int .i64 q.x] 59)=W2:=⟨_,rfl⟩;have HG2:=gT hW2 HG1
 have X2:=yA hW2 X1
 have F2:=xP hW2 HS1
 have hlook:(Instr.lookup 115 (.map (some B)) (.agg #[.int .i64 q.f,.int .i64 q.x]) true).run prog W2= .ok (.tuple #[.int .i64 ((g (q.f,q.x)).getD 0),.bool (g (q.f,q.x)).isSome]) W2:=(hmap.grew HG2.out).look (K:=plK) underlying115 (Tryz.zeroInt W2) (q.f,q.x) true;have HW1:Hid (_=W1):=hW1;have HW2:Hid (_=W2):=hW2;clear hW1 hW2 hl hmap;obtain⟨R,HRR⟩:∃R,Hid (decide (g (q.f,q.x)=some (k:Int))=R):=⟨_,rfl⟩;rw[HRR.out];obtain⟨gv,HGV⟩:∃gv,Hid (g (q.f,q.x)=gv):=⟨_,rfl⟩;rw[HGV.out]at hlook HRR
 go_enter func95,ntmps95
 go_upto_region 1 with fail;rw[HW1.out];have x0:=X1.out.c 0 rfl;go_upto_region 2 with fail;rw[HW2.out];rw[HS1.out];clear d0 d1 d2 d3 d4 d5 d6 d7 d8 d9 d10 d11 d12 x0;have x11:=X2.out.c 11 rfl;have f11:=F2.out.c 11 rfl;have f12:=F2.out.c 12 rfl
 cases gv with
 | none=>
  simp only[Option.getD_none,Option.isSome_none]at hlook;go_wp2;go_ret;exact⟨by rw[<-HRR.out];rfl,HG2.out⟩
 | some z=>
  simp only[Option.getD_some,Option.isSome_some]at hlook;have HE:Hid ((z ==(k:Int))=R):=dD<|by rw[<-HRR.out,Bool.eq_iff_iff];simp
  go_wp2;go_ret;exact⟨by rw[<-HE.out];rfl,HG2.out⟩
def MapH (K:KeyK) (w:World) (b:Nat) (H:Int × Int->Int):Prop:=∃g,MapF K w b g/\∀k,(g k).getD 0=H k
theorem MapH.grew {K:KeyK} {w:World} {H:Int × Int->Int} (h:MapH K w b H) (k:Grew w w'):MapH K w' b H:=by
 obtain⟨g,h1,h2⟩:=h;exact⟨g,h1.grew k,h2⟩
theorem MapH.congr {K:KeyK} {w:World} {H H':Int × Int->Int} (h:MapH K w b H) (e:∀k,H k=H' k):MapH K w b H':=by
 obtain⟨g,h1,h2⟩:=h;exact⟨g,h1,fun k=>(h2 k).trans (e k)⟩
theorem MapH.ne_box {K:KeyK} {w:World} {cs:List Value} {H:Int × Int->Int} (k:MapH K w B H) (h:Box w b cs):b≠B:=by
 obtain⟨g,h1,_⟩:=k;exact h.ne_map h1
theorem MapH.ne_own {α:Type} {E:Elt α} {K:KeyK} {w:World} {base:Nat} {v:Value} {l:List α} {H:Int × Int->Int} (k:MapH K w B H) (h:OwnRow E base w v l):∀x,v.ownBlock=some x->some B≠some x:=by
 obtain⟨g,h1,_⟩:=k;exact h.ne_map h1
def MapEH (K:KeyK) (w:World) (b:Nat) (H:Int × Int->Int) (k:Int × Int) (st:Int):Prop:=∃g,MapE K w b g k st/\∀x,(g x).getD 0=H x
theorem MapH.entry {K:KeyK} {w:World} {H:Int × Int->Int} (h:MapH K w b H) (ht:Tryz.prog.underlying t=some (.map K.ty e)) (hz:(zeroValue e).run prog w= .ok (.int .i64 0) w) (k:Int × Int):
  ∃w' st,(Instr.mapEntry t (.map (some b)) (K.enc k)).run prog w= .ok (.tuple #[.int .i64 (H k),.int .i64 st]) w'/\MapEH K w' b H k st/\w.grownBy w' (some b)/\w'.heap.size=w.heap.size:=by
 obtain⟨g,h1,h2⟩:=h;obtain⟨w',st,r1,r2,r3,r4⟩:=h1.entry ht hz k;rw[h2 k]at r1;refine⟨w',st,r1,⟨_,r2,fun x=>?_⟩,r3,r4⟩
 by_cases e:x=k
 ·subst e;rw[if_pos rfl];exact h2 x
 rw[if_neg e];exact h2 x
theorem MapEH.h {K:KeyK} {w:World} {H:Int × Int->Int} {k:Int × Int} {st:Int} (h:MapEH K w b H k st):MapH K w b H:=by
 obtain⟨g,h1,h2⟩:=h;exact⟨g,h1.f,h2⟩
theorem MapH.look {K:KeyK} {w:World} {H:Int × Int->Int} (h:MapH K w b H) (ht:Tryz.prog.underlying t=some (.map K.ty e)) (hz:(zeroValue e).run prog w= .ok (.int .i64 0) w) (k:Int × Int):
  (Instr.lookup t (.map (some b)) (K.enc k) false).run prog w= .ok (.int .i64 (H k)) w:=by
 obtain⟨g,h1,h2⟩:=h;have:=h1.look ht hz k false;rw[h2 k]at this;exact this
def addH (H:Int × Int->Int) (k:Int × Int):Int × Int->Int:=fun x=>H x+(if x=k then 1 else 0)
theorem wp_storeEntry {K:KeyK} {w:World} {rest:List Oper} {a:Act} (hgd:o.guard=none) (t:TypeId) (m s x:Operand) (hop:o.op= .entryStore t m s x) (b:Nat) (H:Int × Int->Int) (k:Int × Int) (st:Int) (h:MapEH K w b H k st)
  (hm:a.eval m= .map (some b)) (hs:a.eval s= .int .i64 st) (hv:a.eval x= .int .i64 (H k+1))
  (hK:∀w',MapH K w' b (addH H k)->w.grownBy w' (some b)->w'.heap.size=w.heap.size->wpList prog ops Q rest (a.put o.dst undef) w'):wpList prog ops Q (o :: rest) a w:=by
 refine wpList_plain hgd fun K' hK'=>?_
 obtain⟨g,h1,h2⟩:=h;obtain⟨w',hrun,r1,r2,r3⟩:=h1.store t (H k+1);unfold Oper.wp
 simp[execOp,hop,hm,hs,hv,hrun,Result.andThen]
 refine hK' _ _ (hK w' ⟨_,r1,fun y=>?_⟩ r2 r3)
 unfold addH
 by_cases e:y=k
 ·subst e;rw[if_pos rfl,if_pos rfl];rfl
 rw[if_neg e,if_neg e,h2 y];omega
theorem heldC_le (l:List Ca) (key:Int × Int):0<=heldC l key/\heldC l key<=l.length:=by
 unfold heldC cachedN
 split
 ·have:=List.countP_le_length (p:=fun c:Ca=>decide (c.fr=key.2)) (l:=l)
  omega
 omega
theorem pagesN_len (s:Sp):(pagesN s).length<=64:=by
 unfold pagesN;have:=List.length_filter_le (fun n=>enS (flatN s n)) (List.range 64)
 simpa using this
theorem held_le (m:Ma) (i:Nat) (l:List Nat) (s:Sp) (key:Int × Int):0<=heldTo m i l s key/\heldTo m i l s key<=m.ca.length+64*m.sp.length+l.length:=by
 unfold heldTo;have h1:(if key.1=1 then cachedN m.ca key.2 else 0)<=m.ca.length:=by
  split
  ·exact List.countP_le_length
  omega
 have h2:∀(L:List Sp),(L.map fun s=>(pagesN s).countP fun n=>isE (flatN s n) key.1 key.2).sum<=64*L.length:=by
  intro L
  induction L with
  | nil=>simp
  | cons a L ih=>
   have h3:=List.countP_le_length (p:=fun n=>isE (flatN a n) key.1 key.2) (l:=pagesN a)
   have h4:=pagesN_len a;simp only[mP,List.sum_cons,List.length_cons];omega
 have h5:=h2 (m.sp.take i);have h6:(m.sp.take i).length<=m.sp.length:=by simp;omega
 have h7:=List.countP_le_length (p:=fun n=>isE (flatN s n) key.1 key.2) (l:=l)
 omega
def sp00:Sp:=⟨true,[],[]⟩
theorem holders_any (V:MaV) (m:Ma) (w:World) (hm:MachAt w V m) (hsp4:m.sp.length<=4) (htb:∀s∈m.sp,tbW s.tb=0):
  Calls prog 94 #[.agg #[.slice V.f.a V.f.n V.f.c,.int .i64 m.hand,.slice V.s.a V.s.n V.s.c,.slice V.sb.a V.sb.n V.sb.c,.slice V.sq.a V.sq.n V.sq.c,.slice V.db.a V.db.n V.db.c,.slice V.dq.a V.dq.n V.dq.c,.slice V.fl.a V.fl.n V.fl.c,.int .i64 m.cnt,.slice V.ca.a V.ca.n V.ca.c,.slice V.sp.a V.sp.n V.sp.c]] w fun e w'=>∃B,e= .returned (.map (some B))/\MapH enK w' B (heldTo m m.sp.length [] sp00)/\Grew w w':=by
 obtain⟨vf,vs,vsb,vsq,vdb,vdq,vfl,⟨caa,can,cac⟩,⟨spa,spn,spc⟩⟩:=V;dsimp only;obtain⟨-,-,-,-,-,-,-,n8,n9⟩:=hm.ns;dsimp only at n8 n9;have HR:Hid (CaRows w caa m.ca):=hm.cas;have HN:Hid (m.ca.length=can):=n8.symm;have hbig:can<=140737488355328:=by have:=hm.ca.2;have h24:cchE.bytes=24:=rfl;rw[h24]at this;omega
 obtain⟨xs,hxl,hrow,hsp⟩:=hm.spaces;have HXL:Hid (xs.length=m.sp.length):=hxl;have HRS:Hid (∀(j:Nat) x,xs[j]? =some x->∃ad,spa=some ad/\∀W,Grew w W->Sp10 W (ad.add (j*10)) x):=hrow;have HSP:Hid (∀(i:Nat) x s,xs[i]? =some x->m.sp[i]? =some s->SpaceAt w x s):=hsp;have HNS:Hid (m.sp.length=spn):=n9.symm;have HTBS:Hid (∀s∈m.sp,tbW s.tb=0):=htb;have HC0:Hid (∀j key,0<=heldC (m.ca.take j) key/\heldC (m.ca.take j) key<=140737488355328):=show∀j key,_ from fun j key=>by
  have h1:=heldC_le (m.ca.take j) key;have h2:(m.ca.take j).length<=m.ca.length:=by simp;omega
  omega
 have HH0:Hid (∀i l s key,l.length<=64->0<=heldTo m i l s key/\heldTo m i l s key<=140737488360000):=dD<|fun i l s key hl=>by
  have h1:=held_le m i l s key;omega
 have hsn4:spn<=4:=by omega
 clear hm n8 n9 hxl hrow hsp hsp4 htb;have hmm:=@run_makeMap prog;obtain⟨W0,hW0⟩:∃W0,(w.alloc (.cells #[.slice vf.a vf.n vf.c,.int .i64 m.hand,.slice vs.a vs.n vs.c,.slice vsb.a vsb.n vsb.c,.slice vsq.a vsq.n vsq.c,.slice vdb.a vdb.n vdb.c,.slice vdq.a vdq.n vdq.c,.slice vfl.a vfl.n vfl.c,.int .i64 m.cnt,.slice caa can cac,.slice spa spn spc] 40)).alloc (.map #[] 0)=W0:=⟨_,rfl⟩;have HG0:Hid (Grew w W0):=dD<|by rw[<-hW0];exact(grew_alloc _ _).trans (grew_alloc _ _)
 have X0:Hid (Box W0 w.heap.size [.slice vf.a vf.n vf.c,.int .i64 m.hand,.slice vs.a vs.n vs.c,.slice vsb.a vsb.n vsb.c,.slice vsq.a vsq.n vsq.c,.slice vdb.a vdb.n vdb.c,.slice vdq.a vdq.n vdq.c,.slice vfl.a vfl.n vfl.c,.int .i64 m.cnt,.slice caa can cac,.slice spa spn spc]):=dD<|by rw[<-hW0];exact(Box.top _ _ _ rfl).alloc _
 have M0:Hid (MapH enK W0 (w.heap.size+1) (heldC (m.ca.take 0))):=dD<|by
  rw[<-hW0];have:=MapF.made enK (w.alloc (.cells #[.slice vf.a vf.n vf.c,.int .i64 m.hand,.slice vs.a vs.n vs.c,.slice vsb.a vsb.n vsb.c,.slice vsq.a vsq.n vsq.c,.slice vdb.a vdb.n vdb.c,.slice vdq.a vdq.n vdq.c,.slice vfl.a vfl.n vfl.c,.int .i64 m.cnt,.slice caa can cac,.slice spa spn spc] 40));have hs:(w.alloc (.cells #[.slice vf.a vf.n vf.c,.int .i64 m.hand,.slice vs.a vs.n vs.c,.slice vsb.a vsb.n vsb.c,.slice vsq.a vsq.n vsq.c,.slice vdb.a vdb.n vdb.c,.slice vdq.a vdq.n vdq.c,.slice vfl.a vfl.n vfl.c,.int .i64 m.cnt,.slice caa can cac,.slice spa spn spc] 40)).heap.size=w.heap.size+1:=by simp
  rw[hs]at this;exact⟨_,this,fun k=>by rw[List.take_zero,heldC_nil];rfl⟩
 have HW0:Hid (_=W0):=hW0;clear hW0
 go_enter func94,ntmps94
 go_upto_region 2 with fail;rw[HW0.out];clear hmm;have x9:=X0.out.c 9 rfl;go_wp2;clear x9
 go_loopg [15] can (fun gg s15 wr=>∃kk:Nat,kk<=can/\can - kk<=gg/\s15= .int .i64 kk/\Hid (Grew w wr)/\Hid (Box wr w.heap.size [.slice vf.a vf.n vf.c,.int .i64 m.hand,.slice vs.a vs.n vs.c,.slice vsb.a vsb.n vsb.c,.slice vsq.a vsq.n vsq.c,.slice vdb.a vdb.n vdb.c,.slice vdq.a vdq.n vdq.c,.slice vfl.a vfl.n vfl.c,.int .i64 m.cnt,.slice caa can cac,.slice spa spn spc])/\Hid (MapH enK wr (w.heap.size+1) (heldC (m.ca.take kk))))
 case atStart=>exact⟨0,nZ _,by omega,rfl,HG0.out,X0.out,M0.out⟩
 obtain⟨kk,hkk,hgg,rfl,BW,XW,MW⟩:=hrel
 by_cases hlt:kk<can
 ·have hltz:(kk:Int)< (can:Int):=by omega
  obtain⟨c,HC⟩:∃c,Hid (m.ca[kk]? =some c):=⟨_,gE (by rw[HN.out];exact hlt)⟩
  obtain⟨ad,rfl,hl⟩:=HR.out kk c HC.out;obtain⟨d0,d1,d2⟩:=hl wr BW.out;clear hl;go_upto_region 5 with fail;obtain⟨W1,hW1⟩:∃W1,wr.alloc (.cells #[.int .i64 c.file,.int .i64 c.idx,.int .i64 c.fr] 83)=W1:=⟨_,rfl⟩;have HG1:=gT hW1 BW
  have X1:=yA hW1 XW
  have M1:Hid (MapH enK W1 (w.heap.size+1) (heldC (m.ca.take kk))):=dD<|by rw[<-hW1];exact MW.out.grew (grew_alloc _ _)
  have C1:=xA hW1
  rw[hW1];clear hW1 d0 d1 d2;obtain⟨pb,HPB⟩:∃pb,Hid (wr.heap.size=pb):=⟨_,rfl⟩;rw[HPB.out]at C1⊢;obtain⟨H,HH⟩:∃H,Hid (heldC (m.ca.take kk)=H):=⟨_,rfl⟩;rw[HH.out]at M1;obtain⟨hb0,hb1⟩:0<=H (1,c.fr)/\H (1,c.fr)<=140737488355328:=by rw[<-HH.out];exact HC0.out kk (1,c.fr)
  obtain⟨I,hI⟩:∃I:World->Prop,I=fun u=>MapH enK u (w.heap.size+1) H/\Box u pb [.int .i64 c.file,.int .i64 c.idx,.int .i64 c.fr]/\Box u w.heap.size [.slice vf.a vf.n vf.c,.int .i64 m.hand,.slice vs.a vs.n vs.c,.slice vsb.a vsb.n vsb.c,.slice vsq.a vsq.n vsq.c,.slice vdb.a vdb.n vdb.c,.slice vdq.a vdq.n vdq.c,.slice vfl.a vfl.n vfl.c,.int .i64 m.cnt,.slice (some ad) can cac,.slice spa spn spc]/\Grew w u:=⟨_,rfl⟩
  have HI:Hid (∀u,I u↔MapH enK u (w.heap.size+1) H/\Box u pb [.int .i64 c.file,.int .i64 c.idx,.int .i64 c.fr]/\Box u w.heap.size [.slice vf.a vf.n vf.c,.int .i64 m.hand,.slice vs.a vs.n vs.c,.slice vsb.a vsb.n vsb.c,.slice vsq.a vsq.n vsq.c,.slice vdb.a vdb.n vdb.c,.slice vdq.a vdq.n vdq.c,.slice vfl.a vfl.n vfl.c,.int .i64 m.cnt,.slice (some ad) can cac,.slice spa spn spc]/\Grew w u):=dD<|fun u=>by rw[hI]
  clear hI;have hx2:∀y:HoldI I,y.world.cell? ⟨pb,2,none⟩=some (.int .i64 c.fr):=fun y=>((HI.out _).1 y.holds).2.1.c 2 rfl
  have hlk:∀y:HoldI I,(Instr.lookup 163 (.map (some (w.heap.size+1))) (.agg #[.int .i64 1,.int .i64 c.fr,.bool false]) false).run prog y.world= .ok (.int .i64 (H (1,c.fr))) y.world:=fun y=>((HI.out _).1 y.holds).1.look (K:=enK) underlying163 (Tryz.zeroInt _) (1,c.fr)
  have hI0:I W1.drew:=(HI.out _).2 ⟨M1.out.grew (gW _),C1.out.grew (gW _),X1.out.grew (gW _),HG1.out.trans (gW _)⟩
  have hne:Nonempty (HoldI I):=⟨⟨_,hI0⟩⟩;refine wp_lax_tailI (I:=I) 8 [(6,⟨fun v=>∃st,v= .tuple #[.int .i64 (H (1,c.fr)),.int .i64 st],fun v w'=>∃st,v= .tuple #[.int .i64 (H (1,c.fr)),.int .i64 st]/\MapEH enK w' (w.heap.size+1) H (1,c.fr) st,fun _ _=>True,fun _=>True⟩)] hI0 mixed (by kernel_rfl) rfl rfl (by decide) ?hS ?hp ?hpre ?hpr0 ?_
  case hS=>
   intro y hy;simp only[mC,nM,or_false]at hy;subst hy;exact⟨_,0,rfl⟩
  case hp=>
   intro k s j t' hk hj hjk _ v p q hst hpo;obtain⟨rfl,rfl⟩:=look1 hk;obtain⟨rfl,rfl⟩:=look1 hj;exact absurd rfl hjk
  case hpre=>
   intro j t' k s hj hk hjk p q hst hpr;obtain⟨rfl,rfl⟩:=look1 hj;trivial
  case hpr0=>
   intro k t' hk;obtain⟨rfl,rfl⟩:=look1 hk;trivial
  simp only[List.take,List.drop];iterate 6 (refine laxI_quiet rfl rfl rfl (fun K hK=>?_);go_big_quiet_op;refine hK _ ?_;clear hK)
  refine laxI_spec rfl rfl (fun w' hI' hpr hF=>?_) (fun v1 hv=>?_)
  ·obtain⟨i1,i2,i3,i4⟩:=(HI.out _).1 hI';obtain⟨w2,st,hrun,r1,r2,r3⟩:=i1.entry (K:=enK) underlying163 (Tryz.zeroInt w') (1,c.fr);have hrun':(Instr.mapEntry 163 (.map (some (w.heap.size+1))) (.agg #[.int .i64 1,.int .i64 c.fr,.bool false])).run prog w'= .ok (.tuple #[.int .i64 (H (1,c.fr)),.int .i64 st]) w2:=hrun;clear hx2 hlk hne;refine Does.step (v:= .tuple #[.int .i64 (H (1,c.fr)),.int .i64 st]) (w':=w2) (by simp only[execOp];go_simp) ⟨(HI.out _).2 ⟨r1.h,i2.grown r2 (i1.ne_box i2),i3.grown r2 (i1.ne_box i3),grew_grown i4 r2 (by omega)⟩,trivial,⟨_,rfl⟩,_,rfl,r1⟩
  obtain⟨st,rfl⟩:=hv;simp only[Act.put,sB,sS,sZ];iterate 1 (refine laxI_quiet rfl rfl rfl (fun K hK=>?_);go_big_quiet_op;refine hK _ ?_;clear hK)
  refine laxI_nil fun W3 hI3 hF=>?_
  obtain⟨i1,i2,i3,i4⟩:=(HI.out _).1 hI3;obtain⟨st',hst,hE⟩:∃st',(Value.tuple #[.int .i64 (H (1,c.fr)),.int .i64 st])= .tuple #[.int .i64 (H (1,c.fr)),.int .i64 st']/\MapEH enK W3 (w.heap.size+1) H (1,c.fr) st':=hF 6;have hE':MapEH enK W3 (w.heap.size+1) H (1,c.fr) st:=by
   simp at hst
   rw[hst];exact hE
  have X3:Hid (Box W3 w.heap.size [.slice vf.a vf.n vf.c,.int .i64 m.hand,.slice vs.a vs.n vs.c,.slice vsb.a vsb.n vsb.c,.slice vsq.a vsq.n vsq.c,.slice vdb.a vdb.n vdb.c,.slice vdq.a vdq.n vdq.c,.slice vfl.a vfl.n vfl.c,.int .i64 m.cnt,.slice (some ad) can cac,.slice spa spn spc]):=i3;have HG3:Hid (Grew w W3):=i4;have HE3:Hid (MapEH enK W3 (w.heap.size+1) H (1,c.fr) st):=hE';clear hx2 hlk hne hF hI3 i1 i2 i3 i4 hE hst hE' hI0;refine wp_storeEntry (K:=enK) rfl 163 (.tmp 19) (.tmp 26) (.tmp 24) rfl (w.heap.size+1) H (1,c.fr) st HE3.out rfl rfl (by go_num) ?_
  intro W4 m4 hg4 _;have X4:Hid (Box W4 w.heap.size [.slice vf.a vf.n vf.c,.int .i64 m.hand,.slice vs.a vs.n vs.c,.slice vsb.a vsb.n vsb.c,.slice vsq.a vsq.n vsq.c,.slice vdb.a vdb.n vdb.c,.slice vdq.a vdq.n vdq.c,.slice vfl.a vfl.n vfl.c,.int .i64 m.cnt,.slice (some ad) can cac,.slice spa spn spc]):=X3.out.grown hg4 (by omega)
  have HG4:Hid (Grew w W4):=dD<|grew_grown HG3.out hg4 (by omega)
  have M4:Hid (MapH enK W4 (w.heap.size+1) (heldC (m.ca.take (kk+1)))):=dD<|m4.congr fun k=>by rw[take_snoc HC.out,heldC_step,<-HH.out];rfl
  clear m4 hg4 hb0 hb1;go_wp2
  go_roundg (can -(kk+1))
  case measure=>omega
  exact⟨kk+1,by omega,by omega,by go_num,HG4.out,X4.out,M4.out⟩
 have hltz:¬(kk:Int)< (can:Int):=by omega
 have:kk=can:=by omega
 subst this;have MA1:Hid (MapH enK wr (w.heap.size+1) (heldTo m 0 [] sp00)):=dD<|MW.out.congr fun k=>by
  rw[List.take_of_length_le (by rw[HN.out];exact nR _)]
  exact heldC_all m sp00 k
 have x10:=XW.out.c 10 rfl;go_wp2;clear x10;have HBW:Hid (Grew w wr):=BW
 go_loopg [31] spn (fun gg s31 wr=>∃i:Nat,i<=spn/\spn - i<=gg/\s31= .int .i64 i/\Hid (Grew w wr)/\Hid (MapH enK wr (w.heap.size+1) (heldTo m i [] sp00)))
 case atStart=>exact⟨0,nZ _,by omega,rfl,HBW.out,MA1.out⟩
 obtain⟨i,hi,hg2,rfl,BW,MW⟩:=hrel
 by_cases hlt2:i<spn
 ·have hltz2:(i:Int)< (spn:Int):=by omega
  obtain⟨s,HS⟩:∃s,Hid (m.sp[i]? =some s):=⟨_,gE (by rw[HNS.out];exact hlt2)⟩
  obtain⟨x,HX⟩:∃x,Hid (xs[i]? =some x):=⟨_,gE (by rw[HXL.out,HNS.out];exact hlt2)⟩
  have HAT:Hid (SpaceAt w x s):=HSP.out i x s HX.out HS.out;obtain⟨ad,rfl,hl⟩:=HRS.out i x HX.out;obtain⟨d0,d1,d2,d3,d4,d5,d6,d7,d8,d9⟩:=hl wr BW.out;clear hl;go_upto_region 10 with fail;obtain⟨W1,hW1⟩:∃W1,wr.alloc (.cells #[.bool x.live,.slice x.ar.a x.ar.n x.ar.c,.slice x.t0.a x.t0.n x.t0.c,.slice x.t1.a x.t1.n x.t1.c,.slice x.t2.a x.t2.n x.t2.c,.slice x.t3.a x.t3.n x.t3.c,.slice x.t4.a x.t4.n x.t4.c,.slice x.t5.a x.t5.n x.t5.c,.slice x.t6.a x.t6.n x.t6.c,.slice x.t7.a x.t7.n x.t7.c] 65)=W1:=⟨_,rfl⟩;have HG1:=gT hW1 BW
  have M1:Hid (MapH enK W1 (w.heap.size+1) (heldTo m i [] s)):=dD<|by rw[<-hW1];exact(MW.out.grew (grew_alloc _ _)).congr fun k=>by unfold heldTo;simp
  have S1:=xA hW1
  rw[hW1];clear hW1 d0 d1 d2 d3 d4 d5 d6 d7 d8 d9;obtain⟨pb,HPB⟩:∃pb,Hid (wr.heap.size=pb):=⟨_,rfl⟩;rw[HPB.out]at S1⊢;have hcall:Calls prog 92 #[.agg #[.slice x.t0.a x.t0.n x.t0.c,.slice x.t1.a x.t1.n x.t1.c,.slice x.t2.a x.t2.n x.t2.c,.slice x.t3.a x.t3.n x.t3.c,.slice x.t4.a x.t4.n x.t4.c,.slice x.t5.a x.t5.n x.t5.c,.slice x.t6.a x.t6.n x.t6.c,.slice x.t7.a x.t7.n x.t7.c]] W1 fun e w'=>∃v,e= .returned v/\OwnRow blE W1.heap.size w' v (pagesTo s.tb anyEn 64)/\Grew W1 w':=pagesTb_any x.tab s.tb W1 (HAT.out.grew HG1.out).tb
  have s2:=S1.out.c 2 rfl;have s3:=S1.out.c 3 rfl;have s4:=S1.out.c 4 rfl;have s5:=S1.out.c 5 rfl;have s6:=S1.out.c 6 rfl;have s7:=S1.out.c 7 rfl;have s8:=S1.out.c 8 rfl;have s9:=S1.out.c 9 rfl;go_wp2_with fail;refine hcall.mono ?_;clear hcall s2 s3 s4 s5 s6 s7 s8 s9;rintro e' W2 ⟨pv,rfl,ow2,hg2'⟩;have HG2:=dD (HG1.out.trans hg2');have M2:=dD (M1.out.grew hg2');have S2:=dD (S1.out.grew hg2');have HW1L:Hid (w.heap.size<=W1.heap.size):=show _<=_ from bS HG1.out
  clear hg2';obtain⟨pa,pc,rfl⟩:=ow2.form;have hq0:=ow2.at.short;rw[pagesTo_any]at ow2 hq0⊢;rw[List.length_map]at ow2 hq0⊢;obtain⟨q,HQ⟩:∃q,Hid ((pagesN s).length=q):=⟨_,rfl⟩;rw[HQ.out]at ow2 hq0⊢;have OW2:Hid (OwnRow blE W1.heap.size W2 (.slice pa q pc) ((pagesN s).map fun(n:Nat)=>(n:Int))):=ow2
  have hq64:q<=64:=by rw[<-HQ.out];exact pagesN_len s
  clear ow2;go_wp2
  go_loopg [39] q (fun gg s39 wr=>∃j:Nat,j<=q/\q - j<=gg/\s39= .int .i64 j/\Hid (Grew w wr)/\Hid (OwnRow blE W1.heap.size wr (.slice pa q pc) ((pagesN s).map fun(n:Nat)=>(n:Int)))/\Hid (Box wr pb [.bool x.live,.slice x.ar.a x.ar.n x.ar.c,.slice x.t0.a x.t0.n x.t0.c,.slice x.t1.a x.t1.n x.t1.c,.slice x.t2.a x.t2.n x.t2.c,.slice x.t3.a x.t3.n x.t3.c,.slice x.t4.a x.t4.n x.t4.c,.slice x.t5.a x.t5.n x.t5.c,.slice x.t6.a x.t6.n x.t6.c,.slice x.t7.a x.t7.n x.t7.c])/\Hid (MapH enK wr (w.heap.size+1) (heldTo m i ((pagesN s).take j) s)))
  case atStart=>exact⟨0,nZ _,by omega,rfl,HG2.out,OW2.out,S2.out,by rw[List.take_zero];exact M2.out⟩
  obtain⟨j,hj,hg3,rfl,BW,OW,SW,MW⟩:=hrel
  by_cases hlt3:j<q
  ·have hltz3:(j:Int)< (q:Int):=by omega
   obtain⟨n,HNI⟩:∃n,Hid ((pagesN s)[j]? =some n):=⟨_,gE (by rw[HQ.out];exact hlt3)⟩
   have hn64:n<64:=pagesN_lt HNI.out;have HTS:Hid ((pagesN s).take (j+1)=(pagesN s).take j++ [n]):=take_snoc HNI.out;obtain⟨_,_,heq,hnr⟩:=OW.out.at.nums;simp only[vJ]at heq;obtain⟨ad2,had2,hl2⟩:=hnr j (n:Int) (by rw[List.getElem?_map,HNI.out];rfl)
   have e0:=hl2 wr (Grew.refl _);rw[<-heq.1]at had2;subst had2;clear hl2 heq hnr;have hcg:Calls prog 65 #[.agg #[.slice x.t0.a x.t0.n x.t0.c,.slice x.t1.a x.t1.n x.t1.c,.slice x.t2.a x.t2.n x.t2.c,.slice x.t3.a x.t3.n x.t3.c,.slice x.t4.a x.t4.n x.t4.c,.slice x.t5.a x.t5.n x.t5.c,.slice x.t6.a x.t6.n x.t6.c,.slice x.t7.a x.t7.n x.t7.c],.int .i64 (n:Int)] wr fun e w'=>e= .returned (enV (flatN s n))/\Grew wr w':=by
    have:=getTb_any x.tab s.tb (n:Int) wr (HAT.out.grew BW.out).tb;rw[get_flat hn64]at this;exact this
   obtain⟨en,HEN⟩:∃en,Hid (flatN s n=en):=⟨_,rfl⟩;rw[HEN.out]at hcg;have s2:=SW.out.c 2 rfl;have s3:=SW.out.c 3 rfl;have s4:=SW.out.c 4 rfl;have s5:=SW.out.c 5 rfl;have s6:=SW.out.c 6 rfl;have s7:=SW.out.c 7 rfl;have s8:=SW.out.c 8 rfl;have s9:=SW.out.c 9 rfl;go_wp2_with fail;refine hcg.mono ?_;clear hcg e0 s2 s3 s4 s5 s6 s7 s8 s9;rintro e' W4 ⟨rfl,hg4⟩;have HG4:=dD (BW.out.trans hg4);have OW4:=dD (OW.out.grew hg4)
   have S4:=dD (SW.out.grew hg4);have M4:=dD (MW.out.grew hg4);clear hg4;unfold enV;go_upto_region 14 with fail;obtain⟨W5,hW5⟩:∃W5,W4.alloc (.cells #[.int .i64 en.kind,.int .i64 en.n,.bool en.wr] 67)=W5:=⟨_,rfl⟩;have HG5:=gT hW5 HG4
   have OW5:Hid (OwnRow blE W1.heap.size W5 (.slice (some ad2) q pc) ((pagesN s).map fun(n:Nat)=>(n:Int))):=dD<|by rw[<-hW5];exact OW4.out.grew (grew_alloc _ _)
   have S5:=yA hW5 S4
   have M5:Hid (MapH enK W5 (w.heap.size+1) (heldTo m i ((pagesN s).take j) s)):=dD<|by rw[<-hW5];exact M4.out.grew (grew_alloc _ _)
   have E5:=xA hW5
   rw[hW5];clear hW5;obtain⟨pe,HPE⟩:∃pe,Hid (W4.heap.size=pe):=⟨_,rfl⟩;rw[HPE.out]at E5⊢;obtain⟨H,HH⟩:∃H,Hid (heldTo m i ((pagesN s).take j) s=H):=⟨_,rfl⟩;rw[HH.out]at M5;obtain⟨hb0,hb1⟩:0<=H (en.kind,en.n)/\H (en.kind,en.n)<=140737488360000:=by rw[<-HH.out];exact HH0.out i _ s (en.kind,en.n) (by simp;omega)
   obtain⟨I,hI⟩:∃I:World->Prop,I=fun u=>MapH enK u (w.heap.size+1) H/\Box u pe [.int .i64 en.kind,.int .i64 en.n,.bool en.wr]/\Box u pb [.bool x.live,.slice x.ar.a x.ar.n x.ar.c,.slice x.t0.a x.t0.n x.t0.c,.slice x.t1.a x.t1.n x.t1.c,.slice x.t2.a x.t2.n x.t2.c,.slice x.t3.a x.t3.n x.t3.c,.slice x.t4.a x.t4.n x.t4.c,.slice x.t5.a x.t5.n x.t5.c,.slice x.t6.a x.t6.n x.t6.c,.slice x.t7.a x.t7.n x.t7.c]/\OwnRow blE W1.heap.size u (.slice (some ad2) q pc) ((pagesN s).map fun(n:Nat)=>(n:Int))/\Grew w u:=⟨_,rfl⟩
   have HI:Hid (∀u,I u↔MapH enK u (w.heap.size+1) H/\Box u pe [.int .i64 en.kind,.int .i64 en.n,.bool en.wr]/\Box u pb [.bool x.live,.slice x.ar.a x.ar.n x.ar.c,.slice x.t0.a x.t0.n x.t0.c,.slice x.t1.a x.t1.n x.t1.c,.slice x.t2.a x.t2.n x.t2.c,.slice x.t3.a x.t3.n x.t3.c,.slice x.t4.a x.t4.n x.t4.c,.slice x.t5.a x.t5.n x.t5.c,.slice x.t6.a x.t6.n x.t6.c,.slice x.t7.a x.t7.n x.t7.c]/\OwnRow blE W1.heap.size u (.slice (some ad2) q pc) ((pagesN s).map fun(n:Nat)=>(n:Int))/\Grew w u):=dD<|fun u=>by rw[hI]
   clear hI;have hx0:∀y:HoldI I,y.world.cell? ⟨pe,0,none⟩=some (.int .i64 en.kind):=fun y=>((HI.out _).1 y.holds).2.1.c 0 rfl
   have hx1:∀y:HoldI I,y.world.cell? ⟨pe,1,none⟩=some (.int .i64 en.n):=fun y=>((HI.out _).1 y.holds).2.1.c 1 rfl
   have hlk:∀y:HoldI I,(Instr.lookup 163 (.map (some (w.heap.size+1))) (.agg #[.int .i64 en.kind,.int .i64 en.n,.bool false]) false).run prog y.world= .ok (.int .i64 (H (en.kind,en.n))) y.world:=fun y=>((HI.out _).1 y.holds).1.look (K:=enK) underlying163 (Tryz.zeroInt _) (en.kind,en.n)
   have hI0:I W5.drew:=(HI.out _).2 ⟨M5.out.grew (gW _),E5.out.grew (gW _),S5.out.grew (gW _),OW5.out.grew (gW _),HG5.out.trans (gW _)⟩
   have hne:Nonempty (HoldI I):=⟨⟨_,hI0⟩⟩;refine wp_lax_tailI (I:=I) 10 [(8,⟨fun v=>∃st,v= .tuple #[.int .i64 (H (en.kind,en.n)),.int .i64 st],fun v w'=>∃st,v= .tuple #[.int .i64 (H (en.kind,en.n)),.int .i64 st]/\MapEH enK w' (w.heap.size+1) H (en.kind,en.n) st,fun _ _=>True,fun _=>True⟩)] hI0 mixed (by kernel_rfl) rfl rfl (by decide) ?hS ?hp ?hpre ?hpr0 ?_
   case hS=>
    intro y hy;simp only[mC,nM,or_false]at hy;subst hy;exact⟨_,0,rfl⟩
   case hp=>
    intro k s j t' hk hj hjk _ v p q hst hpo;obtain⟨rfl,rfl⟩:=look1 hk;obtain⟨rfl,rfl⟩:=look1 hj;exact absurd rfl hjk
   case hpre=>
    intro j t' k s hj hk hjk p q hst hpr;obtain⟨rfl,rfl⟩:=look1 hj;trivial
   case hpr0=>
    intro k t' hk;obtain⟨rfl,rfl⟩:=look1 hk;trivial
   simp only[List.take,List.drop];iterate 8 (refine laxI_quiet rfl rfl rfl (fun K hK=>?_);go_big_quiet_op;refine hK _ ?_;clear hK)
   refine laxI_spec rfl rfl (fun w' hI' hpr hF=>?_) (fun v1 hv=>?_)
   ·obtain⟨i1,i2,i3,i4,i5⟩:=(HI.out _).1 hI';obtain⟨w2,st,hrun,r1,r2,r3⟩:=i1.entry (K:=enK) underlying163 (Tryz.zeroInt w') (en.kind,en.n);have hrun':(Instr.mapEntry 163 (.map (some (w.heap.size+1))) (.agg #[.int .i64 en.kind,.int .i64 en.n,.bool false])).run prog w'= .ok (.tuple #[.int .i64 (H (en.kind,en.n)),.int .i64 st]) w2:=hrun;clear hx0 hx1 hlk hne;refine Does.step (v:= .tuple #[.int .i64 (H (en.kind,en.n)),.int .i64 st]) (w':=w2) (by simp only[execOp];go_simp) ⟨(HI.out _).2 ⟨r1.h,i2.grown r2 (i1.ne_box i2),i3.grown r2 (i1.ne_box i3),i4.grown r2 (i1.ne_own i4),grew_grown i5 r2 (by omega)⟩,trivial,⟨_,rfl⟩,_,rfl,r1⟩
   obtain⟨st,rfl⟩:=hv;simp only[Act.put,sB,sS,sZ];iterate 1 (refine laxI_quiet rfl rfl rfl (fun K hK=>?_);go_big_quiet_op;refine hK _ ?_;clear hK)
   refine laxI_nil fun W6 hI6 hF=>?_
   obtain⟨i1,i2,i3,i4,i5⟩:=(HI.out _).1 hI6;obtain⟨st',hst,hE⟩:∃st',(Value.tuple #[.int .i64 (H (en.kind,en.n)),.int .i64 st])= .tuple #[.int .i64 (H (en.kind,en.n)),.int .i64 st']/\MapEH enK W6 (w.heap.size+1) H (en.kind,en.n) st':=hF 8;have hE':MapEH enK W6 (w.heap.size+1) H (en.kind,en.n) st:=by
    simp at hst
    rw[hst];exact hE
   have S6:Hid (Box W6 pb [.bool x.live,.slice x.ar.a x.ar.n x.ar.c,.slice x.t0.a x.t0.n x.t0.c,.slice x.t1.a x.t1.n x.t1.c,.slice x.t2.a x.t2.n x.t2.c,.slice x.t3.a x.t3.n x.t3.c,.slice x.t4.a x.t4.n x.t4.c,.slice x.t5.a x.t5.n x.t5.c,.slice x.t6.a x.t6.n x.t6.c,.slice x.t7.a x.t7.n x.t7.c]):=i3;have OW6:Hid (OwnRow blE W1.heap.size W6 (.slice (some ad2) q pc) ((pagesN s).map fun(n:Nat)=>(n:Int))):=i4
   have HG6:Hid (Grew w W6):=i5;have M6:Hid (MapH enK W6 (w.heap.size+1) H):=i1;have HE6:Hid (MapEH enK W6 (w.heap.size+1) H (en.kind,en.n) st):=hE';clear hx0 hx1 hlk hne hF hI6 i1 i2 i3 i4 i5 hE hst hE' hI0;refine wp_storeEntry (K:=enK) rfl 163 (.tmp 47) (.tmp 56) (.tmp 54) rfl (w.heap.size+1) H (en.kind,en.n) st HE6.out rfl rfl (by go_num) ?_
   intro W7 m7 hg7 _;have S7:Hid (Box W7 pb [.bool x.live,.slice x.ar.a x.ar.n x.ar.c,.slice x.t0.a x.t0.n x.t0.c,.slice x.t1.a x.t1.n x.t1.c,.slice x.t2.a x.t2.n x.t2.c,.slice x.t3.a x.t3.n x.t3.c,.slice x.t4.a x.t4.n x.t4.c,.slice x.t5.a x.t5.n x.t5.c,.slice x.t6.a x.t6.n x.t6.c,.slice x.t7.a x.t7.n x.t7.c]):=S6.out.grown hg7 (M6.out.ne_box S6.out);have OW7:Hid (OwnRow blE W1.heap.size W7 (.slice (some ad2) q pc) ((pagesN s).map fun(n:Nat)=>(n:Int))):=OW6.out.grown hg7 (M6.out.ne_own OW6.out)
   have HG7:Hid (Grew w W7):=dD<|grew_grown HG6.out hg7 (by omega)
   have M7:Hid (MapH enK W7 (w.heap.size+1) (heldTo m i ((pagesN s).take (j+1)) s)):=dD<|m7.congr fun k=>by rw[HTS.out,held_page,HEN.out,HH.out];rfl
   clear m7 hg7 hb0 hb1;go_wp2
   go_roundg (q -(j+1))
   case measure=>omega
   exact⟨j+1,by omega,by omega,by go_num,HG7.out,OW7.out,S7.out,M7.out⟩
  have hltz3:¬(j:Int)< (q:Int):=by omega
  have:j=q:=by omega
  subst this;have M8:Hid (MapH enK wr (w.heap.size+1) (heldTo m (i+1) [] sp00)):=dD<|MW.out.congr fun k=>by
   rw[List.take_of_length_le (by rw[HQ.out];exact nR _)]
   exact held_next m i s sp00 HS.out k
  go_wp2
  go_roundg (spn -(i+1))
  case measure=>omega
  exact⟨i+1,by omega,by omega,by go_num,BW.out,M8.out⟩
 have hltz2:¬(i:Int)< (spn:Int):=by omega
 have:i=spn:=by omega
 subst this;have M9:Hid (MapH enK wr (w.heap.size+1) (heldTo m m.sp.length [] sp00)):=dD<|by rw[HNS.out];exact MW.out
 go_wp2;go_ret;exact⟨_,rfl,M9.out,BW.out⟩
end
end Go.Proofs.YtangilolcekceaaGreat
