import Derived.Test.YtangilolcekceaaGreatPT7
import Derived.Deep.DeepCutAuto
namespace Go.Proofs.YtangilolcekceaaGreat
set_option maxRecDepth 100000
set_option maxHeartbeats 4000000
variable{R:List Int} {Z z:Int} {fi i j:Nat} {m:Ma}
open Go.Proofs.Tryz
section
open Go.RowKit
def bov (b:Bool):List Value:=[.bool b]
theorem zl8:(Tryz.prog.info? 4).map (fun i=>(i.zero,i.size,i.bytes))=some (some (.bool false),1,1):=by kernel_rfl
def boE:Elt Bool where
 enc:=bov
 k:=1
 ty:=4
 st:=134
 bytes:=1
 zv:= .bool false
 zero:=false
 len:=fun _=>rfl
 one:=fun a u hu=>by
  simp only[bov,mC,nM,or_false]at hu;subst hu;rfl
 und:=underlying134
 info:=zl8
 zok:=rfl
 few:=by decide
 pos:=by decide
def Jc (n:Nat) (g:List Int):List Bool:=(List.range n).map fun(i:Nat)=>g.contains (i:Int)
theorem zay {n:Nat} (g:List Int) (hi:i<n):(Jc n g)[i]? =some (g.contains (i:Int)):=by
 unfold Jc;rw[List.getElem?_map,List.getElem?_range hi];rfl
theorem zax (n:Nat) (g:List Int):(Jc n g).length=n:=by simp[Jc]
theorem zh2 {n:Nat} (g:List Int) (hi:i<n):(Jc n g).set i true=Jc n ((i:Int) :: g):=by
 apply List.ext_getElem?
 intro j
 by_cases e:j=i
 ·subst e;rw[sF (by rw[zax];exact hi),zay _ hi]
  simp
 rw[sN (fun h=>e h.symm)]
 rcases Nat.lt_or_ge j n with hj|hj
 ·rw[zay _ hj,zay _ hj];have:¬((j:Int)=(i:Int)):=by omega
  simp[this]
 rw[gN (by rw[zax];exact hj),gN (by rw[zax];exact hj)]
theorem zh3 (n:Nat):Jc n []=List.replicate n false:=by
 unfold Jc
 simp[List.map_const']
theorem zcy (v:Value) (fs:List Fl) (cnt:Int) (w:World) (hv:qL w v fs):
  Calls prog 99 #[.agg #[v,I6 cnt]] w fun e w'=>e= .returned (I6 (stW fs cnt))/\zc w w':=by
 obtain⟨a,c,rfl,hbig,hrow⟩:=hv.rows;have HR:Hid (jZ w a fs):=hrow;have HD:Hid (stW fs cnt=if fs.length<=5/\0<=cnt/\cnt<=80 then zbv cnt [] fs else 4):=rfl;clear hrow hv
 generalize stW fs cnt=Z at HD⊢
 obtain⟨n,HN⟩:∃n,Hid (fs.length=n):=⟨_,rfl⟩;rw[HN.out]at hbig HD⊢;obtain⟨W0,hW0⟩:∃W0,w.alloc (.cells #[.slice a n c,I6 cnt] 36)=W0:=⟨_,rfl⟩;have HG0:=gA hW0
 have X0:=xA hW0
 have HW0:Hid (_=W0):=hW0;clear hW0
 by_cases h5:n<=5
 ·have h5z:¬(5:Int)< (n:Int):=by omega
  have h5d:decide ((5:Int)< (n:Int))=false:=decide_eq_false h5z;have h5e:decide (5<n)=false:=decide_eq_false (by omega)
  by_cases hc:0<=cnt/\cnt<=80
  ·rw[if_pos ⟨h5,hc⟩]at HD;obtain⟨m,rfl⟩:∃m:Nat,cnt=(m:Int):=⟨cnt.toNat,by omega⟩
   have hm80:m<=80:=by omega
   have hc0:¬(m:Int)<0:=by omega
   have hc0d:decide ((m:Int)<0)=false:=decide_eq_false hc0;have hc8:¬(80:Int)< (m:Int):=by omega
   have hc8d:decide ((80:Int)< (m:Int))=false:=decide_eq_false hc8;clear hc
   go_enter func99,ntmps99
   go_upto_region 3 with fail;rw[HW0.out];have x0:=X0.c 0 rfl;have x1:=X0.c 1 rfl
   go_wp2_with (refine ZF boE rfl (.tmp 23) rfl m rfl (by show m*1<=_;omega) ?_)
   intro C ow;rw[show List.replicate m boE.zero=Jc m []from(zh3 m).symm]at ow
   show wpList _ _ _ _ _ (W0.alloc (.cells C 4))
   obtain⟨W1,hW1⟩:∃W1,W0.alloc (.cells C 4)=W1:=⟨_,rfl⟩;have ow':zb boE W0.heap.size (W0.alloc (.cells C 4)) (.slice (some ⟨W0.heap.size,0,none⟩) m m) (Jc m []):=ow;have G01:=gA hW1
   rw[hW1]at ow'⊢;obtain⟨gh,HGH⟩:∃gh,Hid (W0.heap.size=gh):=⟨_,rfl⟩;have O1:Hid (zb boE W0.heap.size W1 (.slice (some ⟨gh,0,none⟩) m m) (Jc m [])):=dD<|by rw[<-HGH.out];exact ow'
   rw[HGH.out];clear hW1 ow ow' x0 x1;have x0:=(X0.grew G01).c 0 rfl;have x1:=(X0.grew G01).c 1 rfl;go_wp2
   go_loopg [28] n (fun gg s28 wr=>∃kk:Nat,kk<=n/\n - kk<=gg/\s28=I6 kk/\Hid (zc W0 wr)/\Hid (zb boE W0.heap.size wr (.slice (some ⟨gh,0,none⟩) m m) (Jc m (zbb [] (fs.take kk))))/\Hid (zbv (m:Int) (zbb [] (fs.take kk)) (fs.drop kk)=zbv (m:Int) [] fs))
   case atStart=>exact⟨0,nZ _,by omega,rfl,G01,O1,rfl⟩
   obtain⟨kk,hkk,hgg,rfl,BW,OW,AW⟩:=hrel;clear x0 x1
   by_cases hlt:kk<n
   ·have hltz:(kk:Int)< (n:Int):=by omega
    obtain⟨q,HQ⟩:∃q,Hid (fs[kk]? =some q):=⟨_,gE (by rw[HN.out];exact hlt)⟩
    obtain⟨ad,rfl,xa,xc,hra,hl⟩:=HR.out kk q HQ.out;obtain⟨d0,d1⟩:=hl wr (HG0.trans BW);have hnbig:=hra.short;obtain⟨_,_,heq,hnum⟩:=hra.nums;cases heq;have HNUM:Hid (zak w xa q.bl):=hnum;obtain⟨nb,HNB⟩:∃nb,Hid (q.bl.length=nb):=⟨_,rfl⟩;rw[HNB.out]at d1 hnbig;clear hl hra hnum;have HST:Hid (zbv (m:Int) (zbb [] (fs.take kk)) (fs.drop kk)=if flW (m:Int) (zbb [] (fs.take kk)) q=0 then zbv (m:Int) (zbb [] (fs.take (kk+1))) (fs.drop (kk+1))else flW (m:Int) (zbb [] (fs.take kk)) q):=show _=_ by
     rw[qP HQ.out,JI HQ.out,zaG];rfl
    have HGK:Hid (zbb [] (fs.take (kk+1))=blG (zbb [] (fs.take kk)) q.bl):=dD<|by rw[JI HQ.out,zaG]
    have HFD:Hid (flW (m:Int) (zbb [] (fs.take kk)) q=if 0<=q.size/\q.size<=96 then(if(q.bl.length:Int)=Ja q.size then blW (m:Int) (zbb [] (fs.take kk)) q.bl else 2)else 3):=rfl;obtain⟨g0,HG⟩:∃g0,Hid (zbb [] (fs.take kk)=g0):=⟨_,rfl⟩;rw[HG.out]at HST HGK HFD OW;have bad:∀z:Int,z≠0->flW (m:Int) g0 q=z->Z=z:=fun z hz h=>by
     have h1:=AW.out;rw[HG.out,HST.out,h,if_neg hz]at h1;rw[HD.out,<-h1]
    obtain⟨W2,hW2⟩:∃W2,wr.alloc (.cells #[I6 q.size,.slice xa nb xc] 71)=W2:=⟨_,rfl⟩;have G2:=gT hW2 BW
    have P2:=xA hW2
    have O2:Hid (zb boE W0.heap.size W2 (.slice (some ⟨gh,0,none⟩) m m) (Jc m g0)):=dD<|by rw[<-hW2];exact OW.grew (za _ _)
    have HW2:Hid (_=W2):=hW2;clear hW2
    by_cases hs0:q.size<0
    ·have HF:Hid (Z=3):=bad 3 (by decide) (by rw[HFD.out,if_neg (by omega)])
     have GE:=dD (HG0.trans G2);clear bad;go_wp2;rw[HW2.out];go_ret;exact⟨by rw[HF.out];rfl,GE⟩
    have hs0d:decide (q.size<0)=false:=decide_eq_false hs0
    by_cases hs1:96<q.size
    ·have HF:Hid (Z=3):=bad 3 (by decide) (by rw[HFD.out,if_neg (by omega)])
     have GE:=dD (HG0.trans G2);clear bad;go_wp2;rw[HW2.out];go_ret;exact⟨by rw[HF.out];rfl,GE⟩
    have hs1d:decide (96<q.size)=false:=decide_eq_false hs1;have hcn:=fun W=>za8 q.size W (by omega) (by omega)
    by_cases hcp:(nb:Int)=Ja q.size
    ·rw[<-hcp]at hcn;have hnn:((nb:Int) !=(nb:Int))=false:=by simp
     have HFB:Hid (flW (m:Int) g0 q=blW (m:Int) g0 q.bl):=dD<|by rw[HFD.out,if_pos (by omega),HNB.out,if_pos hcp]
     clear hcp;have p0:=P2.c 0 rfl;have p1:=P2.c 1 rfl;go_upto_region 9 with fail;rw[HW2.out]
     go_quiet (first | (go_at_call 28;exact Calls.quiet_of_same (hcn _)))
     obtain⟨W3,hW3⟩:∃W3,W2.drewN nq=W3:=⟨_,rfl⟩;have G23:Hid (zc W2 W3):=dD<|by rw[<-hW3];exact(show Below _ _ _ from bD (bR _ _) _)
     rw[hW3];clear hW3 p0 p1 hcn d0 d1;have p0:=(P2.grew G23).c 0 rfl;have p1:=(P2.grew G23).c 1 rfl;go_wp2
     go_loopg [50] nb (fun g2 s50 wr2=>∃k2:Nat,k2<=nb/\nb - k2<=g2/\s50=I6 k2/\Hid (zc W0 wr2)/\Hid (zb boE W0.heap.size wr2 (.slice (some ⟨gh,0,none⟩) m m) (Jc m (blG g0 (q.bl.take k2))))/\Hid (blW (m:Int) (blG g0 (q.bl.take k2)) (q.bl.drop k2)=blW (m:Int) g0 q.bl))
     case atStart=>exact⟨0,nZ _,by omega,rfl,G2.trans G23,O2.grew G23,rfl⟩
     obtain⟨k2,hk2,hg2,rfl,BW2,OW2,AW2⟩:=hrel;clear p0 p1;have x1:=(X0.grew BW2).c 1 rfl;have GE:=dD (HG0.trans BW2)
     by_cases hlt2:k2<nb
     ·have hltz2:(k2:Int)< (nb:Int):=by omega
      obtain⟨b,HB⟩:∃b,Hid (q.bl[k2]? =some b):=⟨_,gE (by rw[HNB.out];exact hlt2)⟩
      obtain⟨ay,rfl,hly⟩:=HNUM.out k2 b HB.out;have d2:=hly _ GE.out;have HS2:Hid (blW (m:Int) (blG g0 (q.bl.take k2)) (q.bl.drop k2)=if Qa (m:Int) (blG g0 (q.bl.take k2)) b=0 then blW (m:Int) (blG g0 (q.bl.take (k2+1))) (q.bl.drop (k2+1))else Qa (m:Int) (blG g0 (q.bl.take k2)) b):=dD<|by
       rw[qP HB.out,qt HB.out,zby];rfl
      have HGB:Hid (blG g0 (q.bl.take (k2+1))=Jd (blG g0 (q.bl.take k2)) b):=dD<|by rw[qt HB.out,zby]
      clear hly;obtain⟨g1,HG1⟩:∃g1,Hid (blG g0 (q.bl.take k2)=g1):=⟨_,rfl⟩;rw[HG1.out]at HS2 HGB OW2;have bad2:∀z:Int,z≠0->Qa (m:Int) g1 b=z->Z=z:=fun z hz h=>bad z hz (by
       have h1:=AW2.out;rw[HG1.out,HS2.out,h,if_neg hz]at h1;rw[HFB.out,<-h1])
      have good2:Qa (m:Int) g1 b=0->blW (m:Int) (blG g0 (q.bl.take (k2+1))) (q.bl.drop (k2+1))=blW (m:Int) g0 q.bl:=fun h=>by
       rw[<-AW2.out,HG1.out,HS2.out,if_pos h]
      rcases QS (m:Int) g1 b with⟨h1,h2,h3⟩|⟨h1,h2,h3⟩|⟨i,h1,h2,h3,h4⟩|⟨i,h1,h2,h3,h4,h5⟩
      ·subst h1;have HA:Hid (blW (m:Int) (blG g0 (q.bl.take (k2+1))) (q.bl.drop (k2+1))=blW (m:Int) g0 q.bl):=good2 h2;have HO:Hid (zb boE W0.heap.size _ (.slice (some ⟨gh,0,none⟩) m m) (Jc m (blG g0 (q.bl.take (k2+1))))):=show zb _ _ _ _ _ by rw[HGB.out,h3];exact OW2.out
       have hmz:¬(m:Int)<=-1:=by omega
       have hmd:decide ((m:Int)<=-1)=false:=decide_eq_false hmz;clear bad bad2 good2 h2 h3;go_wp2
       go_roundg (nb -(k2+1))
       case measure=>omega
       exact⟨k2+1,by omega,by omega,by go_num,BW2,HO,HA⟩
      ·have HF:Hid (Z=3):=bad2 3 (by decide) h3
       clear bad bad2 good2 h3
       by_cases hb1:b< -1
       ·go_wp2;go_ret;exact⟨by rw[HF.out];rfl,GE⟩
       have hb1d:decide (b< -1)=false:=decide_eq_false hb1;have hb2:(m:Int)<=b:=by omega
       clear h2;go_wp2;go_ret;exact⟨by rw[HF.out];rfl,GE⟩
      ·subst h1;have HF:Hid (Z=7):=bad2 7 (by decide) h4
       have him:i<m:=by omega
       have hb1:¬(i:Int)< -1:=by omega
       have hb1d:decide ((i:Int)< -1)=false:=decide_eq_false hb1;have hb2:¬(m:Int)<=(i:Int):=by omega
       have hb2d:decide ((m:Int)<=(i:Int))=false:=decide_eq_false hb2;have hb2e:decide (m<=i)=false:=decide_eq_false (by omega)
       have hb3:¬(i:Int)<0:=by omega
       have d3:wr.cell? ⟨gh,i,none⟩=some (.bool true):=by
        have:=OW2.one (zay g1 him) 0 _ rfl;rw[zI,Addr.add_lit,zA,h3]at this
        simpa [boE]using this
       clear bad bad2 good2 h3 h4;go_wp2;go_ret;exact⟨by rw[HF.out];rfl,GE⟩
      subst h1;have HA:Hid (blW (m:Int) (blG g0 (q.bl.take (k2+1))) (q.bl.drop (k2+1))=blW (m:Int) g0 q.bl):=good2 h4;have him:i<m:=by omega
      have hb1:¬(i:Int)< -1:=by omega
      have hb1d:decide ((i:Int)< -1)=false:=decide_eq_false hb1;have hb2:¬(m:Int)<=(i:Int):=by omega
      have hb2d:decide ((m:Int)<=(i:Int))=false:=decide_eq_false hb2;have hb2e:decide (m<=i)=false:=decide_eq_false (by omega)
      have hb3:¬(i:Int)<0:=by omega
      have d3:wr.cell? ⟨gh,i,none⟩=some (.bool false):=by
       have:=OW2.one (zay g1 him) 0 _ rfl;rw[zI,Addr.add_lit,zA,h3]at this
       simpa [boE]using this
      have HH5:Hid (Jd g1 (i:Int)=(i:Int) :: g1):=h5;clear bad bad2 good2 h3 h4 h5
      go_wp2_with (refine QY (E:=boE) rfl (.tmp 70) (.const (.bool true)) rfl W0.heap.size _ (Jc m g1) OW2 gh i rfl true ?t1 ⟨gh,i,none⟩ rfl ?t2 (.bool true) rfl rfl ?_)
      case t1=>rw[zax];exact him
      case t2=>first | exact(Nat.mul_one i).symm | (show _=Addr.mk gh (i*1) none;rw[Nat.mul_one])
      intro W5 ow5 gr5 _;have HO:Hid (zb boE W0.heap.size W5 (.slice (some ⟨gh,0,none⟩) m m) (Jc m (blG g0 (q.bl.take (k2+1))))):=dD<|by rw[HGB.out,HH5.out,<-zh2 g1 him];exact ow5
      have G5:Hid (zc W0 W5):=dD<|ze BW2 gr5 (by rw[HGH.out];exact nR _)
      clear ow5 gr5 d3 d2 x1;go_wp2
      go_roundg (nb -(k2+1))
      case measure=>omega
      exact⟨k2+1,by omega,by omega,by go_num,G5,HO,HA⟩
     have hltz2:¬(k2:Int)< (nb:Int):=by omega
     have:k2=nb:=by omega
     subst this;have hz:flW (m:Int) g0 q=0:=by
      rw[HFB.out,<-AW2.out,List.drop_of_length_le (by rw[HNB.out];exact nR _)]
      rfl
     have HA:Hid (zbv (m:Int) (zbb [] (fs.take (kk+1))) (fs.drop (kk+1))=zbv (m:Int) [] fs):=dD<|by rw[<-AW.out,HG.out,HST.out,if_pos hz]
     have HO:Hid (zb boE W0.heap.size wr (.slice (some ⟨gh,0,none⟩) m m) (Jc m (zbb [] (fs.take (kk+1))))):=dD<|by
      rw[HGK.out];have:=OW2.out;rw[List.take_of_length_le (by rw[HNB.out];exact nR _)]at this
      exact this
     clear bad hz;go_wp2
     go_roundg (n -(kk+1))
     case measure=>omega
     exact⟨kk+1,by omega,by omega,by go_num,BW2,HO,HA⟩
    have HF:Hid (Z=2):=bad 2 (by decide) (by rw[HFD.out,if_pos (by omega),HNB.out,if_neg hcp])
    have hnn:((nb:Int) != Ja q.size)=true:=by simpa using hcp
    clear bad hcp
    generalize Ja q.size=cp at*
    have p0:=P2.c 0 rfl;have p1:=P2.c 1 rfl;go_upto_region 9 with fail;rw[HW2.out]
    go_quiet (first | (go_at_call 28;exact Calls.quiet_of_same (hcn _)))
    obtain⟨W3,hW3⟩:∃W3,W2.drewN nq=W3:=⟨_,rfl⟩;have GE:Hid (zc w W3):=dD<|by rw[<-hW3];exact(HG0.trans G2).trans (show Below _ _ _ from bD (bR _ _) _)
    rw[hW3];clear hW3;go_wp2;go_ret;exact⟨by rw[HF.out];rfl,GE⟩
   have hltz:¬(kk:Int)< (n:Int):=by omega
   have:kk=n:=by omega
   subst this;have HF:Hid (Z=0):=dD<|by
    rw[HD.out,<-AW.out,List.drop_of_length_le (by rw[HN.out];exact nR _)]
    rfl
   have GE:=dD (HG0.trans BW);go_wp2;go_ret;exact⟨by rw[HF.out];rfl,GE⟩
  rw[if_neg (fun h=>hc h.2)]at HD
  by_cases hc0:cnt<0
  ·go_enter func99,ntmps99
   go_wp2;rw[HW0.out];go_ret;exact⟨by rw[HD.out];rfl,HG0⟩
  have hc0d:decide (cnt<0)=false:=decide_eq_false hc0;have hc8:80<cnt:=by omega
  clear hc
  go_enter func99,ntmps99
  go_wp2;rw[HW0.out];go_ret;exact⟨by rw[HD.out];rfl,HG0⟩
 rw[if_neg (fun h=>h5 h.1)]at HD
 have h5z:(5:Int)< (n:Int):=by omega
 go_enter func99,ntmps99
 go_wp2;rw[HW0.out];go_ret;exact⟨by rw[HD.out];rfl,HG0⟩
theorem zcx (vs:List Value) (t:List (List En)) (w:World) (hv:Zc w vs t):
  Calls prog 101 #[.agg vs.toArray] w fun e w'=>e= .returned (I6 (tbW t))/\zc w w':=by
 have HV:Hid (Zc w vs t):=hv;have HL:Hid (vs.length=8):=hv.len;clear hv;obtain⟨Z,HZ⟩:∃Z,Hid (tbW t=Z):=⟨_,rfl⟩;rw[HZ.out];obtain⟨W0,hW0⟩:∃W0,w.alloc (.cells vs.toArray 63)=W0:=⟨_,rfl⟩;have HG0:=gA hW0
 have X0:=xA hW0
 have HW0:Hid (_=W0):=hW0;clear hW0
 go_enter func101,ntmps101
 go_upto_region 1 with fail;rw[HW0.out]
 go_wp2_with (refine jN rfl (.tmp 1) rfl w.heap.size rfl X0 HL.out ?_)
 go_loopg [9] 8 (fun gg s9 wr=>∃kk:Nat,kk<=8/\8 - kk<=gg/\s9=I6 kk/\Hid (zc w wr)/\Hid (tbW (t.drop kk)=tbW t))
 case atStart=>exact⟨0,nZ _,by omega,rfl,HG0,rfl⟩
 obtain⟨kk,hkk,hg,rfl,BW,AW⟩:=hrel
 by_cases hlt:kk<8
 ·have hltz:(kk:Int)<8:=by omega
  obtain⟨xa,xc,q,hq,hvk,hr⟩:=HV.half hlt;have HQ:Hid (t[kk]? =some q):=hq;have hqbig:=hr.short;obtain⟨_,_,heq,hens⟩:=hr.ens;cases heq;have HE:Hid (zbg w xa q):=hens;obtain⟨nq,HNQ⟩:∃nq,Hid (q.length=nq):=⟨_,rfl⟩;rw[HNQ.out]at hvk hqbig;have HVK:Hid (vs[kk]? =some (.slice xa nq xc)):=hvk;have HST:Hid (tbW (t.drop kk)=if haW q=0 then tbW (t.drop (kk+1))else haW q):=show _=_ by rw[qP HQ.out,zf6]
  have badG:Hid (∀z:Int,z≠0->haW q=z->Z=z):=dD<|fun z hz h=>by
   have h1:=AW.out;rw[HST.out,h,if_neg hz]at h1;rw[<-HZ.out,<-h1]
  have goodH:Hid (haW q=0->tbW (t.drop (kk+1))=tbW t):=dD<|fun h=>by rw[<-AW.out,HST.out,if_pos h]
  clear hens hr hq hvk
  go_upto_region 4 with(refine J4 rfl (.tmp 8) (.tmp 9) rfl vs rfl kk rfl hlt HVK.out ?_)
  by_cases h0:nq=0
  ·have hne0:((nq:Int) != 0)=false:=by simp[h0]
   have heq8:((nq:Int) == 8)=false:=by simp[h0]
   have H0:Hid (nq=0):=h0;clear h0;have badH:Hid (∀z:Int,z≠0->esW q=z->Z=z):=show∀z:Int,_ from fun z hz h=>by
    have:q=[]:=List.length_eq_zero_iff.1 (by rw[HNQ.out];exact H0)
    rw[this]at h;exact absurd h.symm hz
   go_wp2
   go_loopg [5,22] nq (fun g2 s5 s22 wr2=>∃(k2 c:Nat),k2<=nq/\nq - k2<=g2/\s22=I6 k2/\s5=I6 c/\c<=k2/\Hid (zc w wr2)/\Hid (esW (q.drop k2)=esW q)/\Hid (c=0↔Zs (q.take k2)=false))
   case atStart=>exact⟨0,0,nZ _,by omega,rfl,rfl,nR _,BW,rfl,show(0=0↔Zs (q.take 0)=false)from by simp[Zs]⟩
   obtain⟨k2,c,hk2',hg2,rfl,rfl,hck,BW2,AW2,CW⟩:=hrel
   by_cases hlt2:k2<nq
   ·have hltz2:(k2:Int)< (nq:Int):=by omega
    obtain⟨x,hx⟩:∃x,q[k2]? =some x:=⟨_,gE (by rw[HNQ.out];exact hlt2)⟩
    obtain⟨ad,rfl,hl2⟩:=HE.out k2 x hx;obtain⟨d0,d1,d2⟩:=hl2 wr BW2.out;obtain⟨k,m,b⟩:=x;have HX:Hid (q[k2]? =some ⟨k,m,b⟩):=hx;simp only at d0 d1 d2;have HST:Hid (esW (q.drop k2)=if enW ⟨k,m,b⟩=0 then esW (q.drop (k2+1))else enW ⟨k,m,b⟩):=show _=_ by rw[qP HX.out,zdG]
    have bad:∀z:Int,z≠0->enW ⟨k,m,b⟩=z->Z=z:=fun z hz h=>by
     have h1:=AW2.out;rw[HST.out,h,if_neg hz]at h1;exact badH.out z hz h1.symm
    have good:enW ⟨k,m,b⟩=0->esW (q.drop (k2+1))=esW q:=fun h=>by
     rw[<-AW2.out,HST.out,if_pos h]
    clear hl2 hx;go_upto_region 10 with fail;obtain⟨px,hpx⟩:∃px,wr.heap.size=px:=⟨_,rfl⟩;obtain⟨W2,hW2⟩:∃W2,wr.alloc (.cells #[I6 k,I6 m,.bool b] 67)=W2:=⟨_,rfl⟩;have G2:=gT hW2 BW2
    have GE:Hid (zc w W2):=G2.out;have P2:Hid (Box W2 px [I6 k,I6 m,.bool b]):=show Box _ _ _ by rw[<-hW2];exact Box.top _ _ _ hpx.symm
    rw[hW2];rw[hpx];clear hW2 hpx d0 d1 d2;obtain⟨p0,p1,p2⟩:=P2.c3
    by_cases hk0:k<0
    ·have HF:Hid (Z=1):=bad 1 (by decide) (zaH (by simp only;omega))
     clear bad good;go_wp2;go_ret;exact⟨by rw[HF.out];rfl,GE⟩
    have hk0d:decide (k<0)=false:=decide_eq_false hk0
    by_cases hk2:2<k
    ·have HF:Hid (Z=1):=bad 1 (by decide) (zaH (by simp only;omega))
     clear bad good;go_wp2;go_ret;exact⟨by rw[HF.out];rfl,GE⟩
    have hk2d:decide (2<k)=false:=decide_eq_false hk2
    by_cases hn0:m<0
    ·have HF:Hid (Z=3):=bad 3 (by decide) (Zl (by simp only;omega) (by simp only;omega))
     clear bad good;go_wp2;go_ret;exact⟨by rw[HF.out];rfl,GE⟩
    have hn0d:decide (m<0)=false:=decide_eq_false hn0
    by_cases hn59:59<m
    ·have HF:Hid (Z=3):=bad 3 (by decide) (Zl (by simp only;omega) (by simp only;omega))
     clear bad good;go_wp2;go_ret;exact⟨by rw[HF.out];rfl,GE⟩
    have hn59d:decide (59<m)=false:=decide_eq_false hn59;obtain rfl|rfl|rfl:k=0\/k=1\/k=2:=by omega
    ·by_cases hm:0<m
     ·have HF:Hid (Z=7):=bad 7 (by decide) (Jy (by simp only;omega) (by simp only;omega) (.inl ⟨rfl,.inl (by simp only;omega)⟩))
      clear bad good;go_wp2;go_ret;exact⟨by rw[HF.out];rfl,GE⟩
     obtain rfl:m=0:=by omega
     cases b with
     | true=>
      have HF:Hid (Z=7):=bad 7 (by decide) (Jy (by simp only;omega) (by simp only;omega) (.inl ⟨rfl,.inr rfl⟩))
      clear bad good;go_wp2;go_ret;exact⟨by rw[HF.out];rfl,GE⟩
     | false=>
      have HA:Hid (esW (q.drop (k2+1))=esW q):=good (Qz (by simp only;omega) (by simp only;omega) (by simp))
      have HC:Hid (Zs (q.take (k2+1))=Zs (q.take k2)):=dD<|by
       rw[qt HX.out];unfold Zs;rw[List.any_append]
       simp[enS]
      clear bad good;go_wp2
      go_roundg (nq -(k2+1))
      case measure=>omega
      exact⟨k2+1,c,by omega,by omega,by go_num,by go_num,by omega,G2,HA,by rw[HC.out];exact CW⟩
    ·by_cases hn39:39<m
     ·have HF:Hid (Z=3):=bad 3 (by decide) (Zl (by simp only;omega) (fun h=>by have:=h.2.2 rfl;simp only at this;omega))
      clear bad good;go_wp2;go_ret;exact⟨by rw[HF.out];rfl,GE⟩
     have hn39d:decide (39<m)=false:=decide_eq_false hn39;have HA:Hid (esW (q.drop (k2+1))=esW q):=good (Qz (by simp only;omega) (by simp only;omega) (by simp))
     have HC:Hid (Zs (q.take (k2+1))=true):=dD<|by
      rw[qt HX.out];unfold Zs;rw[List.any_append]
      simp[enS]
     clear bad good;go_wp2
     go_roundg (nq -(k2+1))
     case measure=>omega
     exact⟨k2+1,c+1,by omega,by omega,by go_num,by go_num,by omega,G2,HA,show(c+1=0↔Zs (q.take (k2+1))=false)from by rw[HC.out];simp⟩
    cases b with
    | true=>
     have HF:Hid (Z=7):=bad 7 (by decide) (Jy (by simp only;omega) (by simp only;omega) (.inr ⟨rfl,rfl⟩))
     clear bad good;go_wp2;go_ret;exact⟨by rw[HF.out];rfl,GE⟩
    | false=>
     have HA:Hid (esW (q.drop (k2+1))=esW q):=good (Qz (by simp only;omega) (by simp only;omega) (by simp))
     have HC:Hid (Zs (q.take (k2+1))=true):=dD<|by
      rw[qt HX.out];unfold Zs;rw[List.any_append]
      simp[enS]
     clear bad good;go_wp2
     go_roundg (nq -(k2+1))
     case measure=>omega
     exact⟨k2+1,c+1,by omega,by omega,by go_num,by go_num,by omega,G2,HA,show(c+1=0↔Zs (q.take (k2+1))=false)from by rw[HC.out];simp⟩
   have hltz2:¬(k2:Int)< (nq:Int):=by omega
   have:k2=nq:=by omega
   subst this;have HEZ:Hid (esW q=0):=dD<|by
    rw[<-AW2.out,List.drop_of_length_le (by rw[HNQ.out];exact nR _)]
    rfl
   have CQ:Hid (c=0↔Zs q=false):=dD<|by
    have:=CW.out;rw[List.take_of_length_le (by rw[HNQ.out];exact nR _)]at this
    exact this
   have HA:Hid (tbW (t.drop (kk+1))=tbW t):=goodH.out (by unfold haW;rw[if_pos (by rw[HNQ.out];exact H0)])
   go_wp2
   go_roundg (8 -(kk+1))
   case measure=>omega
   exact⟨kk+1,by omega,by omega,by go_num,BW2,HA⟩
  have hne0:((nq:Int) != 0)=true:=by simpa using h0
  by_cases h8:nq=8
  ·have hne8:((nq:Int) != 8)=false:=by simp[h8]
   have heq8:((nq:Int) == 8)=true:=by simp[h8]
   have H8:Hid (nq=8):=h8;clear h0 h8;have badH:Hid (∀z:Int,z≠0->esW q=z->Z=z):=show∀z:Int,_ from fun z hz h=>badG.out z hz (by rw[zif (by rw[HNQ.out];exact H8),if_neg (by rw[h];exact hz)];exact h)
   go_wp2
   go_loopg [5,22] nq (fun g2 s5 s22 wr2=>∃(k2 c:Nat),k2<=nq/\nq - k2<=g2/\s22=I6 k2/\s5=I6 c/\c<=k2/\Hid (zc w wr2)/\Hid (esW (q.drop k2)=esW q)/\Hid (c=0↔Zs (q.take k2)=false))
   case atStart=>exact⟨0,0,nZ _,by omega,rfl,rfl,nR _,BW,rfl,show(0=0↔Zs (q.take 0)=false)from by simp[Zs]⟩
   obtain⟨k2,c,hk2',hg2,rfl,rfl,hck,BW2,AW2,CW⟩:=hrel
   by_cases hlt2:k2<nq
   ·have hltz2:(k2:Int)< (nq:Int):=by omega
    obtain⟨x,hx⟩:∃x,q[k2]? =some x:=⟨_,gE (by rw[HNQ.out];exact hlt2)⟩
    obtain⟨ad,rfl,hl2⟩:=HE.out k2 x hx;obtain⟨d0,d1,d2⟩:=hl2 wr BW2.out;obtain⟨k,m,b⟩:=x;have HX:Hid (q[k2]? =some ⟨k,m,b⟩):=hx;simp only at d0 d1 d2;have HST:Hid (esW (q.drop k2)=if enW ⟨k,m,b⟩=0 then esW (q.drop (k2+1))else enW ⟨k,m,b⟩):=show _=_ by rw[qP HX.out,zdG]
    have bad:∀z:Int,z≠0->enW ⟨k,m,b⟩=z->Z=z:=fun z hz h=>by
     have h1:=AW2.out;rw[HST.out,h,if_neg hz]at h1;exact badH.out z hz h1.symm
    have good:enW ⟨k,m,b⟩=0->esW (q.drop (k2+1))=esW q:=fun h=>by
     rw[<-AW2.out,HST.out,if_pos h]
    clear hl2 hx;go_upto_region 10 with fail;obtain⟨px,hpx⟩:∃px,wr.heap.size=px:=⟨_,rfl⟩;obtain⟨W2,hW2⟩:∃W2,wr.alloc (.cells #[I6 k,I6 m,.bool b] 67)=W2:=⟨_,rfl⟩;have G2:=gT hW2 BW2
    have GE:Hid (zc w W2):=G2.out;have P2:Hid (Box W2 px [I6 k,I6 m,.bool b]):=show Box _ _ _ by rw[<-hW2];exact Box.top _ _ _ hpx.symm
    rw[hW2];rw[hpx];clear hW2 hpx d0 d1 d2;obtain⟨p0,p1,p2⟩:=P2.c3
    by_cases hk0:k<0
    ·have HF:Hid (Z=1):=bad 1 (by decide) (zaH (by simp only;omega))
     clear bad good;go_wp2;go_ret;exact⟨by rw[HF.out];rfl,GE⟩
    have hk0d:decide (k<0)=false:=decide_eq_false hk0
    by_cases hk2:2<k
    ·have HF:Hid (Z=1):=bad 1 (by decide) (zaH (by simp only;omega))
     clear bad good;go_wp2;go_ret;exact⟨by rw[HF.out];rfl,GE⟩
    have hk2d:decide (2<k)=false:=decide_eq_false hk2
    by_cases hn0:m<0
    ·have HF:Hid (Z=3):=bad 3 (by decide) (Zl (by simp only;omega) (by simp only;omega))
     clear bad good;go_wp2;go_ret;exact⟨by rw[HF.out];rfl,GE⟩
    have hn0d:decide (m<0)=false:=decide_eq_false hn0
    by_cases hn59:59<m
    ·have HF:Hid (Z=3):=bad 3 (by decide) (Zl (by simp only;omega) (by simp only;omega))
     clear bad good;go_wp2;go_ret;exact⟨by rw[HF.out];rfl,GE⟩
    have hn59d:decide (59<m)=false:=decide_eq_false hn59;obtain rfl|rfl|rfl:k=0\/k=1\/k=2:=by omega
    ·by_cases hm:0<m
     ·have HF:Hid (Z=7):=bad 7 (by decide) (Jy (by simp only;omega) (by simp only;omega) (.inl ⟨rfl,.inl (by simp only;omega)⟩))
      clear bad good;go_wp2;go_ret;exact⟨by rw[HF.out];rfl,GE⟩
     obtain rfl:m=0:=by omega
     cases b with
     | true=>
      have HF:Hid (Z=7):=bad 7 (by decide) (Jy (by simp only;omega) (by simp only;omega) (.inl ⟨rfl,.inr rfl⟩))
      clear bad good;go_wp2;go_ret;exact⟨by rw[HF.out];rfl,GE⟩
     | false=>
      have HA:Hid (esW (q.drop (k2+1))=esW q):=good (Qz (by simp only;omega) (by simp only;omega) (by simp))
      have HC:Hid (Zs (q.take (k2+1))=Zs (q.take k2)):=dD<|by
       rw[qt HX.out];unfold Zs;rw[List.any_append]
       simp[enS]
      clear bad good;go_wp2
      go_roundg (nq -(k2+1))
      case measure=>omega
      exact⟨k2+1,c,by omega,by omega,by go_num,by go_num,by omega,G2,HA,by rw[HC.out];exact CW⟩
    ·by_cases hn39:39<m
     ·have HF:Hid (Z=3):=bad 3 (by decide) (Zl (by simp only;omega) (fun h=>by have:=h.2.2 rfl;simp only at this;omega))
      clear bad good;go_wp2;go_ret;exact⟨by rw[HF.out];rfl,GE⟩
     have hn39d:decide (39<m)=false:=decide_eq_false hn39;have HA:Hid (esW (q.drop (k2+1))=esW q):=good (Qz (by simp only;omega) (by simp only;omega) (by simp))
     have HC:Hid (Zs (q.take (k2+1))=true):=dD<|by
      rw[qt HX.out];unfold Zs;rw[List.any_append]
      simp[enS]
     clear bad good;go_wp2
     go_roundg (nq -(k2+1))
     case measure=>omega
     exact⟨k2+1,c+1,by omega,by omega,by go_num,by go_num,by omega,G2,HA,show(c+1=0↔Zs (q.take (k2+1))=false)from by rw[HC.out];simp⟩
    cases b with
    | true=>
     have HF:Hid (Z=7):=bad 7 (by decide) (Jy (by simp only;omega) (by simp only;omega) (.inr ⟨rfl,rfl⟩))
     clear bad good;go_wp2;go_ret;exact⟨by rw[HF.out];rfl,GE⟩
    | false=>
     have HA:Hid (esW (q.drop (k2+1))=esW q):=good (Qz (by simp only;omega) (by simp only;omega) (by simp))
     have HC:Hid (Zs (q.take (k2+1))=true):=dD<|by
      rw[qt HX.out];unfold Zs;rw[List.any_append]
      simp[enS]
     clear bad good;go_wp2
     go_roundg (nq -(k2+1))
     case measure=>omega
     exact⟨k2+1,c+1,by omega,by omega,by go_num,by go_num,by omega,G2,HA,show(c+1=0↔Zs (q.take (k2+1))=false)from by rw[HC.out];simp⟩
   have hltz2:¬(k2:Int)< (nq:Int):=by omega
   have:k2=nq:=by omega
   subst this;have HEZ:Hid (esW q=0):=dD<|by
    rw[<-AW2.out,List.drop_of_length_le (by rw[HNQ.out];exact nR _)]
    rfl
   have CQ:Hid (c=0↔Zs q=false):=dD<|by
    have:=CW.out;rw[List.take_of_length_le (by rw[HNQ.out];exact nR _)]at this
    exact this
   by_cases hc:c=0
   ·have HF:Hid (Z=2):=badG.out 2 (by decide) (by rw[zif (by rw[HNQ.out];exact H8),HEZ,if_pos rfl,CQ.1 hc];rfl)
    have hcb:((c:Int) == 0)=true:=by simpa using hc
    clear hc;go_wp2;go_ret;exact⟨by rw[HF.out];rfl,BW2⟩
   have HA:Hid (tbW (t.drop (kk+1))=tbW t):=goodH.out (by
    rw[zif (by rw[HNQ.out];exact H8),HEZ,if_pos rfl]
    cases ha:Zs q with
    | true=>rfl
    | false=>exact absurd (CQ.2 ha) hc)
   have hcb:((c:Int) == 0)=false:=by simpa using hc
   clear hc;go_wp2
   go_roundg (8 -(kk+1))
   case measure=>omega
   exact⟨kk+1,by omega,by omega,by go_num,BW2,HA⟩
  have hne8:((nq:Int) != 8)=true:=by simp;omega
  have HF:Hid (Z=2):=badG.out 2 (by decide) (by unfold haW;rw[if_neg (by rw[HNQ.out];exact h0),if_neg (by rw[HNQ.out];exact h8)])
  clear h0 h8;go_wp2;go_ret;exact⟨by rw[HF.out];rfl,BW⟩
 have hltz:¬(kk:Int)<8:=by omega
 have:kk=8:=by omega
 subst this;have HF:Hid (Z=0):=dD<|by
  rw[<-HZ.out,<-AW.out,List.drop_of_length_le (by rw[HV.tlen];exact nR _)]
  rfl
 go_wp2;go_ret;exact⟨by rw[HF.out];rfl,BW⟩
theorem qi {e A:Int} {l:List Int} (h:zg (e :: l)=A) (he:e≠0):A=e:=by rw[<-h];unfold zg;rw[if_neg he]
theorem qj {e A:Int} {l:List Int} (h:zg (e :: l)=A) (he:e=0):zg l=A:=by rw[<-h,zJ,if_pos he]
theorem zd7 (V:MaV) (m:Ma) (w:World) (hm:zH w V m):
  Calls prog 40 #[.agg (mL V m).toArray] w fun e w'=>e= .returned (I6 (Jm m))/\zc w w':=by
 have HM:Hid (zH w V m):=hm;obtain⟨n1,n2,n3,-,n5,n6,-,-,n9⟩:=hm.ns;obtain⟨xs,hxl,hrow,hsp⟩:=hm.spaces;have hfs:=hm.fs;have hsl:=hm.sl;have HPG:Hid (QV w V.db.a m.db):=hm.pgs;have HPU:Hid (Ze w V.dq.a m.dq):=hm.puts;have hsl9:=hm.sp;obtain⟨Z,HZ⟩:∃Z,Hid (Jm m=Z):=⟨_,rfl⟩;rw[HZ.out];obtain⟨vf,vs,vsb,vsq,⟨dba,dbn,dbc⟩,⟨dqa,dqn,dqc⟩,vfl,vca,⟨spa,spn,spc⟩⟩:=V;dsimp only[mL]at n1 n2 n3 n5 n6 n9 HPG HPU hfs hsl hrow⊢;have HC1:Hid (∀W,zc w W->Calls prog 96 #[.agg #[vf.x,I6 m.hand]] W fun e w'=>e= .returned (I6 (Jo m.fs m.hand))/\zc W w'):=show∀W,_ from fun W hW=>by (try simp only[Sli.x]at hfs⊢);rw[n1]at hfs⊢;exact zbL vf.a vf.c m.fs m.hand W (zlg.1 (hfs.grew hW))
 have HC2:Hid (∀W,zc w W->Calls prog 97 #[vs.x] W fun e w'=>e= .returned (I6 (slW m.sl))/\zc W w'):=dD<|fun W hW=>by (try simp only[Sli.x]at hsl⊢);rw[n2]at hsl⊢;exact zdl vs.a vs.c m.sl W (hsl.grew hW)
 have HC3:Hid (∀W,zc w W->Calls prog 98 #[.agg #[vsb.x,vsq.x]] W fun e w'=>e= .returned (I6 (zL m.sb.length m.sq))/\zc W w'):=dD<|fun W hW=>by rw[<-n3];exact Qc vsb.a vsb.n vsb.c _ m.sq W (HM.grew hW).sq
 have HC4:Hid (∀W,zc w W->Calls prog 98 #[.agg #[.slice dba dbn dbc,.slice dqa dqn dqc]] W fun e w'=>e= .returned (I6 (zL m.db.length m.dq))/\zc W w'):=dD<|fun W hW=>by rw[<-n5];exact Qc dba dbn dbc _ m.dq W (HM.grew hW).dq
 have HC5:Hid (∀W,zc w W->Calls prog 99 #[.agg #[vfl.x,I6 m.cnt]] W fun e w'=>e= .returned (I6 (stW m.fl m.cnt))/\zc W w'):=dD<|fun W hW=>zcy _ m.fl m.cnt W (HM.grew hW).fl
 have HUS:Hid (∀W b,zc w W->Calls prog 29 #[.agg #[vfl.x,I6 m.cnt],I6 b] W fun e w'=>e= .returned (.bool (qN m.fl b))/\zc W w'):=dD<|fun W b hW=>zf5 _ m.fl m.cnt b W (HM.grew hW).fl
 have HN5:Hid (m.db.length=dbn):=n5.symm;have HN6:Hid (m.dq.length=dqn):=n6.symm;have HN9:Hid (m.sp.length=spn):=n9.symm;have hb6:dqn<=9223372036854775807:=by have:=hm.dq.2.2;omega
 have hb5:dbn<=9223372036854775807:=by have:=hm.db.2.2;omega
 have hb9:spn<=9223372036854775807:=by obtain⟨ys,k1,k2,_⟩:=hsl9;have:=k1.short;omega
 have HXL:Hid (xs.length=spn):=dD<|by rw[hxl];exact HN9.out
 have HRW:Hid (∀(j:Nat) x,xs[j]? =some x->∃ad,spa=some ad/\∀W,zc w W->zc1 W (ad.add (j*10)) x):=dD<|hrow
 have HSP:Hid (∀(i:Nat) x s,xs[i]? =some x->m.sp[i]? =some s->qr w x s):=dD<|hsp
 have hfit:zcB m=if vs.n≠vsb.n\/m.cnt≠(dbn:Int)then 7 else 0:=by unfold zcB;rw[n2,n3,n5]
 have HFT:Hid (zcB m=if vs.n≠vsb.n\/m.cnt≠(dbn:Int)then 7 else 0):=hfit;clear hm n1 n2 n3 n5 n6 n9 hxl hrow hsp hfs hsl hsl9 hfit;have Z1:Hid (zg [Jo m.fs m.hand,slW m.sl,zL m.sb.length m.sq,zL m.db.length m.dq,stW m.fl m.cnt,zcB m,j2 m,jS m,if 4<m.sp.length then 4 else 0,zg (m.sp.map spE)]=Z):=HZ.out;obtain⟨W0,hW0⟩:∃W0,w.alloc (.cells #[vf.x,I6 m.hand,vs.x,vsb.x,vsq.x,.slice dba dbn dbc,.slice dqa dqn dqc,vfl.x,I6 m.cnt,vca.x,.slice spa spn spc] 40)=W0:=⟨_,rfl⟩;have G0:=gA hW0
 have X0:=xA hW0
 have HW0:Hid (_=W0):=hW0;clear hW0
 go_enter func40,ntmps40
 go_upto_region 1 with fail;rw[HW0.out];have x0:=X0.c 0 rfl;have x1:=X0.c 1 rfl;have hc:=HC1.out W0 G0.out;obtain⟨E1,HE1⟩:∃E1,Hid (Jo m.fs m.hand=E1):=⟨_,rfl⟩;rw[HE1.out]at hc Z1;go_wp2_with fail;refine hc.mono ?_;clear hc;clear x0 x1;rintro e W1 ⟨rfl,g⟩;have G1:=dD (G0.trans g);have X1:=dD (X0.grew g);clear g
 by_cases hz:E1=0
 rotate_left
 ·have hze:(E1 != 0)=true:=by simp[hz]
  have HF:Hid (Z=E1):=qi Z1 hz;clear hz;go_wp2;go_ret;exact⟨by rw[HF.out];first | rfl | skip,G1⟩
 have hze:(E1 != 0)=false:=by simp[hz]
 have Z2:Hid (zg [slW m.sl,zL m.sb.length m.sq,zL m.db.length m.dq,stW m.fl m.cnt,zcB m,j2 m,jS m,if 4<m.sp.length then 4 else 0,zg (m.sp.map spE)]=Z):=qj Z1 hz;clear hz;have x2:=X1.c 2 rfl;have hc:=HC2.out W1 G1.out;obtain⟨E2,HE2⟩:∃E2,Hid (slW m.sl=E2):=⟨_,rfl⟩;rw[HE2.out]at hc Z2;go_wp2_with fail;refine hc.mono ?_;clear hc;clear x2;rintro e W2 ⟨rfl,g⟩;have G2:=dD (G1.trans g);have X2:=dD (X1.grew g);clear g
 by_cases hz:E2=0
 rotate_left
 ·have hze:(E2 != 0)=true:=by simp[hz]
  have HF:Hid (Z=E2):=qi Z2 hz;clear hz;go_wp2;go_ret;exact⟨by rw[HF.out];first | rfl | skip,G2⟩
 have hze:(E2 != 0)=false:=by simp[hz]
 have Z3:Hid (zg [zL m.sb.length m.sq,zL m.db.length m.dq,stW m.fl m.cnt,zcB m,j2 m,jS m,if 4<m.sp.length then 4 else 0,zg (m.sp.map spE)]=Z):=qj Z2 hz;clear hz;have x3:=X2.c 3 rfl;have x4:=X2.c 4 rfl;have hc:=HC3.out W2 G2.out;obtain⟨E3,HE3⟩:∃E3,Hid (zL m.sb.length m.sq=E3):=⟨_,rfl⟩;rw[HE3.out]at hc Z3;go_wp2_with fail;refine hc.mono ?_;clear hc;clear x3 x4;rintro e W3 ⟨rfl,g⟩;have G3:=dD (G2.trans g);have X3:=dD (X2.grew g);clear g
 by_cases hz:E3=0
 rotate_left
 ·have hze:(E3 != 0)=true:=by simp[hz]
  have HF:Hid (Z=E3):=qi Z3 hz;clear hz;go_wp2;go_ret;exact⟨by rw[HF.out];first | rfl | skip,G3⟩
 have hze:(E3 != 0)=false:=by simp[hz]
 have Z4:Hid (zg [zL m.db.length m.dq,stW m.fl m.cnt,zcB m,j2 m,jS m,if 4<m.sp.length then 4 else 0,zg (m.sp.map spE)]=Z):=qj Z3 hz;clear hz;have x5:=X3.c 5 rfl;have x6:=X3.c 6 rfl;have hc:=HC4.out W3 G3.out;obtain⟨E4,HE4⟩:∃E4,Hid (zL m.db.length m.dq=E4):=⟨_,rfl⟩;rw[HE4.out]at hc Z4;go_wp2_with fail;refine hc.mono ?_;clear hc;clear x5 x6;rintro e W4 ⟨rfl,g⟩;have G4:=dD (G3.trans g);have X4:=dD (X3.grew g);clear g
 by_cases hz:E4=0
 rotate_left
 ·have hze:(E4 != 0)=true:=by simp[hz]
  have HF:Hid (Z=E4):=qi Z4 hz;clear hz;go_wp2;go_ret;exact⟨by rw[HF.out];first | rfl | skip,G4⟩
 have hze:(E4 != 0)=false:=by simp[hz]
 have Z5:Hid (zg [stW m.fl m.cnt,zcB m,j2 m,jS m,if 4<m.sp.length then 4 else 0,zg (m.sp.map spE)]=Z):=qj Z4 hz;clear hz;have x7:=X4.c 7 rfl;have x8:=X4.c 8 rfl;have hc:=HC5.out W4 G4.out;obtain⟨E5,HE5⟩:∃E5,Hid (stW m.fl m.cnt=E5):=⟨_,rfl⟩;rw[HE5.out]at hc Z5;go_wp2_with fail;refine hc.mono ?_;clear hc;clear x7 x8;rintro e W5 ⟨rfl,g⟩;have G5:=dD (G4.trans g);have X5:=dD (X4.grew g);clear g
 by_cases hz:E5=0
 rotate_left
 ·have hze:(E5 != 0)=true:=by simp[hz]
  have HF:Hid (Z=E5):=qi Z5 hz;clear hz;go_wp2;go_ret;exact⟨by rw[HF.out];first | rfl | skip,G5⟩
 have hze:(E5 != 0)=false:=by simp[hz]
 have Z6:Hid (zg [zcB m,j2 m,jS m,if 4<m.sp.length then 4 else 0,zg (m.sp.map spE)]=Z):=qj Z5 hz;clear hz;obtain⟨UU,HUU⟩:∃UU:Int->Bool,Hid (∀b,qN m.fl b=UU b):=⟨fun b=>qN m.fl b,fun _=>rfl⟩
 have x2:=X5.c 2 rfl;have x3:=X5.c 3 rfl;have x5:=X5.c 5 rfl;have x8:=X5.c 8 rfl
 by_cases c1:vs.n=vsb.n
 rotate_left
 ·have c1e:((vs.n:Int) !=(vsb.n:Int))=true:=by simp;omega
  have c1f:(vs.n != vsb.n)=true:=by simp[c1]
  have HF:Hid (Z=7):=dD<|by rw[qi Z6 (by rw[HFT.out,if_pos (.inl c1)];decide),HFT,if_pos (.inl c1)]
  clear c1;go_wp2;go_ret;exact⟨by rw[HF.out];rfl,G5⟩
 by_cases c2:m.cnt=(dbn:Int)
 rotate_left
 ·have c1e:((vs.n:Int) !=(vsb.n:Int))=false:=by simp[c1]
  have c1f:(vs.n != vsb.n)=false:=by simp[c1]
  have c2e:(m.cnt !=(dbn:Int))=true:=by simp[c2]
  have HF:Hid (Z=7):=dD<|by rw[qi Z6 (by rw[HFT.out,if_pos (.inr c2)];decide),HFT,if_pos (.inr c2)]
  clear c1 c2;go_wp2;go_ret;exact⟨by rw[HF.out];rfl,G5⟩
 have c1e:((vs.n:Int) !=(vsb.n:Int))=false:=by simp[c1]
 have c1f:(vs.n != vsb.n)=false:=by simp[c1]
 have c2e:(m.cnt !=(dbn:Int))=false:=by simp[c2]
 have Z7:Hid (zg [j2 m,jS m,if 4<m.sp.length then 4 else 0,zg (m.sp.map spE)]=Z):=qj Z6 (by rw[HFT.out,if_neg (by omega)])
 have HC12:Hid (vs.n=vsb.n/\m.cnt=(dbn:Int)):=dD<|⟨c1,c2⟩
 clear c1 c2;go_wp2;clear x2 x3 x5 x8;clear c1e c1f c2e
 go_loopg [68] dbn (fun gg s68 wr=>∃kk:Nat,kk<=dbn/\dbn - kk<=gg/\s68=I6 kk/\Hid (zc w wr)/\Hid (Box wr w.heap.size [vf.x,I6 m.hand,vs.x,vsb.x,vsq.x,.slice dba dbn dbc,.slice dqa dqn dqc,vfl.x,I6 m.cnt,vca.x,.slice spa spn spc])/\Hid (∀b,b<kk->jA m b=false))
 case atStart=>exact⟨0,nZ _,by omega,rfl,G5,X5,fun b hb=>absurd hb (nL _)⟩
 obtain⟨kk,hkk,hgg,rfl,GW,XW,OW⟩:=hrel
 by_cases hlt:kk<dbn
 ·have hltz:(kk:Int)< (dbn:Int):=by omega
  have HKL:Hid (kk<m.db.length):=dD<|by rw[HN5.out];exact hlt
  obtain⟨p,HP⟩:∃p,Hid (m.db[kk]? =some p):=⟨_,gE HKL⟩;obtain⟨ad,b0,b1,b2,b3,b4,b5,b6,b7,rfl,rfl,hl⟩:=HPG.out kk p HP.out;have HBD:Hid (jA m kk=(!qN m.fl (kk:Int) && !([b0,b1,b2,b3,b4,b5,b6,b7] == zm))):=dD<|by unfold jA;rw[gD,HP.out];rfl
  obtain⟨d0,d1,d2,d3,d4,d5,d6,d7⟩:=hl wr GW.out;have hqp:=fun W=>Qp 9998 b0 b1 b2 b3 b4 b5 b6 b7 0 0 0 0 0 0 0 0 W
  simp only[zdR]at hqp;obtain⟨PZ,HPZ⟩:∃PZ,Hid (([b0,b1,b2,b3,b4,b5,b6,b7] == zm)=PZ):=⟨_,rfl⟩;rw[HPZ.out]at hqp HBD;clear hl;go_upto_region 21 with fail;obtain⟨W6,hW6⟩:∃W6,wr.alloc (.cells #[U8 b0,U8 b1,U8 b2,U8 b3,U8 b4,U8 b5,U8 b6,U8 b7] 50)=W6:=⟨_,rfl⟩;have g6:=gP hW6
  have P6:=xA hW6
  have G6:=dD (GW.trans g6);have X6:=dD (XW.grew g6);rw[hW6];clear hW6 d0 d1 d2 d3 d4 d5 d6 d7 g6;have hus:=HUS.out W6 (kk:Int) G6.out;obtain⟨U,HU⟩:∃U,Hid (qN m.fl (kk:Int)=U):=⟨_,rfl⟩;rw[HU.out]at hus HBD;have x7:=X6.c 7 rfl;have x8:=X6.c 8 rfl;go_wp2_with fail;refine hus.mono ?_;clear hus x7 x8;rintro e W7 ⟨rfl,g7⟩;have G7:=dD (G6.trans g7);have X7:=dD (X6.grew g7);have P7:=dD (P6.grew g7);clear g7;have OW':Hid (jA m kk=false->∀b,b<kk+1->jA m b=false):=show _->_ from fun h b hb=>by
   by_cases e:b=kk
   ·rw[e];exact h
   exact OW b (by omega)
  cases U with
  | true=>
   have OW2:Hid (∀b,b<kk+1->jA m b=false):=OW'.out (by rw[HBD.out];rfl)
   clear hqp;go_wp2
   go_roundg (dbn -(kk+1))
   case measure=>omega
   exact⟨kk+1,by omega,by omega,by go_num,G7,X7,OW2⟩
  | false=>
   obtain⟨p0,p1,p2,p3,p4,p5,p6,p7⟩:=P7.c8
   cases PZ with
   | true=>
    have OW2:Hid (∀b,b<kk+1->jA m b=false):=OW'.out (by rw[HBD.out];rfl)
    go_wp2
    go_roundg (dbn -(kk+1))
    case measure=>omega
    exact⟨kk+1,by omega,by omega,by go_num,G7,X7,OW2⟩
   | false=>
    have HF:Hid (Z=7):=dD<|by
     have hb:=zcZ HKL (show jA m kk=true by rw[HBD.out];rfl)
     rw[qi Z7 (by rw[hb];decide),hb]
    go_wp2;go_ret;exact⟨by rw[HF.out];rfl,G7⟩
 have hltz:¬(kk:Int)< (dbn:Int):=by omega
 obtain rfl:kk=dbn:=by omega
 have Z8:Hid (zg [jS m,if 4<m.sp.length then 4 else 0,zg (m.sp.map spE)]=Z):=qj Z7 (zcf fun b hb=>OW.out b (by rw[<-HN5.out];exact hb))
 have x6:=XW.c 6 rfl;go_wp2;clear x6;have G8:Hid (zc w wr):=GW;have X8:Hid (Box wr w.heap.size [vf.x,I6 m.hand,vs.x,vsb.x,vsq.x,.slice dba kk dbc,.slice dqa dqn dqc,vfl.x,I6 m.cnt,vca.x,.slice spa spn spc]):=XW
 go_loopg [88] dqn (fun gg s88 wr=>∃j:Nat,j<=dqn/\dqn - j<=gg/\s88=I6 j/\Hid (zc w wr)/\Hid (Box wr w.heap.size [vf.x,I6 m.hand,vs.x,vsb.x,vsq.x,.slice dba kk dbc,.slice dqa dqn dqc,vfl.x,I6 m.cnt,vca.x,.slice spa spn spc])/\Hid (∀(i:Nat) q,i<j->m.dq[i]? =some q->qN m.fl q.1=true))
 case atStart=>exact⟨0,nZ _,by omega,rfl,G8,X8,fun i q hi=>absurd hi (nL _)⟩
 obtain⟨j,hj,hg2,rfl,GW,XW,OW⟩:=hrel
 by_cases hlt2:j<dqn
 ·have hltz2:(j:Int)< (dqn:Int):=by omega
  obtain⟨q,HQ⟩:∃q,Hid (m.dq[j]? =some q):=⟨_,gE (by rw[HN6.out];exact hlt2)⟩
  obtain⟨ad,mm,b0,b1,b2,b3,b4,b5,b6,b7,rfl,rfl,hl⟩:=HPU.out j q HQ.out;obtain⟨d0,d1,d2,d3,d4,d5,d6,d7,d8⟩:=hl wr GW.out;clear hl;go_upto_region 27 with fail;obtain⟨W6,hW6⟩:∃W6,wr.alloc (.cells #[I6 mm,U8 b0,U8 b1,U8 b2,U8 b3,U8 b4,U8 b5,U8 b6,U8 b7] 91)=W6:=⟨_,rfl⟩;have g6:=gP hW6
  have P6:=xA hW6
  have G6:=dD (GW.trans g6);have X6:=dD (XW.grew g6);rw[hW6];clear hW6 d0 d1 d2 d3 d4 d5 d6 d7 d8 g6;have hus:=HUS.out W6 mm G6.out;obtain⟨U,HU⟩:∃U,Hid (qN m.fl mm=U):=⟨_,rfl⟩;rw[HU.out]at hus;have p0:=P6.c 0 rfl;have x7:=X6.c 7 rfl;have x8:=X6.c 8 rfl;go_wp2_with fail;refine hus.mono ?_;clear hus x7 x8 p0;rintro e W7 ⟨rfl,g7⟩;have G7:=dD (G6.trans g7);have X7:=dD (X6.grew g7);clear g7
  cases U with
  | true=>
   have OW':Hid (∀(i:Nat) q,i<j+1->m.dq[i]? =some q->qN m.fl q.1=true):=dD<|fun i q' hi hq'=>by
    by_cases e:i=j
    ·subst e;rw[HQ.out]at hq';cases hq';exact HU.out
    exact OW i q' (by omega) hq'
   go_wp2
   go_roundg (dqn -(j+1))
   case measure=>omega
   exact⟨j+1,by omega,by omega,by go_num,G7,X7,OW'⟩
  | false=>
   have HF:Hid (Z=7):=dD<|by
    have hb:=zcK HQ HU.out;rw[qi Z8 (by rw[hb];decide),hb]
   go_wp2;go_ret;exact⟨by rw[HF.out];rfl,G7⟩
 have hltz2:¬(j:Int)< (dqn:Int):=by omega
 obtain rfl:j=dqn:=by omega
 have Z9:Hid (zg [if 4<m.sp.length then 4 else 0,zg (m.sp.map spE)]=Z):=qj Z8 (zd9 fun i q hq=>OW.out i q (by rw[<-HN6.out];exact(gS.1 hq).1) hq)
 have x10:=XW.c 10 rfl
 by_cases h4:4<spn
 ·have h4d:decide ((4:Int)< (spn:Int))=true:=by simp;omega
  have HF:Hid (Z=4):=dD<|by
   have hb:(if 4<m.sp.length then(4:Int)else 0)=4:=by rw[if_pos (by rw[HN9.out];exact h4)]
   rw[qi Z9 (by rw[hb];decide),hb]
  clear h4;go_wp2;go_ret;exact⟨by rw[HF.out];rfl,GW⟩
 have h4d:decide ((4:Int)< (spn:Int))=false:=by simp;omega
 have Z10:Hid (zg (m.sp.map spE)=Z):=dD<|by
  have:=qj Z9 (by rw[if_neg (by rw[HN9.out];exact h4)])
  rw[zJ]at this
  by_cases e:zg (m.sp.map spE)=0
  ·rw[if_pos e]at this;rw[e];exact this
  rw[if_neg e]at this;exact this
 clear h4;go_wp2;clear x10;have G9:Hid (zc w wr):=GW
 go_loopg [106] spn (fun gg s106 wr=>∃i:Nat,i<=spn/\spn - i<=gg/\s106=I6 i/\Hid (zc w wr)/\Hid (zg ((m.sp.drop i).map spE)=Z))
 case atStart=>exact⟨0,nZ _,by omega,rfl,G9,Z10⟩
 obtain⟨i,hi,hg3,rfl,GW,OW⟩:=hrel
 by_cases hlt3:i<spn
 ·have hltz3:(i:Int)< (spn:Int):=by omega
  obtain⟨x,hx⟩:∃x,xs[i]? =some x:=⟨_,gE (by rw[HXL.out];exact hlt3)⟩
  obtain⟨s,hs⟩:∃s,m.sp[i]? =some s:=⟨_,gE (by rw[HN9.out];exact hlt3)⟩
  have HAT:Hid (qr w x s):=HSP.out i x s hx hs;have ZI:Hid (zg (spE s ::(m.sp.drop (i+1)).map spE)=Z):=show _=_ by
   have h1:=OW.out;rw[List.drop_eq_getElem_cons (by rw[HN9.out];exact hlt3),mP]at h1
   have h2:m.sp[i]'(by rw[HN9.out];exact hlt3)=s:=by rw[gE (by rw[HN9.out];exact hlt3)]at hs;cases hs;rfl
   rw[h2]at h1;exact h1
  obtain⟨ad,rfl,hl⟩:=HRW.out i x hx;obtain⟨d0,d1,d2,d3,d4,d5,d6,d7,d8,d9⟩:=hl wr GW.out;clear hl hx hs;have HLV:Hid (x.live=s.live):=HAT.live;have han:=HAT.ar.n;have HAN:Hid (x.ar.n=s.ars.length):=han;clear han;have HAR:Hid (∀W,zc w W->Calls prog 100 #[x.ar.x] W fun e w'=>e= .returned (.agg #[I6 (wrL s.ars).1,I6 (wrL s.ars).2])/\zc W w'):=show∀W,_ from fun W hW=>JV _ s.ars W (HAT.grew hW).ar (show Cap (x.ar.x)from HAT.cap)
  have HTB:Hid (∀W,zc w W->Calls prog 101 #[.agg #[x.t0.x,x.t1.x,x.t2.x,x.t3.x,x.t4.x,x.t5.x,x.t6.x,x.t7.x]] W fun e w'=>e= .returned (I6 (tbW s.tb))/\zc W w'):=dD<|fun W hW=>zcx x.tab s.tb W (HAT.grew hW).tb
  have HST:Hid (∀W,zc w W->Calls prog 50 #[.agg #[x.t0.x,x.t1.x,x.t2.x,x.t3.x,x.t4.x,x.t5.x,x.t6.x,x.t7.x],.agg #[eS,eS,eS,eS,eS,eS,eS,eS]] W fun e w'=>e= .returned (.bool (s.tb.all (·.isEmpty)))/\zc W w'):=dD<|fun W hW=>zfg x.tab s.tb W (HAT.grew hW).tb
  go_upto_region 35 with fail;obtain⟨W6,hW6⟩:∃W6,wr.alloc (.cells #[.bool x.live,x.ar.x,x.t0.x,x.t1.x,x.t2.x,x.t3.x,x.t4.x,x.t5.x,x.t6.x,x.t7.x] 65)=W6:=⟨_,rfl⟩;have G6:=gT hW6 GW
  obtain⟨ps,HPS⟩:∃ps,Hid (wr.heap.size=ps):=⟨_,rfl⟩;have S6:=xP hW6 HPS
  rw[hW6,HPS.out];clear hW6 d0 d1 d2 d3 d4 d5 d6 d7 d8 d9;have har:=HAR.out W6 G6.out;have s1:=S6.c 1 rfl;obtain⟨E1,HE1⟩:∃E1,Hid ((wrL s.ars).1=E1):=⟨_,rfl⟩;rw[HE1.out]at har;go_wp2_with fail;refine har.mono ?_;clear har s1;rintro e W7 ⟨rfl,g7⟩;have G7:=dD (G6.trans g7);have S7:=dD (S6.grew g7);clear g7;go_upto_region 36 with fail;obtain⟨W8,hW8⟩:∃W8,W7.alloc (.cells #[I6 E1,I6 (wrL s.ars).2] 167)=W8:=⟨_,rfl⟩;have g8:=gP hW8
  have F8:=xA hW8
  have G8:=dD (G7.trans g8);have S8:=dD (S7.grew g8);rw[hW8];clear hW8 g8;have f0:=F8.c 0 rfl
  by_cases h1:E1=0
  rotate_left
  ·have h1e:(E1 != 0)=true:=by simp[h1]
   have HF:Hid (Z=E1):=dD<|by
    have hb:spE s=E1:=by unfold spE;rw[if_pos (by rw[HE1.out];exact h1)];exact HE1.out
    rw[qi ZI (by rw[hb];exact h1),hb]
   clear h1;go_wp2;go_ret;exact⟨by rw[HF.out];first | rfl | skip,G8⟩
  have h1e:(E1 != 0)=false:=by simp[h1]
  have HE10:Hid ((wrL s.ars).1=0):=dD<|by rw[HE1.out];exact h1
  clear h1;have htb:=HTB.out W8 G8.out;obtain⟨E2,HE2⟩:∃E2,Hid (tbW s.tb=E2):=⟨_,rfl⟩;rw[HE2.out]at htb;have s2:=S8.c 2 rfl;have s3:=S8.c 3 rfl;have s4:=S8.c 4 rfl;have s5:=S8.c 5 rfl;have s6:=S8.c 6 rfl;have s7:=S8.c 7 rfl;have s8:=S8.c 8 rfl;have s9:=S8.c 9 rfl;go_wp2_with fail;refine htb.mono ?_;clear htb f0 s2 s3 s4 s5 s6 s7 s8 s9;rintro e W9 ⟨rfl,g9⟩;have G9:=dD (G8.trans g9);have S9:=dD (S8.grew g9);clear g9
  by_cases h2:E2=0
  rotate_left
  ·have h2e:(E2 != 0)=true:=by simp[h2]
   have HF:Hid (Z=E2):=dD<|by
    have hb:spE s=E2:=by unfold spE;rw[if_neg (fun h=>h HE10),if_pos (by rw[HE2.out];exact h2)];exact HE2.out
    rw[qi ZI (by rw[hb];exact h2),hb]
   clear h2;go_wp2;go_ret;exact⟨by rw[HF.out];first | rfl | skip,G9⟩
  have h2e:(E2 != 0)=false:=by simp[h2]
  have HE20:Hid (tbW s.tb=0):=dD<|by rw[HE2.out];exact h2
  clear h2;have HSE:Hid (spE s=if(!s.live &&(!s.ars.isEmpty || !s.tb.all (·.isEmpty)))=true then 7 else 0):=dD<|by unfold spE;rw[if_neg (fun h=>h HE10.out),if_neg (fun h=>h HE20.out)]
  have s0:=S9.c 0 rfl;rw[HLV.out]at s0
  cases hlv:s.live with
  | true=>
   rw[hlv]at s0;have OW':Hid (zg ((m.sp.drop (i+1)).map spE)=Z):=qj ZI (by rw[HSE.out,hlv];rfl)
   go_wp2
   go_roundg (spn -(i+1))
   case measure=>omega
   exact⟨i+1,by omega,by omega,by go_num,G9,OW'⟩
  | false=>
   rw[hlv]at s0;have s1:=S9.c 1 rfl
   by_cases ha:0<x.ar.n
   ·have had:decide ((0:Int)< (x.ar.n:Int))=true:=by simp;omega
    have han:decide (0<x.ar.n)=true:=by simp;omega
    have HF:Hid (Z=7):=dD<|by
     have hne:s.ars.isEmpty=false:=by
      cases e:s.ars with
      | nil=>rw[HAN.out,e]at ha;simp at ha
      | cons a l=>rfl
     have hb:spE s=7:=by rw[HSE.out,hlv,hne];rfl
     rw[qi ZI (by rw[hb];decide),hb]
    have hap:(0:Int)< (x.ar.n:Int):=by omega
    clear ha;go_wp2;go_ret;exact⟨by rw[HF.out];rfl,G9⟩
   have had:decide ((0:Int)< (x.ar.n:Int))=false:=by simp;omega
   have han:decide (0<x.ar.n)=false:=by simp;omega
   have HEM:Hid (s.ars.isEmpty=true):=dD<|by rw[List.isEmpty_iff];exact eN (by rw[<-HAN.out];omega)
   clear ha;have hst:=HST.out W9 G9.out;obtain⟨AE,HAE⟩:∃AE,Hid (s.tb.all (·.isEmpty)=AE):=⟨_,rfl⟩;rw[HAE.out]at hst;have s2:=S9.c 2 rfl;have s3:=S9.c 3 rfl;have s4:=S9.c 4 rfl;have s5:=S9.c 5 rfl;have s6:=S9.c 6 rfl;have s7:=S9.c 7 rfl;have s8:=S9.c 8 rfl;have s9:=S9.c 9 rfl;go_wp2_with fail;refine hst.mono ?_;clear hst s0 s1 s2 s3 s4 s5 s6 s7 s8 s9;rintro e WA ⟨rfl,gA⟩;have GA:=dD (G9.trans gA);clear gA
   cases AE with
   | true=>
    have OW':Hid (zg ((m.sp.drop (i+1)).map spE)=Z):=qj ZI (by rw[HSE.out,hlv,HEM.out,HAE.out];rfl)
    go_wp2
    go_roundg (spn -(i+1))
    case measure=>omega
    exact⟨i+1,by omega,by omega,by go_num,GA,OW'⟩
   | false=>
    have HF:Hid (Z=7):=dD<|by
     have hb:spE s=7:=by rw[HSE.out,hlv,HEM.out,HAE.out];rfl
     rw[qi ZI (by rw[hb];decide),hb]
    go_wp2;go_ret;exact⟨by rw[HF.out];rfl,GA⟩
 have hltz3:¬(i:Int)< (spn:Int):=by omega
 obtain rfl:i=spn:=by omega
 have HF:Hid (Z=0):=dD<|by
  rw[<-OW.out,List.drop_of_length_le (by rw[HN9.out];exact nR _)]
  rfl
 go_wp2;go_ret;exact⟨by rw[HF.out];rfl,GW⟩
def Q6 (m:Ma) (kind k:Int) (p:Nat):Nat:=jn ((m.sp.take p).map zO) kind k
theorem zfE {kind k:Int} {p:Nat} {s:Sp} (h:m.sp[p]? =some s):Q6 m kind k (p+1)=Q6 m kind k p+j1 (zO s) kind k 64:=by
 unfold Q6 jn;rw[List.take_add_one,h];simp
theorem zcR {kind k:Int}:Q6 m kind k m.sp.length=Zo m kind k:=by
 unfold Q6 Zo;rw[List.take_length]
theorem zev {kind k:Int} (p:Nat):Q6 m kind k p<=64*p:=by
 have:=zaX ((m.sp.take p).map zO) kind k;simp only[List.length_map,List.length_take]at this;unfold Q6;omega
theorem zcz (V:MaV) (m:Ma) (kind k:Int) (w:World) (hm:zH w V m) (h4:m.sp.length<=4) (h8:∀s∈m.sp,∀h∈s.tb,h.length<=8):
  Calls prog 44 #[.agg (mL V m).toArray,I6 kind,I6 k] w fun e w'=>e= .returned (I6 (Zo m kind k:Int))/\zc w w':=by
 obtain⟨-,-,-,-,-,-,-,-,n9⟩:=hm.ns;obtain⟨xs,hxl,hrow,hsp⟩:=hm.spaces;have HR:Hid (∀(j:Nat) x,xs[j]? =some x->∃ad,V.sp.a=some ad/\∀W,zc w W->zc1 W (ad.add (j*10)) x):=dD<|hrow
 have HS:Hid (∀(i:Nat) x s,xs[i]? =some x->m.sp[i]? =some s->qr w x s):=dD<|hsp
 obtain⟨N,HN⟩:∃N,Hid (m.sp.length=N):=⟨_,rfl⟩;have hN4:N<=4:=by rw[<-HN.out];exact h4
 have HXL:Hid (xs.length=N):=dD<|by rw[hxl];exact HN.out
 have H8:Hid (∀s∈m.sp,∀h∈s.tb,h.length<=8):=dD<|h8
 obtain⟨vf,vs,vsb,vsq,vdb,vdq,vfl,vca,⟨spa,spn,spc⟩⟩:=V;dsimp only[mL]at n9 HR⊢;obtain rfl:spn=N:=by rw[n9];exact HN.out
 clear hm hrow hsp hxl n9 h8 h4;obtain⟨W0,hW0⟩:∃W0,w.alloc (.cells #[vf.x,I6 m.hand,vs.x,vsb.x,vsq.x,vdb.x,vdq.x,vfl.x,I6 m.cnt,vca.x,.slice spa spn spc] 40)=W0:=⟨_,rfl⟩;have HG0:=gA hW0
 have HW0:Hid (_=W0):=hW0;have X0:=xA hW0
 clear hW0
 go_enter func44,ntmps44
 go_upto_region 2 with fail;rw[HW0.out];have x10:=X0.c 10 rfl;go_wp2;clear x10
 go_loopg [7,15] spn (fun gg s7 s15 wr=>∃p:Nat,p<=spn/\spn - p<=gg/\s15=I6 p/\s7=I6 (Q6 m kind k p:Int)/\Hid (zc w wr))
 case atStart=>exact⟨0,nZ _,by omega,rfl,rfl,HG0⟩
 obtain⟨p,hp,hg,rfl,rfl,GW⟩:=hrel
 by_cases hlt:p<spn
 ·have hltz:(p:Int)< (spn:Int):=by omega
  obtain⟨x,hx⟩:∃x,xs[p]? =some x:=⟨_,gE (by rw[HXL.out];exact hlt)⟩
  obtain⟨s,hs⟩:∃s,m.sp[p]? =some s:=⟨_,gE (by rw[HN.out];exact hlt)⟩
  have HAT:Hid (qr w x s):=HS.out p x s hx hs;have HSS:Hid (m.sp[p]? =some s):=hs;obtain⟨ad,rfl,hl⟩:=HR.out p x hx;have hcl:=hl wr GW.out;obtain⟨d0,d1,d2,d3,d4,d5,d6,d7,d8,d9⟩:=hcl;clear hl hx hs;have HF64:Hid (∀j,j<64->(QT s.tb)[j]? =some (zO s j)):=show∀j,_ from fun j hj=>zbw s.tb hj
  have hfl:∀W,zc w W->Calls prog 42 #[.agg #[x.t0.x,x.t1.x,x.t2.x,x.t3.x,x.t4.x,x.t5.x,x.t6.x,x.t7.x]] W fun e w'=>e= .returned (.agg (qk (QT s.tb)).toArray)/\zc W w':=fun W hW=>za0 x.tab s.tb W ((HAT.grew hW).tb) (H8 s (mG HSS))
  have HFL:Hid (∀W,zc w W->Calls prog 42 #[.agg #[x.t0.x,x.t1.x,x.t2.x,x.t3.x,x.t4.x,x.t5.x,x.t6.x,x.t7.x]] W fun e w'=>e= .returned (.agg (qk (QT s.tb)).toArray)/\zc W w'):=dD<|hfl
  clear hfl;have hb0:=zev (m:=m) (kind:=kind) (k:=k) p;have HSU:Hid (Q6 m kind k (p+1)=Q6 m kind k p+j1 (zO s) kind k 64):=zfE HSS.out;obtain⟨H0,hH0⟩:∃H0,Q6 m kind k p=H0:=⟨_,rfl⟩;rw[hH0]at hb0 HSU⊢;clear hH0;go_upto_region 5 with fail;obtain⟨W1,hW1⟩:∃W1,wr.alloc (.cells #[.bool x.live,x.ar.x,x.t0.x,x.t1.x,x.t2.x,x.t3.x,x.t4.x,x.t5.x,x.t6.x,x.t7.x] 65)=W1:=⟨_,rfl⟩;have G1:=gT hW1 GW
  have S1:=xA hW1
  rw[hW1];clear hW1 d0 d1 d2 d3 d4 d5 d6 d7 d8 d9;have s2:=S1.c 2 rfl;have s3:=S1.c 3 rfl;have s4:=S1.c 4 rfl;have s5:=S1.c 5 rfl;have s6:=S1.c 6 rfl;have s7:=S1.c 7 rfl;have s8:=S1.c 8 rfl;have s9:=S1.c 9 rfl;go_wp2_with fail;refine(HFL W1 G1).mono ?_;clear s2 s3 s4 s5 s6 s7 s8 s9;rintro e W2 ⟨rfl,g2⟩;have G2:=dD (G1.trans g2);clear g2;go_wp2
  go_loopg [7,22] 64 (fun gg s7 s22 wr=>∃n:Nat,n<=64/\64 - n<=gg/\s22=I6 n/\s7=I6 ((H0+j1 (zO s) kind k n:Nat):Int)/\Hid (zc w wr))
  case atStart=>exact⟨0,nZ _,by omega,rfl,rfl,G2⟩
  obtain⟨n,hn,hg2,rfl,rfl,GW2⟩:=hrel
  by_cases hlt2:n<64
  ·have hltz2:(n:Int)<64:=by omega
   obtain⟨e,HE⟩:∃e,Hid (zO s n=e):=⟨_,rfl⟩;have HZF:Hid ((QT s.tb)[n]? =some e):=dD<|by rw[HF64.out n hlt2,HE.out]
   have hcl:=ziF (zO s) kind k n;have HCS:Hid (j1 (zO s) kind k (n+1)=j1 (zO s) kind k n+(isE e kind k).toNat):=dD<|by rw[<-HE.out];rfl
   obtain⟨c0,hc0⟩:∃c0,j1 (zO s) kind k n=c0:=⟨_,rfl⟩;rw[hc0]at hcl HCS⊢;clear hc0
   go_upto_region 8 with(refine zao rfl (.tmp 21) (.tmp 22) rfl (QT s.tb) rfl n rfl hlt2 HZF.out ?_)
   obtain⟨W3,hW3⟩:∃W3,wr.alloc (.cells #[I6 e.kind,I6 e.n,.bool e.wr] 67)=W3:=⟨_,rfl⟩;have G3:=gT hW3 GW2
   have E3:=xA hW3
   rw[hW3];clear hW3;have e0:=E3.c 0 rfl;have e1:=E3.c 1 rfl
   by_cases h1:e.kind=kind
   ·have h1e:(e.kind == kind)=true:=by simp[h1]
    by_cases h2:e.n=k
    ·have h2e:(e.n == k)=true:=by simp[h2]
     have HV:Hid (j1 (zO s) kind k (n+1)=c0+1):=dD<|by rw[HCS.out];simp[isE,h1,h2]
     clear h1 h2;go_wp2
     go_roundg (64 -(n+1))
     case measure=>omega
     exact⟨n+1,by omega,by omega,by go_num,by rw[HV.out];go_num,G3⟩
    have h2e:(e.n == k)=false:=by simp[h2]
    have HV:Hid (j1 (zO s) kind k (n+1)=c0):=dD<|by rw[HCS.out];simp[isE,h2]
    clear h1 h2;go_wp2
    go_roundg (64 -(n+1))
    case measure=>omega
    exact⟨n+1,by omega,by omega,by go_num,by rw[HV.out];go_num,G3⟩
   have h1e:(e.kind == kind)=false:=by simp[h1]
   have HV:Hid (j1 (zO s) kind k (n+1)=c0):=dD<|by rw[HCS.out];simp[isE,h1]
   clear h1;go_wp2
   go_roundg (64 -(n+1))
   case measure=>omega
   exact⟨n+1,by omega,by omega,by go_num,by rw[HV.out];go_num,G3⟩
  have hltz2:¬(n:Int)<64:=by omega
  obtain rfl:n=64:=by omega
  go_wp2
  go_roundg (spn -(p+1))
  case measure=>omega
  exact⟨p+1,by omega,by omega,by go_num,by rw[HSU.out];go_num,GW2⟩
 have hltz:¬(p:Int)< (spn:Int):=by omega
 obtain rfl:p=spn:=by omega
 have HF:Hid (Q6 m kind k p=Zo m kind k):=dD<|by rw[<-HN.out];exact zcR
 rw[HF.out];go_wp2;go_ret;exact⟨rfl,GW⟩
def zlp (mi it sh ew xw big:Bool):Bool:=(!mi && !it) || (sh && !it) || (ew && !xw) || (ew && it && !sh) || (ew && mi && big)
theorem zli {x:On} {e:En} {q:Fr} (h1:x.is=true) (h2:¬e.kind=2) (h3:¬(m.fs.length:Int)<=e.n) (hq:qe m e.n=q):Q7 m x e=if zlp (q.f == -1) (decide (0<=x.file) &&(q.f == x.file) &&(q.x == x.page)) x.sh e.wr x.wr (decide (1<q.r))=true then 7 else 0:=by
 have key:zlp (q.f == -1) (decide (0<=x.file) &&(q.f == x.file) &&(q.x == x.page)) x.sh e.wr x.wr (decide (1<q.r))=true↔((¬q.f=-1/\¬(0<=x.file/\q.f=x.file/\q.x=x.page))\/(x.sh=true/\¬(0<=x.file/\q.f=x.file/\q.x=x.page))\/(e.wr=true/\x.wr=false)\/(e.wr=true/\(0<=x.file/\q.f=x.file/\q.x=x.page)/\x.sh=false)\/(e.wr=true/\q.f=-1/\1<q.r)):=by
  have hit:(decide (0<=x.file) &&(q.f == x.file) &&(q.x == x.page))=true↔(0<=x.file/\q.f=x.file/\q.x=x.page):=by simp[and_assoc]
  have hmi:(q.f == -1)=true↔q.f=-1:=by simp
  generalize hb:decide (1<q.r)=bg
  have hbg:bg=true↔1<q.r:=by rw[<-hb];simp
  rw[<-hit,<-hmi,<-hbg];clear hit hmi hbg hb
  generalize(decide (0<=x.file) &&(q.f == x.file) &&(q.x == x.page))=it
  generalize(q.f == -1)=mi
  generalize x.sh=sh
  generalize e.wr=ew
  generalize x.wr=xw
  cases mi <;> cases it <;> cases sh <;> cases ew <;> cases xw <;> cases bg <;> decide
 unfold Q7;rw[if_neg (by rw[h1];decide),if_neg h2,if_neg h3,hq]
 by_cases hb:zlp (q.f == -1) (decide (0<=x.file) &&(q.f == x.file) &&(q.x == x.page)) x.sh e.wr x.wr (decide (1<q.r))=true
 ·rw[if_pos hb,if_pos (key.1 hb)]
 rw[if_neg hb,if_neg (fun h=>hb (key.2 h))]
theorem zd8 (V:MaV) (m:Ma) (x:On) (e:En) (w:World) (hm:zH w V m) (h0:0<=e.n):
  Calls prog 43 #[.agg (mL V m).toArray,.agg #[.bool x.is,.bool x.rd,.bool x.wr,.bool x.sh,I6 x.file,I6 x.page],.agg #[I6 e.kind,I6 e.n,.bool e.wr]] w fun r w'=>r= .returned (I6 (Q7 m x e))/\zc w w':=by
 obtain⟨n1,n2,-⟩:=hm.ns;have HFR:Hid (Zu w V.f.a m.fs):=hm.frs;obtain⟨⟨fa,fn,fc⟩,⟨sa,sn,sc⟩,vsb,vsq,vdb,vdq,vfl,vca,vsp⟩:=V;dsimp only[mL]at n1 n2 HFR⊢;obtain rfl:fn=m.fs.length:=n1;obtain rfl:sn=m.sl.length:=n2;obtain⟨NF,HNF⟩:∃NF,Hid (m.fs.length=NF):=⟨_,rfl⟩;obtain⟨NS,HNS⟩:∃NS,Hid (m.sl.length=NS):=⟨_,rfl⟩;rw[HNF.out,HNS.out];clear hm;obtain⟨ANS,HANS⟩:∃ANS,Hid (Q7 m x e=ANS):=⟨_,rfl⟩;rw[HANS.out];obtain⟨W0,hW0⟩:∃W0,((w.alloc (.cells #[.slice fa NF fc,I6 m.hand,.slice sa NS sc,vsb.x,vsq.x,vdb.x,vdq.x,vfl.x,I6 m.cnt,vca.x,vsp.x] 40)).alloc (.cells #[.bool x.is,.bool x.rd,.bool x.wr,.bool x.sh,I6 x.file,I6 x.page] 96)).alloc (.cells #[I6 e.kind,I6 e.n,.bool e.wr] 67)=W0:=⟨_,rfl⟩;have G0:Hid (zc w W0):=show zc _ _ by rw[<-hW0];exact((za _ _).trans (za _ _)).trans (za _ _)
 have X0:Hid (Box W0 w.heap.size [.slice fa NF fc,I6 m.hand,.slice sa NS sc,vsb.x,vsq.x,vdb.x,vdq.x,vfl.x,I6 m.cnt,vca.x,vsp.x]):=dD<|by rw[<-hW0];exact((Box.top _ _ _ rfl).alloc _).alloc _
 have Y0:Hid (Box W0 (w.heap.size+1) [.bool x.is,.bool x.rd,.bool x.wr,.bool x.sh,I6 x.file,I6 x.page]):=dD<|by rw[<-hW0];exact(Box.top _ _ _ (by simp)).alloc _
 have Z0:Hid (Box W0 (w.heap.size+2) [I6 e.kind,I6 e.n,.bool e.wr]):=dD<|by rw[<-hW0];exact Box.top _ _ _ (by simp)
 have HW0:Hid (_=W0):=hW0;clear hW0
 go_enter func43,ntmps43
 go_upto_region 1 with fail;rw[HW0.out];have x0:=X0.c 0 rfl;have x2:=X0.c 2 rfl;have y0:=Y0.c 0 rfl;have y1:=Y0.c 1 rfl;have y2:=Y0.c 2 rfl;have y3:=Y0.c 3 rfl;have y4:=Y0.c 4 rfl;have y5:=Y0.c 5 rfl;obtain⟨z0,z1,z2⟩:=Z0.c3
 cases his:x.is with
 | false=>
  have HF:Hid (ANS=5):=dD<|by rw[<-HANS.out];unfold Q7;rw[if_pos his]
  rw[his]at y0;go_wp2;go_ret;exact⟨by rw[HF.out];rfl,G0⟩
 | true=>
  rw[his]at y0
  by_cases h2:e.kind=2
  ·have h2e:(e.kind == 2)=true:=by simp[h2]
   by_cases h3:(NS:Int)<=e.n
   ·have h3d:decide ((NS:Int)<=e.n)=true:=by simpa using h3
    have HF:Hid (ANS=7):=dD<|by rw[<-HANS.out];unfold Q7;rw[if_neg (by rw[his];decide),if_pos h2,if_pos (.inl (by rw[HNS.out];exact h3))]
    go_wp2;go_ret;exact⟨by rw[HF.out];rfl,G0⟩
   have h3d:decide ((NS:Int)<=e.n)=false:=by simpa using h3
   have HF:Hid (ANS=if x.sh=true then 7 else 0):=dD<|by
    rw[<-HANS.out];unfold Q7;rw[if_neg (by rw[his];decide),if_pos h2]
    by_cases hs:x.sh=true
    ·rw[if_pos hs,if_pos (.inr hs)]
    rw[if_neg hs,if_neg (by rintro(h | h) <;> first | exact h3 (by rw[<-HNS.out];exact h) | exact hs h)]
   cases hsh:x.sh with
   | true=>
    rw[hsh]at y3 HF;go_wp2;go_ret;exact⟨by rw[HF.out];rfl,G0⟩
   | false=>
    rw[hsh]at y3 HF;go_wp2;go_ret;exact⟨by rw[HF.out];rfl,G0⟩
  have h2e:(e.kind == 2)=false:=by simp[h2]
  by_cases h3:(NF:Int)<=e.n
  ·have h3d:decide ((NF:Int)<=e.n)=true:=by simpa using h3
   have HF:Hid (ANS=3):=dD<|by rw[<-HANS.out];unfold Q7;rw[if_neg (by rw[his];decide),if_neg h2,if_pos (by rw[HNF.out];exact h3)]
   go_wp2;go_ret;exact⟨by rw[HF.out];rfl,G0⟩
  have h3d:decide ((NF:Int)<=e.n)=false:=by simpa using h3
  have hnz:e.n< (NF:Int):=by omega
  obtain⟨j,hj⟩:∃j:Nat,e.n=(j:Int):=⟨e.n.toNat,by omega⟩
  obtain⟨q,hq⟩:∃q,m.fs[j]? =some q:=⟨_,gE (by rw[HNF.out];omega)⟩
  obtain⟨ad,rfl,hl⟩:=HFR.out j q hq;have hcl:=hl W0 G0.out;have HF:Hid (ANS=if zlp (q.f == -1) (decide (0<=x.file) &&(q.f == x.file) &&(q.x == x.page)) x.sh e.wr x.wr (decide (1<q.r))=true then 7 else 0):=dD<|by rw[<-HANS.out];exact zli his h2 (by rw[HNF.out];exact h3) (by rw[hj];exact Zb hq)
  obtain⟨d0,d1,d2,d3,d4,d5,d6,d7,d8,d9,d10,d11,d12⟩:=hcl;rw[hj]at z1 hnz h3d h3;have HJ:Hid (e.n=(j:Int)):=hj;clear hl hq h2 his hj;go_upto_region 10 with fail;obtain⟨W1,hW1⟩:∃W1,W0.alloc (.cells #[U8 q.p.b0,U8 q.p.b1,U8 q.p.b2,U8 q.p.b3,U8 q.p.b4,U8 q.p.b5,U8 q.p.b6,U8 q.p.b7,I6 q.r,.bool q.u,.bool q.d,I6 q.f,I6 q.x] 59)=W1:=⟨_,rfl⟩;obtain⟨pq,HPQ⟩:∃pq,Hid (W0.heap.size=pq):=⟨_,rfl⟩;have G1:=gT hW1 G0
  have Q1:=xP hW1 HPQ
  have Y1:=yA hW1 Y0
  have Z1:=yA hW1 Z0
  rw[hW1,HPQ.out];clear hW1 d0 d1 d2 d3 d4 d5 d6 d7 d8 d9 d10 d11 d12 x0 x2 y0 y1 y2 y3 y4 y5 z0 z1 z2;have q8:=Q1.c 8 rfl;have q11:=Q1.c 11 rfl;have q12:=Q1.c 12 rfl;have y2:=Y1.c 2 rfl;have y3:=Y1.c 3 rfl;have y4:=Y1.c 4 rfl;have y5:=Y1.c 5 rfl;have z2:=Z1.c 2 rfl;go_upto_region 11 with fail;obtain⟨it,HIT⟩:∃it,Hid ((decide (0<=x.file) &&(q.f == x.file) &&(q.x == x.page))=it):=⟨_,rfl⟩;rw[HIT.out]at HF
  go_cut [9] (fun s9 wx=>s9= .bool it/\wx=W1)
  case first=>
   by_cases k1:0<=x.file
   ·have k1d:decide ((0:Int)<=x.file)=true:=by simpa using k1
    by_cases k2:q.f=x.file
    ·have k2e:(q.f == x.file)=true:=by simp[k2]
     have HV:Hid ((q.x == x.page)=it):=dD<|by rw[<-HIT.out,k1d,k2e];rfl
     clear k1 k2;go_wp2
     go_meet
     exact⟨by rw[HV.out],rfl⟩
    have k2e:(q.f == x.file)=false:=by simp[k2]
    have HV:Hid (false=it):=dD<|by rw[<-HIT.out,k2e];simp
    clear k1 k2;go_wp2
    go_meet
    exact⟨by rw[<-HV.out],rfl⟩
   have k1d:decide ((0:Int)<=x.file)=false:=by simpa using k1
   have HV:Hid (false=it):=dD<|by rw[<-HIT.out,k1d];rfl
   clear k1;go_wp2
   go_meet
   exact⟨by rw[<-HV.out],rfl⟩
  obtain⟨rfl,rfl⟩:=hcut;obtain⟨mi,hmi⟩:∃mi,(q.f == -1)=mi:=⟨_,rfl⟩;obtain⟨bg,hbg⟩:∃bg,decide (1<q.r)=bg:=⟨_,rfl⟩;rw[hmi,hbg]at HF;try rw[hmi]
  obtain⟨sh,hsh⟩:∃sh,x.sh=sh:=⟨_,rfl⟩;obtain⟨ew,hew⟩:∃ew,e.wr=ew:=⟨_,rfl⟩;obtain⟨xw,hxw⟩:∃xw,x.wr=xw:=⟨_,rfl⟩;rw[hsh,hew,hxw]at HF;rw[hsh]at y3;rw[hew]at z2;rw[hxw]at y2;clear hsh hew hxw hmi y4 y5 q11 q12
  cases mi with
  | false=>
   cases it with
   | false=>
    (go_wp2;go_ret;exact⟨by rw[HF.out];first | rfl | (cases bg <;> rfl),G1⟩)
   | true=>
    cases sh with
    | false=>
     cases ew with
     | false=>
      (go_wp2;go_ret;exact⟨by rw[HF.out];first | rfl | (cases bg <;> rfl),G1⟩)
     | true=>
      cases xw with
      | false=>
       (go_wp2;go_ret;exact⟨by rw[HF.out];first | rfl | (cases bg <;> rfl),G1⟩)
      | true=>
       (go_wp2;go_ret;exact⟨by rw[HF.out];first | rfl | (cases bg <;> rfl),G1⟩)
    | true=>
     cases ew with
     | false=>
      (go_wp2;go_ret;exact⟨by rw[HF.out];first | rfl | (cases bg <;> rfl),G1⟩)
     | true=>
      cases xw with
      | false=>
       (go_wp2;go_ret;exact⟨by rw[HF.out];first | rfl | (cases bg <;> rfl),G1⟩)
      | true=>
       (go_wp2;go_ret;exact⟨by rw[HF.out];first | rfl | (cases bg <;> rfl),G1⟩)
  | true=>
   cases sh with
   | false=>
    cases ew with
    | false=>
     (go_wp2;go_ret;exact⟨by rw[HF.out];first | rfl | (cases bg <;> rfl),G1⟩)
    | true=>
     cases xw with
     | false=>
      (go_wp2;go_ret;exact⟨by rw[HF.out];first | rfl | (cases bg <;> rfl),G1⟩)
     | true=>
      cases it with
      | false=>
       cases bg with
       | false=>
        (go_wp2;go_ret;exact⟨by rw[HF.out];first | rfl | (cases bg <;> rfl),G1⟩)
       | true=>
        (go_wp2;go_ret;exact⟨by rw[HF.out];first | rfl | (cases bg <;> rfl),G1⟩)
      | true=>
       (go_wp2;go_ret;exact⟨by rw[HF.out];first | rfl | (cases bg <;> rfl),G1⟩)
   | true=>
    cases it with
    | false=>
     (go_wp2;go_ret;exact⟨by rw[HF.out];first | rfl | (cases bg <;> rfl),G1⟩)
    | true=>
     cases ew with
     | false=>
      (go_wp2;go_ret;exact⟨by rw[HF.out];first | rfl | (cases bg <;> rfl),G1⟩)
     | true=>
      cases xw with
      | false=>
       (go_wp2;go_ret;exact⟨by rw[HF.out];first | rfl | (cases bg <;> rfl),G1⟩)
      | true=>
       cases bg with
       | false=>
        (go_wp2;go_ret;exact⟨by rw[HF.out];first | rfl | (cases bg <;> rfl),G1⟩)
       | true=>
        (go_wp2;go_ret;exact⟨by rw[HF.out];first | rfl | (cases bg <;> rfl),G1⟩)
def goL (f:Nat->Int) (n k:Nat):Int:=zg ((List.range' k (n - k)).map f)
def thr (a b:Int):Int:=if a=0 then b else a
theorem zdD (f:Nat->Int) (n:Nat):goL f n 0=zg ((List.range n).map f):=by unfold goL;rw[List.range_eq_range'];simp
theorem zdC (f:Nat->Int) (n:Nat):goL f n n=0:=by unfold goL;simp[zg]
theorem zdB (f:Nat->Int) {n k:Nat} (h:k<n):goL f n k=thr (f k) (goL f n (k+1)):=by
 unfold goL thr;obtain⟨j,hj⟩:∃j,n - k=j+1:=⟨n - k - 1,by omega⟩
 rw[hj,show n -(k+1)=j by omega,List.range'_succ,mP,zJ]
theorem zfG {f:Nat->Int} {n k:Nat} (h:k<n) (hz:zg (goL f n k :: R)=Z) (hf:f k≠0):Z=f k:=by
 rw[zdB f h]at hz;unfold thr at hz;rw[if_neg hf]at hz;exact qi hz hf
theorem zgp {f:Nat->Int} {n k:Nat} (h:k<n) (hz:zg (goL f n k :: R)=Z) (hf:f k=0):zg (goL f n (k+1) :: R)=Z:=by
 rw[zdB f h]at hz;unfold thr at hz;rw[if_pos hf]at hz;exact hz
theorem zfa {a b:Int} (hz:zg (thr a b :: R)=Z) (ha:a≠0):Z=a:=by
 unfold thr at hz;rw[if_neg ha]at hz;exact qi hz ha
theorem zj3 {a b:Int} (hz:zg (thr a b :: R)=Z) (ha:a=0):zg (b :: R)=Z:=by
 unfold thr at hz;rw[if_pos ha]at hz;exact hz
def spF (m:Ma) (i:Nat):Int:=match m.sp[i]? with | some s=>j6 m s | none=>0
theorem zkq (m:Ma):zg (m.sp.map (j6 m))=goL (spF m) m.sp.length 0:=by
 rw[zdD]
 congr 1
 apply List.ext_getElem?
 intro i;rw[List.getElem?_map,List.getElem?_map]
 rcases Nat.lt_or_ge i m.sp.length with h|h
 ·rw[gE h,List.getElem?_range h];simp only[Option.map_some,spF,gE h]
 rw[gN h,gN (by simpa using h)]
 rfl
theorem zk8 {s:Sp} (h:m.sp[i]? =some s):spF m i=j6 m s:=by unfold spF;rw[h]
theorem zkl (a b:Int) (R:List Int):zg (thr a b :: R)=zg (a :: b :: R):=by
 unfold thr
 by_cases h:a=0
 ·rw[if_pos h,zJ a,if_pos h]
 rw[if_neg h,zJ,if_neg h,zJ,if_neg h]
theorem zeB {s:Sp} (h:tbW s.tb=0) (n:Nat):enW (zO s n)=0:=by
 unfold zO zcn;have hall:=JH.1 h;have:zj2 (s.tb[n / 8]?.getD []):=by
  cases e:s.tb[n / 8]? with
  | none=>exact .inl rfl
  | some x=>exact hall x (mG e)
 exact this.get (n % 8)
theorem zj9 {e:En} (h:enW e=0):0<=e.n:=by
 unfold enW at h
 split at h
 ·split at h
  ·omega
  cases h
 cases h
def pgF (m:Ma) (s:Sp) (n:Nat):Int:=if(zO s n).kind=0 then 0 else Q7 m (zN s.ars n) (zO s n)
theorem zku (m:Ma) (s:Sp):j6 m s=goL (pgF m s) 64 0:=by rw[zdD];rfl
def pvC (m:Ma) (i:Nat):Option Ca:=if i=0 then none else m.ca[i - 1]?
theorem zjb (m:Ma):pvC m 0=none:=rfl
theorem zkU {c:Ca} (h:m.ca[i]? =some c):Jf m (pvC m i) (m.ca.drop i)=thr (caE m (pvC m i) c) (Jf m (pvC m (i+1)) (m.ca.drop (i+1))):=by
 have hl:=(gS.1 h).1;have hc:m.ca[i]=c:=by rw[gE hl]at h;cases h;rfl
 have hp:pvC m (i+1)=some c:=by unfold pvC;rw[if_neg (by omega)];exact h
 rw[List.drop_eq_getElem_cons hl,hc,hp];rfl
structure Pts (m:Ma):Prop where
 s4:m.sp.length<=4
 f40:m.fs.length<=40
 fr:∀(k:Nat) f,m.fs[k]? =some f->0<=f.r/\f.r<=1000
 fl:m.fl.length<=5/\∀f∈m.fl,f.bl.length<=12
 ar:∀s∈m.sp,(wrL s.ars).1=0/\tbW s.tb=0
theorem zgd (h:Jm m=0):Pts m:=by
 unfold Jm at h;rw[zE]at h;have p1:Jo m.fs m.hand=0:=h _ (by simp)
 have p5:stW m.fl m.cnt=0:=h _ (by simp)
 have p9:(if 4<m.sp.length then(4:Int)else 0)=0:=h _ (by simp)
 have p10:=zE.1 (h (zg (m.sp.map spE)) (by simp))
 obtain⟨⟨a1,a2,a3⟩,a4,a5⟩:=(jx _ _).1 p5;unfold Jo at p1
 split at p1
 ·cases p1
 rename_i b1
 split at p1
 ·rename_i b2
  refine⟨?_,by omega,fun k f hf=>?_,⟨a1,fun f hf=>?_⟩,fun s hs=>?_⟩
  ·split at p9
   ·cases p9
   omega
  ·have hw:=Ju.1 b2 f (mG hf);unfold frW at hw
   split at hw
   ·cases hw
   rename_i c1
   simp[inB]at c1
   omega
  ·obtain⟨k1,k2,k3⟩:=a4 f hf;have:=zgv k1.1 k1.2;omega
  have h3:=p10 (spE s) (List.mem_map.2 ⟨s,hs,rfl⟩);unfold spE at h3
  split at h3
  ·rename_i c
   exact absurd h3 c
  rename_i c
  split at h3
  ·rename_i d
   exact absurd h3 d
  rename_i d
  exact⟨Classical.byContradiction c,Classical.byContradiction d⟩
 rename_i b2
 exact absurd p1 b2
theorem tb8 {t:List (List En)} (h:tbW t=0):∀x∈t,x.length<=8:=fun x hx=>by
 rcases JH.1 h x hx with e|e
 ·rw[e];simp
 rw[e.1];omega
theorem zfT {l:List Ca} {c:Ca} {k:Int} (h:l[j]? =some c):zS (l.take (j+1)) k=zS (l.take j) k+(decide (c.fr=k)).toNat:=by
 unfold zS;rw[List.take_add_one,h]
 simp[List.countP_append,List.countP_cons,Bool.toNat]
theorem ziH {l:List Ca} (j:Nat) {k:Int}:zS (l.take j) k<=j:=nT List.countP_le_length (by simp;omega)
theorem QH (V:MaV) (m:Ma) (w:World) (hm:zH w V m):
  Calls prog 10 #[.agg (mL V m).toArray] w fun e w'=>e= .returned (I6 (maW m))/\zc w w':=by
 have HM:Hid (zH w V m):=hm;obtain⟨n1,n2,-,-,-,-,n7,n8,n9⟩:=hm.ns;obtain⟨xs,hxl,hrow,hsp⟩:=hm.spaces;have HFR:Hid (Zu w V.f.a m.fs):=hm.frs;have HCA:Hid (J1 w V.ca.a m.ca):=hm.cas;have HSL:Hid (JY w V.s.a m.sl):=hm.sls;have hcab:=hm.ca.2;have hslb:=hm.sl.2;obtain⟨_,_,hfe,_,hfr⟩:=qL.rows hm.fl;have HFL:Hid (jZ w V.fl.a m.fl):=show jZ _ _ _ by
  simp only[vJ]at hfe;rw[hfe.1];exact hfr
 have HPT:Hid (∀W,zc w W->Calls prog 40 #[.agg (mL V m).toArray] W fun e w'=>e= .returned (I6 (Jm m))/\zc W w'):=dD<|fun W hW=>zd7 V m W (HM.grew hW)
 have HEN:Hid (∀W x e,zc w W->0<=e.n->Calls prog 43 #[.agg (mL V m).toArray,.agg (onv x).toArray,.agg #[I6 e.kind,I6 e.n,.bool e.wr]] W fun r w'=>r= .returned (I6 (Q7 m x e))/\zc W w'):=dD<|fun W x e hW h0=>zd8 V m x e W (HM.grew hW) h0
 have HHO:Hid (∀W kind k,zc w W->Pts m->Calls prog 44 #[.agg (mL V m).toArray,I6 kind,I6 k] W fun e w'=>e= .returned (I6 (Zo m kind k:Int))/\zc W w'):=dD<|fun W kind k hW hp=>zcz V m kind k W (HM.grew hW) hp.s4 (fun s hs=>tb8 (hp.ar s hs).2)
 obtain⟨Z,HZ⟩:∃Z,Hid (maW m=Z):=⟨_,rfl⟩;rw[HZ.out];have Z1:Hid (zg [Jm m,Jf m none m.ca,zg (m.sp.map (j6 m)),zg ((List.range m.fs.length).map (frE m)),zg ((List.range m.sl.length).map (Qo m))]=Z):=HZ.out;obtain⟨⟨fa,fn,fc⟩,⟨sa,sn,sc⟩,vsb,vsq,vdb,vdq,⟨fla,fln,flc⟩,⟨caa,can,cac⟩,⟨spa,spn,spc⟩⟩:=V;dsimp only[mL]at n1 n2 n7 n8 n9 hrow HFR HCA HSL HFL HPT HEN HHO⊢;have HN1:Hid (m.fs.length=fn):=n1.symm;have HN2:Hid (m.sl.length=sn):=n2.symm;have HN7:Hid (m.fl.length=fln):=n7.symm;have HN8:Hid (m.ca.length=can):=n8.symm;have HN9:Hid (m.sp.length=spn):=n9.symm;have hb8:can<=5864062014805:=by rw[n8];have h:m.ca.length*24<=140737488355328:=hcab;omega
 have hb2:sn<=9223372036854775807:=by rw[n2];have h:m.sl.length*8<=140737488355328:=hslb;omega
 have HXL:Hid (xs.length=spn):=dD<|by rw[hxl];exact HN9.out
 have HRW:Hid (∀(j:Nat) x,xs[j]? =some x->∃ad,spa=some ad/\∀W,zc w W->zc1 W (ad.add (j*10)) x):=dD<|hrow
 have HSP:Hid (∀(i:Nat) x s,xs[i]? =some x->m.sp[i]? =some s->qr w x s):=dD<|hsp
 clear hm n1 n2 n7 n8 n9 hxl hrow hsp hfe hfr hcab hslb;obtain⟨W0,hW0⟩:∃W0,w.alloc (.cells #[.slice fa fn fc,I6 m.hand,.slice sa sn sc,vsb.x,vsq.x,vdb.x,vdq.x,.slice fla fln flc,I6 m.cnt,.slice caa can cac,.slice spa spn spc] 40)=W0:=⟨_,rfl⟩;have G0:=gA hW0
 have X0:=xA hW0
 have HW0:Hid (_=W0):=hW0;clear hW0
 go_enter func10,ntmps10
 go_upto_region 1 with fail;rw[HW0.out];obtain⟨x0,x1,x2,x3,x4,x5,x6,x7,x8,x9,x10⟩:=X0.c11;have hc:=HPT.out W0 G0.out;obtain⟨E1,HE1⟩:∃E1,Hid (Jm m=E1):=⟨_,rfl⟩;rw[HE1.out]at hc Z1;go_wp2_with fail;refine hc.mono ?_;clear hc;clear x0 x1 x2 x3 x4 x5 x6 x7 x8 x9 x10;rintro e W1 ⟨rfl,g⟩;have G1:=dD (G0.trans g);have X1:=dD (X0.grew g);clear g
 by_cases hz:E1=0
 rotate_left
 ·have hze:(E1 != 0)=true:=by simp[hz]
  have HF:Hid (Z=E1):=qi Z1 hz;clear hz;go_wp2;go_ret;exact⟨by rw[HF.out];first | rfl | skip,G1⟩
 have hze:(E1 != 0)=false:=by simp[hz]
 have Z2:Hid (zg [Jf m none m.ca,zg (m.sp.map (j6 m)),zg ((List.range m.fs.length).map (frE m)),zg ((List.range m.sl.length).map (Qo m))]=Z):=qj Z1 hz;have HP:Hid (Pts m):=zgd (by rw[HE1.out];exact hz)
 have hsp4:spn<=4:=by rw[<-HN9.out];exact HP.s4
 have hfn40:fn<=40:=by rw[<-HN1.out];exact HP.f40
 clear hz;have x9:=X1.c 9 rfl;go_wp2;clear x9 hze
 go_loopg [29] can (fun gg s29 wr=>∃i:Nat,i<=can/\can - i<=gg/\s29=I6 i/\Hid (zc w wr)/\Hid (Box wr w.heap.size [.slice fa fn fc,I6 m.hand,.slice sa sn sc,vsb.x,vsq.x,vdb.x,vdq.x,.slice fla fln flc,I6 m.cnt,.slice caa can cac,.slice spa spn spc])/\Hid (zg [Jf m (pvC m i) (m.ca.drop i),zg (m.sp.map (j6 m)),zg ((List.range m.fs.length).map (frE m)),zg ((List.range m.sl.length).map (Qo m))]=Z)/\Hid (∀(j:Nat) c,j<i->m.ca[j]? =some c->0<=c.file/\c.file<5/\0<=c.idx/\c.idx<12))
 case atStart=>exact⟨0,nZ _,by omega,rfl,G1,X1,Z2,fun j c hj=>absurd hj (nL _)⟩
 obtain⟨i,hi,hgg,rfl,GW,XW,ZW,OW⟩:=hrel
 by_cases hlt:i<can
 ·have hltz:(i:Int)< (can:Int):=by omega
  obtain⟨c,HC⟩:∃c,Hid (m.ca[i]? =some c):=⟨_,gE (by rw[HN8.out];exact hlt)⟩
  obtain⟨adc,hca,hl⟩:=HCA.out i c HC.out;have HL:Hid (∀W,zc w W->ziQ W (adc.add (i*3)) c):=dD<|hl
  subst hca;obtain⟨d0,d1,d2⟩:=hl wr GW.out;have ZI:Hid (zg (thr (caE m (pvC m i) c) (Jf m (pvC m (i+1)) (m.ca.drop (i+1))) :: [zg (m.sp.map (j6 m)),zg ((List.range m.fs.length).map (frE m)),zg ((List.range m.sl.length).map (Qo m))])=Z):=dD<|by have:=ZW.out;rw[zkU HC.out]at this;exact this
  clear hl;go_upto_region 7 with fail;obtain⟨pc,HPC⟩:∃pc,Hid (wr.heap.size=pc):=⟨_,rfl⟩;obtain⟨W2,hW2⟩:∃W2,wr.alloc (.cells #[I6 c.file,I6 c.idx,I6 c.fr] 83)=W2:=⟨_,rfl⟩;have g2:=gP hW2
  have C2:=xP hW2 HPC
  have G2:=dD (GW.trans g2);have X2:=dD (XW.grew g2);rw[hW2,HPC.out];clear hW2 g2 d0 d1 d2;obtain⟨B1,HB1⟩:∃B1:Bool,Hid (B1=true↔(c.file<0\/(m.fl.length:Int)<=c.file\/c.idx<0\/bkN m c.file<=c.idx\/c.fr<0\/(m.fs.length:Int)<=c.fr)):=⟨decide (c.file<0\/(m.fl.length:Int)<=c.file\/c.idx<0\/bkN m c.file<=c.idx\/c.fr<0\/(m.fs.length:Int)<=c.fr),show _↔_ from decide_eq_true_iff⟩
  go_cut [29,78]from 29 to 130 (fun s29 s78 wx=>s29=I6 i/\s78= .bool B1/\Hid (zc w wx)/\Hid (Box wx w.heap.size [.slice fa fn fc,I6 m.hand,.slice sa sn sc,vsb.x,vsq.x,vdb.x,vdq.x,.slice fla fln flc,I6 m.cnt,.slice (some adc) can cac,.slice spa spn spc])/\Hid (Box wx pc [I6 c.file,I6 c.idx,I6 c.fr]))
  case first=>
   have x0:=X2.c 0 rfl;have x7:=X2.c 7 rfl;obtain⟨c0,c1,c2⟩:=C2.c3
   by_cases a1:c.file<0
   ·have a1d:decide (c.file<0)=true:=by simpa using a1
    have HV:Hid (B1=true):=HB1.2 (.inl a1);go_quiet (fail);go_wp2
    go_meet
    exact⟨rfl,by rw[HV.out],G2.trans (show Below _ _ _ from bD (bR _ _) _),X2.grew (show Below _ _ _ from bD (bR _ _) _),C2.grew (show Below _ _ _ from bD (bR _ _) _)⟩
   have a1d:decide (c.file<0)=false:=by simpa using a1
   by_cases a2:(fln:Int)<=c.file
   ·have a2d:decide ((fln:Int)<=c.file)=true:=by simpa using a2
    have HV:Hid (B1=true):=HB1.2 (.inr (.inl (by rw[HN7.out];exact a2)))
    go_quiet (fail);go_wp2
    go_meet
    exact⟨rfl,by rw[HV.out],G2.trans (show Below _ _ _ from bD (bR _ _) _),X2.grew (show Below _ _ _ from bD (bR _ _) _),C2.grew (show Below _ _ _ from bD (bR _ _) _)⟩
   have a2d:decide ((fln:Int)<=c.file)=false:=by simpa using a2
   obtain⟨jf,hjf⟩:∃jf:Nat,c.file=(jf:Int):=⟨c.file.toNat,by omega⟩
   obtain⟨ff,hff⟩:∃ff,m.fl[jf]? =some ff:=⟨_,gE (by rw[HN7.out];omega)⟩
   obtain⟨adl,hfl,ba,bc,_,hlf⟩:=HFL.out jf ff hff;obtain⟨-,e1⟩:=hlf W2 G2.out;obtain⟨bn,HBN⟩:∃bn,Hid (ff.bl.length=bn):=⟨_,rfl⟩;rw[HBN.out]at e1;have HBK:Hid (bkN m c.file=(bn:Int)):=dD<|by unfold bkN;rw[hjf,tN,gD,hff];simp only[Option.getD_some];rw[HBN.out]
   have hjz:(jf:Int)< (fln:Int):=by omega
   rw[hfl]at x7;rw[hjf]at c0;have a2n:decide (fln<=jf)=false:=decide_eq_false (by omega)
   have a1n:decide ((jf:Int)<0)=false:=decide_eq_false (by omega)
   have HJF:Hid (c.file=(jf:Int)):=hjf;have HA12:Hid (¬c.file<0/\¬(fln:Int)<=c.file):=show _/\_ from⟨a1,a2⟩
   clear hjf hff hlf hfl a1 a2
   by_cases a3:c.idx<0
   ·have a3d:decide (c.idx<0)=true:=by simpa using a3
    have HV:Hid (B1=true):=HB1.2 (.inr (.inr (.inl a3)));go_quiet (fail);go_wp2
    go_meet
    exact⟨rfl,by rw[HV.out],G2.trans (show Below _ _ _ from bD (bR _ _) _),X2.grew (show Below _ _ _ from bD (bR _ _) _),C2.grew (show Below _ _ _ from bD (bR _ _) _)⟩
   have a3d:decide (c.idx<0)=false:=by simpa using a3
   by_cases a4:(bn:Int)<=c.idx
   ·have a4d:decide ((bn:Int)<=c.idx)=true:=by simpa using a4
    have HV:Hid (B1=true):=HB1.2 (.inr (.inr (.inr (.inl (by rw[HBK.out];exact a4)))))
    go_quiet (fail);go_wp2
    go_meet
    exact⟨rfl,by rw[HV.out],G2.trans (show Below _ _ _ from bD (bR _ _) _),X2.grew (show Below _ _ _ from bD (bR _ _) _),C2.grew (show Below _ _ _ from bD (bR _ _) _)⟩
   have a4d:decide ((bn:Int)<=c.idx)=false:=by simpa using a4
   by_cases a5:c.fr<0
   ·have a5d:decide (c.fr<0)=true:=by simpa using a5
    have HV:Hid (B1=true):=HB1.2 (.inr (.inr (.inr (.inr (.inl a5)))));go_quiet (fail);go_wp2
    go_meet
    exact⟨rfl,by rw[HV.out],G2.trans (show Below _ _ _ from bD (bR _ _) _),X2.grew (show Below _ _ _ from bD (bR _ _) _),C2.grew (show Below _ _ _ from bD (bR _ _) _)⟩
   have a5d:decide (c.fr<0)=false:=by simpa using a5
   by_cases a6:(fn:Int)<=c.fr
   ·have a6d:decide ((fn:Int)<=c.fr)=true:=by simpa using a6
    have HV:Hid (B1=true):=HB1.2 (.inr (.inr (.inr (.inr (.inr (by rw[HN1.out];exact a6))))))
    go_quiet (fail);go_wp2
    go_meet
    exact⟨rfl,by rw[HV.out],G2.trans (show Below _ _ _ from bD (bR _ _) _),X2.grew (show Below _ _ _ from bD (bR _ _) _),C2.grew (show Below _ _ _ from bD (bR _ _) _)⟩
   have a6d:decide ((fn:Int)<=c.fr)=false:=by simpa using a6
   have HV:Hid (B1=false):=dD<|by
    cases hb:B1 with
    | false=>rfl
    | true=>
     have h1:=HB1.1 hb;have h2:=HA12.out;have h3:=HBK.out;have h4:=HN7.out;have h5:=HN1.out;omega
   go_quiet (fail);go_wp2
   go_meet
   exact⟨rfl,by rw[HV.out],G2.trans (show Below _ _ _ from bD (bR _ _) _),X2.grew (show Below _ _ _ from bD (bR _ _) _),C2.grew (show Below _ _ _ from bD (bR _ _) _)⟩
  obtain⟨rfl,rfl,G3,X3,C3⟩:=hcut
  cases hB:B1 with
  | true=>
   have HF:Hid (Z=3):=dD<|by
    have hb:caE m (pvC m i) c=3:=by unfold caE;rw[if_pos (HB1.1 hB)]
    rw[zfa ZI (by rw[hb];decide),hb]
   go_wp2;go_ret;exact⟨by rw[HF.out];rfl,G3⟩
  | false=>
   have HOK:Hid (¬(c.file<0\/(m.fl.length:Int)<=c.file\/c.idx<0\/bkN m c.file<=c.idx\/c.fr<0\/(m.fs.length:Int)<=c.fr)):=dD<|fun h=>by have:=HB1.2 h;rw[hB]at this;cases this
   clear hB;have HRG:Hid (0<=c.file/\c.file<5/\0<=c.idx/\c.idx<12):=dD<|by
    have h1:=HOK.out;have h2:=HP.fl.1;have h3:bkN m c.file<=12:=by
     unfold bkN;rw[gD]
     cases e:m.fl[c.file.toNat]? with
     | none=>simp
     | some f=>have:=HP.fl.2 f (mG e);simp;omega
    omega
   obtain⟨j,hj⟩:∃j:Nat,c.fr=(j:Int):=⟨c.fr.toNat,by have:=HOK.out;omega⟩
   obtain⟨q,hq⟩:∃q,m.fs[j]? =some q:=⟨_,gE (by have:=HOK.out;omega)⟩
   have HQ:Hid (qe m c.fr=q):=dD<|by rw[hj];exact Zb hq
   obtain⟨adf,hfa,hl⟩:=HFR.out j q hq;have hjz:(j:Int)< (fn:Int):=by have:=HOK.out;have:=HN1.out;omega
   have XW3:Hid (Box wc w.heap.size [.slice (some adf) fn fc,I6 m.hand,.slice sa sn sc,vsb.x,vsq.x,vdb.x,vdq.x,.slice fla fln flc,I6 m.cnt,.slice (some adc) can cac,.slice spa spn spc]):=dD<|by rw[<-hfa];exact X3.out
   obtain⟨d0,d1,d2,d3,d4,d5,d6,d7,d8,d9,d10,d11,d12⟩:=hl wc G3.out;have c2:=C3.c 2 rfl;rw[hj]at c2;have HJ:Hid (c.fr=(j:Int)):=hj;have x0:=XW3.c 0 rfl;clear hj hq hl hfa;go_upto_region 10 with fail;obtain⟨pq,HPQ⟩:∃pq,Hid (wc.heap.size=pq):=⟨_,rfl⟩;obtain⟨W4,hW4⟩:∃W4,wc.alloc (.cells #[U8 q.p.b0,U8 q.p.b1,U8 q.p.b2,U8 q.p.b3,U8 q.p.b4,U8 q.p.b5,U8 q.p.b6,U8 q.p.b7,I6 q.r,.bool q.u,.bool q.d,I6 q.f,I6 q.x] 59)=W4:=⟨_,rfl⟩;have g4:=gP hW4
   have Q4:=xP hW4 HPQ
   have G4:=dD (G3.trans g4);have X4:=dD (X3.grew g4);have C4:=dD (C3.grew g4);rw[hW4,HPQ.out];clear hW4 g4 x0 c2 d0 d1 d2 d3 d4 d5 d6 d7 d8 d9 d10 d11 d12;have HBAD:Hid (q.r=0\/q.f≠c.file\/q.x≠c.idx->Z=7):=show _->_ from fun h=>by
    have hb:caE m (pvC m i) c=7:=by unfold caE;rw[if_neg HOK.out,HQ.out,if_pos h]
    rw[zfa ZI (by rw[hb];decide),hb]
   have q8:=Q4.c 8 rfl;have q11:=Q4.c 11 rfl;have q12:=Q4.c 12 rfl;have c0:=C4.c 0 rfl;have c1:=C4.c 1 rfl
   by_cases k1:q.r=0
   ·have k1e:(q.r == 0)=true:=by simp[k1]
    have HF:Hid (Z=7):=HBAD.out (.inl k1);clear k1;go_wp2;go_ret;exact⟨by rw[HF.out];rfl,G4⟩
   have k1e:(q.r == 0)=false:=by simp[k1]
   by_cases k2:q.f=c.file
   rotate_left
   ·have k2e:(q.f != c.file)=true:=by simp[k2]
    have HF:Hid (Z=7):=HBAD.out (.inr (.inl k2));clear k1 k2;go_wp2;go_ret;exact⟨by rw[HF.out];rfl,G4⟩
   have k2e:(q.f != c.file)=false:=by simp[k2]
   by_cases k3:q.x=c.idx
   rotate_left
   ·have k3e:(q.x != c.idx)=true:=by simp[k3]
    have HF:Hid (Z=7):=HBAD.out (.inr (.inr k3));clear k1 k2 k3;go_wp2;go_ret;exact⟨by rw[HF.out];rfl,G4⟩
   have k3e:(q.x != c.idx)=false:=by simp[k3]
   have HGD:Hid (caE m (pvC m i) c=match pvC m i with | some q=>(if jH c<=jH q then 2 else 0) | none=>0):=dD<|by
    unfold caE;rw[if_neg HOK.out,HQ.out,if_neg (by rintro(h | h | h) <;> contradiction)]
    cases pvC m i <;> rfl
   have OW':Hid (∀(j:Nat) c,j<i+1->m.ca[j]? =some c->0<=c.file/\c.file<5/\0<=c.idx/\c.idx<12):=dD<|fun j c' hj' hc'=>by
    by_cases e:j=i
    ·subst e;rw[HC.out]at hc';cases hc';exact HRG.out
    exact OW j c' (by omega) hc'
   clear k1 k2 k3;go_upto_region 12 with fail;clear k1e k2e k3e q8 q11 q12;obtain⟨r0,r1,r2,r3⟩:=HRG.out;have x9:=X4.c 9 rfl
   by_cases h0:i=0
   ·subst h0;have ZN:Hid (zg [Jf m (pvC m (0+1)) (m.ca.drop (0+1)),zg (m.sp.map (j6 m)),zg ((List.range m.fs.length).map (frE m)),zg ((List.range m.sl.length).map (Qo m))]=Z):=zj3 ZI (HGD.trans (by rw[zjb]))
    go_quiet (fail);go_wp2
    go_roundg (can -(0+1))
    case measure=>omega
    exact⟨0+1,by omega,by omega,by go_num,G4.trans (show Below _ _ _ from bD (bR _ _) _),X4.grew (show Below _ _ _ from bD (bR _ _) _),ZN,OW'⟩
   obtain⟨i',rfl⟩:∃i',i=i'+1:=⟨i - 1,by omega⟩
   obtain⟨c',HC'⟩:∃c',Hid (m.ca[i']? =some c'):=⟨_,gE (by rw[HN8.out];omega)⟩
   obtain⟨_,he,hl⟩:=HCA.out i' c' HC'.out;cases he;obtain⟨e0,e1,-⟩:=hl W4 G4.out;obtain⟨s0,s1,s2,s3⟩:=OW.out i' c' (by omega) HC'.out
   have HPV:Hid (pvC m (i'+1)=some c'):=dD<|by unfold pvC;rw[if_neg (by omega)];exact HC'.out
   have hiz:(((i'+1:Nat):Int) - 1)=(i':Int):=by omega
   have hil:(i':Int)< (can:Int):=by omega
   have hpz:(0:Int)< ((i'+1:Nat):Int):=by omega
   clear hl h0
   by_cases hk:100*c.file+c.idx<=100*c'.file+c'.idx
   ·have hkd:decide (100*c.file+c.idx<=100*c'.file+c'.idx)=true:=by simpa using hk
    have HF:Hid (Z=2):=dD<|by
     have hb:caE m (pvC m (i'+1)) c=2:=by rw[HGD.out,HPV.out];exact if_pos hk
     rw[zfa ZI (by rw[hb];decide),hb]
    clear hk;go_quiet (fail);go_wp2;go_ret;exact⟨by rw[HF.out];rfl,G4.trans (show Below _ _ _ from bD (bR _ _) _)⟩
   have hkd:decide (100*c.file+c.idx<=100*c'.file+c'.idx)=false:=by simpa using hk
   have ZN:Hid (zg [Jf m (pvC m (i'+1+1)) (m.ca.drop (i'+1+1)),zg (m.sp.map (j6 m)),zg ((List.range m.fs.length).map (frE m)),zg ((List.range m.sl.length).map (Qo m))]=Z):=zj3 ZI (by rw[HGD.out,HPV.out];exact if_neg hk)
   clear hk;go_quiet (fail);go_wp2
   go_roundg (can -(i'+1+1))
   case measure=>omega
   exact⟨i'+1+1,by omega,by omega,by go_num,G4.trans (show Below _ _ _ from bD (bR _ _) _),X4.grew (show Below _ _ _ from bD (bR _ _) _),ZN,OW'⟩
 have hltz:¬(i:Int)< (can:Int):=by omega
 obtain rfl:can=i:=by omega
 have Z3:Hid (zg [zg (m.sp.map (j6 m)),zg ((List.range m.fs.length).map (frE m)),zg ((List.range m.sl.length).map (Qo m))]=Z):=qj ZW (by rw[List.drop_of_length_le (by rw[HN8.out];exact nR _)];rfl)
 have Z4:Hid (zg [goL (spF m) m.sp.length 0,zg ((List.range m.fs.length).map (frE m)),zg ((List.range m.sl.length).map (Qo m))]=Z):=dD<|by have:=Z3.out;rw[zkq]at this;exact this
 have x10:=XW.c 10 rfl;go_wp2;clear x10
 go_loopg [134] spn (fun gg s134 wr=>∃p:Nat,p<=spn/\spn - p<=gg/\s134=I6 p/\Hid (zc w wr)/\Hid (Box wr w.heap.size [.slice fa fn fc,I6 m.hand,.slice sa sn sc,vsb.x,vsq.x,vdb.x,vdq.x,.slice fla fln flc,I6 m.cnt,.slice caa can cac,.slice spa spn spc])/\Hid (zg [goL (spF m) m.sp.length p,zg ((List.range m.fs.length).map (frE m)),zg ((List.range m.sl.length).map (Qo m))]=Z))
 case atStart=>exact⟨0,nZ _,by omega,rfl,GW,XW,Z4⟩
 obtain⟨p,hp,hgp,rfl,GP,XP,ZP⟩:=hrel
 by_cases hlp:p<spn
 ·have hlpz:(p:Int)< (spn:Int):=by omega
  obtain⟨x,hx⟩:∃x,xs[p]? =some x:=⟨_,gE (by rw[HXL.out];exact hlp)⟩
  obtain⟨s,HS⟩:∃s,Hid (m.sp[p]? =some s):=⟨_,gE (by rw[HN9.out];exact hlp)⟩
  have HAT:Hid (qr w x s):=HSP.out p x s hx HS.out;obtain⟨ad,rfl,hl⟩:=HRW.out p x hx;obtain⟨d0,d1,d2,d3,d4,d5,d6,d7,d8,d9⟩:=hl wr GP.out;have HRT:Hid ((wrL s.ars).1=0/\tbW s.tb=0):=HP.ar s (mG HS);have ZS:Hid (zg (goL (pgF m s) 64 0 :: [goL (spF m) m.sp.length (p+1),zg ((List.range m.fs.length).map (frE m)),zg ((List.range m.sl.length).map (Qo m))])=Z):=show _=_ by
   have h1:=ZP.out;rw[zdB (spF m) (by rw[HN9.out];exact hlp),zkl,zk8 HS,zku]at h1
   exact h1
  have HON:Hid (∀W,zc w W->Calls prog 41 #[x.ar.x] W fun e w'=>e= .returned (.agg (zy (tab (zN s.ars))).toArray)/\zc W w'):=dD<|fun W hW=>jG _ s.ars W (HAT.ar.grew hW) (jw.1 HRT.1).2.lies
  have HFT:Hid (∀W,zc w W->Calls prog 42 #[.agg #[x.t0.x,x.t1.x,x.t2.x,x.t3.x,x.t4.x,x.t5.x,x.t6.x,x.t7.x]] W fun e w'=>e= .returned (.agg (qk (QT s.tb)).toArray)/\zc W w'):=dD<|fun W hW=>za0 x.tab s.tb W ((HAT.grew hW).tb) (tb8 HRT.2)
  have HF64:Hid (∀j,j<64->(QT s.tb)[j]? =some (zO s j)):=dD<|fun j hj=>zbw s.tb hj
  have hz:=zas;obtain⟨Z0,HZ0⟩:∃Z0,Hid (zy (tab fun _=>on0)=Z0):=⟨_,rfl⟩
  rw[HZ0.out]at hz;have HZL:Hid (Z0.length=384):=dD<|by rw[<-HZ0.out,js]
  have HPL:Hid ((zy (tab (zN s.ars))).length=384):=js _;have HPO:Hid (∀v∈zy (tab (zN s.ars)),v.oneCell'=true):=QA _;have HCO:Hid (∀k,k<64->∀(i:Nat) u,(onv (zN s.ars k))[i]? =some u->(zy (tab (zN s.ars)))[k*6+i]? =some u):=show∀k,_ from fun k hk i u hu=>Zm (QZ hk) i _ hu
  generalize zy (tab (zN s.ars))=CO at HON HPL HPO HCO
  clear hl hx;go_upto_region 18 with fail;obtain⟨px,HPX⟩:∃px,Hid (wr.heap.size=px):=⟨_,rfl⟩;obtain⟨W5,hW5⟩:∃W5,wr.alloc (.cells #[.bool x.live,x.ar.x,x.t0.x,x.t1.x,x.t2.x,x.t3.x,x.t4.x,x.t5.x,x.t6.x,x.t7.x] 65)=W5:=⟨_,rfl⟩;have g5:=gP hW5
  have S5:=xP hW5 HPX
  have G5:=dD (GP.trans g5);have X5:=dD (XP.grew g5);rw[hW5,HPX.out];clear hW5 g5 d0 d1 d2 d3 d4 d5 d6 d7 d8 d9;have s1:=S5.c 1 rfl;have hc:=HON.out W5 G5.out;go_wp2_with fail;refine hc.mono ?_;clear s1 hc;rintro e W6 ⟨rfl,g6⟩;obtain⟨po,HPQ⟩:∃po,Hid (W6.heap.size=po):=⟨_,rfl⟩;have G6:=dD (G5.trans g6);have X6:=dD (X5.grew g6);have S6:=dD (S5.grew g6);clear g6
  go_upto_region 19 with(refine zn rfl 97 (.tmp 9) (.tmp 140) rfl W6.heap.size rfl CO rfl (Box.top W6 Z0 97 rfl) (by rw[HPL.out,HZL.out]) (by rw[HZL.out];exact zlV) HPO.out ?_)
  intro W7 b7 g7 s7;have g67:zc W6 W7:=ze (za _ _) g7 (nR _);have G7:=dD (G6.trans g67);have X7:=dD (X6.grew g67);have S7:=dD (S6.grew g67);rw[HPQ.out]at b7⊢;have P7:Hid (Box W7 po CO):=b7;clear b7 g7 s7 g67 hz;try simp only[Act.put]
  have s2:=S7.c 2 rfl;have s3:=S7.c 3 rfl;have s4:=S7.c 4 rfl;have s5:=S7.c 5 rfl;have s6:=S7.c 6 rfl;have s7:=S7.c 7 rfl;have s8:=S7.c 8 rfl;have s9:=S7.c 9 rfl;have hc:=HFT.out W7 G7.out;go_wp2_with fail;refine hc.mono ?_;clear hc s2 s3 s4 s5 s6 s7 s8 s9;rintro e W8 ⟨rfl,g8⟩;have G8:=dD (G7.trans g8);have X8:=dD (X7.grew g8);have P8:=dD (P7.grew g8);clear g8;go_wp2
  go_loopg [144] 64 (fun gg s144 wr=>∃n:Nat,n<=64/\64 - n<=gg/\s144=I6 n/\Hid (zc w wr)/\Hid (Box wr w.heap.size [.slice fa fn fc,I6 m.hand,.slice sa sn sc,vsb.x,vsq.x,vdb.x,vdq.x,.slice fla fln flc,I6 m.cnt,.slice caa can cac,.slice (some ad) spn spc])/\Hid (Box wr po CO)/\Hid (zg (goL (pgF m s) 64 n :: [goL (spF m) m.sp.length (p+1),zg ((List.range m.fs.length).map (frE m)),zg ((List.range m.sl.length).map (Qo m))])=Z))
  case atStart=>exact⟨0,nZ _,by omega,rfl,G8,X8,P8,ZS⟩
  obtain⟨n,hn,hgn,rfl,G9,X9,P9,Z9⟩:=hrel
  by_cases hln:n<64
  ·have hlnz:(n:Int)<64:=by omega
   obtain⟨e,HE⟩:∃e,Hid (zO s n=e):=⟨_,rfl⟩;obtain⟨o,HO⟩:∃o,Hid (zN s.ars n=o):=⟨_,rfl⟩;have HZF:Hid ((QT s.tb)[n]? =some e):=dD<|by rw[HF64.out n hln,HE.out]
   have HON:Hid (∀(i:Nat) u,(onv o)[i]? =some u->CO[n*6+i]? =some u):=dD<|by rw[<-HO.out];exact HCO n hln
   have h0:0<=e.n:=by rw[<-HE.out];exact zj9 (zeB HRT.2 n)
   have HPG:Hid (pgF m s n=if e.kind=0 then 0 else Q7 m o e):=dD<|by unfold pgF;rw[HE.out,HO.out]
   go_upto_region 22 with(refine zao rfl (.tmp 143) (.tmp 144) rfl (QT s.tb) rfl n rfl hln HZF.out ?_)
   obtain⟨pe,HPE⟩:∃pe,Hid (wr.heap.size=pe):=⟨_,rfl⟩;obtain⟨W10,hW10⟩:∃W10,wr.alloc (.cells #[I6 e.kind,I6 e.n,.bool e.wr] 67)=W10:=⟨_,rfl⟩;have g10:=gP hW10
   have E10:=xP hW10 HPE
   have G10:=dD (G9.trans g10);have X10:=dD (X9.grew g10);have P10:=dD (P9.grew g10);rw[hW10,HPE.out];clear hW10 g10;have e0:=E10.c 0 rfl
   by_cases hk:e.kind=0
   ·have hke:(e.kind == 0)=true:=by simp[hk]
    have ZN:Hid (zg (goL (pgF m s) 64 (n+1) :: [goL (spF m) m.sp.length (p+1),zg ((List.range m.fs.length).map (frE m)),zg ((List.range m.sl.length).map (Qo m))])=Z):=zgp hln Z9 (by rw[HPG.out,if_pos hk])
    clear hk;go_wp2
    go_roundg (64 -(n+1))
    case measure=>omega
    exact⟨n+1,by omega,by omega,by go_num,G10,X10,P10,ZN⟩
   have hke:(e.kind == 0)=false:=by simp[hk]
   obtain⟨EE,HEE⟩:∃EE,Hid (Q7 m o e=EE):=⟨_,rfl⟩;have HPE2:Hid (pgF m s n=EE):=dD<|by rw[HPG.out,if_neg hk,HEE.out]
   clear hk;go_upto_region 23 with fail;clear hke e0;have hx0:=X10.gw 0 rfl
   have hx1:=X10.gw 1 rfl
   have hx2:=X10.gw 2 rfl
   have hx3:=X10.gw 3 rfl
   have hx4:=X10.gw 4 rfl
   have hx5:=X10.gw 5 rfl
   have hx6:=X10.gw 6 rfl
   have hx7:=X10.gw 7 rfl
   have hx8:=X10.gw 8 rfl
   have hx9:=X10.gw 9 rfl
   have hx10:=X10.gw 10 rfl
   have he0:=E10.gw 0 rfl
   have he1:=E10.gw 1 rfl
   have he2:=E10.gw 2 rfl
   have ho0:∀y:zR W10,y.world.cell? ⟨po,n*6,none⟩=some (.bool o.is):=fun y=>(P10.grew y.grew).c _ (HON 0 _ rfl)
   have ho1:∀y:zR W10,y.world.cell? ⟨po,n*6+1,none⟩=some (.bool o.rd):=fun y=>(P10.grew y.grew).c _ (HON 1 _ rfl)
   have ho2:∀y:zR W10,y.world.cell? ⟨po,n*6+2,none⟩=some (.bool o.wr):=fun y=>(P10.grew y.grew).c _ (HON 2 _ rfl)
   have ho3:∀y:zR W10,y.world.cell? ⟨po,n*6+3,none⟩=some (.bool o.sh):=fun y=>(P10.grew y.grew).c _ (HON 3 _ rfl)
   have ho4:∀y:zR W10,y.world.cell? ⟨po,n*6+4,none⟩=some (I6 o.file):=fun y=>(P10.grew y.grew).c _ (HON 4 _ rfl)
   have ho5:∀y:zR W10,y.world.cell? ⟨po,n*6+5,none⟩=some (I6 o.page):=fun y=>(P10.grew y.grew).c _ (HON 5 _ rfl)
   have hne:Nonempty (zR W10):=⟨⟨_,zc.refl _⟩⟩;refine Zh [(5,⟨fun v=>v=I6 EE,fun v w'=>True⟩)] qu (by kernel_rfl) ?hS ?hp ?_
   case hS=>
    intro x hx;simp only[mC,nM,or_false]at hx;subst hx;exact⟨_,rfl⟩
   case hp=>
    intro x hx;simp only[mC,nM,or_false]at hx;subst hx;exact fun _ _ _ _ h=>h
   iterate 5 (refine zp rfl rfl rfl (fun K hK=>?_);go_big_quiet_op;refine hK _ ?_;clear hK)
   refine zV rfl rfl (fun w' hg hF=>?_) (fun v1 hv=>?_)
   ·refine zP.call [.agg #[.slice fa fn fc,I6 m.hand,.slice sa sn sc,vsb.x,vsq.x,vdb.x,vdq.x,.slice fla fln flc,I6 m.cnt,.slice caa can cac,.slice (some ad) spn spc],.agg #[.bool o.is,.bool o.rd,.bool o.wr,.bool o.sh,I6 o.file,I6 o.page],.agg #[I6 e.kind,I6 e.n,.bool e.wr]] rfl func43 rfl rfl rfl ?_;refine(HEN w' o e (G10.trans hg) h0).mono ?_;rintro e w'' ⟨rfl,hg2⟩;exact⟨_,rfl,hg2,by rw[HEE.out],trivial⟩
   subst hv;simp only[Act.put,sB,sS,sZ];iterate 1 (refine zp rfl rfl rfl (fun K hK=>?_);go_big_quiet_op;refine hK _ ?_;clear hK)
   refine je fun W11 hg1 hF=>?_
   have G11:=dD (G10.trans hg1);have X11:=dD (X10.grew hg1);have P11:=dD (P10.grew hg1);clear hg1 hF hne hx0 hx1 hx2 hx3 hx4 hx5 hx6 hx7 hx8 hx9 hx10 he0 he1 he2 ho0 ho1 ho2 ho3 ho4 ho5
   by_cases hz:EE=0
   ·have hze:(EE != 0)=false:=by simp[hz]
    have ZN:Hid (zg (goL (pgF m s) 64 (n+1) :: [goL (spF m) m.sp.length (p+1),zg ((List.range m.fs.length).map (frE m)),zg ((List.range m.sl.length).map (Qo m))])=Z):=zgp hln Z9 (by rw[HPE2.out];exact hz)
    clear hz;go_wp2
    go_roundg (64 -(n+1))
    case measure=>omega
    exact⟨n+1,by omega,by omega,by go_num,G11,X11,P11,ZN⟩
   have hze:(EE != 0)=true:=by simp[hz]
   have HF:Hid (Z=EE):=dD<|by rw[zfG hln Z9 (by rw[HPE2.out];exact hz),HPE2.out]
   clear hz;go_wp2;go_ret;exact⟨by rw[HF.out];first | rfl | skip,G11⟩
  have hlnz:¬(n:Int)<64:=by omega
  obtain rfl:n=64:=by omega
  have ZN:Hid (zg [goL (spF m) m.sp.length (p+1),zg ((List.range m.fs.length).map (frE m)),zg ((List.range m.sl.length).map (Qo m))]=Z):=qj Z9 (zdC _ _);go_wp2
  go_roundg (spn -(p+1))
  case measure=>omega
  exact⟨p+1,by omega,by omega,by go_num,G9,X9,ZN⟩
 have hlpz:¬(p:Int)< (spn:Int):=by omega
 obtain rfl:spn=p:=by omega
 have Z5:Hid (zg [zg ((List.range m.fs.length).map (frE m)),zg ((List.range m.sl.length).map (Qo m))]=Z):=qj ZP (by rw[HN9.out];exact zdC _ _)
 have Z6:Hid (zg [goL (frE m) m.fs.length 0,zg ((List.range m.sl.length).map (Qo m))]=Z):=dD<|by have h1:=Z5.out;rw[<-zdD]at h1;exact h1
 have x0:=XP.c 0 rfl;go_wp2;clear x0
 go_loopg [166] fn (fun gg s166 wr=>∃k:Nat,k<=fn/\fn - k<=gg/\s166=I6 k/\Hid (zc w wr)/\Hid (Box wr w.heap.size [.slice fa fn fc,I6 m.hand,.slice sa sn sc,vsb.x,vsq.x,vdb.x,vdq.x,.slice fla fln flc,I6 m.cnt,.slice caa can cac,.slice spa spn spc])/\Hid (zg [goL (frE m) m.fs.length k,zg ((List.range m.sl.length).map (Qo m))]=Z))
 case atStart=>exact⟨0,nZ _,by omega,rfl,GP,XP,Z6⟩
 obtain⟨k,hk,hgk,rfl,GK,XK,ZK⟩:=hrel
 by_cases hlk:k<fn
 ·have hlkz:(k:Int)< (fn:Int):=by omega
  obtain⟨q,HQ⟩:∃q,Hid (m.fs[k]? =some q):=⟨_,gE (by rw[HN1.out];exact hlk)⟩
  obtain⟨adf,rfl,hl⟩:=HFR.out k q HQ.out;obtain⟨d0,d1,d2,d3,d4,d5,d6,d7,d8,d9,d10,d11,d12⟩:=hl wr GK.out;obtain⟨Hz,HHZ⟩:∃Hz:Int,Hid ((Zo m 1 (k:Int):Int)=Hz):=⟨_,rfl⟩;obtain⟨Cz,HCZ⟩:∃Cz:Int,Hid ((zS m.ca (k:Int):Int)=Cz):=⟨_,rfl⟩;have hHz:0<=Hz/\Hz<=256:=by
   have h1:=zev (m:=m) (kind:=1) (k:=(k:Int)) m.sp.length;rw[zcR]at h1;have h2:=HHZ.out;have h3:=HP.s4;omega
  have hCz:0<=Cz/\Cz<=5864062014805:=by
   have h1:zS m.ca (k:Int)<=m.ca.length:=List.countP_le_length;have h2:=HCZ.out;have h3:=HN8.out;omega
  obtain⟨hHz0,hHz1⟩:=hHz;obtain⟨hCz0,hCz1⟩:=hCz;have HBAD:Hid (q.r≠Hz+Cz\/(0<=q.f/\Cz=0)->Z=7):=dD<|fun h=>by
   have h1:=HHZ.out;have h2:=HCZ.out;have hb:frE m k=7:=by unfold frE;rw[Zb HQ.out,if_pos (by omega)]
   rw[zfG (by rw[HN1.out];exact hlk) ZK (by rw[hb];decide),hb]
  have HGOOD:Hid (¬(q.r≠Hz+Cz\/(0<=q.f/\Cz=0))->zg [goL (frE m) m.fs.length (k+1),zg ((List.range m.sl.length).map (Qo m))]=Z):=dD<|fun h=>by
   have h1:=HHZ.out;have h2:=HCZ.out;exact zgp (by rw[HN1.out];exact hlk) ZK (by unfold frE;rw[Zb HQ.out,if_neg (by omega)])
  clear hl;go_upto_region 31 with fail;obtain⟨pq,HPQ⟩:∃pq,Hid (wr.heap.size=pq):=⟨_,rfl⟩;obtain⟨W12,hW12⟩:∃W12,wr.alloc (.cells #[U8 q.p.b0,U8 q.p.b1,U8 q.p.b2,U8 q.p.b3,U8 q.p.b4,U8 q.p.b5,U8 q.p.b6,U8 q.p.b7,I6 q.r,.bool q.u,.bool q.d,I6 q.f,I6 q.x] 59)=W12:=⟨_,rfl⟩;have g12:=gP hW12
  have Q12:=xP hW12 HPQ
  have G12:=dD (GK.trans g12);have X12:=dD (XK.grew g12);rw[hW12,HPQ.out];clear hW12 g12 d0 d1 d2 d3 d4 d5 d6 d7 d8 d9 d10 d11 d12;obtain⟨x0,x1,x2,x3,x4,x5,x6,x7,x8,x9,x10⟩:=X12.c11;have hc:=HHO.out W12 1 (k:Int) G12 HP.out;rw[HHZ.out]at hc;go_wp2_with fail;refine hc.mono ?_;clear hc x0 x1 x2 x3 x4 x5 x6 x7 x8 x9 x10;rintro e W13 ⟨rfl,g13⟩;have G13:=dD (G12.trans g13);have X13:=dD (X12.grew g13);have Q13:=dD (Q12.grew g13);clear g13;have x9:=X13.c 9 rfl;go_wp2;clear x9
  go_loopg [16,177] can (fun gg s16 s177 wr=>∃j:Nat,j<=can/\can - j<=gg/\s177=I6 j/\s16=I6 (zS (m.ca.take j) (k:Int):Int)/\Hid (zc w wr)/\Hid (Box wr w.heap.size [.slice (some adf) fn fc,I6 m.hand,.slice sa sn sc,vsb.x,vsq.x,vdb.x,vdq.x,.slice fla fln flc,I6 m.cnt,.slice caa can cac,.slice spa spn spc])/\Hid (Box wr pq [U8 q.p.b0,U8 q.p.b1,U8 q.p.b2,U8 q.p.b3,U8 q.p.b4,U8 q.p.b5,U8 q.p.b6,U8 q.p.b7,I6 q.r,.bool q.u,.bool q.d,I6 q.f,I6 q.x]))
  case atStart=>exact⟨0,nZ _,by omega,rfl,rfl,G13,X13,Q13⟩
  obtain⟨j,hj,hgj,rfl,rfl,GJ,XJ,QJ⟩:=hrel
  by_cases hlj:j<can
  ·have hljz:(j:Int)< (can:Int):=by omega
   obtain⟨c,HC⟩:∃c,Hid (m.ca[j]? =some c):=⟨_,gE (by rw[HN8.out];exact hlj)⟩
   obtain⟨adc,rfl,hl⟩:=HCA.out j c HC.out;obtain⟨d0,d1,d2⟩:=hl wr GJ.out;have hcl:zS (m.ca.take j) (k:Int)<=j:=ziH j;have HCS:Hid (zS (m.ca.take (j+1)) (k:Int)=zS (m.ca.take j) (k:Int)+(decide (c.fr=(k:Int))).toNat):=zfT HC.out;obtain⟨c0,hc0⟩:∃c0,zS (m.ca.take j) (k:Int)=c0:=⟨_,rfl⟩;rw[hc0]at hcl HCS⊢;clear hc0 hl;go_upto_region 35 with fail;obtain⟨pc,HPC⟩:∃pc,Hid (wr.heap.size=pc):=⟨_,rfl⟩;obtain⟨W14,hW14⟩:∃W14,wr.alloc (.cells #[I6 c.file,I6 c.idx,I6 c.fr] 83)=W14:=⟨_,rfl⟩;have g14:=gP hW14
   have C14:=xP hW14 HPC
   have G14:=dD (GJ.trans g14);have X14:=dD (XJ.grew g14);have Q14:=dD (QJ.grew g14);rw[hW14,HPC.out];clear hW14 g14 d0 d1 d2;have c2:=C14.c 2 rfl
   by_cases hkk:c.fr=(k:Int)
   ·have hke:(c.fr ==(k:Int))=true:=by simp[hkk]
    have HV:Hid (zS (m.ca.take (j+1)) (k:Int)=c0+1):=dD<|by rw[HCS.out,decide_eq_true hkk];rfl
    clear hkk;go_wp2
    go_roundg (can -(j+1))
    case measure=>omega
    exact⟨j+1,by omega,by omega,by go_num,by rw[HV.out];go_num,G14,X14,Q14⟩
   have hke:(c.fr ==(k:Int))=false:=by simp[hkk]
   have HV:Hid (zS (m.ca.take (j+1)) (k:Int)=c0):=dD<|by rw[HCS.out,decide_eq_false hkk];rfl
   clear hkk;go_wp2
   go_roundg (can -(j+1))
   case measure=>omega
   exact⟨j+1,by omega,by omega,by go_num,by rw[HV.out],G14,X14,Q14⟩
  have hljz:¬(j:Int)< (can:Int):=by omega
  obtain rfl:can=j:=by omega
  have hce:(zS (m.ca.take can) (k:Int):Int)=Cz:=by rw[List.take_of_length_le (by rw[HN8.out];exact nR _)];exact HCZ.out
  rw[hce];clear hce;have q8:=QJ.c 8 rfl;have q11:=QJ.c 11 rfl
  by_cases k1:q.r=Hz+Cz
  rotate_left
  ·have k1e:(q.r != Hz+Cz)=true:=by simp[k1]
   have HF:Hid (Z=7):=HBAD.out (.inl k1);clear k1;go_wp2;go_ret;exact⟨by rw[HF.out];rfl,GJ⟩
  have k1e:(q.r != Hz+Cz)=false:=by simp[k1]
  by_cases k2:0<=q.f
  ·have k2d:decide (0<=q.f)=true:=decide_eq_true k2
   by_cases k3:Cz=0
   ·have k3e:(Cz == 0)=true:=by simp[k3]
    have HF:Hid (Z=7):=HBAD.out (.inr ⟨k2,k3⟩);clear k1 k2 k3;go_wp2;go_ret;exact⟨by rw[HF.out];rfl,GJ⟩
   have k3e:(Cz == 0)=false:=by simp[k3]
   have ZN:Hid (zg [goL (frE m) m.fs.length (k+1),zg ((List.range m.sl.length).map (Qo m))]=Z):=HGOOD.out (by omega)
   clear k1 k2 k3;go_wp2
   go_roundg (fn -(k+1))
   case measure=>omega
   exact⟨k+1,by omega,by omega,by go_num,GJ,XJ,ZN⟩
  have k2d:decide (0<=q.f)=false:=decide_eq_false k2;have ZN:Hid (zg [goL (frE m) m.fs.length (k+1),zg ((List.range m.sl.length).map (Qo m))]=Z):=HGOOD.out (by omega)
  clear k1 k2;go_wp2
  go_roundg (fn -(k+1))
  case measure=>omega
  exact⟨k+1,by omega,by omega,by go_num,GJ,XJ,ZN⟩
 have hlkz:¬(k:Int)< (fn:Int):=by omega
 obtain rfl:fn=k:=by omega
 have Z7:Hid (zg [goL (Qo m) m.sl.length 0]=Z):=dD<|by
  have h1:=qj ZK (by rw[HN1.out];exact zdC _ _)
  rw[<-zdD]at h1;exact h1
 have x2:=XK.c 2 rfl;go_wp2;clear x2
 go_loopg [207] sn (fun gg s207 wr=>∃j:Nat,j<=sn/\sn - j<=gg/\s207=I6 j/\Hid (zc w wr)/\Hid (Box wr w.heap.size [.slice fa fn fc,I6 m.hand,.slice sa sn sc,vsb.x,vsq.x,vdb.x,vdq.x,.slice fla fln flc,I6 m.cnt,.slice caa can cac,.slice spa spn spc])/\Hid (zg [goL (Qo m) m.sl.length j]=Z))
 case atStart=>exact⟨0,nZ _,by omega,rfl,GK,XK,Z7⟩
 obtain⟨j,hj,hgj,rfl,GJ,X12,ZJ⟩:=hrel
 by_cases hlj:j<sn
 ·have hljz:(j:Int)< (sn:Int):=by omega
  obtain⟨z,HQ⟩:∃z,Hid (m.sl[j]? =some z):=⟨_,gE (by rw[HN2.out];exact hlj)⟩
  obtain⟨ads,rfl,hl⟩:=HSL.out j z HQ.out;have d0:=hl wr GJ.out;obtain⟨Hz,HHZ⟩:∃Hz:Int,Hid ((Zo m 2 (j:Int):Int)=Hz):=⟨_,rfl⟩;have HSV:Hid (Qo m j=if z≠Hz then 7 else 0):=dD<|by unfold Qo;rw[gD,HQ.out,HHZ.out];rfl
  clear hl;have hc:=HHO.out wr 2 (j:Int) GJ HP.out;rw[HHZ.out]at hc;obtain⟨x0,x1,x2,x3,x4,x5,x6,x7,x8,x9,x10⟩:=X12.c11;go_wp2_with fail;refine hc.mono ?_;clear hc d0 x0 x1 x2 x3 x4 x5 x6 x7 x8 x9 x10;rintro e W13 ⟨rfl,g13⟩;have G13:=dD (GJ.trans g13);have X13:=dD (X12.grew g13);clear g13
  by_cases k1:z=Hz
  ·have k1e:(z != Hz)=false:=by simp[k1]
   have ZN:Hid (zg [goL (Qo m) m.sl.length (j+1)]=Z):=zgp (by rw[HN2.out];exact hlj) ZJ (by rw[HSV.out,if_neg (fun h=>h k1)])
   clear k1;go_wp2
   go_roundg (sn -(j+1))
   case measure=>omega
   exact⟨j+1,by omega,by omega,by go_num,G13,X13,ZN⟩
  have k1e:(z != Hz)=true:=by simp[k1]
  have HF:Hid (Z=7):=dD<|by
   have hb:Qo m j=7:=by rw[HSV.out,if_pos k1]
   rw[zfG (by rw[HN2.out];exact hlj) ZJ (by rw[hb];decide),hb]
  clear k1;go_wp2;go_ret;exact⟨by rw[HF.out];rfl,G13⟩
 have hljz:¬(j:Int)< (sn:Int):=by omega
 obtain rfl:sn=j:=by omega
 have HF:Hid (Z=0):=dD<|by
  have h1:=qj ZJ (by rw[HN2.out];exact zdC _ _)
  rw[<-h1];rfl
 go_wp2;go_ret;exact⟨by rw[HF.out];rfl,GJ⟩
theorem zei:∀{l:List Ar} {p:Option Ar} {n:Nat},ZY p l->(zN l n).is=true->0<=(zN l n).page/\((zN l n).page<=11\/(zN l n).file<0)
 | [],_,_,_,h=>by cases h
 | a :: l,p,n,hc,h=>by
  unfold zN at h⊢
  by_cases e:ZZ a n=true
  ·rw[if_pos e]at h⊢;have ha:=hc.1;have e':=qd.1 e;unfold jl at ha;unfold qn;simp only
   split
   ·exact⟨by omega,.inl (by omega)⟩
   exact⟨by omega,.inr (by omega)⟩
  rw[if_neg e]at h⊢;exact zei hc.2.2 h
def zbj (r:List Int × Bool × Int):Value:= .tuple #[.agg (pgc r.1).toArray,.bool r.2.1,I6 r.2.2]
theorem zix (h:maW m=0):∀s∈m.sp,∀n,n<64->(if(zO s n).kind=0 then 0 else Q7 m (zN s.ars n) (zO s n))=0:=fun s hs n hn=>by
 unfold maW at h;rw[zE]at h;have h1:=zE.1 (h (zg (m.sp.map (j6 m))) (by simp)) (j6 m s) (List.mem_map.2 ⟨s,hs,rfl⟩)
 unfold j6 at h1;exact zE.1 h1 _ (List.mem_map.2 ⟨n,List.mem_range.2 hn,rfl⟩)
theorem zka (h:maW m=0):∀c∈m.ca,0<=c.fr/\c.fr< (m.fs.length:Int):=fun c hc=>by
 unfold maW at h;rw[zE]at h;have h1:=(zZ.1 (h (Jf m none m.ca) (by simp))).1 c hc
 unfold caE at h1
 split at h1
 ·cases h1
 omega
theorem Qt (h:maW m=0):Jm m=0:=by
 unfold maW at h;rw[zE]at h;exact h _ (by simp)
theorem zfl (V:MaV) (m:Ma) (p n:Int) (w:World) (hm:zH w V m) (hw:maW m=0) (hfs:∀s∈m.sp,qW m.fl.length s.ars):
  Calls prog 66 #[.agg (mL V m).toArray,I6 p,I6 n] w fun e w'=>e= .returned (zbj (jB m p n))/\(jB m p n).1.length=8/\zc w w':=by
 have HM:Hid (zH w V m):=hm;obtain⟨n1,n2,-,-,-,-,n7,n8,n9⟩:=hm.ns;obtain⟨xs,hxl,hrow,hsp⟩:=hm.spaces;have HFR:Hid (Zu w V.f.a m.fs):=hm.frs;obtain⟨_,_,hfe,_,hfr⟩:=qL.rows hm.fl;have HFL:Hid (jZ w V.fl.a m.fl):=show jZ _ _ _ by
  simp only[vJ]at hfe;rw[hfe.1];exact hfr
 have HP:Hid (Pts m):=zgd (Qt hw);have HENT:Hid (∀s∈m.sp,∀n,n<64->(if(zO s n).kind=0 then 0 else Q7 m (zN s.ars n) (zO s n))=0):=show∀s,_ from zix hw
 have HFS:Hid (∀s∈m.sp,qW m.fl.length s.ars):=dD<|hfs
 have HCO:Hid (∀W (fi ix:Nat) f bk,zc w W->m.fl[fi]? =some f->f.bl[ix]? =some bk->ix<=1000->Calls prog 62 #[.agg (mL V m).toArray,I6 (fi:Int),I6 (ix:Int)] W fun e w'=>e= .returned (.agg (pgc (qZ m fi ix)).toArray)/\(qZ m fi ix).length=8/\zc W w'):=dD<|fun W fi ix f bk hW hf hb hi=>zah V m fi ix f bk W (HM.grew hW) (fun c hc _=>zka hw c hc) hf hb hi
 have HRD:Hid (∀W k,zc w W->Calls prog 110 #[.agg #[V.sb.x,V.sq.x],I6 k] W fun e w'=>e= .returned (.tuple #[.agg (pgc (ju m.sb m.sq k)).toArray,I6 (zW m.sb.length m.sq k)])/\zc W w'):=dD<|fun W k hW=>zbM _ m.sb m.sq k W ⟨_,_,rfl,(HM.grew hW).sb,(HM.grew hW).sq⟩
 have HRL:Hid (∀k,(ju m.sb m.sq k).length=8):=dD<|fun k=>zcJ hm.sb.2.1 hm.sq.2.1
 obtain⟨⟨fa,fn,fc⟩,⟨sa,sn,sc⟩,⟨sba,sbn,sbc⟩,⟨sqa,sqn,sqc⟩,vdb,vdq,⟨fla,fln,flc⟩,⟨caa,can,cac⟩,⟨spa,spn,spc⟩⟩:=V;dsimp only[mL]at n1 n2 n7 n8 n9 hrow HFR HFL HCO HRD⊢;have HN1:Hid (m.fs.length=fn):=n1.symm;have HN7:Hid (m.fl.length=fln):=n7.symm;have HN9:Hid (m.sp.length=spn):=n9.symm;have HXL:Hid (xs.length=spn):=show _=_ by rw[hxl];exact HN9.out
 have HRW:Hid (∀(j:Nat) x,xs[j]? =some x->∃ad,spa=some ad/\∀W,zc w W->zc1 W (ad.add (j*10)) x):=dD<|hrow
 have HSP:Hid (∀(i:Nat) x s,xs[i]? =some x->m.sp[i]? =some s->qr w x s):=dD<|hsp
 clear hm n1 n2 n7 n8 n9 hxl hrow hsp hfe hfr hw hfs;obtain⟨W0,hW0⟩:∃W0,(w.alloc (.cells #[.slice fa fn fc,I6 m.hand,.slice sa sn sc,.slice sba sbn sbc,.slice sqa sqn sqc,vdb.x,vdq.x,.slice fla fln flc,I6 m.cnt,.slice caa can cac,.slice spa spn spc] 40)).alloc (.cells #[U8 0,U8 0,U8 0,U8 0,U8 0,U8 0,U8 0,U8 0] 50)=W0:=⟨_,rfl⟩;have G0:=gD2 hW0
 have X0:=x2a hW0
 have Y0:Hid (Box W0 (w.heap.size+1) (pgc zm)):=dD<|by rw[<-hW0];exact Box.top _ (pgc zm) _ (by simp)
 have HW0:Hid (_=W0):=hW0;clear hW0
 by_cases a1:p<0
 ·have HR:Hid (jB m p n=(zm,false,5)):=dD<|by unfold jB;exact if_pos (by rw[HN9.out];omega)
  have k1:decide (p<0)=true:=decide_eq_true a1;clear a1
  go_enter func66,ntmps66
  go_upto_region 1 with fail;rw[HW0.out];have x10:=X0.c 10 rfl
  go_wp2_with (refine zn rfl 50 (.tmp 6) (.tmp 31) rfl (w.heap.size+1) rfl (pgc zm) rfl Y0 rfl zl3 (z6 _) ?_)
  intro WL hbL hgL _;have HGL:Hid (zc w WL):=dD<|ze G0 hgL (by omega)
  go_wp2;refine bodyPost_ret (zG rfl _ rfl hbL underlying50 rfl zl3) rfl ⟨by rw[HR.out];rfl,by rw[HR.out];rfl,HGL⟩
 by_cases a2:(spn:Int)<=p
 ·have HR:Hid (jB m p n=(zm,false,5)):=dD<|by unfold jB;exact if_pos (by rw[HN9.out];omega)
  have k1:decide (p<0)=false:=decide_eq_false a1;have k2:decide ((spn:Int)<=p)=true:=decide_eq_true a2;clear a1 a2
  go_enter func66,ntmps66
  go_upto_region 1 with fail;rw[HW0.out];have x10:=X0.c 10 rfl
  go_wp2_with (refine zn rfl 50 (.tmp 6) (.tmp 31) rfl (w.heap.size+1) rfl (pgc zm) rfl Y0 rfl zl3 (z6 _) ?_)
  intro WL hbL hgL _;have HGL:Hid (zc w WL):=dD<|ze G0 hgL (by omega)
  go_wp2;refine bodyPost_ret (zG rfl _ rfl hbL underlying50 rfl zl3) rfl ⟨by rw[HR.out];rfl,by rw[HR.out];rfl,HGL⟩
 by_cases a3:n<0
 ·have HR:Hid (jB m p n=(zm,false,5)):=dD<|by unfold jB;exact if_pos (by rw[HN9.out];omega)
  have k1:decide (p<0)=false:=decide_eq_false a1;have k2:decide ((spn:Int)<=p)=false:=decide_eq_false a2;have k3:decide (n<0)=true:=decide_eq_true a3;clear a1 a2 a3
  go_enter func66,ntmps66
  go_upto_region 1 with fail;rw[HW0.out];have x10:=X0.c 10 rfl
  go_wp2_with (refine zn rfl 50 (.tmp 6) (.tmp 31) rfl (w.heap.size+1) rfl (pgc zm) rfl Y0 rfl zl3 (z6 _) ?_)
  intro WL hbL hgL _;have HGL:Hid (zc w WL):=dD<|ze G0 hgL (by omega)
  go_wp2;refine bodyPost_ret (zG rfl _ rfl hbL underlying50 rfl zl3) rfl ⟨by rw[HR.out];rfl,by rw[HR.out];rfl,HGL⟩
 by_cases a4:63<n
 ·have HR:Hid (jB m p n=(zm,false,5)):=dD<|by unfold jB;exact if_pos (by rw[HN9.out];omega)
  have k1:decide (p<0)=false:=decide_eq_false a1;have k2:decide ((spn:Int)<=p)=false:=decide_eq_false a2;have k3:decide (n<0)=false:=decide_eq_false a3;have k4:decide (63<n)=true:=decide_eq_true a4;clear a1 a2 a3 a4
  go_enter func66,ntmps66
  go_upto_region 1 with fail;rw[HW0.out];have x10:=X0.c 10 rfl
  go_wp2_with (refine zn rfl 50 (.tmp 6) (.tmp 31) rfl (w.heap.size+1) rfl (pgc zm) rfl Y0 rfl zl3 (z6 _) ?_)
  intro WL hbL hgL _;have HGL:Hid (zc w WL):=dD<|ze G0 hgL (by omega)
  go_wp2;refine bodyPost_ret (zG rfl _ rfl hbL underlying50 rfl zl3) rfl ⟨by rw[HR.out];rfl,by rw[HR.out];rfl,HGL⟩
 obtain⟨pp,rfl⟩:∃pp:Nat,p=(pp:Int):=⟨p.toNat,by omega⟩
 obtain⟨nn,rfl⟩:∃nn:Nat,n=(nn:Int):=⟨n.toNat,by omega⟩
 have hpn:pp<spn:=by omega
 have hn64:nn<64:=by omega
 obtain⟨x,hx⟩:∃x,xs[pp]? =some x:=⟨_,gE (by rw[HXL.out];exact hpn)⟩
 obtain⟨s,HS⟩:∃s,Hid (m.sp[pp]? =some s):=⟨_,gE (by rw[HN9.out];exact hpn)⟩
 have HAT:Hid (qr w x s):=HSP.out pp x s hx HS.out;obtain⟨ad,HSA,hl⟩:∃ad,Hid (spa=some ad)/\∀W,zc w W->zc1 W (ad.add (pp*10)) x:=HRW.out pp x hx;have HRT:Hid ((wrL s.ars).1=0/\tbW s.tb=0):=HP.ar s (mG HS);obtain⟨o,HO⟩:∃o,Hid (zN s.ars nn=o):=⟨_,rfl⟩;obtain⟨e,HE⟩:∃e,Hid (zO s nn=e):=⟨_,rfl⟩;have HVR:Hid (jB m (pp:Int) (nn:Int)=if o.is=false then(zm,false,5)else if e.kind=1 then(pgL (qe m e.n).p,decide ((qe m e.n).f<0),0)else if e.kind=2 then(ju m.sb m.sq e.n,true,0)else if o.file<0 then(zm,false,0)else if bkN m o.file<=o.page then(zm,false,9)else(qZ m o.file o.page,false,0)):=show _=_ by
  unfold jB;rw[if_neg (by rw[HN9.out];omega)]
  have hsd:m.sp.getD pp ⟨false,[],[]⟩=s:=by rw[gD,HS.out];rfl
  simp only[tN,hsd,HO.out,HE.out]
 have HON:Hid (∀W,zc w W->Calls prog 41 #[x.ar.x] W fun e w'=>e= .returned (.agg (zy (tab (zN s.ars))).toArray)/\zc W w'):=dD<|fun W hW=>jG _ s.ars W (HAT.ar.grew hW) (jw.1 HRT.1).2.lies
 have HFT:Hid (∀W,zc w W->Calls prog 42 #[.agg #[x.t0.x,x.t1.x,x.t2.x,x.t3.x,x.t4.x,x.t5.x,x.t6.x,x.t7.x]] W fun e w'=>e= .returned (.agg (qk (QT s.tb)).toArray)/\zc W w'):=dD<|fun W hW=>za0 x.tab s.tb W ((HAT.grew hW).tb) (tb8 HRT.2)
 have HZF:Hid ((QT s.tb)[nn]? =some e):=(zbw s.tb hn64).trans (congrArg some HE);have h0:0<=e.n:=by rw[<-HE.out];exact zj9 (zeB HRT.2 nn)
 have HE1:Hid (o.is=true->e.kind=1->e.n< (fn:Int)):=dD<|fun h1 h2=>by
  have h3:Q7 m o e=0:=by
   have:=HENT.out s (mG HS) nn hn64;rw[HE.out,HO.out,if_neg (by omega)]at this
   exact this
  unfold Q7 at h3;rw[if_neg (by rw[h1];decide),if_neg (by omega)]at h3
  have h4:=HN1.out
  split at h3
  ·cases h3
  omega
 have HPG:Hid (o.is=true->0<=o.page/\(o.page<=11\/o.file<0)):=dD<|fun h1=>by rw[<-HO.out]at h1⊢;exact zei (jw.1 HRT.1).2 h1
 have HFI:Hid (o.is=true->o.file< (fln:Int)):=dD<|fun h1=>by
  have h2:=HFS.out s (mG HS) nn hn64 (by rw[HO.out];exact h1)
  rw[HO.out,HN7.out]at h2;exact h2
 have hov:Value.agg (onv (zN s.ars nn)).toArray= .agg #[.bool o.is,.bool o.rd,.bool o.wr,.bool o.sh,I6 o.file,I6 o.page]:=by rw[HO.out];rfl
 have k1:decide ((pp:Int)<0)=false:=decide_eq_false a1;have k2:decide (spn<=pp)=false:=decide_eq_false (by omega)
 have k3:decide ((nn:Int)<0)=false:=decide_eq_false a3;have k4:decide ((63:Int)< (nn:Int))=false:=decide_eq_false a4;have hpz:(pp:Int)< (spn:Int):=by omega
 clear a1 a2 a3 a4 hx
 go_enter func66,ntmps66
 go_upto_region 1 with fail;rw[HW0.out];have x10:=X0.c 10 rfl;rw[HSA.out]at x10;obtain⟨d0,d1,d2,d3,d4,d5,d6,d7,d8,d9⟩:=hl W0 G0.out;have HL:Hid (∀W,zc w W->zc1 W (ad.add (pp*10)) x):=dD<|hl
 clear hl d0 d2 d3 d4 d5 d6 d7 d8 d9;have hc:=HON.out W0 G0.out;go_wp2_with fail;refine hc.mono ?_;clear hc d1 x10 k1 k2 k3 k4;rintro r W1 ⟨rfl,g1⟩;have G1:=dD (G0.trans g1);have X1:=dD (X0.grew g1);have Y1:=dD (Y0.grew g1);clear g1
 go_upto_region 4 with(refine zbr rfl (.tmp 38) (.tmp 39) rfl (zN s.ars) rfl nn rfl hn64 hov ?_)
 obtain⟨po,HPO⟩:∃po,Hid (W1.heap.size=po):=⟨_,rfl⟩;obtain⟨W2,hW2⟩:∃W2,W1.alloc (.cells #[.bool o.is,.bool o.rd,.bool o.wr,.bool o.sh,I6 o.file,I6 o.page] 96)=W2:=⟨_,rfl⟩;have g2:=gP hW2
 have O2:=xP hW2 HPO
 have G2:=dD (G1.trans g2);have X2:=dD (X1.grew g2);have Y2:=dD (Y1.grew g2);rw[hW2,HPO.out];clear hW2 g2 hov;have o0:=O2.c 0 rfl
 cases his:o.is with
 | false=>
  rw[his]at o0;have HR:Hid (jB m (pp:Int) (nn:Int)=(zm,false,5)):=dD<|by rw[HVR.out,if_pos his]
  clear his
  go_wp2_with (refine zn rfl 50 (.tmp 6) (.tmp 44) rfl (w.heap.size+1) rfl (pgc zm) rfl Y2 rfl zl3 (z6 _) ?_)
  intro WL hbL hgL _;have HGL:Hid (zc w WL):=dD<|ze G2 hgL (by omega)
  go_wp2;refine bodyPost_ret (zG rfl _ rfl hbL underlying50 rfl zl3) rfl ⟨by rw[HR.out];rfl,by rw[HR.out];rfl,HGL⟩
 | true=>
 rw[his]at o0;have HVR2:Hid (jB m (pp:Int) (nn:Int)=if e.kind=1 then(pgL (qe m e.n).p,decide ((qe m e.n).f<0),0)else if e.kind=2 then(ju m.sb m.sq e.n,true,0)else if o.file<0 then(zm,false,0)else if bkN m o.file<=o.page then(zm,false,9)else(qZ m o.file o.page,false,0)):=dD<|by rw[HVR.out,if_neg (by rw[his];decide)]
 obtain⟨hpg0,hpg1⟩:=HPG.out his;have hfl0:=HFI.out his;have HE2:Hid (e.kind=1->e.n< (fn:Int)):=dD<|HE1.out his
 clear his;obtain⟨d0,d1,d2,d3,d4,d5,d6,d7,d8,d9⟩:=HL.out W2 G2.out;have x10:=X2.c 10 rfl;rw[HSA.out]at x10;have hc:=HFT.out W2 G2.out;go_wp2_with fail;refine hc.mono ?_;clear hc d0 d1 d2 d3 d4 d5 d6 d7 d8 d9 x10 o0;rintro r W3 ⟨rfl,g3⟩;have G3:=dD (G2.trans g3);have X3:=dD (X2.grew g3);have Y3:=dD (Y2.grew g3);have O3:=dD (O2.grew g3);clear g3
 go_upto_region 7 with(refine zao rfl (.tmp 51) (.tmp 52) rfl (QT s.tb) rfl nn rfl hn64 HZF.out ?_)
 obtain⟨pe,HPE⟩:∃pe,Hid (W3.heap.size=pe):=⟨_,rfl⟩;obtain⟨W4,hW4⟩:∃W4,W3.alloc (.cells #[I6 e.kind,I6 e.n,.bool e.wr] 67)=W4:=⟨_,rfl⟩;have g4:=gP hW4
 have E4:=xP hW4 HPE
 have G4:=dD (G3.trans g4);have X4:=dD (X3.grew g4);have Y4:=dD (Y3.grew g4);have O4:=dD (O3.grew g4);rw[hW4,HPE.out];clear hW4 g4;have e0:=E4.c 0 rfl;have e1:=E4.c 1 rfl
 by_cases h1:e.kind=1
 ·have h1e:(e.kind == 1)=true:=by simp[h1]
  obtain⟨k,hk⟩:∃k:Nat,e.n=(k:Int):=⟨e.n.toNat,by omega⟩
  have hkf:=HE2.out h1;rw[hk]at hkf;obtain⟨q,HQ⟩:∃q,Hid (m.fs[k]? =some q):=⟨_,gE (by rw[HN1.out];omega)⟩
  have HR:Hid (jB m (pp:Int) (nn:Int)=(pgL q.p,decide (q.f<0),0)):=dD<|by rw[HVR2.out,if_pos h1,hk,Zb HQ.out]
  obtain⟨adf,hva,hlf⟩:=HFR.out k q HQ.out;obtain⟨d0,d1,d2,d3,d4,d5,d6,d7,d8,d9,d10,d11,d12⟩:=hlf W4 G4.out;have x0:=X4.c 0 rfl;rw[hva]at x0;rw[hk]at e1;clear hlf hva h1 hk;go_upto_region 9 with fail;obtain⟨pq,HPQ⟩:∃pq,Hid (W4.heap.size=pq):=⟨_,rfl⟩;obtain⟨W5,hW5⟩:∃W5,W4.alloc (.cells #[U8 q.p.b0,U8 q.p.b1,U8 q.p.b2,U8 q.p.b3,U8 q.p.b4,U8 q.p.b5,U8 q.p.b6,U8 q.p.b7,I6 q.r,.bool q.u,.bool q.d,I6 q.f,I6 q.x] 59)=W5:=⟨_,rfl⟩;have g5:=gP hW5
  have Q5:=xP hW5 HPQ
  have G5:=dD (G4.trans g5);have Y5:=dD (Y4.grew g5);have hne:w.heap.size+1≠pq:=by have:=Y4.lt;have h2:=HPQ.out;omega
  have hne2:pq≠w.heap.size+1:=fun h=>hne h.symm
  rw[hW5,HPQ.out];clear hW5 g5 x0 e0 e1 d0 d1 d2 d3 d4 d5 d6 d7 d8 d9 d10 d11 d12;obtain⟨q0,q1,q2,q3,q4,q5,q6,q7⟩:=Q5.c8;have q11:=Q5.c 11 rfl;obtain⟨y0,y1,y2,y3,y4,y5,y6,y7⟩:=Y5.c8;have yf:=Y5.f
  go_region
  all_goals
   obtain⟨W6,hW6⟩:∃W6,(((((((((W5).setCell ⟨w.heap.size+1,0,none⟩ (U8 q.p.b0)).setCell ⟨w.heap.size+1,1,none⟩ (U8 q.p.b1)).setCell ⟨w.heap.size+1,2,none⟩ (U8 q.p.b2)).setCell ⟨w.heap.size+1,3,none⟩ (U8 q.p.b3)).setCell ⟨w.heap.size+1,4,none⟩ (U8 q.p.b4)).setCell ⟨w.heap.size+1,5,none⟩ (U8 q.p.b5)).setCell ⟨w.heap.size+1,6,none⟩ (U8 q.p.b6)).setCell ⟨w.heap.size+1,7,none⟩ (U8 q.p.b7)).drew=W6:=⟨_,rfl⟩;have Y6:Hid (Box W6 (w.heap.size+1) (pgc (pgL q.p))):=dD<|by rw[<-hW6];exact(((((((((Y5).set 0 _).set 1 _).set 2 _).set 3 _).set 4 _).set 5 _).set 6 _).set 7 _).grew (show Below _ _ _ from Below.drew (bR _ _))
   have G6:Hid (zc w W6):=dD<|by rw[<-hW6];exact(zC (zC (zC (zC (zC (zC (zC (zC (G5) (by simp) _) (by simp) _) (by simp) _) (by simp) _) (by simp) _) (by simp) _) (by simp) _) (by simp) _).trans (show Below _ _ _ from Below.drew (bR _ _))
   rw[hW6];clear hW6 yf q0 q1 q2 q3 q4 q5 q6 q7 q11 y0 y1 y2 y3 y4 y5 y6 y7;go_wp2;refine bodyPost_ret (zG rfl _ rfl Y6 underlying50 rfl zl3) rfl ⟨by rw[HR.out];rfl,by rw[HR.out];rfl,G6⟩
 have h1e:(e.kind == 1)=false:=by simp[h1]
 by_cases h2:e.kind=2
 ·have h2e:(e.kind == 2)=true:=by simp[h2]
  have HR:Hid (jB m (pp:Int) (nn:Int)=(ju m.sb m.sq e.n,true,0)):=dD<|by rw[HVR2.out,if_neg h1,if_pos h2]
  have HRN:Hid ((ju m.sb m.sq e.n).length=8):=HRL.out e.n;have x3:=X4.c 3 rfl;have x4:=X4.c 4 rfl;have hc:=HRD.out W4 e.n G4.out;clear h1 h2;go_wp2_with fail;refine hc.mono ?_;clear hc x3 x4 e0 e1;rintro r W5 ⟨rfl,g5⟩;have G5:=dD (G4.trans g5);have Y5:=dD (Y4.grew g5);obtain⟨rl,HRLL⟩:∃rl,Hid (ju m.sb m.sq e.n=rl):=⟨_,rfl⟩;rw[HRLL.out]at HR HRN⊢;obtain⟨p0,p1,p2,p3,p4,p5,p6,p7,rfl⟩:=zdP rl HRN.out;simp only[pgc,mP,List.map_nil];go_upto_region 12 with fail;obtain⟨pl,HPL⟩:∃pl,Hid (W5.heap.size=pl):=⟨_,rfl⟩;obtain⟨W6,hW6⟩:∃W6,W5.alloc (.cells #[U8 p0,U8 p1,U8 p2,U8 p3,U8 p4,U8 p5,U8 p6,U8 p7] 50)=W6:=⟨_,rfl⟩;have g6:=gP hW6
  have P6:=xP hW6 HPL
  have G6:=dD (G5.trans g6);have Y6:=dD (Y5.grew g6);rw[hW6,HPL.out];clear hW6 g6 g5;obtain⟨c0,c1,c2,c3,c4,c5,c6,c7⟩:=P6.c8
  go_wp2_with (refine zn rfl 50 (.tmp 6) (.tmp 80) rfl (w.heap.size+1) rfl (pgc [p0,p1,p2,p3,p4,p5,p6,p7]) rfl Y6 rfl zl3 (z6 _) ?_)
  intro WL hbL hgL _;have HGL:Hid (zc w WL):=dD<|ze G6 hgL (by omega)
  go_wp2;refine bodyPost_ret (zG rfl _ rfl hbL underlying50 rfl zl3) rfl ⟨by rw[HR.out];rfl,by rw[HR.out];rfl,HGL⟩
 have h2e:(e.kind == 2)=false:=by simp[h2]
 have HVR3:Hid (jB m (pp:Int) (nn:Int)=if o.file<0 then(zm,false,0)else if bkN m o.file<=o.page then(zm,false,9)else(qZ m o.file o.page,false,0)):=dD<|by rw[HVR2.out,if_neg h1,if_neg h2]
 clear h1 h2;have o4:=O4.c 4 rfl;have o5:=O4.c 5 rfl
 by_cases h3:o.file<0
 ·have h3d:decide (o.file<0)=true:=decide_eq_true h3;have HR:Hid (jB m (pp:Int) (nn:Int)=(zm,false,0)):=dD<|by rw[HVR3.out,if_pos h3]
  clear h3
  go_wp2_with (refine zn rfl 50 (.tmp 6) (.tmp 84) rfl (w.heap.size+1) rfl (pgc zm) rfl Y4 rfl zl3 (z6 _) ?_)
  intro WL hbL hgL _;have HGL:Hid (zc w WL):=dD<|ze G4 hgL (by omega)
  go_wp2;refine bodyPost_ret (zG rfl _ rfl hbL underlying50 rfl zl3) rfl ⟨by rw[HR.out];rfl,by rw[HR.out];rfl,HGL⟩
 have HVR4:Hid (jB m (pp:Int) (nn:Int)=if bkN m o.file<=o.page then(zm,false,9)else(qZ m o.file o.page,false,0)):=dD<|by rw[HVR3.out,if_neg h3]
 obtain⟨fi,hfi⟩:∃fi:Nat,o.file=(fi:Int):=⟨o.file.toNat,by omega⟩
 obtain⟨pg,hpg⟩:∃pg:Nat,o.page=(pg:Int):=⟨o.page.toNat,by omega⟩
 obtain⟨f,HF⟩:∃f,Hid (m.fl[fi]? =some f):=⟨_,gE (by rw[HN7.out];omega)⟩
 obtain⟨ad7,h7,ba,bc,_,hlf⟩:=HFL.out fi f HF.out;obtain⟨-,f1⟩:=hlf W4 G4.out;obtain⟨bn,HBN⟩:∃bn,Hid (f.bl.length=bn):=⟨_,rfl⟩;rw[HBN.out]at f1;have HBK:Hid (bkN m o.file=(bn:Int)):=dD<|by unfold bkN;rw[hfi,tN,gD,HF.out];simp only[Option.getD_some];rw[HBN.out]
 have x7:=X4.c 7 rfl;rw[h7]at x7;rw[hfi]at o4;rw[hpg]at o5;have h3d:decide ((fi:Int)<0)=false:=decide_eq_false (by omega)
 have hfz:(fi:Int)< (fln:Int):=by omega
 have hpg3:pg<=1000:=by omega
 rw[HBK.out,hfi,hpg]at HVR4;clear h3 hfi hpg hlf h7 hpg0 hpg1 hfl0;go_upto_region 15 with fail
 by_cases h4:bn<=pg
 ·have h4d:decide (bn<=pg)=true:=decide_eq_true h4;have HR:Hid (jB m (pp:Int) (nn:Int)=(zm,false,9)):=dD<|by rw[HVR4.out,if_pos (by omega)]
  clear h4;go_quiet (fail);obtain⟨W5,hW5⟩:∃W5,W4.drewN nq=W5:=⟨_,rfl⟩;have g5:zc W4 W5:=by rw[<-hW5];exact(show Below _ _ _ from bD (bR _ _) _)
  have G5:=dD (G4.trans g5);have Y5:=dD (Y4.grew g5);rw[hW5];clear hW5 g5 x7 f1 o4 o5
  go_wp2_with (refine zn rfl 50 (.tmp 6) (.tmp 97) rfl (w.heap.size+1) rfl (pgc zm) rfl Y5 rfl zl3 (z6 _) ?_)
  intro WL hbL hgL _;have HGL:Hid (zc w WL):=dD<|ze G5 hgL (by omega)
  go_wp2;refine bodyPost_ret (zG rfl _ rfl hbL underlying50 rfl zl3) rfl ⟨by rw[HR.out];rfl,by rw[HR.out];rfl,HGL⟩
 have h4d:decide (bn<=pg)=false:=decide_eq_false h4;obtain⟨bk,HBL⟩:∃bk,Hid (f.bl[pg]? =some bk):=⟨_,gE (by rw[HBN.out];omega)⟩
 have HR0:Hid (jB m (pp:Int) (nn:Int)=(qZ m (fi:Int) (pg:Int),false,0)):=dD<|by rw[HVR4.out,if_neg (by omega)]
 clear h4;go_quiet (fail);obtain⟨W5,hW5⟩:∃W5,W4.drewN nq=W5:=⟨_,rfl⟩;have g5:zc W4 W5:=by rw[<-hW5];exact(show Below _ _ _ from bD (bR _ _) _)
 have G5:=dD (G4.trans g5);have X5:=dD (X4.grew g5);have Y5:=dD (Y4.grew g5);have O5:=dD (O4.grew g5);have o4':W5.cell? ⟨po,4,none⟩=some (I6 (fi:Int)):=by rw[<-hW5];exact o4
 have o5':W5.cell? ⟨po,5,none⟩=some (I6 (pg:Int)):=by rw[<-hW5];exact o5
 rw[hW5];clear hW5 g5 x7 f1 o4 o5;obtain⟨x0,x1,x2,x3,x4,x5,x6,x7,x8,x9,x10⟩:=X5.c11;have hc:=HCO.out W5 fi pg f bk G5 HF HBL hpg3;go_wp2_with fail;refine hc.mono ?_;clear hc;rintro r W6 ⟨rfl,hl8,g6⟩;have G6:=dD (G5.trans g6);have Y6:=dD (Y5.grew g6);obtain⟨rl,HRLL⟩:∃rl,Hid (qZ m (fi:Int) (pg:Int)=rl):=⟨_,rfl⟩;have HR:Hid (jB m (pp:Int) (nn:Int)=(rl,false,0)):=show _=_ by rw[HR0.out,HRLL.out]
 rw[HRLL.out]at hl8⊢;have HL8:Hid (rl.length=8):=hl8;clear g6 hl8 x0 x1 x2 x3 x4 x5 x6 x7 x8 x9 x10 o4' o5';obtain⟨p0,p1,p2,p3,p4,p5,p6,p7,rfl⟩:=zdP rl HL8.out
 go_wp2_with (refine zn rfl 50 (.tmp 6) (.tmp 103) rfl (w.heap.size+1) rfl (pgc [p0,p1,p2,p3,p4,p5,p6,p7]) rfl Y6 rfl zl3 (z6 _) ?_)
 intro WL hbL hgL _;have HGL:Hid (zc w WL):=dD<|ze G6 hgL (by omega)
 go_wp2;refine bodyPost_ret (zG rfl _ rfl hbL underlying50 rfl zl3) rfl ⟨by rw[HR.out];rfl,by rw[HR.out];rfl,HGL⟩
theorem zjV (h:Jf m none m.ca=0) (file idx:Int):qZ m file idx=match j9 m.ca (file,idx)with | some z=>pgL (qe m z).p | none=>za2 m file idx:=by
 cases e:j9 m.ca (file,idx)with
 | some z=>
  obtain⟨c,hc,hk,hz⟩:=zaD e;have hf:=zfM h hc;simp only[pJ]at hk;rw[<-hk.1,<-hk.2]at hf;unfold qZ;rw[hf];simp only;rw[hz]
 | none=>
  have hn:=zaC.1 e;have hf:m.ca.find? (zcm file idx)=none:=by
   rw[List.find?_eq_none];intro c hc hx;simp only[zcm,Bool.and_eq_true,decide_eq_true_eq]at hx;exact hn c hc (by rw[hx.1,hx.2])
  unfold qZ;rw[hf];rfl
theorem zlu (h:Jf m none m.ca=0) {file idx:Int} (e:j9 m.ca (file,idx)=some z):0<=z/\z< (m.fs.length:Int):=by
 obtain⟨c,hc,hk,hz⟩:=zaD e;have:=(zbe ((zZ.1 h).1 c hc)).1;omega
theorem zbd (V:MaV) (m:Ma) (B fi ix:Nat) (f:Fl) (bk:Int) (w:World) (hm:zH w V m) (hca:Jf m none m.ca=0) (hf:m.fl[fi]? =some f) (hbk:f.bl[ix]? =some bk) (hix:ix<=1000) (hsz:0<=f.size/\f.size<=1000) (hmap:j5 plK w B (j9 m.ca)):
  Calls prog 60 #[.agg #[V.f.x,I6 m.hand,V.s.x,V.sb.x,V.sq.x,V.db.x,V.dq.x,V.fl.x,I6 m.cnt,V.ca.x,V.sp.x,.map (some B)],I6 (fi:Int),I6 (ix:Int)] w fun e w'=>e= .returned (.agg (pgc (qZ m fi ix)).toArray)/\(qZ m fi ix).length=8/\zc w w':=by
 have HST:Hid (∀W,zc w W->Calls prog 109 #[.agg (mL V m).toArray,I6 (fi:Int),I6 (ix:Int)] W fun e w'=>e= .returned (.agg (pgc (za2 m fi ix)).toArray)/\(za2 m fi ix).length=8/\zc W w'):=dD<|fun W hW=>zfe V m fi ix f bk W (hm.grew hW) hf hbk hix hsz
 have HFR:Hid (Zu w V.f.a m.fs):=hm.frs;obtain⟨n1,-⟩:=hm.ns;have HCI:Hid (qZ m fi ix=match j9 m.ca ((fi:Int),(ix:Int))with|some z=>pgL (qe m z).p|none=>za2 m fi ix):=zjV hca _ _
 have HIN:Hid (∀z,j9 m.ca ((fi:Int),(ix:Int))=some z->0<=z/\z< (m.fs.length:Int)):=dD<|fun z hz=>zlu hca hz
 obtain⟨⟨fa,fn,fc⟩,vs,vsb,vsq,vdb,vdq,vfl,vca,vsp⟩:=V;dsimp only[mL]at n1 HST HFR⊢;have HN1:Hid (m.fs.length=fn):=n1.symm;obtain⟨W0,hW0⟩:∃W0,(w.alloc (.cells #[.slice fa fn fc,I6 m.hand,vs.x,vsb.x,vsq.x,vdb.x,vdq.x,vfl.x,I6 m.cnt,vca.x,vsp.x,.map (some B)] 117)).alloc (.cells #[U8 0,U8 0,U8 0,U8 0,U8 0,U8 0,U8 0,U8 0] 50)=W0:=⟨_,rfl⟩;have G0:=gD2 hW0
 have X0:=x2a hW0
 have Y0:Hid (Box W0 (w.heap.size+1) (pgc zm)):=dD<|by rw[<-hW0];exact Box.top _ (pgc zm) _ (by simp)
 have hlook:(Instr.lookup 115 (.map (some B)) (.agg #[I6 (fi:Int),I6 (ix:Int)]) true).run prog W0= .ok (.tuple #[I6 ((j9 m.ca ((fi:Int),(ix:Int))).getD 0),.bool (j9 m.ca ((fi:Int),(ix:Int))).isSome]) W0:=(hmap.grew G0).look (K:=plK) underlying115 (zl6 W0) ((fi:Int),(ix:Int)) true;have HW0:Hid (_=W0):=hW0;obtain⟨gv,HGV⟩:∃gv,Hid (j9 m.ca ((fi:Int),(ix:Int))=gv):=⟨_,rfl⟩;rw[HGV.out]at hlook HCI HIN;obtain⟨C,HC⟩:∃C,Hid (qZ m fi ix=C):=⟨_,rfl⟩;rw[HC.out]at HCI⊢;clear hW0 hm hca hf hbk hix hsz hmap n1
 go_enter func60,ntmps60
 go_upto_region 1 with fail;rw[HW0.out];have x11:=X0.c 11 rfl
 cases gv with
 | none=>
  simp only[Option.getD_none,Option.isSome_none]at hlook HCI;have hc:=HST.out W0 G0.out;rw[<-HCI.out]at hc;obtain⟨x0,x1,x2,x3,x4,x5,x6,x7,x8,x9,x10⟩:=X0.c11;go_wp2_with fail;refine hc.mono ?_;clear hc hlook x0 x1 x2 x3 x4 x5 x6 x7 x8 x9 x10 x11;rintro r W1 ⟨rfl,hl8,g1⟩;have G1:=dD (G0.trans g1);have Y1:=dD (Y0.grew g1);clear g1
  go_wp2_with (refine zn rfl 50 (.tmp 6) (.tmp 31) rfl (w.heap.size+1) rfl (pgc C) rfl Y1 (by rw[jU,hl8];rfl) zl3 (z6 _) ?_)
  intro WL hbL hgL _;have HGL:Hid (zc w WL):=dD<|ze G1 hgL (by omega)
  go_wp2;refine bodyPost_ret (zT rfl _ rfl hbL underlying50 rfl (by rw[jU,hl8];exact zl3)) rfl ⟨rfl,hl8,HGL⟩
 | some z=>
  simp only[Option.getD_some,Option.isSome_some]at hlook HCI;obtain⟨z0,z1⟩:=HIN.out z rfl;obtain⟨k,rfl⟩:∃k:Nat,z=(k:Int):=⟨z.toNat,by omega⟩
  rw[HN1.out]at z1;obtain⟨q,HQ⟩:∃q,Hid (m.fs[k]? =some q):=⟨_,gE (by rw[HN1.out];omega)⟩
  rw[Zb HQ.out]at HCI;obtain⟨adf,hva,hl⟩:=HFR.out k q HQ.out;obtain⟨d0,d1,d2,d3,d4,d5,d6,d7,-⟩:=hl W0 G0.out;have x0:=X0.c 0 rfl;rw[hva]at x0;clear hl hva z0
  go_wp2_with (refine zn rfl 50 (.tmp 6) (.tmp 26) rfl (w.heap.size+1) rfl (pgc (pgL q.p)) rfl Y0 rfl zl3 (z6 _) ?_)
  intro WL hbL hgL _;have HGL:Hid (zc w WL):=dD<|ze G0 hgL (by omega)
  go_wp2;refine bodyPost_ret (zT rfl _ rfl hbL underlying50 rfl zl3) rfl ⟨by rw[HCI.out],by rw[HCI.out];rfl,HGL⟩
theorem zko (h:maW m=0):zL m.sb.length m.sq=0:=by
 have h1:=Qt h;unfold Jm at h1;rw[zE]at h1;exact h1 _ (by simp)
theorem zgE {n:Nat} {qs:List (Int × List Int)} {k:Int} (h:zL n qs=0) (h0:0<=k) (h1:k< (n:Int)):zW n qs k=0:=by
 unfold zW;rw[if_pos h];have:jO k n=true:=by
  unfold jO;simp;omega
 rw[this];rfl
theorem zfL (h:maW m=0) {f:Fl} (hf:m.fl[fi]? =some f):(0<=f.size/\f.size<=1000)/\f.bl.length<=12:=by
 have h1:=Qt h;unfold Jm at h1;rw[zE]at h1;have h2:=((jx _ _).1 (h1 (stW m.fl m.cnt) (by simp))).2.1 f (mG hf)
 have h3:=h2.2.1;have h4:=h2.1;unfold Ja at h3
 split at h3 <;> omega
theorem ziI (h:maW m=0):Jf m none m.ca=0:=by
 unfold maW at h;rw[zE]at h;exact h _ (by simp)
theorem zkD {file idx:Int} (h0:0<=file) (h1:0<=idx):zie m.fl file idx=decide (idx<bkN m file):=by
 unfold zie bkN;rw[Bool.eq_iff_iff,Bool.and_eq_true,jY,jY,decide_eq_true_eq];constructor
 ·rintro⟨_,h⟩;exact h.2
 intro h;refine⟨⟨h0,?_⟩,h1,h⟩
 rcases Int.lt_or_le file m.fl.length with h2|h2
 ·exact h2
 rw[gD,gN (by omega)]at h
 simp at h
 omega
theorem zdv (V:MaV) (m:Ma) (B:Nat) (a:Ar) (n:Nat) (e:En) (w:World) (hm:zH w V m) (hw:maW m=0) (ha:jl a) (hin:a.fr<=(n:Int)/\(n:Int)<a.tz) (h1:e.kind=1->0<=e.n/\e.n< (m.fs.length:Int)) (h2:e.kind=2->0<=e.n/\e.n< (m.sb.length:Int)) (hmap:j5 plK w B (j9 m.ca)):
  Calls prog 64 #[.agg #[V.f.x,I6 m.hand,V.s.x,V.sb.x,V.sq.x,V.db.x,V.dq.x,V.fl.x,I6 m.cnt,V.ca.x,V.sp.x,.map (some B)],.agg #[I6 a.fr,I6 a.tz,.bool a.rd,.bool a.wr,.bool a.sh,I6 a.file,I6 a.base],I6 (n:Int),.agg #[I6 e.kind,I6 e.n,.bool e.wr]] w fun r w'=>r= .returned (zbj (zeZ m (qn a n) e))/\(zeZ m (qn a n) e).1.length=8/\zc w w':=by
 have HM:Hid (zH w V m):=hm;have HMP:Hid (j5 plK w B (j9 m.ca)):=hmap;have HFP:Hid (∀W (fi ix:Nat) f bk,zc w W->m.fl[fi]? =some f->f.bl[ix]? =some bk->ix<=1000->Calls prog 60 #[.agg #[V.f.x,I6 m.hand,V.s.x,V.sb.x,V.sq.x,V.db.x,V.dq.x,V.fl.x,I6 m.cnt,V.ca.x,V.sp.x,.map (some B)],I6 (fi:Int),I6 (ix:Int)] W fun e w'=>e= .returned (.agg (pgc (qZ m fi ix)).toArray)/\(qZ m fi ix).length=8/\zc W w'):=show∀W,_ from fun W fi ix f bk hW hf hb hi=>zbd V m B fi ix f bk W (HM.grew hW) (ziI hw) hf hb hi (zfL hw hf).1 (HMP.grew hW)
 have HRD:Hid (∀W k,zc w W->Calls prog 113 #[.agg #[V.sb.x,V.sq.x],I6 k] W fun e w'=>e= .returned (.tuple #[.agg (pgc (ju m.sb m.sq k)).toArray,I6 (zW m.sb.length m.sq k)])/\zc W w'):=dD<|fun W k hW=>zgc _ m.sb m.sq k W ⟨_,_,rfl,(HM.grew hW).sb,(HM.grew hW).sq⟩
 have HHP:Hid (∀W file idx,zc w W->Calls prog 115 #[.agg #[V.fl.x,I6 m.cnt],I6 file,I6 idx] W fun e w'=>e= .returned (.bool (zie m.fl file idx))/\zc W w'):=dD<|fun W file idx hW=>zac _ m.fl m.cnt file idx W (HM.grew hW).fl
 have HRL:Hid (∀k,(ju m.sb m.sq k).length=8):=dD<|fun k=>zcJ hm.sb.2.1 hm.sq.2.1
 have HSW:Hid (zL m.sb.length m.sq=0):=zko hw;have HFR:Hid (Zu w V.f.a m.fs):=hm.frs;have HF12:Hid (∀(fi:Nat) f,m.fl[fi]? =some f->f.bl.length<=12):=show∀fi,_ from fun fi f hf=>(zfL hw hf).2
 have HIX:Hid (∀W,Calls prog 114 #[.agg #[I6 a.fr,I6 a.tz,.bool a.rd,.bool a.wr,.bool a.sh,I6 a.file,I6 a.base],I6 (n:Int)] W fun e w'=>e= .returned (I6 (a.base+(n:Int) - a.fr))/\zc W w'):=dD<|fun W=>zb1 a n W (by unfold jl at ha;omega) (by unfold jl at ha;omega) (by unfold jl at ha;omega)
 obtain⟨n1,-,-,-,-,-,n7,-,-⟩:=hm.ns;have HSE:Hid (zeZ m (qn a n) e=if e.kind=1 then(pgL (qe m e.n).p,decide ((qe m e.n).f<0),0)else if e.kind=2 then(ju m.sb m.sq e.n,true,0)else if a.file<0 then(zm,false,0)else if bkN m a.file<=a.base+(n:Int) - a.fr then(zm,false,9)else(qZ m a.file (a.base+(n:Int) - a.fr),false,0)):=dD<|by
  unfold zeZ qn;rw[if_neg (by simp)]
  by_cases k1:e.kind=1
  ·rw[if_pos k1,if_pos k1]
  rw[if_neg k1,if_neg k1]
  by_cases k2:e.kind=2
  ·rw[if_pos k2,if_pos k2]
  rw[if_neg k2,if_neg k2]
  by_cases k3:a.file<0
  ·rw[if_pos k3,if_pos k3]
  rw[if_neg k3,if_neg k3];have hpage:(if 0<=a.file then a.base+((n:Int) - a.fr)else 0)=a.base+(n:Int) - a.fr:=by rw[if_pos (by omega)];omega
  simp only[hpage]
 obtain⟨R,HRR⟩:∃R,Hid (zeZ m (qn a n) e=R):=⟨_,rfl⟩;rw[HRR.out]at HSE⊢;obtain⟨⟨fa,fn,fc⟩,vs,⟨sba,sbn,sbc⟩,⟨sqa,sqn,sqc⟩,vdb,vdq,⟨fla,fln,flc⟩,vca,vsp⟩:=V;dsimp only[mL]at n1 n7 HFP HRD HHP HFR⊢;have HN1:Hid (m.fs.length=fn):=n1.symm;have HP0:Hid (0<=a.file->0<=a.base+(n:Int) - a.fr/\a.base+(n:Int) - a.fr<=100):=show _->_ from fun _=>by unfold jl at ha;omega
 clear hm hw ha hin hmap n1 n7;obtain⟨W0,hW0⟩:∃W0,(((w.alloc (.cells #[.slice fa fn fc,I6 m.hand,vs.x,.slice sba sbn sbc,.slice sqa sqn sqc,vdb.x,vdq.x,.slice fla fln flc,I6 m.cnt,vca.x,vsp.x,.map (some B)] 117)).alloc (.cells #[I6 a.fr,I6 a.tz,.bool a.rd,.bool a.wr,.bool a.sh,I6 a.file,I6 a.base] 69)).alloc (.cells #[I6 e.kind,I6 e.n,.bool e.wr] 67)).alloc (.cells #[U8 0,U8 0,U8 0,U8 0,U8 0,U8 0,U8 0,U8 0] 50)=W0:=⟨_,rfl⟩;have G0:Hid (zc w W0):=dD<|by rw[<-hW0];exact(((za _ _).trans (za _ _)).trans (za _ _)).trans (za _ _)
 have X0:Hid (Box W0 w.heap.size [.slice fa fn fc,I6 m.hand,vs.x,.slice sba sbn sbc,.slice sqa sqn sqc,vdb.x,vdq.x,.slice fla fln flc,I6 m.cnt,vca.x,vsp.x,.map (some B)]):=dD<|by rw[<-hW0];exact(((Box.top _ _ _ rfl).alloc _).alloc _).alloc _
 have A0:Hid (Box W0 (w.heap.size+1) [I6 a.fr,I6 a.tz,.bool a.rd,.bool a.wr,.bool a.sh,I6 a.file,I6 a.base]):=dD<|by rw[<-hW0];exact((Box.top _ _ _ (by simp)).alloc _).alloc _
 have E0:Hid (Box W0 (w.heap.size+1+1) [I6 e.kind,I6 e.n,.bool e.wr]):=dD<|by rw[<-hW0];exact(Box.top _ _ _ (by simp)).alloc _
 have Y0:Hid (Box W0 (w.heap.size+1+1+1) (pgc zm)):=dD<|by rw[<-hW0];exact Box.top _ (pgc zm) _ (by simp)
 have HW0:Hid (_=W0):=hW0;clear hW0
 go_enter func64,ntmps64
 go_upto_region 1 with fail;rw[HW0.out];have e0:=E0.c 0 rfl;have e1:=E0.c 1 rfl
 by_cases k1:e.kind=1
 ·have k1e:(e.kind == 1)=true:=by simp[k1]
  obtain⟨z0,z1⟩:=h1 k1;obtain⟨k,hk⟩:∃k:Nat,e.n=(k:Int):=⟨e.n.toNat,by omega⟩
  rw[hk]at z1 z0;rw[HN1.out]at z1;obtain⟨q,HQ⟩:∃q,Hid (m.fs[k]? =some q):=⟨_,gE (by have:=HN1.out;omega)⟩
  have HR:Hid (R=(pgL q.p,decide (q.f<0),0)):=dD<|by rw[HSE.out,if_pos k1,hk,Zb HQ.out]
  obtain⟨adf,hva,hlf⟩:=HFR.out k q HQ.out;obtain⟨d0,d1,d2,d3,d4,d5,d6,d7,d8,d9,d10,d11,d12⟩:=hlf W0 G0.out;have x0:=X0.c 0 rfl;rw[hva]at x0;rw[hk]at e1;clear hlf hva k1 hk h1 h2 z0;go_upto_region 4 with fail;obtain⟨pq,HPQ⟩:∃pq,Hid (W0.heap.size=pq):=⟨_,rfl⟩;obtain⟨W5,hW5⟩:∃W5,W0.alloc (.cells #[U8 q.p.b0,U8 q.p.b1,U8 q.p.b2,U8 q.p.b3,U8 q.p.b4,U8 q.p.b5,U8 q.p.b6,U8 q.p.b7,I6 q.r,.bool q.u,.bool q.d,I6 q.f,I6 q.x] 59)=W5:=⟨_,rfl⟩;have g5:=gP hW5
  have Q5:=xP hW5 HPQ
  have G5:=dD (G0.trans g5);have Y5:=dD (Y0.grew g5);have hne:w.heap.size+1+1+1≠pq:=by have:=Y0.lt;have h2:=HPQ.out;omega
  have hne2:pq≠w.heap.size+1+1+1:=fun h=>hne h.symm
  rw[hW5,HPQ.out];clear hW5 g5 x0 e0 e1 d0 d1 d2 d3 d4 d5 d6 d7 d8 d9 d10 d11 d12;obtain⟨I,HI⟩:∃I:World->Prop,Hid (∀u,I u↔(zc w u/\Box u pq [U8 q.p.b0,U8 q.p.b1,U8 q.p.b2,U8 q.p.b3,U8 q.p.b4,U8 q.p.b5,U8 q.p.b6,U8 q.p.b7,I6 q.r,.bool q.u,.bool q.d,I6 q.f,I6 q.x]/\∃cs,Box u (w.heap.size+1+1+1) cs/\cs.length=8)):=⟨fun u=>(zc w u/\Box u pq [U8 q.p.b0,U8 q.p.b1,U8 q.p.b2,U8 q.p.b3,U8 q.p.b4,U8 q.p.b5,U8 q.p.b6,U8 q.p.b7,I6 q.r,.bool q.u,.bool q.d,I6 q.f,I6 q.x]/\∃cs,Box u (w.heap.size+1+1+1) cs/\cs.length=8),fun _=>Iff.rfl⟩
  have gd:zc W5 W5.drew:=(gW _)
  have hI0:I W5.drew:=(HI _).2 ⟨G5.trans gd,Q5.grew gd,_,Y5.grew gd,rfl⟩;have hq0:∀y:zk I,y.world.cell? ⟨pq,0,none⟩=some (U8 q.p.b0):=fun y=>((HI _).1 y.holds).2.1.c 0 rfl
  have hq1:∀y:zk I,y.world.cell? ⟨pq,1,none⟩=some (U8 q.p.b1):=fun y=>((HI _).1 y.holds).2.1.c 1 rfl
  have hq2:∀y:zk I,y.world.cell? ⟨pq,2,none⟩=some (U8 q.p.b2):=fun y=>((HI _).1 y.holds).2.1.c 2 rfl
  have hq3:∀y:zk I,y.world.cell? ⟨pq,3,none⟩=some (U8 q.p.b3):=fun y=>((HI _).1 y.holds).2.1.c 3 rfl
  have hq4:∀y:zk I,y.world.cell? ⟨pq,4,none⟩=some (U8 q.p.b4):=fun y=>((HI _).1 y.holds).2.1.c 4 rfl
  have hq5:∀y:zk I,y.world.cell? ⟨pq,5,none⟩=some (U8 q.p.b5):=fun y=>((HI _).1 y.holds).2.1.c 5 rfl
  have hq6:∀y:zk I,y.world.cell? ⟨pq,6,none⟩=some (U8 q.p.b6):=fun y=>((HI _).1 y.holds).2.1.c 6 rfl
  have hq7:∀y:zk I,y.world.cell? ⟨pq,7,none⟩=some (U8 q.p.b7):=fun y=>((HI _).1 y.holds).2.1.c 7 rfl
  have hq11:∀y:zk I,y.world.cell? ⟨pq,11,none⟩=some (I6 q.f):=fun y=>((HI _).1 y.holds).2.1.c 11 rfl
  have hne3:Nonempty (zk I):=⟨⟨_,hI0⟩⟩;refine qa (I:=I) 8 [(5,⟨fun _=>True,fun _ u=>Box u (w.heap.size+1+1+1) (pgc (pgL q.p)),fun p r=>True,fun _=>True⟩)] hI0 qu (by kernel_rfl) rfl rfl (by decide) ?hS ?hp ?hpre ?hpr0 ?_
  case hS=>
   intro x hx;simp only[mC,nM,or_false]at hx;subst hx;exact⟨.bool true,trivial⟩
  case hp=>
   intro k s j t hk hj hjk hanc v p q hst hpo;have hk':=zt hk;have hj':=zt hj;simp only[mC,pJ,nM,or_false]at hk' hj';exact absurd (hj'.1.trans hk'.1.symm) hjk
  case hpre=>
   intro j t k s hj hk hjk p q hst hpr;have hj':=zt hj;simp only[mC,pJ,nM,or_false]at hj';obtain⟨rfl,rfl⟩:=hj';trivial
  case hpr0=>
   intro k t hk;have hk':=zt hk;simp only[mC,pJ,nM,or_false]at hk';obtain⟨rfl,rfl⟩:=hk';trivial
  simp only[List.take,List.drop];iterate 5 (refine zh rfl rfl rfl (fun K hK=>?_);go_big_quiet_op;refine hK _ ?_;clear hK)
  refine zz rfl rfl (fun w' hI' hpr hF=>?_) (fun v1 hv=>?_)
  ·obtain⟨i1,i2,cs,i3,i4⟩:=(HI _).1 hI';refine zP.storeAll 50 (.tmp 8) (.tmp 28) rfl (w.heap.size+1+1+1) rfl (pgc (pgL q.p)) rfl i3 (by rw[i4];rfl) (by rw[i4];exact zl3) (z6 _) fun w'' b1 b2 b3=>?_
   exact⟨(HI _).2 ⟨ze i1 b2 (by omega),i2.grown b2 hne2,_,b1,rfl⟩,trivial,trivial,b1⟩
  simp only[Act.put];iterate 2 (refine zh rfl rfl rfl (fun K hK=>?_);go_big_quiet_op;refine hK _ ?_;clear hK)
  refine jc fun W6 hI6 hF=>?_
  have Y6:Hid (Box W6 (w.heap.size+1+1+1) (pgc (pgL q.p))):=hF 5;have G6:Hid (zc w W6):=((HI _).1 hI6).1;clear hF hI6 hI0 hne3 hq0 hq1 hq2 hq3 hq4 hq5 hq6 hq7 hq11;go_wp2;refine bodyPost_ret (zG rfl _ rfl Y6 underlying50 rfl zl3) rfl ⟨by rw[HR.out];rfl,by rw[HR.out];rfl,G6⟩
 have k1e:(e.kind == 1)=false:=by simp[k1]
 rw[if_neg k1]at HSE
 by_cases k2:e.kind=2
 ·have k2e:(e.kind == 2)=true:=by simp[k2]
  rw[if_pos k2]at HSE;obtain⟨z0,z1⟩:=h2 k2;have HWA:Hid (zW m.sb.length m.sq e.n=0):=zgE HSW z0 z1;have hc:=HRD.out W0 e.n G0.out;rw[HWA.out]at hc;obtain⟨p,HP⟩:∃p,Hid (ju m.sb m.sq e.n=p):=⟨_,rfl⟩;have HL8:Hid (p.length=8):=show _=_ by rw[<-HP.out];exact HRL _
  rw[HP.out]at HSE hc;obtain⟨p0,p1,p2,p3,p4,p5,p6,p7,rfl⟩:=zdP p HL8.out;have x3:=X0.c 3 rfl;have x4:=X0.c 4 rfl;clear k1 k2 z0 z1 h1 h2;go_wp2_with fail;refine hc.mono ?_;clear hc x3 x4 e0 e1;rintro r W1 ⟨rfl,g1⟩;have G1:=dD (G0.trans g1);have Y1:=dD (Y0.grew g1);simp only[pgc,mP,List.map_nil];go_upto_region 7 with fail;obtain⟨pl,HPL⟩:∃pl,Hid (W1.heap.size=pl):=⟨_,rfl⟩;obtain⟨W2,hW2⟩:∃W2,W1.alloc (.cells #[U8 p0,U8 p1,U8 p2,U8 p3,U8 p4,U8 p5,U8 p6,U8 p7] 50)=W2:=⟨_,rfl⟩;have g2:=gP hW2
  have P2:=xP hW2 HPL
  have G2:=dD (G1.trans g2);have Y2:=dD (Y1.grew g2);rw[hW2,HPL.out];clear hW2 g2 g1;have HR:=HSE;obtain⟨c0,c1,c2,c3,c4,c5,c6,c7⟩:=P2.c8
  go_wp2_with (refine zn rfl 50 (.tmp 8) (.tmp 43) rfl (w.heap.size+1+1+1) rfl (pgc [p0,p1,p2,p3,p4,p5,p6,p7]) rfl Y2 rfl zl3 (z6 _) ?_)
  intro WL hbL hgL _;have HGL:Hid (zc w WL):=dD<|ze G2 hgL (by omega)
  go_wp2;refine bodyPost_ret (zG rfl _ rfl hbL underlying50 rfl zl3) rfl ⟨by rw[HR.out];rfl,by rw[HR.out];rfl,HGL⟩
 have k2e:(e.kind == 2)=false:=by simp[k2]
 rw[if_neg k2]at HSE;clear k1 k2 h1 h2;have a5:=A0.c 5 rfl
 by_cases k3:a.file<0
 ·have k3d:decide (a.file<0)=true:=decide_eq_true k3;rw[if_pos k3]at HSE;have HR:=HSE;clear k3
  go_wp2_with (refine zn rfl 50 (.tmp 8) (.tmp 48) rfl (w.heap.size+1+1+1) rfl (pgc zm) rfl Y0 rfl zl3 (z6 _) ?_)
  intro WL hbL hgL _;have HGL:Hid (zc w WL):=dD<|ze G0 hgL (by omega)
  go_wp2;refine bodyPost_ret (zG rfl _ rfl hbL underlying50 rfl zl3) rfl ⟨by rw[HR.out];rfl,by rw[HR.out];rfl,HGL⟩
 have k3d:decide (a.file<0)=false:=decide_eq_false k3;rw[if_neg k3]at HSE;obtain⟨z0,z1⟩:=HP0.out (by omega)
 obtain⟨fi,hfi⟩:∃fi:Nat,a.file=(fi:Int):=⟨a.file.toNat,by omega⟩
 obtain⟨ix,hix⟩:∃ix:Nat,a.base+(n:Int) - a.fr=(ix:Int):=⟨(a.base+(n:Int) - a.fr).toNat,by omega⟩
 have hc:=HIX.out W0;rw[hix]at hc z0 z1;rw[hix,hfi]at HSE;have HFI:Hid (a.file=(fi:Int)):=hfi;clear hfi hix;have a0:=A0.c 0 rfl;have a1:=A0.c 1 rfl;have a2:=A0.c 2 rfl;have a3:=A0.c 3 rfl;have a4:=A0.c 4 rfl;have a6:=A0.c 6 rfl;go_wp2_with fail;refine hc.mono ?_;clear hc a0 a1 a2 a3 a4 a5 a6 e0 e1 k3d k1e k2e;rintro r W1 ⟨rfl,g1⟩;have G1:=dD (G0.trans g1);have X1:=dD (X0.grew g1);have A1:=dD (A0.grew g1);have Y1:=dD (Y0.grew g1);clear g1;have hc:=HHP.out W1 (fi:Int) (ix:Int) G1.out;rw[zkD (by omega) (by omega)]at hc
 have a5:=A1.c 5 rfl;rw[HFI.out]at a5;have x7:=X1.c 7 rfl;have x8:=X1.c 8 rfl;go_wp2_with fail;refine hc.mono ?_;clear hc a5 x7 x8;rintro r W2 ⟨rfl,g2⟩;have G2:=dD (G1.trans g2);have X2:=dD (X1.grew g2);have A2:=dD (A1.grew g2);have Y2:=dD (Y1.grew g2);clear g2
 by_cases k4:bkN m (fi:Int)<=(ix:Int)
 ·rw[if_pos k4]at HSE;rw[decide_eq_false (by omega:¬(ix:Int)<bkN m (fi:Int))]
  have HR:=HSE;clear k4
  go_wp2_with (refine zn rfl 50 (.tmp 8) (.tmp 60) rfl (w.heap.size+1+1+1) rfl (pgc zm) rfl Y2 rfl zl3 (z6 _) ?_)
  intro WL hbL hgL _;have HGL:Hid (zc w WL):=dD<|ze G2 hgL (by omega)
  go_wp2;refine bodyPost_ret (zG rfl _ rfl hbL underlying50 rfl zl3) rfl ⟨by rw[HR.out];rfl,by rw[HR.out];rfl,HGL⟩
 rw[if_neg k4]at HSE;rw[decide_eq_true (by omega:(ix:Int)<bkN m (fi:Int))]
 obtain⟨f,hf⟩:∃f,m.fl[fi]? =some f:=by
  cases hq:m.fl[fi]? with
  | some f=>exact⟨f,rfl⟩
  | none=>
   exfalso;unfold bkN at k4;rw[tN,gD,hq]at k4
   simp at k4
 obtain⟨bk,hbk⟩:∃bk,f.bl[ix]? =some bk:=⟨_,gE (by
  unfold bkN at k4;rw[tN,gD,hf]at k4;simp only[Option.getD_some]at k4
  omega)⟩
 have hc:=HFP.out W2 fi ix f bk G2 hf hbk (by omega)
 clear hf hbk k4;have a5:=A2.c 5 rfl;rw[HFI.out]at a5;obtain⟨x0,x1,x2,x3,x4,x5,x6,x7,x8,x9,x10,x11⟩:=X2.c12;go_wp2_with fail;refine hc.mono ?_;clear hc a5 x0 x1 x2 x3 x4 x5 x6 x7 x8 x9 x10 x11;rintro r W3 ⟨rfl,hl8,g3⟩;have G3:=dD (G2.trans g3);have Y3:=dD (Y2.grew g3);clear g3;obtain⟨p,HP⟩:∃p,Hid (qZ m (fi:Int) (ix:Int)=p):=⟨_,rfl⟩;rw[HP.out]at HSE hl8⊢;obtain⟨p0,p1,p2,p3,p4,p5,p6,p7,rfl⟩:=zdP p hl8;have HR:=HSE;clear hl8;simp only[pgc,mP,List.map_nil]
 go_wp2_with (refine zn rfl 50 (.tmp 8) (.tmp 65) rfl (w.heap.size+1+1+1) rfl (pgc [p0,p1,p2,p3,p4,p5,p6,p7]) rfl Y3 rfl zl3 (z6 _) ?_)
 intro WL hbL hgL _;have HGL:Hid (zc w WL):=dD<|ze G3 hgL (by omega)
 go_wp2;refine bodyPost_ret (zG rfl _ rfl hbL underlying50 rfl zl3) rfl ⟨by rw[HR.out];rfl,by rw[HR.out];rfl,HGL⟩
end
end Go.Proofs.YtangilolcekceaaGreat
