import Derived.Test.YtdgccecjbpgmfaaGreatPC7
import Derived.Deep.DeepCutAuto
import Derived.Laws.StructEq
import Derived.BigQuiet
import Derived.WalkSmall
import Derived.Laws.BytesArg
namespace Go.Proofs.YtdgccecjbpgmfaaGreat
set_option maxRecDepth 100000
set_option maxHeartbeats 4000000
section
open Go.RowKit
def bov (b:Bool):List Value:=[.bool b]
theorem zlz:(Tryz.prog.info? 4).map (fun i=>(i.zero,i.size,i.bytes))=some (some (.bool false),1,1):=by kernel_rfl
def boE:Elt Bool where
 enc:=bov
 k:=1
 ty:=4
 st:=141
 bytes:=1
 zv:= .bool false
 zero:=false
 len:=fun _=>rfl
 one:=fun a u hu=>by
  simp only[bov,mC,nM,or_false]at hu;subst hu;rfl
 und:=Tryz.underlying141
 info:=zlz
 zok:=rfl
 few:=by decide
 pos:=by decide
def QU (n:Nat) (g:List Int):List Bool:=(List.range n).map fun(i:Nat)=>g.contains (i:Int)
theorem zak {n:Nat} (g:List Int) {i:Nat} (hi:i<n):(QU n g)[i]? =some (g.contains (i:Int)):=by
 unfold QU;rw[List.getElem?_map,List.getElem?_range hi];rfl
theorem zaj (n:Nat) (g:List Int):(QU n g).length=n:=by simp[QU]
theorem zhu {n:Nat} (g:List Int) {i:Nat} (hi:i<n):(QU n g).set i true=QU n ((i:Int) :: g):=by
 apply List.ext_getElem?
 intro j
 by_cases e:j=i
 ·subst e;rw[sF (by rw[zaj];exact hi),zak _ hi]
  simp
 rw[sN (fun h=>e h.symm)]
 rcases Nat.lt_or_ge j n with hj | hj
 ·rw[zak _ hj,zak _ hj];have:¬((j:Int)=(i:Int)):=by omega
  simp[this]
 rw[gN (by rw[zaj];exact hj),gN (by rw[zaj];exact hj)]
theorem zhv (n:Nat):QU n []=List.replicate n false:=by
 unfold QU
 simp[List.map_const']
theorem zb8 (v:Value) (fs:List Fl) (cnt:Int) (w:World) (hv:qN w v fs):
  Calls Tryz.prog 96 #[.agg #[v,.int .i64 cnt]] w fun e w'=>e= .returned (.int .i64 (stW fs cnt))/\zc w w':=by
 obtain⟨a,c,rfl,hbig,hrow⟩:=hv.rows;have HR:Hid (Zb w a fs):=hrow;have HD:Hid (stW fs cnt=if fs.length<=5/\0<=cnt/\cnt<=80 then zba cnt [] fs else 4):=rfl;clear hrow hv
 generalize stW fs cnt=Z at HD⊢
 obtain⟨n,HN⟩:∃n,Hid (fs.length=n):=⟨_,rfl⟩;rw[HN.out]at hbig HD⊢;obtain⟨W0,hW0⟩:∃W0,w.alloc (.cells #[.slice a n c,.int .i64 cnt] 37)=W0:=⟨_,rfl⟩;have HG0:=gA hW0
 have X0:=xA hW0
 have HW0:Hid (_=W0):=hW0;clear hW0
 by_cases h5:n<=5
 ·have h5z:¬(5:Int)< (n:Int):=by omega
  have h5d:decide ((5:Int)< (n:Int))=false:=decide_eq_false h5z;have h5e:decide (5<n)=false:=decide_eq_false (by omega)
  by_cases hc:0<=cnt/\cnt<=80
  ·rw[if_pos ⟨h5,hc⟩]at HD;obtain⟨m,rfl⟩:∃m:Nat,cnt=(m:Int):=⟨cnt.toNat,by omega⟩
   have hm80:m<=80:=by omega
   have hc0:¬(m:Int)<0:=by omega
   have hc0d:decide ((m:Int)<0)=false:=decide_eq_false hc0;have hc8:¬(80:Int)< (m:Int):=by omega
   have hc8d:decide ((80:Int)< (m:Int))=false:=decide_eq_false hc8;clear hc
   go_enter Tryz.func96,Tryz.ntmps96
   go_upto_region 3 with fail;rw[HW0.out];have x0:=X0.out.c 0 rfl;have x1:=X0.out.c 1 rfl
   go_wp2_with (refine QZ boE rfl (.tmp 23) rfl m rfl (by show m*1<=_;omega) ?_)
   intro C ow;rw[show List.replicate m boE.zero=QU m []from(zhv m).symm]at ow
   show wpList _ _ _ _ _ (W0.alloc (.cells C 4))
   obtain⟨W1,hW1⟩:∃W1,W0.alloc (.cells C 4)=W1:=⟨_,rfl⟩;have ow':zb boE W0.heap.size (W0.alloc (.cells C 4)) (.slice (some ⟨W0.heap.size,0,none⟩) m m) (QU m []):=ow;have G01:=gA hW1
   rw[hW1]at ow'⊢;obtain⟨gh,HGH⟩:∃gh,Hid (W0.heap.size=gh):=⟨_,rfl⟩;have O1:Hid (zb boE W0.heap.size W1 (.slice (some ⟨gh,0,none⟩) m m) (QU m [])):=show zb _ _ _ _ _ by rw[<-HGH.out];exact ow'
   rw[HGH.out];clear hW1 ow ow' x0 x1;have x0:=(X0.out.grew G01.out).c 0 rfl;have x1:=(X0.out.grew G01.out).c 1 rfl;go_wp2
   go_loopg [28] n (fun gg s28 wr=>∃kk:Nat,kk<=n/\n - kk<=gg/\s28= .int .i64 kk/\Hid (zc W0 wr)/\Hid (zb boE W0.heap.size wr (.slice (some ⟨gh,0,none⟩) m m) (QU m (zaR [] (fs.take kk))))/\Hid (zba (m:Int) (zaR [] (fs.take kk)) (fs.drop kk)=zba (m:Int) [] fs))
   case atStart=>exact⟨0,nZ _,by omega,rfl,G01.out,O1.out,rfl⟩
   obtain⟨kk,hkk,hgg,rfl,BW,OW,AW⟩:=hrel;clear x0 x1 O1
   by_cases hlt:kk<n
   ·have hltz:(kk:Int)< (n:Int):=by omega
    obtain⟨q,HQ⟩:∃q,Hid (fs[kk]? =some q):=⟨_,gE (by rw[HN.out];exact hlt)⟩
    obtain⟨ad,rfl,xa,xc,hra,hl⟩:=HR.out kk q HQ.out;obtain⟨d0,d1⟩:=hl wr (HG0.out.trans BW.out);have hnbig:=hra.short;obtain⟨_,_,heq,hnum⟩:=hra.nums;cases heq;have HNUM:Hid (zaM w xa q.bl):=hnum;obtain⟨nb,HNB⟩:∃nb,Hid (q.bl.length=nb):=⟨_,rfl⟩;rw[HNB.out]at d1 hnbig;clear hl hra hnum;have HST:Hid (zba (m:Int) (zaR [] (fs.take kk)) (fs.drop kk)=if flW (m:Int) (zaR [] (fs.take kk)) q=0 then zba (m:Int) (zaR [] (fs.take (kk+1))) (fs.drop (kk+1))else flW (m:Int) (zaR [] (fs.take kk)) q):=show _=_ by
     rw[qJ HQ.out,Jv HQ.out,zaq];rfl
    have HGK:Hid (zaR [] (fs.take (kk+1))=blG (zaR [] (fs.take kk)) q.bl):=show _=_ by rw[Jv HQ.out,zaq]
    have HFD:Hid (flW (m:Int) (zaR [] (fs.take kk)) q=if 0<=q.size/\q.size<=96 then(if(q.bl.length:Int)=JG q.size then blW (m:Int) (zaR [] (fs.take kk)) q.bl else 2)else 3):=rfl;obtain⟨g0,HG⟩:∃g0,Hid (zaR [] (fs.take kk)=g0):=⟨_,rfl⟩;rw[HG.out]at HST HGK HFD OW;have bad:∀z:Int,z≠0->flW (m:Int) g0 q=z->Z=z:=fun z hz h=>by
     have h1:=AW.out;rw[HG.out,HST.out,h,if_neg hz]at h1;rw[HD.out,<-h1]
    obtain⟨W2,hW2⟩:∃W2,wr.alloc (.cells #[.int .i64 q.size,.slice xa nb xc] 88)=W2:=⟨_,rfl⟩;have G2:=gT hW2 BW
    have P2:=xA hW2
    have O2:Hid (zb boE W0.heap.size W2 (.slice (some ⟨gh,0,none⟩) m m) (QU m g0)):=show zb _ _ _ _ _ by rw[<-hW2];exact OW.out.grew (za _ _)
    have HW2:Hid (_=W2):=hW2;clear hW2
    by_cases hs0:q.size<0
    ·have HF:Hid (Z=3):=bad 3 (by decide) (by rw[HFD.out,if_neg (by omega)])
     have GE:=dD (HG0.out.trans G2.out);clear bad;go_wp2;rw[HW2.out];go_ret;exact⟨by rw[HF.out];rfl,GE.out⟩
    have hs0d:decide (q.size<0)=false:=decide_eq_false hs0
    by_cases hs1:96<q.size
    ·have HF:Hid (Z=3):=bad 3 (by decide) (by rw[HFD.out,if_neg (by omega)])
     have GE:=dD (HG0.out.trans G2.out);clear bad;go_wp2;rw[HW2.out];go_ret;exact⟨by rw[HF.out];rfl,GE.out⟩
    have hs1d:decide (96<q.size)=false:=decide_eq_false hs1;have hcn:=fun W=>zaO q.size W (by omega) (by omega)
    by_cases hcp:(nb:Int)=JG q.size
    ·rw[<-hcp]at hcn;have hnn:((nb:Int) !=(nb:Int))=false:=by simp
     have HFB:Hid (flW (m:Int) g0 q=blW (m:Int) g0 q.bl):=show _=_ by rw[HFD.out,if_pos (by omega),HNB.out,if_pos hcp]
     clear hcp;have p0:=P2.out.c 0 rfl;have p1:=P2.out.c 1 rfl;go_upto_region 9 with fail;rw[HW2.out]
     go_quiet (first | (go_at_call 44;exact Calls.quiet_of_same (hcn _)))
     obtain⟨W3,hW3⟩:∃W3,W2.drewN nq=W3:=⟨_,rfl⟩;have G23:Hid (zc W2 W3):=show zc _ _ by rw[<-hW3];exact(show Below _ _ _ from bD (bR _ _) _)
     rw[hW3];clear hW3 p0 p1 hcn d0 d1;have p0:=(P2.out.grew G23.out).c 0 rfl;have p1:=(P2.out.grew G23.out).c 1 rfl;go_wp2
     go_loopg [50] nb (fun g2 s50 wr2=>∃k2:Nat,k2<=nb/\nb - k2<=g2/\s50= .int .i64 k2/\Hid (zc W0 wr2)/\Hid (zb boE W0.heap.size wr2 (.slice (some ⟨gh,0,none⟩) m m) (QU m (blG g0 (q.bl.take k2))))/\Hid (blW (m:Int) (blG g0 (q.bl.take k2)) (q.bl.drop k2)=blW (m:Int) g0 q.bl))
     case atStart=>exact⟨0,nZ _,by omega,rfl,G2.out.trans G23.out,O2.out.grew G23.out,rfl⟩
     obtain⟨k2,hk2,hg2,rfl,BW2,OW2,AW2⟩:=hrel;clear p0 p1;have x1:=(X0.out.grew BW2.out).c 1 rfl;have GE:=dD (HG0.out.trans BW2.out)
     by_cases hlt2:k2<nb
     ·have hltz2:(k2:Int)< (nb:Int):=by omega
      obtain⟨b,HB⟩:∃b,Hid (q.bl[k2]? =some b):=⟨_,gE (by rw[HNB.out];exact hlt2)⟩
      obtain⟨ay,rfl,hly⟩:=HNUM.out k2 b HB.out;have d2:=hly _ GE.out;have HS2:Hid (blW (m:Int) (blG g0 (q.bl.take k2)) (q.bl.drop k2)=if ZE (m:Int) (blG g0 (q.bl.take k2)) b=0 then blW (m:Int) (blG g0 (q.bl.take (k2+1))) (q.bl.drop (k2+1))else ZE (m:Int) (blG g0 (q.bl.take k2)) b):=show _=_ by
       rw[qJ HB.out,qa HB.out,zbc];rfl
      have HGB:Hid (blG g0 (q.bl.take (k2+1))=QV (blG g0 (q.bl.take k2)) b):=show _=_ by rw[qa HB.out,zbc]
      clear hly;obtain⟨g1,HG1⟩:∃g1,Hid (blG g0 (q.bl.take k2)=g1):=⟨_,rfl⟩;rw[HG1.out]at HS2 HGB OW2;have bad2:∀z:Int,z≠0->ZE (m:Int) g1 b=z->Z=z:=fun z hz h=>bad z hz (by
       have h1:=AW2.out;rw[HG1.out,HS2.out,h,if_neg hz]at h1;rw[HFB.out,<-h1])
      have good2:ZE (m:Int) g1 b=0->blW (m:Int) (blG g0 (q.bl.take (k2+1))) (q.bl.drop (k2+1))=blW (m:Int) g0 q.bl:=fun h=>by
       rw[<-AW2.out,HG1.out,HS2.out,if_pos h]
      rcases QG (m:Int) g1 b with⟨h1,h2,h3⟩ | ⟨h1,h2,h3⟩ | ⟨i,h1,h2,h3,h4⟩ | ⟨i,h1,h2,h3,h4,h5⟩
      ·subst h1;have HA:Hid (blW (m:Int) (blG g0 (q.bl.take (k2+1))) (q.bl.drop (k2+1))=blW (m:Int) g0 q.bl):=good2 h2;have HO:Hid (zb boE W0.heap.size _ (.slice (some ⟨gh,0,none⟩) m m) (QU m (blG g0 (q.bl.take (k2+1))))):=show zb _ _ _ _ _ by rw[HGB.out,h3];exact OW2.out
       have hmz:¬(m:Int)<=-1:=by omega
       have hmd:decide ((m:Int)<=-1)=false:=decide_eq_false hmz;clear bad bad2 good2 h2 h3;go_wp2
       go_roundg (nb -(k2+1))
       case measure=>omega
       exact⟨k2+1,by omega,by omega,by go_num,BW2.out,HO.out,HA.out⟩
      ·have HF:Hid (Z=3):=bad2 3 (by decide) h3
       clear bad bad2 good2 h3
       by_cases hb1:b< -1
       ·go_wp2;go_ret;exact⟨by rw[HF.out];rfl,GE.out⟩
       have hb1d:decide (b< -1)=false:=decide_eq_false hb1;have hb2:(m:Int)<=b:=by omega
       clear h2;go_wp2;go_ret;exact⟨by rw[HF.out];rfl,GE.out⟩
      ·subst h1;have HF:Hid (Z=7):=bad2 7 (by decide) h4
       have him:i<m:=by omega
       have hb1:¬(i:Int)< -1:=by omega
       have hb1d:decide ((i:Int)< -1)=false:=decide_eq_false hb1;have hb2:¬(m:Int)<=(i:Int):=by omega
       have hb2d:decide ((m:Int)<=(i:Int))=false:=decide_eq_false hb2;have hb2e:decide (m<=i)=false:=decide_eq_false (by omega)
       have hb3:¬(i:Int)<0:=by omega
       have d3:wr.cell? ⟨gh,i,none⟩=some (.bool true):=by
        have:=OW2.out.one (zak g1 him) 0 _ rfl;rw[zP,Addr.add_lit,zA,h3]at this
        simpa [boE]using this
       clear bad bad2 good2 h3 h4;go_wp2;go_ret;exact⟨by rw[HF.out];rfl,GE.out⟩
      subst h1;have HA:Hid (blW (m:Int) (blG g0 (q.bl.take (k2+1))) (q.bl.drop (k2+1))=blW (m:Int) g0 q.bl):=good2 h4;have him:i<m:=by omega
      have hb1:¬(i:Int)< -1:=by omega
      have hb1d:decide ((i:Int)< -1)=false:=decide_eq_false hb1;have hb2:¬(m:Int)<=(i:Int):=by omega
      have hb2d:decide ((m:Int)<=(i:Int))=false:=decide_eq_false hb2;have hb2e:decide (m<=i)=false:=decide_eq_false (by omega)
      have hb3:¬(i:Int)<0:=by omega
      have d3:wr.cell? ⟨gh,i,none⟩=some (.bool false):=by
       have:=OW2.out.one (zak g1 him) 0 _ rfl;rw[zP,Addr.add_lit,zA,h3]at this
       simpa [boE]using this
      have HH5:Hid (QV g1 (i:Int)=(i:Int) :: g1):=h5;clear bad bad2 good2 h3 h4 h5
      go_wp2_with (refine QN (E:=boE) rfl (.tmp 70) (.const (.bool true)) rfl W0.heap.size _ (QU m g1) OW2.out gh i rfl true ?t1 ⟨gh,i,none⟩ rfl ?t2 (.bool true) rfl rfl ?_)
      case t1=>rw[zaj];exact him
      case t2=>first | exact(Nat.mul_one i).symm | (show _=Addr.mk gh (i*1) none;rw[Nat.mul_one])
      intro W5 ow5 gr5 _;have HO:Hid (zb boE W0.heap.size W5 (.slice (some ⟨gh,0,none⟩) m m) (QU m (blG g0 (q.bl.take (k2+1))))):=show zb _ _ _ _ _ by rw[HGB.out,HH5.out,<-zhu g1 him];exact ow5
      have G5:Hid (zc W0 W5):=show zc _ _ from zg BW2.out gr5 (by rw[HGH.out];exact nR _)
      clear ow5 gr5 d3 d2 x1;go_wp2
      go_roundg (nb -(k2+1))
      case measure=>omega
      exact⟨k2+1,by omega,by omega,by go_num,G5.out,HO.out,HA.out⟩
     have hltz2:¬(k2:Int)< (nb:Int):=by omega
     have:k2=nb:=by omega
     subst this;have hz:flW (m:Int) g0 q=0:=by
      rw[HFB.out,<-AW2.out,List.drop_of_length_le (by rw[HNB.out];exact nR _)]
      rfl
     have HA:Hid (zba (m:Int) (zaR [] (fs.take (kk+1))) (fs.drop (kk+1))=zba (m:Int) [] fs):=show _=_ by rw[<-AW.out,HG.out,HST.out,if_pos hz]
     have HO:Hid (zb boE W0.heap.size wr (.slice (some ⟨gh,0,none⟩) m m) (QU m (zaR [] (fs.take (kk+1))))):=show zb _ _ _ _ _ by
      rw[HGK.out];have:=OW2.out;rw[List.take_of_length_le (by rw[HNB.out];exact nR _)]at this
      exact this
     clear bad hz;go_wp2
     go_roundg (n -(kk+1))
     case measure=>omega
     exact⟨kk+1,by omega,by omega,by go_num,BW2.out,HO.out,HA.out⟩
    have HF:Hid (Z=2):=bad 2 (by decide) (by rw[HFD.out,if_pos (by omega),HNB.out,if_neg hcp])
    have hnn:((nb:Int) != JG q.size)=true:=by simpa using hcp
    clear bad hcp
    generalize JG q.size=cp at*
    have p0:=P2.out.c 0 rfl;have p1:=P2.out.c 1 rfl;go_upto_region 9 with fail;rw[HW2.out]
    go_quiet (first | (go_at_call 44;exact Calls.quiet_of_same (hcn _)))
    obtain⟨W3,hW3⟩:∃W3,W2.drewN nq=W3:=⟨_,rfl⟩;have GE:Hid (zc w W3):=show zc _ _ by rw[<-hW3];exact(HG0.out.trans G2.out).trans (show Below _ _ _ from bD (bR _ _) _)
    rw[hW3];clear hW3;go_wp2;go_ret;exact⟨by rw[HF.out];rfl,GE.out⟩
   have hltz:¬(kk:Int)< (n:Int):=by omega
   have:kk=n:=by omega
   subst this;have HF:Hid (Z=0):=show _=_ by
    rw[HD.out,<-AW.out,List.drop_of_length_le (by rw[HN.out];exact nR _)]
    rfl
   have GE:=dD (HG0.out.trans BW.out);go_wp2;go_ret;exact⟨by rw[HF.out];rfl,GE.out⟩
  rw[if_neg (fun h=>hc h.2)]at HD
  by_cases hc0:cnt<0
  ·go_enter Tryz.func96,Tryz.ntmps96
   go_wp2;rw[HW0.out];go_ret;exact⟨by rw[HD.out];rfl,HG0.out⟩
  have hc0d:decide (cnt<0)=false:=decide_eq_false hc0;have hc8:80<cnt:=by omega
  clear hc
  go_enter Tryz.func96,Tryz.ntmps96
  go_wp2;rw[HW0.out];go_ret;exact⟨by rw[HD.out];rfl,HG0.out⟩
 rw[if_neg (fun h=>h5 h.1)]at HD
 have h5z:(5:Int)< (n:Int):=by omega
 go_enter Tryz.func96,Tryz.ntmps96
 go_wp2;rw[HW0.out];go_ret;exact⟨by rw[HD.out];rfl,HG0.out⟩
theorem zb7 (vs:List Value) (t:List (List En)) (w:World) (hv:ZH w vs t):
  Calls Tryz.prog 98 #[.agg vs.toArray] w fun e w'=>e= .returned (.int .i64 (tbW t))/\zc w w':=by
 have HV:Hid (ZH w vs t):=hv;have HL:Hid (vs.length=8):=hv.len;clear hv;obtain⟨Z,HZ⟩:∃Z,Hid (tbW t=Z):=⟨_,rfl⟩;rw[HZ.out];obtain⟨W0,hW0⟩:∃W0,w.alloc (.cells vs.toArray 53)=W0:=⟨_,rfl⟩;have HG0:=gA hW0
 have X0:=xA hW0
 have HW0:Hid (_=W0):=hW0;clear hW0
 go_enter Tryz.func98,Tryz.ntmps98
 go_upto_region 1 with fail;rw[HW0.out]
 go_wp2_with (refine jA rfl (.tmp 1) rfl w.heap.size rfl X0.out HL.out ?_)
 go_loopg [9] 8 (fun gg s9 wr=>∃kk:Nat,kk<=8/\8 - kk<=gg/\s9= .int .i64 kk/\Hid (zc w wr)/\Hid (tbW (t.drop kk)=tbW t))
 case atStart=>exact⟨0,nZ _,by omega,rfl,HG0.out,rfl⟩
 obtain⟨kk,hkk,hg,rfl,BW,AW⟩:=hrel
 by_cases hlt:kk<8
 ·have hltz:(kk:Int)<8:=by omega
  obtain⟨xa,xc,q,hq,hvk,hr⟩:=HV.out.half hlt;have HQ:Hid (t[kk]? =some q):=hq;have hqbig:=hr.short;obtain⟨_,_,heq,hens⟩:=hr.ens;cases heq;have HE:Hid (zcE w xa q):=hens;obtain⟨nq,HNQ⟩:∃nq,Hid (q.length=nq):=⟨_,rfl⟩;rw[HNQ.out]at hvk hqbig;have HVK:Hid (vs[kk]? =some (.slice xa nq xc)):=hvk;have HST:Hid (tbW (t.drop kk)=if haW q=0 then tbW (t.drop (kk+1))else haW q):=show _=_ by rw[qJ HQ.out,zfF]
  have badG:Hid (∀z:Int,z≠0->haW q=z->Z=z):=show∀z:Int,_ from fun z hz h=>by
   have h1:=AW.out;rw[HST.out,h,if_neg hz]at h1;rw[<-HZ.out,<-h1]
  have goodH:Hid (haW q=0->tbW (t.drop (kk+1))=tbW t):=show _->_ from fun h=>by rw[<-AW.out,HST.out,if_pos h]
  clear hens hr hq hvk
  go_upto_region 4 with(refine zbn rfl (.tmp 8) (.tmp 9) rfl vs rfl kk rfl hlt HVK.out ?_)
  by_cases h0:nq=0
  ·have hne0:((nq:Int) != 0)=false:=by simp[h0]
   have heq8:((nq:Int) == 8)=false:=by simp[h0]
   have H0:Hid (nq=0):=h0;clear h0;have badH:Hid (∀z:Int,z≠0->esW q=z->Z=z):=show∀z:Int,_ from fun z hz h=>by
    have:q=[]:=List.length_eq_zero_iff.1 (by rw[HNQ.out];exact H0.out)
    rw[this]at h;exact absurd h.symm hz
   go_wp2
   go_loopg [5,22] nq (fun g2 s5 s22 wr2=>∃(k2 c:Nat),k2<=nq/\nq - k2<=g2/\s22= .int .i64 k2/\s5= .int .i64 c/\c<=k2/\Hid (zc w wr2)/\Hid (esW (q.drop k2)=esW q)/\Hid (c=0↔Za (q.take k2)=false))
   case atStart=>exact⟨0,0,nZ _,by omega,rfl,rfl,nR _,BW.out,rfl,show(0=0↔Za (q.take 0)=false)from by simp[Za]⟩
   obtain⟨k2,c,hk2',hg2,rfl,rfl,hck,BW2,AW2,CW⟩:=hrel
   by_cases hlt2:k2<nq
   ·have hltz2:(k2:Int)< (nq:Int):=by omega
    obtain⟨x,hx⟩:∃x,q[k2]? =some x:=⟨_,gE (by rw[HNQ.out];exact hlt2)⟩
    obtain⟨ad,rfl,hl2⟩:=HE.out k2 x hx;obtain⟨d0,d1,d2⟩:=hl2 wr BW2.out;obtain⟨k,m,b⟩:=x;have HX:Hid (q[k2]? =some ⟨k,m,b⟩):=hx;simp only at d0 d1 d2;have HST:Hid (esW (q.drop k2)=if enW ⟨k,m,b⟩=0 then esW (q.drop (k2+1))else enW ⟨k,m,b⟩):=show _=_ by rw[qJ HX.out,zdn]
    have bad:∀z:Int,z≠0->enW ⟨k,m,b⟩=z->Z=z:=fun z hz h=>by
     have h1:=AW2.out;rw[HST.out,h,if_neg hz]at h1;exact badH.out z hz h1.symm
    have good:enW ⟨k,m,b⟩=0->esW (q.drop (k2+1))=esW q:=fun h=>by
     rw[<-AW2.out,HST.out,if_pos h]
    clear hl2 hx;go_upto_region 10 with fail;obtain⟨px,hpx⟩:∃px,wr.heap.size=px:=⟨_,rfl⟩;obtain⟨W2,hW2⟩:∃W2,wr.alloc (.cells #[.int .i64 k,.int .i64 m,.bool b] 74)=W2:=⟨_,rfl⟩;have G2:=gT hW2 BW2
    have GE:Hid (zc w W2):=G2.out;have P2:Hid (Box W2 px [.int .i64 k,.int .i64 m,.bool b]):=show Box _ _ _ by rw[<-hW2];exact Box.top _ _ _ hpx.symm
    rw[hW2];rw[hpx];clear hW2 hpx d0 d1 d2;obtain⟨p0,p1,p2⟩:=P2.out.c3
    by_cases hk0:k<0
    ·have HF:Hid (Z=1):=bad 1 (by decide) (zas (by simp only;omega))
     clear bad good;go_wp2;go_ret;exact⟨by rw[HF.out];rfl,GE.out⟩
    have hk0d:decide (k<0)=false:=decide_eq_false hk0
    by_cases hk2:2<k
    ·have HF:Hid (Z=1):=bad 1 (by decide) (zas (by simp only;omega))
     clear bad good;go_wp2;go_ret;exact⟨by rw[HF.out];rfl,GE.out⟩
    have hk2d:decide (2<k)=false:=decide_eq_false hk2
    by_cases hn0:m<0
    ·have HF:Hid (Z=3):=bad 3 (by decide) (j2 (by simp only;omega) (by simp only;omega))
     clear bad good;go_wp2;go_ret;exact⟨by rw[HF.out];rfl,GE.out⟩
    have hn0d:decide (m<0)=false:=decide_eq_false hn0
    by_cases hn59:59<m
    ·have HF:Hid (Z=3):=bad 3 (by decide) (j2 (by simp only;omega) (by simp only;omega))
     clear bad good;go_wp2;go_ret;exact⟨by rw[HF.out];rfl,GE.out⟩
    have hn59d:decide (59<m)=false:=decide_eq_false hn59;obtain rfl | rfl | rfl:k=0\/k=1\/k=2:=by omega
    ·by_cases hm:0<m
     ·have HF:Hid (Z=7):=bad 7 (by decide) (Jj (by simp only;omega) (by simp only;omega) (.inl ⟨rfl,.inl (by simp only;omega)⟩))
      clear bad good;go_wp2;go_ret;exact⟨by rw[HF.out];rfl,GE.out⟩
     obtain rfl:m=0:=by omega
     cases b with
     | true=>
      have HF:Hid (Z=7):=bad 7 (by decide) (Jj (by simp only;omega) (by simp only;omega) (.inl ⟨rfl,.inr rfl⟩))
      clear bad good;go_wp2;go_ret;exact⟨by rw[HF.out];rfl,GE.out⟩
     | false=>
      have HA:Hid (esW (q.drop (k2+1))=esW q):=good (Qp (by simp only;omega) (by simp only;omega) (by simp))
      have HC:Hid (Za (q.take (k2+1))=Za (q.take k2)):=show _=_ by
       rw[qa HX.out];unfold Za;rw[List.any_append]
       simp[enS]
      clear bad good;go_wp2
      go_roundg (nq -(k2+1))
      case measure=>omega
      exact⟨k2+1,c,by omega,by omega,by go_num,by go_num,by omega,G2.out,HA.out,by rw[HC.out];exact CW.out⟩
    ·by_cases hn39:39<m
     ·have HF:Hid (Z=3):=bad 3 (by decide) (j2 (by simp only;omega) (fun h=>by have:=h.2.2 rfl;simp only at this;omega))
      clear bad good;go_wp2;go_ret;exact⟨by rw[HF.out];rfl,GE.out⟩
     have hn39d:decide (39<m)=false:=decide_eq_false hn39;have HA:Hid (esW (q.drop (k2+1))=esW q):=good (Qp (by simp only;omega) (by simp only;omega) (by simp))
     have HC:Hid (Za (q.take (k2+1))=true):=show _=_ by
      rw[qa HX.out];unfold Za;rw[List.any_append]
      simp[enS]
     clear bad good;go_wp2
     go_roundg (nq -(k2+1))
     case measure=>omega
     exact⟨k2+1,c+1,by omega,by omega,by go_num,by go_num,by omega,G2.out,HA.out,show(c+1=0↔Za (q.take (k2+1))=false)from by rw[HC.out];simp⟩
    cases b with
    | true=>
     have HF:Hid (Z=7):=bad 7 (by decide) (Jj (by simp only;omega) (by simp only;omega) (.inr ⟨rfl,rfl⟩))
     clear bad good;go_wp2;go_ret;exact⟨by rw[HF.out];rfl,GE.out⟩
    | false=>
     have HA:Hid (esW (q.drop (k2+1))=esW q):=good (Qp (by simp only;omega) (by simp only;omega) (by simp))
     have HC:Hid (Za (q.take (k2+1))=true):=show _=_ by
      rw[qa HX.out];unfold Za;rw[List.any_append]
      simp[enS]
     clear bad good;go_wp2
     go_roundg (nq -(k2+1))
     case measure=>omega
     exact⟨k2+1,c+1,by omega,by omega,by go_num,by go_num,by omega,G2.out,HA.out,show(c+1=0↔Za (q.take (k2+1))=false)from by rw[HC.out];simp⟩
   have hltz2:¬(k2:Int)< (nq:Int):=by omega
   have:k2=nq:=by omega
   subst this;have HEZ:Hid (esW q=0):=show _=_ by
    rw[<-AW2.out,List.drop_of_length_le (by rw[HNQ.out];exact nR _)]
    rfl
   have CQ:Hid (c=0↔Za q=false):=show _↔_ by
    have:=CW.out;rw[List.take_of_length_le (by rw[HNQ.out];exact nR _)]at this
    exact this
   have HA:Hid (tbW (t.drop (kk+1))=tbW t):=goodH.out (by unfold haW;rw[if_pos (by rw[HNQ.out];exact H0.out)])
   go_wp2
   go_roundg (8 -(kk+1))
   case measure=>omega
   exact⟨kk+1,by omega,by omega,by go_num,BW2.out,HA.out⟩
  have hne0:((nq:Int) != 0)=true:=by simpa using h0
  by_cases h8:nq=8
  ·have hne8:((nq:Int) != 8)=false:=by simp[h8]
   have heq8:((nq:Int) == 8)=true:=by simp[h8]
   have H8:Hid (nq=8):=h8;clear h0 h8;have badH:Hid (∀z:Int,z≠0->esW q=z->Z=z):=show∀z:Int,_ from fun z hz h=>badG.out z hz (by rw[zhF (by rw[HNQ.out];exact H8.out),if_neg (by rw[h];exact hz)];exact h)
   go_wp2
   go_loopg [5,22] nq (fun g2 s5 s22 wr2=>∃(k2 c:Nat),k2<=nq/\nq - k2<=g2/\s22= .int .i64 k2/\s5= .int .i64 c/\c<=k2/\Hid (zc w wr2)/\Hid (esW (q.drop k2)=esW q)/\Hid (c=0↔Za (q.take k2)=false))
   case atStart=>exact⟨0,0,nZ _,by omega,rfl,rfl,nR _,BW.out,rfl,show(0=0↔Za (q.take 0)=false)from by simp[Za]⟩
   obtain⟨k2,c,hk2',hg2,rfl,rfl,hck,BW2,AW2,CW⟩:=hrel
   by_cases hlt2:k2<nq
   ·have hltz2:(k2:Int)< (nq:Int):=by omega
    obtain⟨x,hx⟩:∃x,q[k2]? =some x:=⟨_,gE (by rw[HNQ.out];exact hlt2)⟩
    obtain⟨ad,rfl,hl2⟩:=HE.out k2 x hx;obtain⟨d0,d1,d2⟩:=hl2 wr BW2.out;obtain⟨k,m,b⟩:=x;have HX:Hid (q[k2]? =some ⟨k,m,b⟩):=hx;simp only at d0 d1 d2;have HST:Hid (esW (q.drop k2)=if enW ⟨k,m,b⟩=0 then esW (q.drop (k2+1))else enW ⟨k,m,b⟩):=show _=_ by rw[qJ HX.out,zdn]
    have bad:∀z:Int,z≠0->enW ⟨k,m,b⟩=z->Z=z:=fun z hz h=>by
     have h1:=AW2.out;rw[HST.out,h,if_neg hz]at h1;exact badH.out z hz h1.symm
    have good:enW ⟨k,m,b⟩=0->esW (q.drop (k2+1))=esW q:=fun h=>by
     rw[<-AW2.out,HST.out,if_pos h]
    clear hl2 hx;go_upto_region 10 with fail;obtain⟨px,hpx⟩:∃px,wr.heap.size=px:=⟨_,rfl⟩;obtain⟨W2,hW2⟩:∃W2,wr.alloc (.cells #[.int .i64 k,.int .i64 m,.bool b] 74)=W2:=⟨_,rfl⟩;have G2:=gT hW2 BW2
    have GE:Hid (zc w W2):=G2.out;have P2:Hid (Box W2 px [.int .i64 k,.int .i64 m,.bool b]):=show Box _ _ _ by rw[<-hW2];exact Box.top _ _ _ hpx.symm
    rw[hW2];rw[hpx];clear hW2 hpx d0 d1 d2;obtain⟨p0,p1,p2⟩:=P2.out.c3
    by_cases hk0:k<0
    ·have HF:Hid (Z=1):=bad 1 (by decide) (zas (by simp only;omega))
     clear bad good;go_wp2;go_ret;exact⟨by rw[HF.out];rfl,GE.out⟩
    have hk0d:decide (k<0)=false:=decide_eq_false hk0
    by_cases hk2:2<k
    ·have HF:Hid (Z=1):=bad 1 (by decide) (zas (by simp only;omega))
     clear bad good;go_wp2;go_ret;exact⟨by rw[HF.out];rfl,GE.out⟩
    have hk2d:decide (2<k)=false:=decide_eq_false hk2
    by_cases hn0:m<0
    ·have HF:Hid (Z=3):=bad 3 (by decide) (j2 (by simp only;omega) (by simp only;omega))
     clear bad good;go_wp2;go_ret;exact⟨by rw[HF.out];rfl,GE.out⟩
    have hn0d:decide (m<0)=false:=decide_eq_false hn0
    by_cases hn59:59<m
    ·have HF:Hid (Z=3):=bad 3 (by decide) (j2 (by simp only;omega) (by simp only;omega))
     clear bad good;go_wp2;go_ret;exact⟨by rw[HF.out];rfl,GE.out⟩
    have hn59d:decide (59<m)=false:=decide_eq_false hn59;obtain rfl | rfl | rfl:k=0\/k=1\/k=2:=by omega
    ·by_cases hm:0<m
     ·have HF:Hid (Z=7):=bad 7 (by decide) (Jj (by simp only;omega) (by simp only;omega) (.inl ⟨rfl,.inl (by simp only;omega)⟩))
      clear bad good;go_wp2;go_ret;exact⟨by rw[HF.out];rfl,GE.out⟩
     obtain rfl:m=0:=by omega
     cases b with
     | true=>
      have HF:Hid (Z=7):=bad 7 (by decide) (Jj (by simp only;omega) (by simp only;omega) (.inl ⟨rfl,.inr rfl⟩))
      clear bad good;go_wp2;go_ret;exact⟨by rw[HF.out];rfl,GE.out⟩
     | false=>
      have HA:Hid (esW (q.drop (k2+1))=esW q):=good (Qp (by simp only;omega) (by simp only;omega) (by simp))
      have HC:Hid (Za (q.take (k2+1))=Za (q.take k2)):=show _=_ by
       rw[qa HX.out];unfold Za;rw[List.any_append]
       simp[enS]
      clear bad good;go_wp2
      go_roundg (nq -(k2+1))
      case measure=>omega
      exact⟨k2+1,c,by omega,by omega,by go_num,by go_num,by omega,G2.out,HA.out,by rw[HC.out];exact CW.out⟩
    ·by_cases hn39:39<m
     ·have HF:Hid (Z=3):=bad 3 (by decide) (j2 (by simp only;omega) (fun h=>by have:=h.2.2 rfl;simp only at this;omega))
      clear bad good;go_wp2;go_ret;exact⟨by rw[HF.out];rfl,GE.out⟩
     have hn39d:decide (39<m)=false:=decide_eq_false hn39;have HA:Hid (esW (q.drop (k2+1))=esW q):=good (Qp (by simp only;omega) (by simp only;omega) (by simp))
     have HC:Hid (Za (q.take (k2+1))=true):=show _=_ by
      rw[qa HX.out];unfold Za;rw[List.any_append]
      simp[enS]
     clear bad good;go_wp2
     go_roundg (nq -(k2+1))
     case measure=>omega
     exact⟨k2+1,c+1,by omega,by omega,by go_num,by go_num,by omega,G2.out,HA.out,show(c+1=0↔Za (q.take (k2+1))=false)from by rw[HC.out];simp⟩
    cases b with
    | true=>
     have HF:Hid (Z=7):=bad 7 (by decide) (Jj (by simp only;omega) (by simp only;omega) (.inr ⟨rfl,rfl⟩))
     clear bad good;go_wp2;go_ret;exact⟨by rw[HF.out];rfl,GE.out⟩
    | false=>
     have HA:Hid (esW (q.drop (k2+1))=esW q):=good (Qp (by simp only;omega) (by simp only;omega) (by simp))
     have HC:Hid (Za (q.take (k2+1))=true):=show _=_ by
      rw[qa HX.out];unfold Za;rw[List.any_append]
      simp[enS]
     clear bad good;go_wp2
     go_roundg (nq -(k2+1))
     case measure=>omega
     exact⟨k2+1,c+1,by omega,by omega,by go_num,by go_num,by omega,G2.out,HA.out,show(c+1=0↔Za (q.take (k2+1))=false)from by rw[HC.out];simp⟩
   have hltz2:¬(k2:Int)< (nq:Int):=by omega
   have:k2=nq:=by omega
   subst this;have HEZ:Hid (esW q=0):=show _=_ by
    rw[<-AW2.out,List.drop_of_length_le (by rw[HNQ.out];exact nR _)]
    rfl
   have CQ:Hid (c=0↔Za q=false):=show _↔_ by
    have:=CW.out;rw[List.take_of_length_le (by rw[HNQ.out];exact nR _)]at this
    exact this
   by_cases hc:c=0
   ·have HF:Hid (Z=2):=badG.out 2 (by decide) (by rw[zhF (by rw[HNQ.out];exact H8.out),HEZ.out,if_pos rfl,CQ.out.1 hc];rfl)
    have hcb:((c:Int) == 0)=true:=by simpa using hc
    clear hc;go_wp2;go_ret;exact⟨by rw[HF.out];rfl,BW2.out⟩
   have HA:Hid (tbW (t.drop (kk+1))=tbW t):=goodH.out (by
    rw[zhF (by rw[HNQ.out];exact H8.out),HEZ.out,if_pos rfl]
    cases ha:Za q with
    | true=>rfl
    | false=>exact absurd (CQ.out.2 ha) hc)
   have hcb:((c:Int) == 0)=false:=by simpa using hc
   clear hc;go_wp2
   go_roundg (8 -(kk+1))
   case measure=>omega
   exact⟨kk+1,by omega,by omega,by go_num,BW2.out,HA.out⟩
  have hne8:((nq:Int) != 8)=true:=by simp;omega
  have HF:Hid (Z=2):=badG.out 2 (by decide) (by unfold haW;rw[if_neg (by rw[HNQ.out];exact h0),if_neg (by rw[HNQ.out];exact h8)])
  clear h0 h8;go_wp2;go_ret;exact⟨by rw[HF.out];rfl,BW.out⟩
 have hltz:¬(kk:Int)<8:=by omega
 have:kk=8:=by omega
 subst this;have HF:Hid (Z=0):=show _=_ by
  rw[<-HZ.out,<-AW.out,List.drop_of_length_le (by rw[HV.out.tlen];exact nR _)]
  rfl
 go_wp2;go_ret;exact⟨by rw[HF.out];rfl,BW.out⟩
theorem zZ {e A:Int} {l:List Int} (h:ze (e :: l)=A) (he:e≠0):A=e:=by rw[<-h];unfold ze;rw[if_neg he]
theorem z6 {e A:Int} {l:List Int} (h:ze (e :: l)=A) (he:e=0):ze l=A:=by rw[<-h,zE,if_pos he]
theorem zdI (V:MaV) (m:Ma) (w:World) (hm:zC w V m):
  Calls Tryz.prog 62 #[.agg #[.slice V.f.a V.f.n V.f.c,.int .i64 m.hand,.slice V.s.a V.s.n V.s.c,.slice V.sb.a V.sb.n V.sb.c,.slice V.sq.a V.sq.n V.sq.c,.slice V.db.a V.db.n V.db.c,.slice V.dq.a V.dq.n V.dq.c,.slice V.fl.a V.fl.n V.fl.c,.int .i64 m.cnt,.slice V.ca.a V.ca.n V.ca.c,.slice V.sp.a V.sp.n V.sp.c]] w fun e w'=>e= .returned (.int .i64 (zaB m))/\zc w w':=by
 have HM:Hid (zC w V m):=hm;obtain⟨n1,n2,n3,-,n5,n6,-,-,n9⟩:=hm.ns;obtain⟨xs,hxl,hrow,hsp⟩:=hm.spaces;have hfs:=hm.fs;have hsl:=hm.sl;have HPG:Hid (JA w V.db.a m.db):=hm.pgs;have HPU:Hid (ZA w V.dq.a m.dq):=hm.puts;have hsl9:=hm.sp;obtain⟨Z,HZ⟩:∃Z,Hid (zaB m=Z):=⟨_,rfl⟩;rw[HZ.out];obtain⟨vf,vs,vsb,vsq,⟨dba,dbn,dbc⟩,⟨dqa,dqn,dqc⟩,vfl,vca,⟨spa,spn,spc⟩⟩:=V;dsimp only at n1 n2 n3 n5 n6 n9 HPG HPU hfs hsl hrow⊢;have HC1:Hid (∀W,zc w W->Calls Tryz.prog 94 #[.agg #[.slice vf.a vf.n vf.c,.int .i64 m.hand]] W fun e w'=>e= .returned (.int .i64 (Ze m.fs m.hand))/\zc W w'):=show∀W,_ from fun W hW=>by rw[n1]at hfs⊢;exact zbs vf.a vf.c m.fs m.hand W (zkF.1 (hfs.grew hW))
 have HC2:Hid (∀W,zc w W->Calls Tryz.prog 95 #[.slice vs.a vs.n vs.c] W fun e w'=>e= .returned (.int .i64 (slW m.sl))/\zc W w'):=show∀W,_ from fun W hW=>by rw[n2]at hsl⊢;exact zcX vs.a vs.c m.sl W (hsl.grew hW)
 have HC3:Hid (∀W,zc w W->Calls Tryz.prog 83 #[.agg #[.slice vsb.a vsb.n vsb.c,.slice vsq.a vsq.n vsq.c]] W fun e w'=>e= .returned (.int .i64 (zy m.sb.length m.sq))/\zc W w'):=show∀W,_ from fun W hW=>by rw[<-n3];exact jY vsb.a vsb.n vsb.c _ m.sq W (HM.out.grew hW).sq
 have HC4:Hid (∀W,zc w W->Calls Tryz.prog 83 #[.agg #[.slice dba dbn dbc,.slice dqa dqn dqc]] W fun e w'=>e= .returned (.int .i64 (zy m.db.length m.dq))/\zc W w'):=show∀W,_ from fun W hW=>by rw[<-n5];exact jY dba dbn dbc _ m.dq W (HM.out.grew hW).dq
 have HC5:Hid (∀W,zc w W->Calls Tryz.prog 96 #[.agg #[.slice vfl.a vfl.n vfl.c,.int .i64 m.cnt]] W fun e w'=>e= .returned (.int .i64 (stW m.fl m.cnt))/\zc W w'):=show∀W,_ from fun W hW=>zb8 _ m.fl m.cnt W (HM.out.grew hW).fl
 have HUS:Hid (∀W b,zc w W->Calls Tryz.prog 45 #[.agg #[.slice vfl.a vfl.n vfl.c,.int .i64 m.cnt],.int .i64 b] W fun e w'=>e= .returned (.bool (qG m.fl b))/\zc W w'):=show∀W,_ from fun W b hW=>zfE _ m.fl m.cnt b W (HM.out.grew hW).fl
 have HN5:Hid (m.db.length=dbn):=n5.symm;have HN6:Hid (m.dq.length=dqn):=n6.symm;have HN9:Hid (m.sp.length=spn):=n9.symm;have hb6:dqn<=9223372036854775807:=by have:=hm.dq.2.2;omega
 have hb5:dbn<=9223372036854775807:=by have:=hm.db.2.2;omega
 have hb9:spn<=9223372036854775807:=by obtain⟨ys,k1,k2,_⟩:=hsl9;have:=k1.short;omega
 have HXL:Hid (xs.length=spn):=show _=_ by rw[hxl];exact HN9.out
 have HRW:Hid (∀(j:Nat) x,xs[j]? =some x->∃ad,spa=some ad/\∀W,zc w W->zjs W (ad.add (j*10)) x):=show∀j,_ from hrow
 have HSP:Hid (∀(i:Nat) x s,xs[i]? =some x->m.sp[i]? =some s->qL w x s):=show∀i,_ from hsp
 have hfit:zcc m=if vs.n≠vsb.n\/m.cnt≠(dbn:Int)then 7 else 0:=by unfold zcc;rw[n2,n3,n5]
 have HFT:Hid (zcc m=if vs.n≠vsb.n\/m.cnt≠(dbn:Int)then 7 else 0):=hfit;clear hm n1 n2 n3 n5 n6 n9 hxl hrow hsp hfs hsl hsl9 hfit;have Z1:Hid (ze [Ze m.fs m.hand,slW m.sl,zy m.sb.length m.sq,zy m.db.length m.dq,stW m.fl m.cnt,zcc m,jP m,jH m,if 4<m.sp.length then 4 else 0,ze (m.sp.map spE)]=Z):=HZ.out;clear HZ;obtain⟨W0,hW0⟩:∃W0,w.alloc (.cells #[.slice vf.a vf.n vf.c,.int .i64 m.hand,.slice vs.a vs.n vs.c,.slice vsb.a vsb.n vsb.c,.slice vsq.a vsq.n vsq.c,.slice dba dbn dbc,.slice dqa dqn dqc,.slice vfl.a vfl.n vfl.c,.int .i64 m.cnt,.slice vca.a vca.n vca.c,.slice spa spn spc] 41)=W0:=⟨_,rfl⟩;have G0:=gA hW0
 have X0:=xA hW0
 have HW0:Hid (_=W0):=hW0;clear hW0
 go_enter Tryz.func62,Tryz.ntmps62
 go_upto_region 1 with fail;rw[HW0.out];clear HW0;have x0:=X0.out.c 0 rfl;have x1:=X0.out.c 1 rfl;have hc:=HC1.out W0 G0.out;obtain⟨E1,HE1⟩:∃E1,Hid (Ze m.fs m.hand=E1):=⟨_,rfl⟩;rw[HE1.out]at hc Z1;go_wp2_with fail;refine hc.mono ?_;clear hc;clear x0 x1;rintro e W1 ⟨rfl,g⟩;have G1:=dD (G0.out.trans g);have X1:=dD (X0.out.grew g);clear g G0 X0
 by_cases hz:E1=0
 rotate_left
 ·have hze:(E1 != 0)=true:=by simp[hz]
  have HF:Hid (Z=E1):=zZ Z1.out hz;clear hz;go_wp2;go_ret;exact⟨by rw[HF.out];first | rfl | skip,G1.out⟩
 have hze:(E1 != 0)=false:=by simp[hz]
 have Z2:Hid (ze [slW m.sl,zy m.sb.length m.sq,zy m.db.length m.dq,stW m.fl m.cnt,zcc m,jP m,jH m,if 4<m.sp.length then 4 else 0,ze (m.sp.map spE)]=Z):=z6 Z1.out hz;clear hz Z1;have x2:=X1.out.c 2 rfl;have hc:=HC2.out W1 G1.out;obtain⟨E2,HE2⟩:∃E2,Hid (slW m.sl=E2):=⟨_,rfl⟩;rw[HE2.out]at hc Z2;go_wp2_with fail;refine hc.mono ?_;clear hc;clear x2;rintro e W2 ⟨rfl,g⟩;have G2:=dD (G1.out.trans g);have X2:=dD (X1.out.grew g);clear g G1 X1
 by_cases hz:E2=0
 rotate_left
 ·have hze:(E2 != 0)=true:=by simp[hz]
  have HF:Hid (Z=E2):=zZ Z2.out hz;clear hz;go_wp2;go_ret;exact⟨by rw[HF.out];first | rfl | skip,G2.out⟩
 have hze:(E2 != 0)=false:=by simp[hz]
 have Z3:Hid (ze [zy m.sb.length m.sq,zy m.db.length m.dq,stW m.fl m.cnt,zcc m,jP m,jH m,if 4<m.sp.length then 4 else 0,ze (m.sp.map spE)]=Z):=z6 Z2.out hz;clear hz Z2;have x3:=X2.out.c 3 rfl;have x4:=X2.out.c 4 rfl;have hc:=HC3.out W2 G2.out;obtain⟨E3,HE3⟩:∃E3,Hid (zy m.sb.length m.sq=E3):=⟨_,rfl⟩;rw[HE3.out]at hc Z3;go_wp2_with fail;refine hc.mono ?_;clear hc;clear x3 x4;rintro e W3 ⟨rfl,g⟩;have G3:=dD (G2.out.trans g);have X3:=dD (X2.out.grew g);clear g G2 X2
 by_cases hz:E3=0
 rotate_left
 ·have hze:(E3 != 0)=true:=by simp[hz]
  have HF:Hid (Z=E3):=zZ Z3.out hz;clear hz;go_wp2;go_ret;exact⟨by rw[HF.out];first | rfl | skip,G3.out⟩
 have hze:(E3 != 0)=false:=by simp[hz]
 have Z4:Hid (ze [zy m.db.length m.dq,stW m.fl m.cnt,zcc m,jP m,jH m,if 4<m.sp.length then 4 else 0,ze (m.sp.map spE)]=Z):=z6 Z3.out hz;clear hz Z3;have x5:=X3.out.c 5 rfl;have x6:=X3.out.c 6 rfl;have hc:=HC4.out W3 G3.out;obtain⟨E4,HE4⟩:∃E4,Hid (zy m.db.length m.dq=E4):=⟨_,rfl⟩;rw[HE4.out]at hc Z4;go_wp2_with fail;refine hc.mono ?_;clear hc;clear x5 x6;rintro e W4 ⟨rfl,g⟩;have G4:=dD (G3.out.trans g);have X4:=dD (X3.out.grew g);clear g G3 X3
 by_cases hz:E4=0
 rotate_left
 ·have hze:(E4 != 0)=true:=by simp[hz]
  have HF:Hid (Z=E4):=zZ Z4.out hz;clear hz;go_wp2;go_ret;exact⟨by rw[HF.out];first | rfl | skip,G4.out⟩
 have hze:(E4 != 0)=false:=by simp[hz]
 have Z5:Hid (ze [stW m.fl m.cnt,zcc m,jP m,jH m,if 4<m.sp.length then 4 else 0,ze (m.sp.map spE)]=Z):=z6 Z4.out hz;clear hz Z4;have x7:=X4.out.c 7 rfl;have x8:=X4.out.c 8 rfl;have hc:=HC5.out W4 G4.out;obtain⟨E5,HE5⟩:∃E5,Hid (stW m.fl m.cnt=E5):=⟨_,rfl⟩;rw[HE5.out]at hc Z5;go_wp2_with fail;refine hc.mono ?_;clear hc;clear x7 x8;rintro e W5 ⟨rfl,g⟩;have G5:=dD (G4.out.trans g);have X5:=dD (X4.out.grew g);clear g G4 X4
 by_cases hz:E5=0
 rotate_left
 ·have hze:(E5 != 0)=true:=by simp[hz]
  have HF:Hid (Z=E5):=zZ Z5.out hz;clear hz;go_wp2;go_ret;exact⟨by rw[HF.out];first | rfl | skip,G5.out⟩
 have hze:(E5 != 0)=false:=by simp[hz]
 have Z6:Hid (ze [zcc m,jP m,jH m,if 4<m.sp.length then 4 else 0,ze (m.sp.map spE)]=Z):=z6 Z5.out hz;clear hz Z5;obtain⟨UU,HUU⟩:∃UU:Int->Bool,Hid (∀b,qG m.fl b=UU b):=⟨fun b=>qG m.fl b,fun _=>rfl⟩
 have x2:=X5.out.c 2 rfl;have x3:=X5.out.c 3 rfl;have x5:=X5.out.c 5 rfl;have x8:=X5.out.c 8 rfl
 by_cases c1:vs.n=vsb.n
 rotate_left
 ·have c1e:((vs.n:Int) !=(vsb.n:Int))=true:=by simp;omega
  have c1f:(vs.n != vsb.n)=true:=by simp[c1]
  have HF:Hid (Z=7):=show _=_ by rw[zZ Z6.out (by rw[HFT.out,if_pos (.inl c1)];decide),HFT.out,if_pos (.inl c1)]
  clear c1;go_wp2;go_ret;exact⟨by rw[HF.out];rfl,G5.out⟩
 by_cases c2:m.cnt=(dbn:Int)
 rotate_left
 ·have c1e:((vs.n:Int) !=(vsb.n:Int))=false:=by simp[c1]
  have c1f:(vs.n != vsb.n)=false:=by simp[c1]
  have c2e:(m.cnt !=(dbn:Int))=true:=by simp[c2]
  have HF:Hid (Z=7):=show _=_ by rw[zZ Z6.out (by rw[HFT.out,if_pos (.inr c2)];decide),HFT.out,if_pos (.inr c2)]
  clear c1 c2;go_wp2;go_ret;exact⟨by rw[HF.out];rfl,G5.out⟩
 have c1e:((vs.n:Int) !=(vsb.n:Int))=false:=by simp[c1]
 have c1f:(vs.n != vsb.n)=false:=by simp[c1]
 have c2e:(m.cnt !=(dbn:Int))=false:=by simp[c2]
 have Z7:Hid (ze [jP m,jH m,if 4<m.sp.length then 4 else 0,ze (m.sp.map spE)]=Z):=z6 Z6.out (by rw[HFT.out,if_neg (by omega)])
 have HC12:Hid (vs.n=vsb.n/\m.cnt=(dbn:Int)):=show _/\_ from⟨c1,c2⟩
 clear c1 c2 Z6 HFT;go_wp2;clear x2 x3 x5 x8;clear c1e c1f c2e
 go_loopg [68] dbn (fun gg s68 wr=>∃kk:Nat,kk<=dbn/\dbn - kk<=gg/\s68= .int .i64 kk/\Hid (zc w wr)/\Hid (Box wr w.heap.size [.slice vf.a vf.n vf.c,.int .i64 m.hand,.slice vs.a vs.n vs.c,.slice vsb.a vsb.n vsb.c,.slice vsq.a vsq.n vsq.c,.slice dba dbn dbc,.slice dqa dqn dqc,.slice vfl.a vfl.n vfl.c,.int .i64 m.cnt,.slice vca.a vca.n vca.c,.slice spa spn spc])/\Hid (∀b,b<kk->js m b=false))
 case atStart=>exact⟨0,nZ _,by omega,rfl,G5.out,X5.out,fun b hb=>absurd hb (nL _)⟩
 obtain⟨kk,hkk,hgg,rfl,GW,XW,OW⟩:=hrel;clear G5 X5
 by_cases hlt:kk<dbn
 ·have hltz:(kk:Int)< (dbn:Int):=by omega
  have HKL:Hid (kk<m.db.length):=show _<_ by rw[HN5.out];exact hlt
  obtain⟨p,HP⟩:∃p,Hid (m.db[kk]? =some p):=⟨_,gE HKL.out⟩;obtain⟨ad,b0,b1,b2,b3,b4,b5,b6,b7,rfl,rfl,hl⟩:=HPG.out kk p HP.out;have HBD:Hid (js m kk=(!qG m.fl (kk:Int) && !([b0,b1,b2,b3,b4,b5,b6,b7] == zz))):=show _=_ by unfold js;rw[gD,HP.out];rfl
  obtain⟨d0,d1,d2,d3,d4,d5,d6,d7⟩:=hl wr GW.out;have hqp:=fun W=>Qi 9998 b0 b1 b2 b3 b4 b5 b6 b7 0 0 0 0 0 0 0 0 W
  simp only[zdt]at hqp;obtain⟨PZ,HPZ⟩:∃PZ,Hid (([b0,b1,b2,b3,b4,b5,b6,b7] == zz)=PZ):=⟨_,rfl⟩;rw[HPZ.out]at hqp HBD;clear hl;go_upto_region 21 with fail;obtain⟨W6,hW6⟩:∃W6,wr.alloc (.cells #[.int .u8 b0,.int .u8 b1,.int .u8 b2,.int .u8 b3,.int .u8 b4,.int .u8 b5,.int .u8 b6,.int .u8 b7] 67)=W6:=⟨_,rfl⟩;have g6:=gP hW6
  have P6:=xA hW6
  have G6:=dD (GW.out.trans g6);have X6:=dD (XW.out.grew g6);rw[hW6];clear hW6 d0 d1 d2 d3 d4 d5 d6 d7 GW XW g6;have hus:=HUS.out W6 (kk:Int) G6.out;obtain⟨U,HU⟩:∃U,Hid (qG m.fl (kk:Int)=U):=⟨_,rfl⟩;rw[HU.out]at hus HBD;have x7:=X6.out.c 7 rfl;have x8:=X6.out.c 8 rfl;go_wp2_with fail;refine hus.mono ?_;clear hus x7 x8;rintro e W7 ⟨rfl,g7⟩;have G7:=dD (G6.out.trans g7);have X7:=dD (X6.out.grew g7);have P7:=dD (P6.out.grew g7);clear g7 G6 X6 P6;have OW':Hid (js m kk=false->∀b,b<kk+1->js m b=false):=show _->_ from fun h b hb=>by
   by_cases e:b=kk
   ·rw[e];exact h
   exact OW.out b (by omega)
  cases U with
  | true=>
   have OW2:Hid (∀b,b<kk+1->js m b=false):=OW'.out (by rw[HBD.out];rfl)
   clear hqp;go_wp2
   go_roundg (dbn -(kk+1))
   case measure=>omega
   exact⟨kk+1,by omega,by omega,by go_num,G7.out,X7.out,OW2.out⟩
  | false=>
   obtain⟨p0,p1,p2,p3,p4,p5,p6,p7⟩:=P7.out.c8
   cases PZ with
   | true=>
    have OW2:Hid (∀b,b<kk+1->js m b=false):=OW'.out (by rw[HBD.out];rfl)
    go_wp2
    go_roundg (dbn -(kk+1))
    case measure=>omega
    exact⟨kk+1,by omega,by omega,by go_num,G7.out,X7.out,OW2.out⟩
   | false=>
    have HF:Hid (Z=7):=show _=_ by
     have hb:=zcB HKL.out (show js m kk=true by rw[HBD.out];rfl)
     rw[zZ Z7.out (by rw[hb];decide),hb]
    go_wp2;go_ret;exact⟨by rw[HF.out];rfl,G7.out⟩
 have hltz:¬(kk:Int)< (dbn:Int):=by omega
 obtain rfl:kk=dbn:=by omega
 have Z8:Hid (ze [jH m,if 4<m.sp.length then 4 else 0,ze (m.sp.map spE)]=Z):=z6 Z7.out (zbS fun b hb=>OW.out b (by rw[<-HN5.out];exact hb))
 have x6:=XW.out.c 6 rfl;go_wp2;clear x6 Z7 OW;have G8:Hid (zc w wr):=GW;have X8:Hid (Box wr w.heap.size [.slice vf.a vf.n vf.c,.int .i64 m.hand,.slice vs.a vs.n vs.c,.slice vsb.a vsb.n vsb.c,.slice vsq.a vsq.n vsq.c,.slice dba kk dbc,.slice dqa dqn dqc,.slice vfl.a vfl.n vfl.c,.int .i64 m.cnt,.slice vca.a vca.n vca.c,.slice spa spn spc]):=XW;clear GW XW
 go_loopg [88] dqn (fun gg s88 wr=>∃j:Nat,j<=dqn/\dqn - j<=gg/\s88= .int .i64 j/\Hid (zc w wr)/\Hid (Box wr w.heap.size [.slice vf.a vf.n vf.c,.int .i64 m.hand,.slice vs.a vs.n vs.c,.slice vsb.a vsb.n vsb.c,.slice vsq.a vsq.n vsq.c,.slice dba kk dbc,.slice dqa dqn dqc,.slice vfl.a vfl.n vfl.c,.int .i64 m.cnt,.slice vca.a vca.n vca.c,.slice spa spn spc])/\Hid (∀(i:Nat) q,i<j->m.dq[i]? =some q->qG m.fl q.1=true))
 case atStart=>exact⟨0,nZ _,by omega,rfl,G8.out,X8.out,fun i q hi=>absurd hi (nL _)⟩
 obtain⟨j,hj,hg2,rfl,GW,XW,OW⟩:=hrel;clear G8 X8
 by_cases hlt2:j<dqn
 ·have hltz2:(j:Int)< (dqn:Int):=by omega
  obtain⟨q,HQ⟩:∃q,Hid (m.dq[j]? =some q):=⟨_,gE (by rw[HN6.out];exact hlt2)⟩
  obtain⟨ad,mm,b0,b1,b2,b3,b4,b5,b6,b7,rfl,rfl,hl⟩:=HPU.out j q HQ.out;obtain⟨d0,d1,d2,d3,d4,d5,d6,d7,d8⟩:=hl wr GW.out;clear hl;go_upto_region 27 with fail;obtain⟨W6,hW6⟩:∃W6,wr.alloc (.cells #[.int .i64 mm,.int .u8 b0,.int .u8 b1,.int .u8 b2,.int .u8 b3,.int .u8 b4,.int .u8 b5,.int .u8 b6,.int .u8 b7] 103)=W6:=⟨_,rfl⟩;have g6:=gP hW6
  have P6:=xA hW6
  have G6:=dD (GW.out.trans g6);have X6:=dD (XW.out.grew g6);rw[hW6];clear hW6 d0 d1 d2 d3 d4 d5 d6 d7 d8 GW XW g6;have hus:=HUS.out W6 mm G6.out;obtain⟨U,HU⟩:∃U,Hid (qG m.fl mm=U):=⟨_,rfl⟩;rw[HU.out]at hus;have p0:=P6.out.c 0 rfl;have x7:=X6.out.c 7 rfl;have x8:=X6.out.c 8 rfl;go_wp2_with fail;refine hus.mono ?_;clear hus x7 x8 p0;rintro e W7 ⟨rfl,g7⟩;have G7:=dD (G6.out.trans g7);have X7:=dD (X6.out.grew g7);clear g7 G6 X6 P6
  cases U with
  | true=>
   have OW':Hid (∀(i:Nat) q,i<j+1->m.dq[i]? =some q->qG m.fl q.1=true):=show∀i,_ from fun i q' hi hq'=>by
    by_cases e:i=j
    ·subst e;rw[HQ.out]at hq';cases hq';exact HU.out
    exact OW.out i q' (by omega) hq'
   go_wp2
   go_roundg (dqn -(j+1))
   case measure=>omega
   exact⟨j+1,by omega,by omega,by go_num,G7.out,X7.out,OW'.out⟩
  | false=>
   have HF:Hid (Z=7):=show _=_ by
    have hb:=zck HQ.out HU.out;rw[zZ Z8.out (by rw[hb];decide),hb]
   go_wp2;go_ret;exact⟨by rw[HF.out];rfl,G7.out⟩
 have hltz2:¬(j:Int)< (dqn:Int):=by omega
 obtain rfl:j=dqn:=by omega
 have Z9:Hid (ze [if 4<m.sp.length then 4 else 0,ze (m.sp.map spE)]=Z):=z6 Z8.out (zdK fun i q hq=>OW.out i q (by rw[<-HN6.out];exact(gS.1 hq).1) hq)
 clear Z8 OW;have x10:=XW.out.c 10 rfl
 by_cases h4:4<spn
 ·have h4d:decide ((4:Int)< (spn:Int))=true:=by simp;omega
  have HF:Hid (Z=4):=show _=_ by
   have hb:(if 4<m.sp.length then(4:Int)else 0)=4:=by rw[if_pos (by rw[HN9.out];exact h4)]
   rw[zZ Z9.out (by rw[hb];decide),hb]
  clear h4;go_wp2;go_ret;exact⟨by rw[HF.out];rfl,GW.out⟩
 have h4d:decide ((4:Int)< (spn:Int))=false:=by simp;omega
 have Z10:Hid (ze (m.sp.map spE)=Z):=show _=_ by
  have:=z6 Z9.out (by rw[if_neg (by rw[HN9.out];exact h4)])
  rw[zE]at this
  by_cases e:ze (m.sp.map spE)=0
  ·rw[if_pos e]at this;rw[e];exact this
  rw[if_neg e]at this;exact this
 clear h4 Z9;go_wp2;clear x10;have G9:Hid (zc w wr):=GW;clear GW XW
 go_loopg [106] spn (fun gg s106 wr=>∃i:Nat,i<=spn/\spn - i<=gg/\s106= .int .i64 i/\Hid (zc w wr)/\Hid (ze ((m.sp.drop i).map spE)=Z))
 case atStart=>exact⟨0,nZ _,by omega,rfl,G9.out,Z10.out⟩
 obtain⟨i,hi,hg3,rfl,GW,OW⟩:=hrel;clear G9
 by_cases hlt3:i<spn
 ·have hltz3:(i:Int)< (spn:Int):=by omega
  obtain⟨x,hx⟩:∃x,xs[i]? =some x:=⟨_,gE (by rw[HXL.out];exact hlt3)⟩
  obtain⟨s,hs⟩:∃s,m.sp[i]? =some s:=⟨_,gE (by rw[HN9.out];exact hlt3)⟩
  have HAT:Hid (qL w x s):=HSP.out i x s hx hs;have ZI:Hid (ze (spE s ::(m.sp.drop (i+1)).map spE)=Z):=show _=_ by
   have h1:=OW.out;rw[List.drop_eq_getElem_cons (by rw[HN9.out];exact hlt3),mP]at h1
   have h2:m.sp[i]'(by rw[HN9.out];exact hlt3)=s:=by rw[gE (by rw[HN9.out];exact hlt3)]at hs;cases hs;rfl
   rw[h2]at h1;exact h1
  obtain⟨ad,rfl,hl⟩:=HRW.out i x hx;obtain⟨d0,d1,d2,d3,d4,d5,d6,d7,d8,d9⟩:=hl wr GW.out;clear hl hx hs OW;have HLV:Hid (x.live=s.live):=HAT.out.live;have han:=HAT.out.ar.n;have HAN:Hid (x.ar.n=s.ars.length):=han;clear han;have HAR:Hid (∀W,zc w W->Calls Tryz.prog 97 #[.slice x.ar.a x.ar.n x.ar.c] W fun e w'=>e= .returned (.agg #[.int .i64 (wrL s.ars).1,.int .i64 (wrL s.ars).2])/\zc W w'):=show∀W,_ from fun W hW=>JK _ s.ars W (HAT.out.grew hW).ar (show Cap (.slice x.ar.a x.ar.n x.ar.c)from HAT.out.cap)
  have HTB:Hid (∀W,zc w W->Calls Tryz.prog 98 #[.agg #[.slice x.t0.a x.t0.n x.t0.c,.slice x.t1.a x.t1.n x.t1.c,.slice x.t2.a x.t2.n x.t2.c,.slice x.t3.a x.t3.n x.t3.c,.slice x.t4.a x.t4.n x.t4.c,.slice x.t5.a x.t5.n x.t5.c,.slice x.t6.a x.t6.n x.t6.c,.slice x.t7.a x.t7.n x.t7.c]] W fun e w'=>e= .returned (.int .i64 (tbW s.tb))/\zc W w'):=show∀W,_ from fun W hW=>zb7 x.tab s.tb W (HAT.out.grew hW).tb
  have HST:Hid (∀W,zc w W->Calls Tryz.prog 61 #[.agg #[.slice x.t0.a x.t0.n x.t0.c,.slice x.t1.a x.t1.n x.t1.c,.slice x.t2.a x.t2.n x.t2.c,.slice x.t3.a x.t3.n x.t3.c,.slice x.t4.a x.t4.n x.t4.c,.slice x.t5.a x.t5.n x.t5.c,.slice x.t6.a x.t6.n x.t6.c,.slice x.t7.a x.t7.n x.t7.c],.agg #[.slice none 0 0,.slice none 0 0,.slice none 0 0,.slice none 0 0,.slice none 0 0,.slice none 0 0,.slice none 0 0,.slice none 0 0]] W fun e w'=>e= .returned (.bool (s.tb.all (·.isEmpty)))/\zc W w'):=show∀W,_ from fun W hW=>zeP x.tab s.tb W (HAT.out.grew hW).tb
  go_upto_region 35 with fail;obtain⟨W6,hW6⟩:∃W6,wr.alloc (.cells #[.bool x.live,.slice x.ar.a x.ar.n x.ar.c,.slice x.t0.a x.t0.n x.t0.c,.slice x.t1.a x.t1.n x.t1.c,.slice x.t2.a x.t2.n x.t2.c,.slice x.t3.a x.t3.n x.t3.c,.slice x.t4.a x.t4.n x.t4.c,.slice x.t5.a x.t5.n x.t5.c,.slice x.t6.a x.t6.n x.t6.c,.slice x.t7.a x.t7.n x.t7.c] 55)=W6:=⟨_,rfl⟩;have G6:=gT hW6 GW
  obtain⟨ps,HPS⟩:∃ps,Hid (wr.heap.size=ps):=⟨_,rfl⟩;have S6:=xP hW6 HPS
  rw[hW6,HPS.out];clear hW6 d0 d1 d2 d3 d4 d5 d6 d7 d8 d9 GW HPS;have har:=HAR.out W6 G6.out;have s1:=S6.out.c 1 rfl;obtain⟨E1,HE1⟩:∃E1,Hid ((wrL s.ars).1=E1):=⟨_,rfl⟩;rw[HE1.out]at har;go_wp2_with fail;refine har.mono ?_;clear har s1 HAR;rintro e W7 ⟨rfl,g7⟩;have G7:=dD (G6.out.trans g7);have S7:=dD (S6.out.grew g7);clear g7 G6 S6;go_upto_region 36 with fail;obtain⟨W8,hW8⟩:∃W8,W7.alloc (.cells #[.int .i64 E1,.int .i64 (wrL s.ars).2] 163)=W8:=⟨_,rfl⟩;have g8:=gP hW8
  have F8:=xA hW8
  have G8:=dD (G7.out.trans g8);have S8:=dD (S7.out.grew g8);rw[hW8];clear hW8 g8 G7 S7;have f0:=F8.out.c 0 rfl
  by_cases h1:E1=0
  rotate_left
  ·have h1e:(E1 != 0)=true:=by simp[h1]
   have HF:Hid (Z=E1):=show _=_ by
    have hb:spE s=E1:=by unfold spE;rw[if_pos (by rw[HE1.out];exact h1)];exact HE1.out
    rw[zZ ZI.out (by rw[hb];exact h1),hb]
   clear h1;go_wp2;go_ret;exact⟨by rw[HF.out];first | rfl | skip,G8.out⟩
  have h1e:(E1 != 0)=false:=by simp[h1]
  have HE10:Hid ((wrL s.ars).1=0):=show _=_ by rw[HE1.out];exact h1
  clear h1;have htb:=HTB.out W8 G8.out;obtain⟨E2,HE2⟩:∃E2,Hid (tbW s.tb=E2):=⟨_,rfl⟩;rw[HE2.out]at htb;have s2:=S8.out.c 2 rfl;have s3:=S8.out.c 3 rfl;have s4:=S8.out.c 4 rfl;have s5:=S8.out.c 5 rfl;have s6:=S8.out.c 6 rfl;have s7:=S8.out.c 7 rfl;have s8:=S8.out.c 8 rfl;have s9:=S8.out.c 9 rfl;go_wp2_with fail;refine htb.mono ?_;clear htb HTB f0 s2 s3 s4 s5 s6 s7 s8 s9;rintro e W9 ⟨rfl,g9⟩;have G9:=dD (G8.out.trans g9);have S9:=dD (S8.out.grew g9);clear g9 G8 S8 F8
  by_cases h2:E2=0
  rotate_left
  ·have h2e:(E2 != 0)=true:=by simp[h2]
   have HF:Hid (Z=E2):=show _=_ by
    have hb:spE s=E2:=by unfold spE;rw[if_neg (fun h=>h HE10.out),if_pos (by rw[HE2.out];exact h2)];exact HE2.out
    rw[zZ ZI.out (by rw[hb];exact h2),hb]
   clear h2;go_wp2;go_ret;exact⟨by rw[HF.out];first | rfl | skip,G9.out⟩
  have h2e:(E2 != 0)=false:=by simp[h2]
  have HE20:Hid (tbW s.tb=0):=show _=_ by rw[HE2.out];exact h2
  clear h2;have HSE:Hid (spE s=if(!s.live &&(!s.ars.isEmpty || !s.tb.all (·.isEmpty)))=true then 7 else 0):=show _=_ by unfold spE;rw[if_neg (fun h=>h HE10.out),if_neg (fun h=>h HE20.out)]
  have s0:=S9.out.c 0 rfl;rw[HLV.out]at s0
  cases hlv:s.live with
  | true=>
   rw[hlv]at s0;have OW':Hid (ze ((m.sp.drop (i+1)).map spE)=Z):=z6 ZI.out (by rw[HSE.out,hlv];rfl)
   go_wp2
   go_roundg (spn -(i+1))
   case measure=>omega
   exact⟨i+1,by omega,by omega,by go_num,G9.out,OW'.out⟩
  | false=>
   rw[hlv]at s0;have s1:=S9.out.c 1 rfl
   by_cases ha:0<x.ar.n
   ·have had:decide ((0:Int)< (x.ar.n:Int))=true:=by simp;omega
    have han:decide (0<x.ar.n)=true:=by simp;omega
    have HF:Hid (Z=7):=show _=_ by
     have hne:s.ars.isEmpty=false:=by
      cases e:s.ars with
      | nil=>rw[HAN.out,e]at ha;simp at ha
      | cons a l=>rfl
     have hb:spE s=7:=by rw[HSE.out,hlv,hne];rfl
     rw[zZ ZI.out (by rw[hb];decide),hb]
    have hap:(0:Int)< (x.ar.n:Int):=by omega
    clear ha;go_wp2;go_ret;exact⟨by rw[HF.out];rfl,G9.out⟩
   have had:decide ((0:Int)< (x.ar.n:Int))=false:=by simp;omega
   have han:decide (0<x.ar.n)=false:=by simp;omega
   have HEM:Hid (s.ars.isEmpty=true):=show _=_ by rw[List.isEmpty_iff];exact eN (by rw[<-HAN.out];omega)
   clear ha;have hst:=HST.out W9 G9.out;obtain⟨AE,HAE⟩:∃AE,Hid (s.tb.all (·.isEmpty)=AE):=⟨_,rfl⟩;rw[HAE.out]at hst;have s2:=S9.out.c 2 rfl;have s3:=S9.out.c 3 rfl;have s4:=S9.out.c 4 rfl;have s5:=S9.out.c 5 rfl;have s6:=S9.out.c 6 rfl;have s7:=S9.out.c 7 rfl;have s8:=S9.out.c 8 rfl;have s9:=S9.out.c 9 rfl;go_wp2_with fail;refine hst.mono ?_;clear hst HST s0 s1 s2 s3 s4 s5 s6 s7 s8 s9;rintro e WA ⟨rfl,gA⟩;have GA:=dD (G9.out.trans gA);clear gA G9 S9
   cases AE with
   | true=>
    have OW':Hid (ze ((m.sp.drop (i+1)).map spE)=Z):=z6 ZI.out (by rw[HSE.out,hlv,HEM.out,HAE.out];rfl)
    go_wp2
    go_roundg (spn -(i+1))
    case measure=>omega
    exact⟨i+1,by omega,by omega,by go_num,GA.out,OW'.out⟩
   | false=>
    have HF:Hid (Z=7):=show _=_ by
     have hb:spE s=7:=by rw[HSE.out,hlv,HEM.out,HAE.out];rfl
     rw[zZ ZI.out (by rw[hb];decide),hb]
    go_wp2;go_ret;exact⟨by rw[HF.out];rfl,GA.out⟩
 have hltz3:¬(i:Int)< (spn:Int):=by omega
 obtain rfl:i=spn:=by omega
 have HF:Hid (Z=0):=show _=_ by
  rw[<-OW.out,List.drop_of_length_le (by rw[HN9.out];exact nR _)]
  rfl
 go_wp2;go_ret;exact⟨by rw[HF.out];rfl,GW.out⟩
def QS (m:Ma) (kind k:Int) (p:Nat):Nat:=je ((m.sp.take p).map zJ) kind k
theorem ze9 {m:Ma} {kind k:Int} {p:Nat} {s:Sp} (h:m.sp[p]? =some s):QS m kind k (p+1)=QS m kind k p+jO (zJ s) kind k 64:=by
 unfold QS je;rw[List.take_add_one,h];simp
theorem zcr {m:Ma} {kind k:Int}:QS m kind k m.sp.length=j7 m kind k:=by
 unfold QS j7;rw[List.take_length]
theorem zd8 {m:Ma} {kind k:Int} (p:Nat):QS m kind k p<=64*p:=by
 have:=zaE ((m.sp.take p).map zJ) kind k;simp only[List.length_map,List.length_take]at this;unfold QS;omega
theorem zb9 (V:MaV) (m:Ma) (kind k:Int) (w:World) (hm:zC w V m) (h4:m.sp.length<=4) (h8:∀s∈m.sp,∀h∈s.tb,h.length<=8):
  Calls Tryz.prog 64 #[.agg #[.slice V.f.a V.f.n V.f.c,.int .i64 m.hand,.slice V.s.a V.s.n V.s.c,.slice V.sb.a V.sb.n V.sb.c,.slice V.sq.a V.sq.n V.sq.c,.slice V.db.a V.db.n V.db.c,.slice V.dq.a V.dq.n V.dq.c,.slice V.fl.a V.fl.n V.fl.c,.int .i64 m.cnt,.slice V.ca.a V.ca.n V.ca.c,.slice V.sp.a V.sp.n V.sp.c],.int .i64 kind,.int .i64 k] w fun e w'=>e= .returned (.int .i64 (j7 m kind k:Int))/\zc w w':=by
 obtain⟨-,-,-,-,-,-,-,-,n9⟩:=hm.ns;obtain⟨xs,hxl,hrow,hsp⟩:=hm.spaces;have HR:Hid (∀(j:Nat) x,xs[j]? =some x->∃ad,V.sp.a=some ad/\∀W,zc w W->zjs W (ad.add (j*10)) x):=show∀j,_ from hrow
 have HS:Hid (∀(i:Nat) x s,xs[i]? =some x->m.sp[i]? =some s->qL w x s):=show∀i,_ from hsp
 obtain⟨N,HN⟩:∃N,Hid (m.sp.length=N):=⟨_,rfl⟩;have hN4:N<=4:=by rw[<-HN.out];exact h4
 have HXL:Hid (xs.length=N):=show _=_ by rw[hxl];exact HN.out
 have H8:Hid (∀s∈m.sp,∀h∈s.tb,h.length<=8):=show∀s,_ from h8
 obtain⟨vf,vs,vsb,vsq,vdb,vdq,vfl,vca,⟨spa,spn,spc⟩⟩:=V;dsimp only at n9 HR⊢;obtain rfl:spn=N:=by rw[n9];exact HN.out
 clear hm hrow hsp hxl n9 h8 h4;obtain⟨W0,hW0⟩:∃W0,w.alloc (.cells #[.slice vf.a vf.n vf.c,.int .i64 m.hand,.slice vs.a vs.n vs.c,.slice vsb.a vsb.n vsb.c,.slice vsq.a vsq.n vsq.c,.slice vdb.a vdb.n vdb.c,.slice vdq.a vdq.n vdq.c,.slice vfl.a vfl.n vfl.c,.int .i64 m.cnt,.slice vca.a vca.n vca.c,.slice spa spn spc] 41)=W0:=⟨_,rfl⟩;have HG0:=gA hW0
 have HW0:Hid (_=W0):=hW0;have X0:=xA hW0
 clear hW0
 go_enter Tryz.func64,Tryz.ntmps64
 go_upto_region 2 with fail;rw[HW0.out];have x10:=X0.out.c 10 rfl;go_wp2;clear x10
 go_loopg [7,15] spn (fun gg s7 s15 wr=>∃p:Nat,p<=spn/\spn - p<=gg/\s15= .int .i64 p/\s7= .int .i64 (QS m kind k p:Int)/\Hid (zc w wr))
 case atStart=>exact⟨0,nZ _,by omega,rfl,rfl,HG0.out⟩
 obtain⟨p,hp,hg,rfl,rfl,GW⟩:=hrel
 by_cases hlt:p<spn
 ·have hltz:(p:Int)< (spn:Int):=by omega
  obtain⟨x,hx⟩:∃x,xs[p]? =some x:=⟨_,gE (by rw[HXL.out];exact hlt)⟩
  obtain⟨s,hs⟩:∃s,m.sp[p]? =some s:=⟨_,gE (by rw[HN.out];exact hlt)⟩
  have HAT:Hid (qL w x s):=HS.out p x s hx hs;have HSS:Hid (m.sp[p]? =some s):=hs;obtain⟨ad,rfl,hl⟩:=HR.out p x hx;have hcl:=hl wr GW.out;obtain⟨d0,d1,d2,d3,d4,d5,d6,d7,d8,d9⟩:=hcl;clear hl hx hs;have HF64:Hid (∀j,j<64->(JE s.tb)[j]? =some (zJ s j)):=show∀j,_ from fun j hj=>zdm s.tb hj
  have hfl:∀W,zc w W->Calls Tryz.prog 28 #[.agg #[.slice x.t0.a x.t0.n x.t0.c,.slice x.t1.a x.t1.n x.t1.c,.slice x.t2.a x.t2.n x.t2.c,.slice x.t3.a x.t3.n x.t3.c,.slice x.t4.a x.t4.n x.t4.c,.slice x.t5.a x.t5.n x.t5.c,.slice x.t6.a x.t6.n x.t6.c,.slice x.t7.a x.t7.n x.t7.c]] W fun e w'=>e= .returned (.agg (qd (JE s.tb)).toArray)/\zc W w':=fun W hW=>zcs x.tab s.tb W ((HAT.out.grew hW).tb) (H8.out s (mG HSS.out))
  have HFL:Hid (∀W,zc w W->Calls Tryz.prog 28 #[.agg #[.slice x.t0.a x.t0.n x.t0.c,.slice x.t1.a x.t1.n x.t1.c,.slice x.t2.a x.t2.n x.t2.c,.slice x.t3.a x.t3.n x.t3.c,.slice x.t4.a x.t4.n x.t4.c,.slice x.t5.a x.t5.n x.t5.c,.slice x.t6.a x.t6.n x.t6.c,.slice x.t7.a x.t7.n x.t7.c]] W fun e w'=>e= .returned (.agg (qd (JE s.tb)).toArray)/\zc W w'):=show∀W,_ from hfl
  clear hfl;have hb0:=zd8 (m:=m) (kind:=kind) (k:=k) p;have HSU:Hid (QS m kind k (p+1)=QS m kind k p+jO (zJ s) kind k 64):=ze9 HSS.out;obtain⟨H0,hH0⟩:∃H0,QS m kind k p=H0:=⟨_,rfl⟩;rw[hH0]at hb0 HSU⊢;clear hH0;go_upto_region 5 with fail;obtain⟨W1,hW1⟩:∃W1,wr.alloc (.cells #[.bool x.live,.slice x.ar.a x.ar.n x.ar.c,.slice x.t0.a x.t0.n x.t0.c,.slice x.t1.a x.t1.n x.t1.c,.slice x.t2.a x.t2.n x.t2.c,.slice x.t3.a x.t3.n x.t3.c,.slice x.t4.a x.t4.n x.t4.c,.slice x.t5.a x.t5.n x.t5.c,.slice x.t6.a x.t6.n x.t6.c,.slice x.t7.a x.t7.n x.t7.c] 55)=W1:=⟨_,rfl⟩;have G1:=gT hW1 GW
  have S1:=xA hW1
  rw[hW1];clear hW1 d0 d1 d2 d3 d4 d5 d6 d7 d8 d9;have s2:=S1.out.c 2 rfl;have s3:=S1.out.c 3 rfl;have s4:=S1.out.c 4 rfl;have s5:=S1.out.c 5 rfl;have s6:=S1.out.c 6 rfl;have s7:=S1.out.c 7 rfl;have s8:=S1.out.c 8 rfl;have s9:=S1.out.c 9 rfl;go_wp2_with fail;refine(HFL.out W1 G1.out).mono ?_;clear s2 s3 s4 s5 s6 s7 s8 s9 HFL;rintro e W2 ⟨rfl,g2⟩;have G2:=dD (G1.out.trans g2);clear g2 G1 S1;go_wp2
  go_loopg [7,22] 64 (fun gg s7 s22 wr=>∃n:Nat,n<=64/\64 - n<=gg/\s22= .int .i64 n/\s7= .int .i64 ((H0+jO (zJ s) kind k n:Nat):Int)/\Hid (zc w wr))
  case atStart=>exact⟨0,nZ _,by omega,rfl,rfl,G2.out⟩
  obtain⟨n,hn,hg2,rfl,rfl,GW2⟩:=hrel
  by_cases hlt2:n<64
  ·have hltz2:(n:Int)<64:=by omega
   obtain⟨e,HE⟩:∃e,Hid (zJ s n=e):=⟨_,rfl⟩;have HZF:Hid ((JE s.tb)[n]? =some e):=show _=_ by rw[HF64.out n hlt2,HE.out]
   have hcl:=zh5 (zJ s) kind k n;have HCS:Hid (jO (zJ s) kind k (n+1)=jO (zJ s) kind k n+(isE e kind k).toNat):=show _=_ by rw[<-HE.out];rfl
   obtain⟨c0,hc0⟩:∃c0,jO (zJ s) kind k n=c0:=⟨_,rfl⟩;rw[hc0]at hcl HCS⊢;clear hc0
   go_upto_region 8 with(refine zbo rfl (.tmp 21) (.tmp 22) rfl (JE s.tb) rfl n rfl hlt2 HZF.out ?_)
   obtain⟨W3,hW3⟩:∃W3,wr.alloc (.cells #[.int .i64 e.kind,.int .i64 e.n,.bool e.wr] 74)=W3:=⟨_,rfl⟩;have G3:=gT hW3 GW2
   have E3:=xA hW3
   rw[hW3];clear hW3;have e0:=E3.out.c 0 rfl;have e1:=E3.out.c 1 rfl
   by_cases h1:e.kind=kind
   ·have h1e:(e.kind == kind)=true:=by simp[h1]
    by_cases h2:e.n=k
    ·have h2e:(e.n == k)=true:=by simp[h2]
     have HV:Hid (jO (zJ s) kind k (n+1)=c0+1):=show _=_ by rw[HCS.out];simp[isE,h1,h2]
     clear h1 h2;go_wp2
     go_roundg (64 -(n+1))
     case measure=>omega
     exact⟨n+1,by omega,by omega,by go_num,by rw[HV.out];go_num,G3.out⟩
    have h2e:(e.n == k)=false:=by simp[h2]
    have HV:Hid (jO (zJ s) kind k (n+1)=c0):=show _=_ by rw[HCS.out];simp[isE,h2]
    clear h1 h2;go_wp2
    go_roundg (64 -(n+1))
    case measure=>omega
    exact⟨n+1,by omega,by omega,by go_num,by rw[HV.out];go_num,G3.out⟩
   have h1e:(e.kind == kind)=false:=by simp[h1]
   have HV:Hid (jO (zJ s) kind k (n+1)=c0):=show _=_ by rw[HCS.out];simp[isE,h1]
   clear h1;go_wp2
   go_roundg (64 -(n+1))
   case measure=>omega
   exact⟨n+1,by omega,by omega,by go_num,by rw[HV.out];go_num,G3.out⟩
  have hltz2:¬(n:Int)<64:=by omega
  obtain rfl:n=64:=by omega
  go_wp2
  go_roundg (spn -(p+1))
  case measure=>omega
  exact⟨p+1,by omega,by omega,by go_num,by rw[HSU.out];go_num,GW2.out⟩
 have hltz:¬(p:Int)< (spn:Int):=by omega
 obtain rfl:p=spn:=by omega
 have HF:Hid (QS m kind k p=j7 m kind k):=show _=_ by rw[<-HN.out];exact zcr
 rw[HF.out];go_wp2;go_ret;exact⟨rfl,GW.out⟩
def zkN (mi it sh ew xw big:Bool):Bool:=(!mi && !it) || (sh && !it) || (ew && !xw) || (ew && it && !sh) || (ew && mi && big)
theorem zkG {m:Ma} {x:On} {e:En} {q:Fr} (h1:x.is=true) (h2:¬e.kind=2) (h3:¬(m.fs.length:Int)<=e.n) (hq:z8 m e.n=q):JF m x e=if zkN (q.f == -1) (decide (0<=x.file) &&(q.f == x.file) &&(q.x == x.page)) x.sh e.wr x.wr (decide (1<q.r))=true then 7 else 0:=by
 have key:zkN (q.f == -1) (decide (0<=x.file) &&(q.f == x.file) &&(q.x == x.page)) x.sh e.wr x.wr (decide (1<q.r))=true↔((¬q.f=-1/\¬(0<=x.file/\q.f=x.file/\q.x=x.page))\/(x.sh=true/\¬(0<=x.file/\q.f=x.file/\q.x=x.page))\/(e.wr=true/\x.wr=false)\/(e.wr=true/\(0<=x.file/\q.f=x.file/\q.x=x.page)/\x.sh=false)\/(e.wr=true/\q.f=-1/\1<q.r)):=by
  have hit:(decide (0<=x.file) &&(q.f == x.file) &&(q.x == x.page))=true↔(0<=x.file/\q.f=x.file/\q.x=x.page):=by simp[and_assoc]
  have hmi:(q.f == -1)=true↔q.f=-1:=by simp
  generalize hb:decide (1<q.r)=bg
  have hbg:bg=true↔1<q.r:=by rw[<-hb];simp
  rw[<-hit,<-hmi,<-hbg];clear hit hmi hbg hb
  generalize(decide (0<=x.file) &&(q.f == x.file) &&(q.x == x.page))=it
  generalize(q.f == -1)=mi
  generalize x.sh=sh
  generalize e.wr=ew
  generalize x.wr=xw
  cases mi <;> cases it <;> cases sh <;> cases ew <;> cases xw <;> cases bg <;> decide
 unfold JF;rw[if_neg (by rw[h1];decide),if_neg h2,if_neg h3,hq]
 by_cases hb:zkN (q.f == -1) (decide (0<=x.file) &&(q.f == x.file) &&(q.x == x.page)) x.sh e.wr x.wr (decide (1<q.r))=true
 ·rw[if_pos hb,if_pos (key.1 hb)]
 rw[if_neg hb,if_neg (fun h=>hb (key.2 h))]
theorem zdJ (V:MaV) (m:Ma) (x:On) (e:En) (w:World) (hm:zC w V m) (h0:0<=e.n):
  Calls Tryz.prog 63 #[.agg #[.slice V.f.a V.f.n V.f.c,.int .i64 m.hand,.slice V.s.a V.s.n V.s.c,.slice V.sb.a V.sb.n V.sb.c,.slice V.sq.a V.sq.n V.sq.c,.slice V.db.a V.db.n V.db.c,.slice V.dq.a V.dq.n V.dq.c,.slice V.fl.a V.fl.n V.fl.c,.int .i64 m.cnt,.slice V.ca.a V.ca.n V.ca.c,.slice V.sp.a V.sp.n V.sp.c],.agg #[.bool x.is,.bool x.rd,.bool x.wr,.bool x.sh,.int .i64 x.file,.int .i64 x.page],.agg #[.int .i64 e.kind,.int .i64 e.n,.bool e.wr]] w fun r w'=>r= .returned (.int .i64 (JF m x e))/\zc w w':=by
 obtain⟨n1,n2,-⟩:=hm.ns;have HFR:Hid (Qs w V.f.a m.fs):=hm.frs;obtain⟨⟨fa,fn,fc⟩,⟨sa,sn,sc⟩,vsb,vsq,vdb,vdq,vfl,vca,vsp⟩:=V;dsimp only at n1 n2 HFR⊢;obtain rfl:fn=m.fs.length:=n1;obtain rfl:sn=m.sl.length:=n2;obtain⟨NF,HNF⟩:∃NF,Hid (m.fs.length=NF):=⟨_,rfl⟩;obtain⟨NS,HNS⟩:∃NS,Hid (m.sl.length=NS):=⟨_,rfl⟩;rw[HNF.out,HNS.out];clear hm;obtain⟨ANS,HANS⟩:∃ANS,Hid (JF m x e=ANS):=⟨_,rfl⟩;rw[HANS.out];obtain⟨W0,hW0⟩:∃W0,((w.alloc (.cells #[.slice fa NF fc,.int .i64 m.hand,.slice sa NS sc,.slice vsb.a vsb.n vsb.c,.slice vsq.a vsq.n vsq.c,.slice vdb.a vdb.n vdb.c,.slice vdq.a vdq.n vdq.c,.slice vfl.a vfl.n vfl.c,.int .i64 m.cnt,.slice vca.a vca.n vca.c,.slice vsp.a vsp.n vsp.c] 41)).alloc (.cells #[.bool x.is,.bool x.rd,.bool x.wr,.bool x.sh,.int .i64 x.file,.int .i64 x.page] 61)).alloc (.cells #[.int .i64 e.kind,.int .i64 e.n,.bool e.wr] 74)=W0:=⟨_,rfl⟩;have G0:Hid (zc w W0):=show zc _ _ by rw[<-hW0];exact((za _ _).trans (za _ _)).trans (za _ _)
 have X0:Hid (Box W0 w.heap.size [.slice fa NF fc,.int .i64 m.hand,.slice sa NS sc,.slice vsb.a vsb.n vsb.c,.slice vsq.a vsq.n vsq.c,.slice vdb.a vdb.n vdb.c,.slice vdq.a vdq.n vdq.c,.slice vfl.a vfl.n vfl.c,.int .i64 m.cnt,.slice vca.a vca.n vca.c,.slice vsp.a vsp.n vsp.c]):=show Box _ _ _ by rw[<-hW0];exact((Box.top _ _ _ rfl).alloc _).alloc _
 have Y0:Hid (Box W0 (w.heap.size+1) [.bool x.is,.bool x.rd,.bool x.wr,.bool x.sh,.int .i64 x.file,.int .i64 x.page]):=show Box _ _ _ by rw[<-hW0];exact(Box.top _ _ _ (by simp)).alloc _
 have Z0:Hid (Box W0 (w.heap.size+2) [.int .i64 e.kind,.int .i64 e.n,.bool e.wr]):=show Box _ _ _ by rw[<-hW0];exact Box.top _ _ _ (by simp)
 have HW0:Hid (_=W0):=hW0;clear hW0
 go_enter Tryz.func63,Tryz.ntmps63
 go_upto_region 1 with fail;rw[HW0.out];have x0:=X0.out.c 0 rfl;have x2:=X0.out.c 2 rfl;have y0:=Y0.out.c 0 rfl;have y1:=Y0.out.c 1 rfl;have y2:=Y0.out.c 2 rfl;have y3:=Y0.out.c 3 rfl;have y4:=Y0.out.c 4 rfl;have y5:=Y0.out.c 5 rfl;obtain⟨z0,z1,z2⟩:=Z0.out.c3
 cases his:x.is with
 | false=>
  have HF:Hid (ANS=5):=show _=_ by rw[<-HANS.out];unfold JF;rw[if_pos his]
  rw[his]at y0;go_wp2;go_ret;exact⟨by rw[HF.out];rfl,G0.out⟩
 | true=>
  rw[his]at y0
  by_cases h2:e.kind=2
  ·have h2e:(e.kind == 2)=true:=by simp[h2]
   by_cases h3:(NS:Int)<=e.n
   ·have h3d:decide ((NS:Int)<=e.n)=true:=by simpa using h3
    have HF:Hid (ANS=7):=show _=_ by rw[<-HANS.out];unfold JF;rw[if_neg (by rw[his];decide),if_pos h2,if_pos (.inl (by rw[HNS.out];exact h3))]
    go_wp2;go_ret;exact⟨by rw[HF.out];rfl,G0.out⟩
   have h3d:decide ((NS:Int)<=e.n)=false:=by simpa using h3
   have HF:Hid (ANS=if x.sh=true then 7 else 0):=show _=_ by
    rw[<-HANS.out];unfold JF;rw[if_neg (by rw[his];decide),if_pos h2]
    by_cases hs:x.sh=true
    ·rw[if_pos hs,if_pos (.inr hs)]
    rw[if_neg hs,if_neg (by rintro(h | h) <;> first | exact h3 (by rw[<-HNS.out];exact h) | exact hs h)]
   cases hsh:x.sh with
   | true=>
    rw[hsh]at y3 HF;go_wp2;go_ret;exact⟨by rw[HF.out];rfl,G0.out⟩
   | false=>
    rw[hsh]at y3 HF;go_wp2;go_ret;exact⟨by rw[HF.out];rfl,G0.out⟩
  have h2e:(e.kind == 2)=false:=by simp[h2]
  by_cases h3:(NF:Int)<=e.n
  ·have h3d:decide ((NF:Int)<=e.n)=true:=by simpa using h3
   have HF:Hid (ANS=3):=show _=_ by rw[<-HANS.out];unfold JF;rw[if_neg (by rw[his];decide),if_neg h2,if_pos (by rw[HNF.out];exact h3)]
   go_wp2;go_ret;exact⟨by rw[HF.out];rfl,G0.out⟩
  have h3d:decide ((NF:Int)<=e.n)=false:=by simpa using h3
  have hnz:e.n< (NF:Int):=by omega
  obtain⟨j,hj⟩:∃j:Nat,e.n=(j:Int):=⟨e.n.toNat,by omega⟩
  obtain⟨q,hq⟩:∃q,m.fs[j]? =some q:=⟨_,gE (by rw[HNF.out];omega)⟩
  obtain⟨ad,rfl,hl⟩:=HFR.out j q hq;have hcl:=hl W0 G0.out;have HF:Hid (ANS=if zkN (q.f == -1) (decide (0<=x.file) &&(q.f == x.file) &&(q.x == x.page)) x.sh e.wr x.wr (decide (1<q.r))=true then 7 else 0):=show _=_ by rw[<-HANS.out];exact zkG his h2 (by rw[HNF.out];exact h3) (by rw[hj];exact Qe hq)
  obtain⟨d0,d1,d2,d3,d4,d5,d6,d7,d8,d9,d10,d11,d12⟩:=hcl;rw[hj]at z1 hnz h3d h3;have HJ:Hid (e.n=(j:Int)):=hj;clear hl hq h2 his hj;go_upto_region 10 with fail;obtain⟨W1,hW1⟩:∃W1,W0.alloc (.cells #[.int .u8 q.p.b0,.int .u8 q.p.b1,.int .u8 q.p.b2,.int .u8 q.p.b3,.int .u8 q.p.b4,.int .u8 q.p.b5,.int .u8 q.p.b6,.int .u8 q.p.b7,.int .i64 q.r,.bool q.u,.bool q.d,.int .i64 q.f,.int .i64 q.x] 69)=W1:=⟨_,rfl⟩;obtain⟨pq,HPQ⟩:∃pq,Hid (W0.heap.size=pq):=⟨_,rfl⟩;have G1:=gT hW1 G0
  have Q1:=xP hW1 HPQ
  have Y1:=yA hW1 Y0
  have Z1:=yA hW1 Z0
  rw[hW1,HPQ.out];clear hW1 d0 d1 d2 d3 d4 d5 d6 d7 d8 d9 d10 d11 d12 x0 x2 y0 y1 y2 y3 y4 y5 z0 z1 z2;have q8:=Q1.out.c 8 rfl;have q11:=Q1.out.c 11 rfl;have q12:=Q1.out.c 12 rfl;have y2:=Y1.out.c 2 rfl;have y3:=Y1.out.c 3 rfl;have y4:=Y1.out.c 4 rfl;have y5:=Y1.out.c 5 rfl;have z2:=Z1.out.c 2 rfl;go_upto_region 11 with fail;obtain⟨it,HIT⟩:∃it,Hid ((decide (0<=x.file) &&(q.f == x.file) &&(q.x == x.page))=it):=⟨_,rfl⟩;rw[HIT.out]at HF
  go_cut [9] (fun s9 wx=>s9= .bool it/\wx=W1)
  case first=>
   by_cases k1:0<=x.file
   ·have k1d:decide ((0:Int)<=x.file)=true:=by simpa using k1
    by_cases k2:q.f=x.file
    ·have k2e:(q.f == x.file)=true:=by simp[k2]
     have HV:Hid ((q.x == x.page)=it):=show _=_ by rw[<-HIT.out,k1d,k2e];rfl
     clear k1 k2;go_wp2
     go_meet
     exact⟨by rw[HV.out],rfl⟩
    have k2e:(q.f == x.file)=false:=by simp[k2]
    have HV:Hid (false=it):=show _=_ by rw[<-HIT.out,k2e];simp
    clear k1 k2;go_wp2
    go_meet
    exact⟨by rw[<-HV.out],rfl⟩
   have k1d:decide ((0:Int)<=x.file)=false:=by simpa using k1
   have HV:Hid (false=it):=show _=_ by rw[<-HIT.out,k1d];rfl
   clear k1;go_wp2
   go_meet
   exact⟨by rw[<-HV.out],rfl⟩
  obtain⟨rfl,rfl⟩:=hcut;obtain⟨mi,hmi⟩:∃mi,(q.f == -1)=mi:=⟨_,rfl⟩;obtain⟨bg,hbg⟩:∃bg,decide (1<q.r)=bg:=⟨_,rfl⟩;rw[hmi,hbg]at HF;try rw[hmi]
  obtain⟨sh,hsh⟩:∃sh,x.sh=sh:=⟨_,rfl⟩;obtain⟨ew,hew⟩:∃ew,e.wr=ew:=⟨_,rfl⟩;obtain⟨xw,hxw⟩:∃xw,x.wr=xw:=⟨_,rfl⟩;rw[hsh,hew,hxw]at HF;rw[hsh]at y3;rw[hew]at z2;rw[hxw]at y2;clear hsh hew hxw hmi y4 y5 q11 q12 HIT
  cases mi with
  | false=>
   cases it with
   | false=>
    (go_wp2;go_ret;exact⟨by rw[HF.out];first | rfl | (cases bg <;> rfl),G1.out⟩)
   | true=>
    cases sh with
    | false=>
     cases ew with
     | false=>
      (go_wp2;go_ret;exact⟨by rw[HF.out];first | rfl | (cases bg <;> rfl),G1.out⟩)
     | true=>
      cases xw with
      | false=>
       (go_wp2;go_ret;exact⟨by rw[HF.out];first | rfl | (cases bg <;> rfl),G1.out⟩)
      | true=>
       (go_wp2;go_ret;exact⟨by rw[HF.out];first | rfl | (cases bg <;> rfl),G1.out⟩)
    | true=>
     cases ew with
     | false=>
      (go_wp2;go_ret;exact⟨by rw[HF.out];first | rfl | (cases bg <;> rfl),G1.out⟩)
     | true=>
      cases xw with
      | false=>
       (go_wp2;go_ret;exact⟨by rw[HF.out];first | rfl | (cases bg <;> rfl),G1.out⟩)
      | true=>
       (go_wp2;go_ret;exact⟨by rw[HF.out];first | rfl | (cases bg <;> rfl),G1.out⟩)
  | true=>
   cases sh with
   | false=>
    cases ew with
    | false=>
     (go_wp2;go_ret;exact⟨by rw[HF.out];first | rfl | (cases bg <;> rfl),G1.out⟩)
    | true=>
     cases xw with
     | false=>
      (go_wp2;go_ret;exact⟨by rw[HF.out];first | rfl | (cases bg <;> rfl),G1.out⟩)
     | true=>
      cases it with
      | false=>
       cases bg with
       | false=>
        (go_wp2;go_ret;exact⟨by rw[HF.out];first | rfl | (cases bg <;> rfl),G1.out⟩)
       | true=>
        (go_wp2;go_ret;exact⟨by rw[HF.out];first | rfl | (cases bg <;> rfl),G1.out⟩)
      | true=>
       (go_wp2;go_ret;exact⟨by rw[HF.out];first | rfl | (cases bg <;> rfl),G1.out⟩)
   | true=>
    cases it with
    | false=>
     (go_wp2;go_ret;exact⟨by rw[HF.out];first | rfl | (cases bg <;> rfl),G1.out⟩)
    | true=>
     cases ew with
     | false=>
      (go_wp2;go_ret;exact⟨by rw[HF.out];first | rfl | (cases bg <;> rfl),G1.out⟩)
     | true=>
      cases xw with
      | false=>
       (go_wp2;go_ret;exact⟨by rw[HF.out];first | rfl | (cases bg <;> rfl),G1.out⟩)
      | true=>
       cases bg with
       | false=>
        (go_wp2;go_ret;exact⟨by rw[HF.out];first | rfl | (cases bg <;> rfl),G1.out⟩)
       | true=>
        (go_wp2;go_ret;exact⟨by rw[HF.out];first | rfl | (cases bg <;> rfl),G1.out⟩)
def goL (f:Nat->Int) (n k:Nat):Int:=ze ((List.range' k (n - k)).map f)
def thr (a b:Int):Int:=if a=0 then b else a
theorem zdj (f:Nat->Int) (n:Nat):goL f n 0=ze ((List.range n).map f):=by unfold goL;rw[List.range_eq_range'];simp
theorem zdi (f:Nat->Int) (n:Nat):goL f n n=0:=by unfold goL;simp[ze]
theorem zdh (f:Nat->Int) {n k:Nat} (h:k<n):goL f n k=thr (f k) (goL f n (k+1)):=by
 unfold goL thr;obtain⟨j,hj⟩:∃j,n - k=j+1:=⟨n - k - 1,by omega⟩
 rw[hj,show n -(k+1)=j by omega,List.range'_succ,mP,zE]
theorem zfc {f:Nat->Int} {n k:Nat} {R:List Int} {Z:Int} (h:k<n) (hz:ze (goL f n k :: R)=Z) (hf:f k≠0):Z=f k:=by
 rw[zdh f h]at hz;unfold thr at hz;rw[if_neg hf]at hz;exact zZ hz hf
theorem zfW {f:Nat->Int} {n k:Nat} {R:List Int} {Z:Int} (h:k<n) (hz:ze (goL f n k :: R)=Z) (hf:f k=0):ze (goL f n (k+1) :: R)=Z:=by
 rw[zdh f h]at hz;unfold thr at hz;rw[if_pos hf]at hz;exact hz
theorem zeK {a b:Int} {R:List Int} {Z:Int} (hz:ze (thr a b :: R)=Z) (ha:a≠0):Z=a:=by
 unfold thr at hz;rw[if_neg ha]at hz;exact zZ hz ha
theorem zju {a b:Int} {R:List Int} {Z:Int} (hz:ze (thr a b :: R)=Z) (ha:a=0):ze (b :: R)=Z:=by
 unfold thr at hz;rw[if_pos ha]at hz;exact hz
def spF (m:Ma) (i:Nat):Int:=match m.sp[i]? with | some s=>Zd m s | none=>0
theorem zjM (m:Ma):ze (m.sp.map (Zd m))=goL (spF m) m.sp.length 0:=by
 rw[zdj]
 congr 1
 apply List.ext_getElem?
 intro i;rw[List.getElem?_map,List.getElem?_map]
 rcases Nat.lt_or_ge i m.sp.length with h | h
 ·rw[gE h,List.getElem?_range h];simp only[Option.map_some,spF,gE h]
 rw[gN h,gN (by simpa using h)]
 rfl
theorem zkt {m:Ma} {i:Nat} {s:Sp} (h:m.sp[i]? =some s):spF m i=Zd m s:=by unfold spF;rw[h]
theorem zjJ (a b:Int) (R:List Int):ze (thr a b :: R)=ze (a :: b :: R):=by
 unfold thr
 by_cases h:a=0
 ·rw[if_pos h,zE a,if_pos h]
 rw[if_neg h,zE,if_neg h,zE,if_neg h]
theorem zhO {s:Sp} (h:tbW s.tb=0) (n:Nat):enW (zJ s n)=0:=by
 unfold zJ za0;have hall:=Jt.1 h;have:zfz (s.tb[n / 8]?.getD []):=by
  cases e:s.tb[n / 8]? with
  | none=>exact .inl rfl
  | some x=>exact hall x (mG e)
 exact this.get (n % 8)
theorem zkH {e:En} (h:enW e=0):0<=e.n:=by
 unfold enW at h
 split at h
 ·split at h
  ·omega
  cases h
 cases h
def pgF (m:Ma) (s:Sp) (n:Nat):Int:=if(zJ s n).kind=0 then 0 else JF m (zH s.ars n) (zJ s n)
theorem zjP (m:Ma) (s:Sp):Zd m s=goL (pgF m s) 64 0:=by rw[zdj];rfl
def pvC (m:Ma) (i:Nat):Option Ca:=if i=0 then none else m.ca[i - 1]?
theorem ziy (m:Ma):pvC m 0=none:=rfl
theorem zkd {m:Ma} {i:Nat} {c:Ca} (h:m.ca[i]? =some c):J1 m (pvC m i) (m.ca.drop i)=thr (caE m (pvC m i) c) (J1 m (pvC m (i+1)) (m.ca.drop (i+1))):=by
 have hl:=(gS.1 h).1;have hc:m.ca[i]=c:=by rw[gE hl]at h;cases h;rfl
 have hp:pvC m (i+1)=some c:=by unfold pvC;rw[if_neg (by omega)];exact h
 rw[List.drop_eq_getElem_cons hl,hc,hp];rfl
structure Pts (m:Ma):Prop where
 s4:m.sp.length<=4
 f40:m.fs.length<=40
 fr:∀(k:Nat) f,m.fs[k]? =some f->0<=f.r/\f.r<=1000
 fl:m.fl.length<=5/\∀f∈m.fl,f.bl.length<=12
 ar:∀s∈m.sp,(wrL s.ars).1=0/\tbW s.tb=0
theorem zkx {m:Ma} (h:zaB m=0):Pts m:=by
 unfold zaB at h;rw[zI]at h;have p1:Ze m.fs m.hand=0:=h _ (by simp)
 have p5:stW m.fl m.cnt=0:=h _ (by simp)
 have p9:(if 4<m.sp.length then(4:Int)else 0)=0:=h _ (by simp)
 have p10:=zI.1 (h (ze (m.sp.map spE)) (by simp))
 obtain⟨⟨a1,a2,a3⟩,a4,a5⟩:=(jp _ _).1 p5;unfold Ze at p1
 split at p1
 ·cases p1
 rename_i b1
 split at p1
 ·rename_i b2
  refine⟨?_,by omega,fun k f hf=>?_,⟨a1,fun f hf=>?_⟩,fun s hs=>?_⟩
  ·split at p9
   ·cases p9
   omega
  ·have hw:=Jh.1 b2 f (mG hf);unfold frW at hw
   split at hw
   ·cases hw
   rename_i c1
   simp[inB]at c1
   omega
  ·obtain⟨k1,k2,k3⟩:=a4 f hf;have:=zf2 k1.1 k1.2;omega
  have h3:=p10 (spE s) (List.mem_map.2 ⟨s,hs,rfl⟩);unfold spE at h3
  split at h3
  ·rename_i c
   exact absurd h3 c
  rename_i c
  split at h3
  ·rename_i d
   exact absurd h3 d
  rename_i d
  exact⟨Classical.byContradiction c,Classical.byContradiction d⟩
 rename_i b2
 exact absurd p1 b2
theorem tb8 {t:List (List En)} (h:tbW t=0):∀x∈t,x.length<=8:=fun x hx=>by
 rcases Jt.1 h x hx with e | e
 ·rw[e];simp
 rw[e.1];omega
theorem zfr {l:List Ca} {j:Nat} {c:Ca} {k:Int} (h:l[j]? =some c):zK (l.take (j+1)) k=zK (l.take j) k+(decide (c.fr=k)).toNat:=by
 unfold zK;rw[List.take_add_one,h]
 simp[List.countP_append,List.countP_cons,Bool.toNat]
theorem zh8 {l:List Ca} (j:Nat) {k:Int}:zK (l.take j) k<=j:=nT List.countP_le_length (by simp;omega)
theorem zcY (V:MaV) (m:Ma) (w:World) (hm:zC w V m):
  Calls Tryz.prog 19 #[.agg #[.slice V.f.a V.f.n V.f.c,.int .i64 m.hand,.slice V.s.a V.s.n V.s.c,.slice V.sb.a V.sb.n V.sb.c,.slice V.sq.a V.sq.n V.sq.c,.slice V.db.a V.db.n V.db.c,.slice V.dq.a V.dq.n V.dq.c,.slice V.fl.a V.fl.n V.fl.c,.int .i64 m.cnt,.slice V.ca.a V.ca.n V.ca.c,.slice V.sp.a V.sp.n V.sp.c]] w fun e w'=>e= .returned (.int .i64 (maW m))/\zc w w':=by
 have HM:Hid (zC w V m):=hm;obtain⟨n1,n2,-,-,-,-,n7,n8,n9⟩:=hm.ns;obtain⟨xs,hxl,hrow,hsp⟩:=hm.spaces;have HFR:Hid (Qs w V.f.a m.fs):=hm.frs;have HCA:Hid (zaX w V.ca.a m.ca):=hm.cas;have HSL:Hid (zaU w V.s.a m.sl):=hm.sls;have hcab:=hm.ca.2;have hslb:=hm.sl.2;obtain⟨_,_,hfe,_,hfr⟩:=qN.rows hm.fl;have HFL:Hid (Zb w V.fl.a m.fl):=show Zb _ _ _ by
  simp only[vJ]at hfe;rw[hfe.1];exact hfr
 have HPT:Hid (∀W,zc w W->Calls Tryz.prog 62 #[.agg #[.slice V.f.a V.f.n V.f.c,.int .i64 m.hand,.slice V.s.a V.s.n V.s.c,.slice V.sb.a V.sb.n V.sb.c,.slice V.sq.a V.sq.n V.sq.c,.slice V.db.a V.db.n V.db.c,.slice V.dq.a V.dq.n V.dq.c,.slice V.fl.a V.fl.n V.fl.c,.int .i64 m.cnt,.slice V.ca.a V.ca.n V.ca.c,.slice V.sp.a V.sp.n V.sp.c]] W fun e w'=>e= .returned (.int .i64 (zaB m))/\zc W w'):=show∀W,_ from fun W hW=>zdI V m W (HM.out.grew hW)
 have HEN:Hid (∀W x e,zc w W->0<=e.n->Calls Tryz.prog 63 #[.agg #[.slice V.f.a V.f.n V.f.c,.int .i64 m.hand,.slice V.s.a V.s.n V.s.c,.slice V.sb.a V.sb.n V.sb.c,.slice V.sq.a V.sq.n V.sq.c,.slice V.db.a V.db.n V.db.c,.slice V.dq.a V.dq.n V.dq.c,.slice V.fl.a V.fl.n V.fl.c,.int .i64 m.cnt,.slice V.ca.a V.ca.n V.ca.c,.slice V.sp.a V.sp.n V.sp.c],.agg (onv x).toArray,.agg #[.int .i64 e.kind,.int .i64 e.n,.bool e.wr]] W fun r w'=>r= .returned (.int .i64 (JF m x e))/\zc W w'):=show∀W x e,_ from fun W x e hW h0=>zdJ V m x e W (HM.out.grew hW) h0
 have HHO:Hid (∀W kind k,zc w W->Pts m->Calls Tryz.prog 64 #[.agg #[.slice V.f.a V.f.n V.f.c,.int .i64 m.hand,.slice V.s.a V.s.n V.s.c,.slice V.sb.a V.sb.n V.sb.c,.slice V.sq.a V.sq.n V.sq.c,.slice V.db.a V.db.n V.db.c,.slice V.dq.a V.dq.n V.dq.c,.slice V.fl.a V.fl.n V.fl.c,.int .i64 m.cnt,.slice V.ca.a V.ca.n V.ca.c,.slice V.sp.a V.sp.n V.sp.c],.int .i64 kind,.int .i64 k] W fun e w'=>e= .returned (.int .i64 (j7 m kind k:Int))/\zc W w'):=show∀W,_ from fun W kind k hW hp=>zb9 V m kind k W (HM.out.grew hW) hp.s4 (fun s hs=>tb8 (hp.ar s hs).2)
 obtain⟨Z,HZ⟩:∃Z,Hid (maW m=Z):=⟨_,rfl⟩;rw[HZ.out];have Z1:Hid (ze [zaB m,J1 m none m.ca,ze (m.sp.map (Zd m)),ze ((List.range m.fs.length).map (frE m)),ze ((List.range m.sl.length).map (Qh m))]=Z):=HZ.out;clear HZ;obtain⟨⟨fa,fn,fc⟩,⟨sa,sn,sc⟩,vsb,vsq,vdb,vdq,⟨fla,fln,flc⟩,⟨caa,can,cac⟩,⟨spa,spn,spc⟩⟩:=V;dsimp only at n1 n2 n7 n8 n9 hrow HFR HCA HSL HFL HPT HEN HHO⊢;have HN1:Hid (m.fs.length=fn):=n1.symm;have HN2:Hid (m.sl.length=sn):=n2.symm;have HN7:Hid (m.fl.length=fln):=n7.symm;have HN8:Hid (m.ca.length=can):=n8.symm;have HN9:Hid (m.sp.length=spn):=n9.symm;have hb8:can<=5864062014805:=by rw[n8];have h:m.ca.length*24<=140737488355328:=hcab;omega
 have hb2:sn<=9223372036854775807:=by rw[n2];have h:m.sl.length*8<=140737488355328:=hslb;omega
 have HXL:Hid (xs.length=spn):=show _=_ by rw[hxl];exact HN9.out
 have HRW:Hid (∀(j:Nat) x,xs[j]? =some x->∃ad,spa=some ad/\∀W,zc w W->zjs W (ad.add (j*10)) x):=show∀j,_ from hrow
 have HSP:Hid (∀(i:Nat) x s,xs[i]? =some x->m.sp[i]? =some s->qL w x s):=show∀i,_ from hsp
 clear hm n1 n2 n7 n8 n9 hxl hrow hsp hfe hfr hcab hslb;obtain⟨W0,hW0⟩:∃W0,w.alloc (.cells #[.slice fa fn fc,.int .i64 m.hand,.slice sa sn sc,.slice vsb.a vsb.n vsb.c,.slice vsq.a vsq.n vsq.c,.slice vdb.a vdb.n vdb.c,.slice vdq.a vdq.n vdq.c,.slice fla fln flc,.int .i64 m.cnt,.slice caa can cac,.slice spa spn spc] 41)=W0:=⟨_,rfl⟩;have G0:=gA hW0
 have X0:=xA hW0
 have HW0:Hid (_=W0):=hW0;clear hW0
 go_enter Tryz.func19,Tryz.ntmps19
 go_upto_region 1 with fail;rw[HW0.out];clear HW0;obtain⟨x0,x1,x2,x3,x4,x5,x6,x7,x8,x9,x10⟩:=X0.out.c11;have hc:=HPT.out W0 G0.out;obtain⟨E1,HE1⟩:∃E1,Hid (zaB m=E1):=⟨_,rfl⟩;rw[HE1.out]at hc Z1;go_wp2_with fail;refine hc.mono ?_;clear hc;clear x0 x1 x2 x3 x4 x5 x6 x7 x8 x9 x10;rintro e W1 ⟨rfl,g⟩;have G1:=dD (G0.out.trans g);have X1:=dD (X0.out.grew g);clear g G0 X0
 by_cases hz:E1=0
 rotate_left
 ·have hze:(E1 != 0)=true:=by simp[hz]
  have HF:Hid (Z=E1):=zZ Z1.out hz;clear hz;go_wp2;go_ret;exact⟨by rw[HF.out];first | rfl | skip,G1.out⟩
 have hze:(E1 != 0)=false:=by simp[hz]
 have Z2:Hid (ze [J1 m none m.ca,ze (m.sp.map (Zd m)),ze ((List.range m.fs.length).map (frE m)),ze ((List.range m.sl.length).map (Qh m))]=Z):=z6 Z1.out hz;have HP:Hid (Pts m):=zkx (by rw[HE1.out];exact hz)
 have hsp4:spn<=4:=by rw[<-HN9.out];exact HP.out.s4
 have hfn40:fn<=40:=by rw[<-HN1.out];exact HP.out.f40
 clear hz Z1 HE1 HPT;have x9:=X1.out.c 9 rfl;go_wp2;clear x9 hze
 go_loopg [29] can (fun gg s29 wr=>∃i:Nat,i<=can/\can - i<=gg/\s29= .int .i64 i/\Hid (zc w wr)/\Hid (Box wr w.heap.size [.slice fa fn fc,.int .i64 m.hand,.slice sa sn sc,.slice vsb.a vsb.n vsb.c,.slice vsq.a vsq.n vsq.c,.slice vdb.a vdb.n vdb.c,.slice vdq.a vdq.n vdq.c,.slice fla fln flc,.int .i64 m.cnt,.slice caa can cac,.slice spa spn spc])/\Hid (ze [J1 m (pvC m i) (m.ca.drop i),ze (m.sp.map (Zd m)),ze ((List.range m.fs.length).map (frE m)),ze ((List.range m.sl.length).map (Qh m))]=Z)/\Hid (∀(j:Nat) c,j<i->m.ca[j]? =some c->0<=c.file/\c.file<5/\0<=c.idx/\c.idx<12))
 case atStart=>exact⟨0,nZ _,by omega,rfl,G1.out,X1.out,Z2.out,fun j c hj=>absurd hj (nL _)⟩
 obtain⟨i,hi,hgg,rfl,GW,XW,ZW,OW⟩:=hrel;clear G1 X1 Z2
 by_cases hlt:i<can
 ·have hltz:(i:Int)< (can:Int):=by omega
  obtain⟨c,HC⟩:∃c,Hid (m.ca[i]? =some c):=⟨_,gE (by rw[HN8.out];exact hlt)⟩
  obtain⟨adc,hca,hl⟩:=HCA.out i c HC.out;have HL:Hid (∀W,zc w W->zih W (adc.add (i*3)) c):=show∀W,_ from hl
  subst hca;obtain⟨d0,d1,d2⟩:=hl wr GW.out;have ZI:Hid (ze (thr (caE m (pvC m i) c) (J1 m (pvC m (i+1)) (m.ca.drop (i+1))) :: [ze (m.sp.map (Zd m)),ze ((List.range m.fs.length).map (frE m)),ze ((List.range m.sl.length).map (Qh m))])=Z):=show _=_ by have:=ZW.out;rw[zkd HC.out]at this;exact this
  clear hl ZW;go_upto_region 7 with fail;obtain⟨pc,HPC⟩:∃pc,Hid (wr.heap.size=pc):=⟨_,rfl⟩;obtain⟨W2,hW2⟩:∃W2,wr.alloc (.cells #[.int .i64 c.file,.int .i64 c.idx,.int .i64 c.fr] 124)=W2:=⟨_,rfl⟩;have g2:=gP hW2
  have C2:=xP hW2 HPC
  have G2:=dD (GW.out.trans g2);have X2:=dD (XW.out.grew g2);rw[hW2,HPC.out];clear hW2 g2 d0 d1 d2 GW XW HPC;obtain⟨B1,HB1⟩:∃B1:Bool,Hid (B1=true↔(c.file<0\/(m.fl.length:Int)<=c.file\/c.idx<0\/bkN m c.file<=c.idx\/c.fr<0\/(m.fs.length:Int)<=c.fr)):=⟨decide (c.file<0\/(m.fl.length:Int)<=c.file\/c.idx<0\/bkN m c.file<=c.idx\/c.fr<0\/(m.fs.length:Int)<=c.fr),show _↔_ from decide_eq_true_iff⟩
  go_cut [29,78]from 29 to 130 (fun s29 s78 wx=>s29= .int .i64 i/\s78= .bool B1/\Hid (zc w wx)/\Hid (Box wx w.heap.size [.slice fa fn fc,.int .i64 m.hand,.slice sa sn sc,.slice vsb.a vsb.n vsb.c,.slice vsq.a vsq.n vsq.c,.slice vdb.a vdb.n vdb.c,.slice vdq.a vdq.n vdq.c,.slice fla fln flc,.int .i64 m.cnt,.slice (some adc) can cac,.slice spa spn spc])/\Hid (Box wx pc [.int .i64 c.file,.int .i64 c.idx,.int .i64 c.fr]))
  case first=>
   have x0:=X2.out.c 0 rfl;have x7:=X2.out.c 7 rfl;obtain⟨c0,c1,c2⟩:=C2.out.c3
   by_cases a1:c.file<0
   ·have a1d:decide (c.file<0)=true:=by simpa using a1
    have HV:Hid (B1=true):=HB1.out.2 (.inl a1);go_quiet (fail);go_wp2
    go_meet
    exact⟨rfl,by rw[HV.out],G2.out.trans (show Below _ _ _ from bD (bR _ _) _),X2.out.grew (show Below _ _ _ from bD (bR _ _) _),C2.out.grew (show Below _ _ _ from bD (bR _ _) _)⟩
   have a1d:decide (c.file<0)=false:=by simpa using a1
   by_cases a2:(fln:Int)<=c.file
   ·have a2d:decide ((fln:Int)<=c.file)=true:=by simpa using a2
    have HV:Hid (B1=true):=HB1.out.2 (.inr (.inl (by rw[HN7.out];exact a2)))
    go_quiet (fail);go_wp2
    go_meet
    exact⟨rfl,by rw[HV.out],G2.out.trans (show Below _ _ _ from bD (bR _ _) _),X2.out.grew (show Below _ _ _ from bD (bR _ _) _),C2.out.grew (show Below _ _ _ from bD (bR _ _) _)⟩
   have a2d:decide ((fln:Int)<=c.file)=false:=by simpa using a2
   obtain⟨jf,hjf⟩:∃jf:Nat,c.file=(jf:Int):=⟨c.file.toNat,by omega⟩
   obtain⟨ff,hff⟩:∃ff,m.fl[jf]? =some ff:=⟨_,gE (by rw[HN7.out];omega)⟩
   obtain⟨adl,hfl,ba,bc,_,hlf⟩:=HFL.out jf ff hff;obtain⟨-,e1⟩:=hlf W2 G2.out;obtain⟨bn,HBN⟩:∃bn,Hid (ff.bl.length=bn):=⟨_,rfl⟩;rw[HBN.out]at e1;have HBK:Hid (bkN m c.file=(bn:Int)):=show _=_ by unfold bkN;rw[hjf,tN,gD,hff];simp only[Option.getD_some];rw[HBN.out]
   have hjz:(jf:Int)< (fln:Int):=by omega
   rw[hfl]at x7;rw[hjf]at c0;have a2n:decide (fln<=jf)=false:=decide_eq_false (by omega)
   have a1n:decide ((jf:Int)<0)=false:=decide_eq_false (by omega)
   have HJF:Hid (c.file=(jf:Int)):=hjf;have HA12:Hid (¬c.file<0/\¬(fln:Int)<=c.file):=show _/\_ from⟨a1,a2⟩
   clear hjf hff hlf hfl a1 a2
   by_cases a3:c.idx<0
   ·have a3d:decide (c.idx<0)=true:=by simpa using a3
    have HV:Hid (B1=true):=HB1.out.2 (.inr (.inr (.inl a3)));go_quiet (fail);go_wp2
    go_meet
    exact⟨rfl,by rw[HV.out],G2.out.trans (show Below _ _ _ from bD (bR _ _) _),X2.out.grew (show Below _ _ _ from bD (bR _ _) _),C2.out.grew (show Below _ _ _ from bD (bR _ _) _)⟩
   have a3d:decide (c.idx<0)=false:=by simpa using a3
   by_cases a4:(bn:Int)<=c.idx
   ·have a4d:decide ((bn:Int)<=c.idx)=true:=by simpa using a4
    have HV:Hid (B1=true):=HB1.out.2 (.inr (.inr (.inr (.inl (by rw[HBK.out];exact a4)))))
    go_quiet (fail);go_wp2
    go_meet
    exact⟨rfl,by rw[HV.out],G2.out.trans (show Below _ _ _ from bD (bR _ _) _),X2.out.grew (show Below _ _ _ from bD (bR _ _) _),C2.out.grew (show Below _ _ _ from bD (bR _ _) _)⟩
   have a4d:decide ((bn:Int)<=c.idx)=false:=by simpa using a4
   by_cases a5:c.fr<0
   ·have a5d:decide (c.fr<0)=true:=by simpa using a5
    have HV:Hid (B1=true):=HB1.out.2 (.inr (.inr (.inr (.inr (.inl a5)))));go_quiet (fail);go_wp2
    go_meet
    exact⟨rfl,by rw[HV.out],G2.out.trans (show Below _ _ _ from bD (bR _ _) _),X2.out.grew (show Below _ _ _ from bD (bR _ _) _),C2.out.grew (show Below _ _ _ from bD (bR _ _) _)⟩
   have a5d:decide (c.fr<0)=false:=by simpa using a5
   by_cases a6:(fn:Int)<=c.fr
   ·have a6d:decide ((fn:Int)<=c.fr)=true:=by simpa using a6
    have HV:Hid (B1=true):=HB1.out.2 (.inr (.inr (.inr (.inr (.inr (by rw[HN1.out];exact a6))))))
    go_quiet (fail);go_wp2
    go_meet
    exact⟨rfl,by rw[HV.out],G2.out.trans (show Below _ _ _ from bD (bR _ _) _),X2.out.grew (show Below _ _ _ from bD (bR _ _) _),C2.out.grew (show Below _ _ _ from bD (bR _ _) _)⟩
   have a6d:decide ((fn:Int)<=c.fr)=false:=by simpa using a6
   have HV:Hid (B1=false):=show _=_ by
    cases hb:B1 with
    | false=>rfl
    | true=>
     have h1:=HB1.out.1 hb;have h2:=HA12.out;have h3:=HBK.out;have h4:=HN7.out;have h5:=HN1.out;omega
   go_quiet (fail);go_wp2
   go_meet
   exact⟨rfl,by rw[HV.out],G2.out.trans (show Below _ _ _ from bD (bR _ _) _),X2.out.grew (show Below _ _ _ from bD (bR _ _) _),C2.out.grew (show Below _ _ _ from bD (bR _ _) _)⟩
  obtain⟨rfl,rfl,G3,X3,C3⟩:=hcut;clear G2 X2 C2
  cases hB:B1 with
  | true=>
   have HF:Hid (Z=3):=show _=_ by
    have hb:caE m (pvC m i) c=3:=by unfold caE;rw[if_pos (HB1.out.1 hB)]
    rw[zeK ZI.out (by rw[hb];decide),hb]
   go_wp2;go_ret;exact⟨by rw[HF.out];rfl,G3.out⟩
  | false=>
   have HOK:Hid (¬(c.file<0\/(m.fl.length:Int)<=c.file\/c.idx<0\/bkN m c.file<=c.idx\/c.fr<0\/(m.fs.length:Int)<=c.fr)):=show¬_ from fun h=>by have:=HB1.out.2 h;rw[hB]at this;cases this
   clear hB HB1;have HRG:Hid (0<=c.file/\c.file<5/\0<=c.idx/\c.idx<12):=show _/\_ by
    have h1:=HOK.out;have h2:=HP.out.fl.1;have h3:bkN m c.file<=12:=by
     unfold bkN;rw[gD]
     cases e:m.fl[c.file.toNat]? with
     | none=>simp
     | some f=>have:=HP.out.fl.2 f (mG e);simp;omega
    omega
   obtain⟨j,hj⟩:∃j:Nat,c.fr=(j:Int):=⟨c.fr.toNat,by have:=HOK.out;omega⟩
   obtain⟨q,hq⟩:∃q,m.fs[j]? =some q:=⟨_,gE (by have:=HOK.out;omega)⟩
   have HQ:Hid (z8 m c.fr=q):=show _=_ by rw[hj];exact Qe hq
   obtain⟨adf,hfa,hl⟩:=HFR.out j q hq;have hjz:(j:Int)< (fn:Int):=by have:=HOK.out;have:=HN1.out;omega
   have XW3:Hid (Box wc w.heap.size [.slice (some adf) fn fc,.int .i64 m.hand,.slice sa sn sc,.slice vsb.a vsb.n vsb.c,.slice vsq.a vsq.n vsq.c,.slice vdb.a vdb.n vdb.c,.slice vdq.a vdq.n vdq.c,.slice fla fln flc,.int .i64 m.cnt,.slice (some adc) can cac,.slice spa spn spc]):=show Box _ _ _ by rw[<-hfa];exact X3.out
   obtain⟨d0,d1,d2,d3,d4,d5,d6,d7,d8,d9,d10,d11,d12⟩:=hl wc G3.out;have c2:=C3.out.c 2 rfl;rw[hj]at c2;have HJ:Hid (c.fr=(j:Int)):=hj;have x0:=XW3.out.c 0 rfl;clear hj hq hl hfa;go_upto_region 10 with fail;obtain⟨pq,HPQ⟩:∃pq,Hid (wc.heap.size=pq):=⟨_,rfl⟩;obtain⟨W4,hW4⟩:∃W4,wc.alloc (.cells #[.int .u8 q.p.b0,.int .u8 q.p.b1,.int .u8 q.p.b2,.int .u8 q.p.b3,.int .u8 q.p.b4,.int .u8 q.p.b5,.int .u8 q.p.b6,.int .u8 q.p.b7,.int .i64 q.r,.bool q.u,.bool q.d,.int .i64 q.f,.int .i64 q.x] 69)=W4:=⟨_,rfl⟩;have g4:=gP hW4
   have Q4:=xP hW4 HPQ
   have G4:=dD (G3.out.trans g4);have X4:=dD (X3.out.grew g4);have C4:=dD (C3.out.grew g4);rw[hW4,HPQ.out];clear hW4 g4 x0 c2 G3 X3 C3 XW3 HPQ d0 d1 d2 d3 d4 d5 d6 d7 d8 d9 d10 d11 d12;have HBAD:Hid (q.r=0\/q.f≠c.file\/q.x≠c.idx->Z=7):=show _->_ from fun h=>by
    have hb:caE m (pvC m i) c=7:=by unfold caE;rw[if_neg HOK.out,HQ.out,if_pos h]
    rw[zeK ZI.out (by rw[hb];decide),hb]
   have q8:=Q4.out.c 8 rfl;have q11:=Q4.out.c 11 rfl;have q12:=Q4.out.c 12 rfl;have c0:=C4.out.c 0 rfl;have c1:=C4.out.c 1 rfl
   by_cases k1:q.r=0
   ·have k1e:(q.r == 0)=true:=by simp[k1]
    have HF:Hid (Z=7):=HBAD.out (.inl k1);clear k1;go_wp2;go_ret;exact⟨by rw[HF.out];rfl,G4.out⟩
   have k1e:(q.r == 0)=false:=by simp[k1]
   by_cases k2:q.f=c.file
   rotate_left
   ·have k2e:(q.f != c.file)=true:=by simp[k2]
    have HF:Hid (Z=7):=HBAD.out (.inr (.inl k2));clear k1 k2;go_wp2;go_ret;exact⟨by rw[HF.out];rfl,G4.out⟩
   have k2e:(q.f != c.file)=false:=by simp[k2]
   by_cases k3:q.x=c.idx
   rotate_left
   ·have k3e:(q.x != c.idx)=true:=by simp[k3]
    have HF:Hid (Z=7):=HBAD.out (.inr (.inr k3));clear k1 k2 k3;go_wp2;go_ret;exact⟨by rw[HF.out];rfl,G4.out⟩
   have k3e:(q.x != c.idx)=false:=by simp[k3]
   have HGD:Hid (caE m (pvC m i) c=match pvC m i with | some q=>(if jM c<=jM q then 2 else 0) | none=>0):=show _=_ by
    unfold caE;rw[if_neg HOK.out,HQ.out,if_neg (by rintro(h | h | h) <;> contradiction)]
    cases pvC m i <;> rfl
   have OW':Hid (∀(j:Nat) c,j<i+1->m.ca[j]? =some c->0<=c.file/\c.file<5/\0<=c.idx/\c.idx<12):=show∀j,_ from fun j c' hj' hc'=>by
    by_cases e:j=i
    ·subst e;rw[HC.out]at hc';cases hc';exact HRG.out
    exact OW.out j c' (by omega) hc'
   clear k1 k2 k3 HBAD;go_upto_region 12 with fail;clear k1e k2e k3e q8 q11 q12;obtain⟨r0,r1,r2,r3⟩:=HRG.out;have x9:=X4.out.c 9 rfl
   by_cases h0:i=0
   ·subst h0;have ZN:Hid (ze [J1 m (pvC m (0+1)) (m.ca.drop (0+1)),ze (m.sp.map (Zd m)),ze ((List.range m.fs.length).map (frE m)),ze ((List.range m.sl.length).map (Qh m))]=Z):=zju ZI.out (HGD.out.trans (by rw[ziy]))
    go_quiet (fail);go_wp2
    go_roundg (can -(0+1))
    case measure=>omega
    exact⟨0+1,by omega,by omega,by go_num,G4.out.trans (show Below _ _ _ from bD (bR _ _) _),X4.out.grew (show Below _ _ _ from bD (bR _ _) _),ZN.out,OW'.out⟩
   obtain⟨i',rfl⟩:∃i',i=i'+1:=⟨i - 1,by omega⟩
   obtain⟨c',HC'⟩:∃c',Hid (m.ca[i']? =some c'):=⟨_,gE (by rw[HN8.out];omega)⟩
   obtain⟨_,he,hl⟩:=HCA.out i' c' HC'.out;cases he;obtain⟨e0,e1,-⟩:=hl W4 G4.out;obtain⟨s0,s1,s2,s3⟩:=OW.out i' c' (by omega) HC'.out
   have HPV:Hid (pvC m (i'+1)=some c'):=show _=_ by unfold pvC;rw[if_neg (by omega)];exact HC'.out
   have hiz:(((i'+1:Nat):Int) - 1)=(i':Int):=by omega
   have hil:(i':Int)< (can:Int):=by omega
   have hpz:(0:Int)< ((i'+1:Nat):Int):=by omega
   clear hl h0
   by_cases hk:100*c.file+c.idx<=100*c'.file+c'.idx
   ·have hkd:decide (100*c.file+c.idx<=100*c'.file+c'.idx)=true:=by simpa using hk
    have HF:Hid (Z=2):=show _=_ by
     have hb:caE m (pvC m (i'+1)) c=2:=by rw[HGD.out,HPV.out];exact if_pos hk
     rw[zeK ZI.out (by rw[hb];decide),hb]
    clear hk;go_quiet (fail);go_wp2;go_ret;exact⟨by rw[HF.out];rfl,G4.out.trans (show Below _ _ _ from bD (bR _ _) _)⟩
   have hkd:decide (100*c.file+c.idx<=100*c'.file+c'.idx)=false:=by simpa using hk
   have ZN:Hid (ze [J1 m (pvC m (i'+1+1)) (m.ca.drop (i'+1+1)),ze (m.sp.map (Zd m)),ze ((List.range m.fs.length).map (frE m)),ze ((List.range m.sl.length).map (Qh m))]=Z):=zju ZI.out (by rw[HGD.out,HPV.out];exact if_neg hk)
   clear hk;go_quiet (fail);go_wp2
   go_roundg (can -(i'+1+1))
   case measure=>omega
   exact⟨i'+1+1,by omega,by omega,by go_num,G4.out.trans (show Below _ _ _ from bD (bR _ _) _),X4.out.grew (show Below _ _ _ from bD (bR _ _) _),ZN.out,OW'.out⟩
 have hltz:¬(i:Int)< (can:Int):=by omega
 obtain rfl:can=i:=by omega
 have Z3:Hid (ze [ze (m.sp.map (Zd m)),ze ((List.range m.fs.length).map (frE m)),ze ((List.range m.sl.length).map (Qh m))]=Z):=z6 ZW.out (by rw[List.drop_of_length_le (by rw[HN8.out];exact nR _)];rfl)
 have Z4:Hid (ze [goL (spF m) m.sp.length 0,ze ((List.range m.fs.length).map (frE m)),ze ((List.range m.sl.length).map (Qh m))]=Z):=show _=_ by have:=Z3.out;rw[zjM]at this;exact this
 clear Z3 ZW OW;have x10:=XW.out.c 10 rfl;go_wp2;clear x10
 go_loopg [134] spn (fun gg s134 wr=>∃p:Nat,p<=spn/\spn - p<=gg/\s134= .int .i64 p/\Hid (zc w wr)/\Hid (Box wr w.heap.size [.slice fa fn fc,.int .i64 m.hand,.slice sa sn sc,.slice vsb.a vsb.n vsb.c,.slice vsq.a vsq.n vsq.c,.slice vdb.a vdb.n vdb.c,.slice vdq.a vdq.n vdq.c,.slice fla fln flc,.int .i64 m.cnt,.slice caa can cac,.slice spa spn spc])/\Hid (ze [goL (spF m) m.sp.length p,ze ((List.range m.fs.length).map (frE m)),ze ((List.range m.sl.length).map (Qh m))]=Z))
 case atStart=>exact⟨0,nZ _,by omega,rfl,GW.out,XW.out,Z4.out⟩
 obtain⟨p,hp,hgp,rfl,GP,XP,ZP⟩:=hrel;clear GW XW Z4
 by_cases hlp:p<spn
 ·have hlpz:(p:Int)< (spn:Int):=by omega
  obtain⟨x,hx⟩:∃x,xs[p]? =some x:=⟨_,gE (by rw[HXL.out];exact hlp)⟩
  obtain⟨s,HS⟩:∃s,Hid (m.sp[p]? =some s):=⟨_,gE (by rw[HN9.out];exact hlp)⟩
  have HAT:Hid (qL w x s):=HSP.out p x s hx HS.out;obtain⟨ad,rfl,hl⟩:=HRW.out p x hx;obtain⟨d0,d1,d2,d3,d4,d5,d6,d7,d8,d9⟩:=hl wr GP.out;have HRT:Hid ((wrL s.ars).1=0/\tbW s.tb=0):=HP.out.ar s (mG HS.out);have ZS:Hid (ze (goL (pgF m s) 64 0 :: [goL (spF m) m.sp.length (p+1),ze ((List.range m.fs.length).map (frE m)),ze ((List.range m.sl.length).map (Qh m))])=Z):=show _=_ by
   have h1:=ZP.out;rw[zdh (spF m) (by rw[HN9.out];exact hlp),zjJ,zkt HS.out,zjP]at h1
   exact h1
  have HON:Hid (∀W,zc w W->Calls Tryz.prog 23 #[.slice x.ar.a x.ar.n x.ar.c] W fun e w'=>e= .returned (.agg (zt (tab (zH s.ars))).toArray)/\zc W w'):=show∀W,_ from fun W hW=>jS _ s.ars W (HAT.out.ar.grew hW) (jV.1 HRT.out.1).2.lies
  have HFT:Hid (∀W,zc w W->Calls Tryz.prog 28 #[.agg #[.slice x.t0.a x.t0.n x.t0.c,.slice x.t1.a x.t1.n x.t1.c,.slice x.t2.a x.t2.n x.t2.c,.slice x.t3.a x.t3.n x.t3.c,.slice x.t4.a x.t4.n x.t4.c,.slice x.t5.a x.t5.n x.t5.c,.slice x.t6.a x.t6.n x.t6.c,.slice x.t7.a x.t7.n x.t7.c]] W fun e w'=>e= .returned (.agg (qd (JE s.tb)).toArray)/\zc W w'):=show∀W,_ from fun W hW=>zcs x.tab s.tb W ((HAT.out.grew hW).tb) (tb8 HRT.out.2)
  have HF64:Hid (∀j,j<64->(JE s.tb)[j]? =some (zJ s j)):=show∀j,_ from fun j hj=>zdm s.tb hj
  have hz:=zac;obtain⟨Z0,HZ0⟩:∃Z0,Hid (zt (tab fun _=>on0)=Z0):=⟨_,rfl⟩
  rw[HZ0.out]at hz;have HZL:Hid (Z0.length=384):=show _=_ by rw[<-HZ0.out,jk]
  have HPL:Hid ((zt (tab (zH s.ars))).length=384):=jk _;have HPO:Hid (∀v∈zt (tab (zH s.ars)),v.oneCell'=true):=Qr _;have HCO:Hid (∀k,k<64->∀(i:Nat) u,(onv (zH s.ars k))[i]? =some u->(zt (tab (zH s.ars)))[k*6+i]? =some u):=show∀k,_ from fun k hk i u hu=>j3 (QO hk) i _ hu
  generalize zt (tab (zH s.ars))=CO at HON HPL HPO HCO
  clear hl hx ZP;go_upto_region 18 with fail;obtain⟨px,HPX⟩:∃px,Hid (wr.heap.size=px):=⟨_,rfl⟩;obtain⟨W5,hW5⟩:∃W5,wr.alloc (.cells #[.bool x.live,.slice x.ar.a x.ar.n x.ar.c,.slice x.t0.a x.t0.n x.t0.c,.slice x.t1.a x.t1.n x.t1.c,.slice x.t2.a x.t2.n x.t2.c,.slice x.t3.a x.t3.n x.t3.c,.slice x.t4.a x.t4.n x.t4.c,.slice x.t5.a x.t5.n x.t5.c,.slice x.t6.a x.t6.n x.t6.c,.slice x.t7.a x.t7.n x.t7.c] 55)=W5:=⟨_,rfl⟩;have g5:=gP hW5
  have S5:=xP hW5 HPX
  have G5:=dD (GP.out.trans g5);have X5:=dD (XP.out.grew g5);rw[hW5,HPX.out];clear hW5 g5 d0 d1 d2 d3 d4 d5 d6 d7 d8 d9 GP XP HPX;have s1:=S5.out.c 1 rfl;have hc:=HON.out W5 G5.out;go_wp2_with fail;refine hc.mono ?_;clear s1 hc;rintro e W6 ⟨rfl,g6⟩;obtain⟨po,HPQ⟩:∃po,Hid (W6.heap.size=po):=⟨_,rfl⟩;have G6:=dD (G5.out.trans g6);have X6:=dD (X5.out.grew g6);have S6:=dD (S5.out.grew g6);clear g6 G5 X5 S5
  go_upto_region 19 with(refine zQ rfl 62 (.tmp 9) (.tmp 140) rfl W6.heap.size rfl CO rfl (Box.top W6 Z0 62 rfl) (by rw[HPL.out,HZL.out]) (by rw[HZL.out];exact zlm) HPO.out ?_)
  intro W7 b7 g7 s7;have g67:zc W6 W7:=zg (za _ _) g7 (nR _);have G7:=dD (G6.out.trans g67);have X7:=dD (X6.out.grew g67);have S7:=dD (S6.out.grew g67);rw[HPQ.out]at b7⊢;have P7:Hid (Box W7 po CO):=b7;clear b7 g7 s7 g67 G6 X6 S6 hz HPQ HZL HZ0 HPL HPO HON;try simp only[Act.put]
  have s2:=S7.out.c 2 rfl;have s3:=S7.out.c 3 rfl;have s4:=S7.out.c 4 rfl;have s5:=S7.out.c 5 rfl;have s6:=S7.out.c 6 rfl;have s7:=S7.out.c 7 rfl;have s8:=S7.out.c 8 rfl;have s9:=S7.out.c 9 rfl;have hc:=HFT.out W7 G7.out;go_wp2_with fail;refine hc.mono ?_;clear hc HFT s2 s3 s4 s5 s6 s7 s8 s9;rintro e W8 ⟨rfl,g8⟩;have G8:=dD (G7.out.trans g8);have X8:=dD (X7.out.grew g8);have P8:=dD (P7.out.grew g8);clear g8 G7 X7 P7 S7;go_wp2
  go_loopg [144] 64 (fun gg s144 wr=>∃n:Nat,n<=64/\64 - n<=gg/\s144= .int .i64 n/\Hid (zc w wr)/\Hid (Box wr w.heap.size [.slice fa fn fc,.int .i64 m.hand,.slice sa sn sc,.slice vsb.a vsb.n vsb.c,.slice vsq.a vsq.n vsq.c,.slice vdb.a vdb.n vdb.c,.slice vdq.a vdq.n vdq.c,.slice fla fln flc,.int .i64 m.cnt,.slice caa can cac,.slice (some ad) spn spc])/\Hid (Box wr po CO)/\Hid (ze (goL (pgF m s) 64 n :: [goL (spF m) m.sp.length (p+1),ze ((List.range m.fs.length).map (frE m)),ze ((List.range m.sl.length).map (Qh m))])=Z))
  case atStart=>exact⟨0,nZ _,by omega,rfl,G8.out,X8.out,P8.out,ZS.out⟩
  obtain⟨n,hn,hgn,rfl,G9,X9,P9,Z9⟩:=hrel;clear G8 X8 P8 ZS
  by_cases hln:n<64
  ·have hlnz:(n:Int)<64:=by omega
   obtain⟨e,HE⟩:∃e,Hid (zJ s n=e):=⟨_,rfl⟩;obtain⟨o,HO⟩:∃o,Hid (zH s.ars n=o):=⟨_,rfl⟩;have HZF:Hid ((JE s.tb)[n]? =some e):=show _=_ by rw[HF64.out n hln,HE.out]
   have HON:Hid (∀(i:Nat) u,(onv o)[i]? =some u->CO[n*6+i]? =some u):=show∀i,_ by rw[<-HO.out];exact HCO.out n hln
   have h0:0<=e.n:=by rw[<-HE.out];exact zkH (zhO HRT.out.2 n)
   have HPG:Hid (pgF m s n=if e.kind=0 then 0 else JF m o e):=show _=_ by unfold pgF;rw[HE.out,HO.out]
   go_upto_region 22 with(refine zbo rfl (.tmp 143) (.tmp 144) rfl (JE s.tb) rfl n rfl hln HZF.out ?_)
   obtain⟨pe,HPE⟩:∃pe,Hid (wr.heap.size=pe):=⟨_,rfl⟩;obtain⟨W10,hW10⟩:∃W10,wr.alloc (.cells #[.int .i64 e.kind,.int .i64 e.n,.bool e.wr] 74)=W10:=⟨_,rfl⟩;have g10:=gP hW10
   have E10:=xP hW10 HPE
   have G10:=dD (G9.out.trans g10);have X10:=dD (X9.out.grew g10);have P10:=dD (P9.out.grew g10);rw[hW10,HPE.out];clear hW10 g10 G9 X9 P9 HPE;have e0:=E10.out.c 0 rfl
   by_cases hk:e.kind=0
   ·have hke:(e.kind == 0)=true:=by simp[hk]
    have ZN:Hid (ze (goL (pgF m s) 64 (n+1) :: [goL (spF m) m.sp.length (p+1),ze ((List.range m.fs.length).map (frE m)),ze ((List.range m.sl.length).map (Qh m))])=Z):=zfW hln Z9.out (by rw[HPG.out,if_pos hk])
    clear hk;go_wp2
    go_roundg (64 -(n+1))
    case measure=>omega
    exact⟨n+1,by omega,by omega,by go_num,G10.out,X10.out,P10.out,ZN.out⟩
   have hke:(e.kind == 0)=false:=by simp[hk]
   obtain⟨EE,HEE⟩:∃EE,Hid (JF m o e=EE):=⟨_,rfl⟩;have HPE2:Hid (pgF m s n=EE):=show _=_ by rw[HPG.out,if_neg hk,HEE.out]
   clear hk;go_upto_region 23 with fail;clear hke e0;have hx0:=X10.out.gw 0 rfl
   have hx1:=X10.out.gw 1 rfl
   have hx2:=X10.out.gw 2 rfl
   have hx3:=X10.out.gw 3 rfl
   have hx4:=X10.out.gw 4 rfl
   have hx5:=X10.out.gw 5 rfl
   have hx6:=X10.out.gw 6 rfl
   have hx7:=X10.out.gw 7 rfl
   have hx8:=X10.out.gw 8 rfl
   have hx9:=X10.out.gw 9 rfl
   have hx10:=X10.out.gw 10 rfl
   have he0:=E10.out.gw 0 rfl
   have he1:=E10.out.gw 1 rfl
   have he2:=E10.out.gw 2 rfl
   have ho0:∀y:zx W10,y.world.cell? ⟨po,n*6,none⟩=some (.bool o.is):=fun y=>(P10.out.grew y.grew).c _ (HON.out 0 _ rfl)
   have ho1:∀y:zx W10,y.world.cell? ⟨po,n*6+1,none⟩=some (.bool o.rd):=fun y=>(P10.out.grew y.grew).c _ (HON.out 1 _ rfl)
   have ho2:∀y:zx W10,y.world.cell? ⟨po,n*6+2,none⟩=some (.bool o.wr):=fun y=>(P10.out.grew y.grew).c _ (HON.out 2 _ rfl)
   have ho3:∀y:zx W10,y.world.cell? ⟨po,n*6+3,none⟩=some (.bool o.sh):=fun y=>(P10.out.grew y.grew).c _ (HON.out 3 _ rfl)
   have ho4:∀y:zx W10,y.world.cell? ⟨po,n*6+4,none⟩=some (.int .i64 o.file):=fun y=>(P10.out.grew y.grew).c _ (HON.out 4 _ rfl)
   have ho5:∀y:zx W10,y.world.cell? ⟨po,n*6+5,none⟩=some (.int .i64 o.page):=fun y=>(P10.out.grew y.grew).c _ (HON.out 5 _ rfl)
   have hne:Nonempty (zx W10):=⟨⟨_,zc.refl _⟩⟩;refine jX [(5,⟨fun v=>v= .int .i64 EE,fun v w'=>True⟩)] qy (by kernel_rfl) ?hS ?hp ?_
   case hS=>
    intro x hx;simp only[mC,nM,or_false]at hx;subst hx;exact⟨_,rfl⟩
   case hp=>
    intro x hx;simp only[mC,nM,or_false]at hx;subst hx;exact fun _ _ _ _ h=>h
   iterate 5 (refine zm rfl rfl rfl (fun K hK=>?_);go_big_quiet_op;refine hK _ ?_;clear hK K)
   refine zM rfl rfl (fun w' hg hF=>?_) (fun v1 hv=>?_)
   ·refine zL.call [.agg #[.slice fa fn fc,.int .i64 m.hand,.slice sa sn sc,.slice vsb.a vsb.n vsb.c,.slice vsq.a vsq.n vsq.c,.slice vdb.a vdb.n vdb.c,.slice vdq.a vdq.n vdq.c,.slice fla fln flc,.int .i64 m.cnt,.slice caa can cac,.slice (some ad) spn spc],.agg #[.bool o.is,.bool o.rd,.bool o.wr,.bool o.sh,.int .i64 o.file,.int .i64 o.page],.agg #[.int .i64 e.kind,.int .i64 e.n,.bool e.wr]] rfl Tryz.func63 rfl rfl rfl ?_;refine(HEN.out w' o e (G10.out.trans hg) h0).mono ?_;rintro e w'' ⟨rfl,hg2⟩;exact⟨_,rfl,hg2,by rw[HEE.out],trivial⟩
   subst hv;simp only[Act.put,sB,sS,sZ];iterate 1 (refine zm rfl rfl rfl (fun K hK=>?_);go_big_quiet_op;refine hK _ ?_;clear hK K)
   refine qU fun W11 hg1 hF=>?_
   have G11:=dD (G10.out.trans hg1);have X11:=dD (X10.out.grew hg1);have P11:=dD (P10.out.grew hg1);clear hg1 hF hne hx0 hx1 hx2 hx3 hx4 hx5 hx6 hx7 hx8 hx9 hx10 he0 he1 he2 ho0 ho1 ho2 ho3 ho4 ho5 G10 X10 P10 E10
   by_cases hz:EE=0
   ·have hze:(EE != 0)=false:=by simp[hz]
    have ZN:Hid (ze (goL (pgF m s) 64 (n+1) :: [goL (spF m) m.sp.length (p+1),ze ((List.range m.fs.length).map (frE m)),ze ((List.range m.sl.length).map (Qh m))])=Z):=zfW hln Z9.out (by rw[HPE2.out];exact hz)
    clear hz;go_wp2
    go_roundg (64 -(n+1))
    case measure=>omega
    exact⟨n+1,by omega,by omega,by go_num,G11.out,X11.out,P11.out,ZN.out⟩
   have hze:(EE != 0)=true:=by simp[hz]
   have HF:Hid (Z=EE):=show _=_ by rw[zfc hln Z9.out (by rw[HPE2.out];exact hz),HPE2.out]
   clear hz;go_wp2;go_ret;exact⟨by rw[HF.out];first | rfl | skip,G11.out⟩
  have hlnz:¬(n:Int)<64:=by omega
  obtain rfl:n=64:=by omega
  have ZN:Hid (ze [goL (spF m) m.sp.length (p+1),ze ((List.range m.fs.length).map (frE m)),ze ((List.range m.sl.length).map (Qh m))]=Z):=z6 Z9.out (zdi _ _);go_wp2
  go_roundg (spn -(p+1))
  case measure=>omega
  exact⟨p+1,by omega,by omega,by go_num,G9.out,X9.out,ZN.out⟩
 have hlpz:¬(p:Int)< (spn:Int):=by omega
 obtain rfl:spn=p:=by omega
 have Z5:Hid (ze [ze ((List.range m.fs.length).map (frE m)),ze ((List.range m.sl.length).map (Qh m))]=Z):=z6 ZP.out (by rw[HN9.out];exact zdi _ _)
 clear ZP HSP HRW HXL;have Z6:Hid (ze [goL (frE m) m.fs.length 0,ze ((List.range m.sl.length).map (Qh m))]=Z):=show _=_ by have h1:=Z5.out;rw[<-zdj]at h1;exact h1
 clear Z5 HEN;have x0:=XP.out.c 0 rfl;go_wp2;clear x0
 go_loopg [166] fn (fun gg s166 wr=>∃k:Nat,k<=fn/\fn - k<=gg/\s166= .int .i64 k/\Hid (zc w wr)/\Hid (Box wr w.heap.size [.slice fa fn fc,.int .i64 m.hand,.slice sa sn sc,.slice vsb.a vsb.n vsb.c,.slice vsq.a vsq.n vsq.c,.slice vdb.a vdb.n vdb.c,.slice vdq.a vdq.n vdq.c,.slice fla fln flc,.int .i64 m.cnt,.slice caa can cac,.slice spa spn spc])/\Hid (ze [goL (frE m) m.fs.length k,ze ((List.range m.sl.length).map (Qh m))]=Z))
 case atStart=>exact⟨0,nZ _,by omega,rfl,GP.out,XP.out,Z6.out⟩
 obtain⟨k,hk,hgk,rfl,GK,XK,ZK⟩:=hrel;clear GP XP Z6
 by_cases hlk:k<fn
 ·have hlkz:(k:Int)< (fn:Int):=by omega
  obtain⟨q,HQ⟩:∃q,Hid (m.fs[k]? =some q):=⟨_,gE (by rw[HN1.out];exact hlk)⟩
  obtain⟨adf,rfl,hl⟩:=HFR.out k q HQ.out;obtain⟨d0,d1,d2,d3,d4,d5,d6,d7,d8,d9,d10,d11,d12⟩:=hl wr GK.out;obtain⟨Hz,HHZ⟩:∃Hz:Int,Hid ((j7 m 1 (k:Int):Int)=Hz):=⟨_,rfl⟩;obtain⟨Cz,HCZ⟩:∃Cz:Int,Hid ((zK m.ca (k:Int):Int)=Cz):=⟨_,rfl⟩;have hHz:0<=Hz/\Hz<=256:=by
   have h1:=zd8 (m:=m) (kind:=1) (k:=(k:Int)) m.sp.length;rw[zcr]at h1;have h2:=HHZ.out;have h3:=HP.out.s4;omega
  have hCz:0<=Cz/\Cz<=5864062014805:=by
   have h1:zK m.ca (k:Int)<=m.ca.length:=List.countP_le_length;have h2:=HCZ.out;have h3:=HN8.out;omega
  obtain⟨hHz0,hHz1⟩:=hHz;obtain⟨hCz0,hCz1⟩:=hCz;have HBAD:Hid (q.r≠Hz+Cz\/(0<=q.f/\Cz=0)->Z=7):=show _->_ from fun h=>by
   have h1:=HHZ.out;have h2:=HCZ.out;have hb:frE m k=7:=by unfold frE;rw[Qe HQ.out,if_pos (by omega)]
   rw[zfc (by rw[HN1.out];exact hlk) ZK.out (by rw[hb];decide),hb]
  have HGOOD:Hid (¬(q.r≠Hz+Cz\/(0<=q.f/\Cz=0))->ze [goL (frE m) m.fs.length (k+1),ze ((List.range m.sl.length).map (Qh m))]=Z):=show _->_ from fun h=>by
   have h1:=HHZ.out;have h2:=HCZ.out;exact zfW (by rw[HN1.out];exact hlk) ZK.out (by unfold frE;rw[Qe HQ.out,if_neg (by omega)])
  clear hl ZK;go_upto_region 31 with fail;obtain⟨pq,HPQ⟩:∃pq,Hid (wr.heap.size=pq):=⟨_,rfl⟩;obtain⟨W12,hW12⟩:∃W12,wr.alloc (.cells #[.int .u8 q.p.b0,.int .u8 q.p.b1,.int .u8 q.p.b2,.int .u8 q.p.b3,.int .u8 q.p.b4,.int .u8 q.p.b5,.int .u8 q.p.b6,.int .u8 q.p.b7,.int .i64 q.r,.bool q.u,.bool q.d,.int .i64 q.f,.int .i64 q.x] 69)=W12:=⟨_,rfl⟩;have g12:=gP hW12
  have Q12:=xP hW12 HPQ
  have G12:=dD (GK.out.trans g12);have X12:=dD (XK.out.grew g12);rw[hW12,HPQ.out];clear hW12 g12 GK XK HPQ d0 d1 d2 d3 d4 d5 d6 d7 d8 d9 d10 d11 d12;obtain⟨x0,x1,x2,x3,x4,x5,x6,x7,x8,x9,x10⟩:=X12.out.c11;have hc:=HHO.out W12 1 (k:Int) G12.out HP.out;rw[HHZ.out]at hc;go_wp2_with fail;refine hc.mono ?_;clear hc x0 x1 x2 x3 x4 x5 x6 x7 x8 x9 x10;rintro e W13 ⟨rfl,g13⟩;have G13:=dD (G12.out.trans g13);have X13:=dD (X12.out.grew g13);have Q13:=dD (Q12.out.grew g13);clear g13 G12 X12 Q12;have x9:=X13.out.c 9 rfl;go_wp2;clear x9
  go_loopg [16,177] can (fun gg s16 s177 wr=>∃j:Nat,j<=can/\can - j<=gg/\s177= .int .i64 j/\s16= .int .i64 (zK (m.ca.take j) (k:Int):Int)/\Hid (zc w wr)/\Hid (Box wr w.heap.size [.slice (some adf) fn fc,.int .i64 m.hand,.slice sa sn sc,.slice vsb.a vsb.n vsb.c,.slice vsq.a vsq.n vsq.c,.slice vdb.a vdb.n vdb.c,.slice vdq.a vdq.n vdq.c,.slice fla fln flc,.int .i64 m.cnt,.slice caa can cac,.slice spa spn spc])/\Hid (Box wr pq [.int .u8 q.p.b0,.int .u8 q.p.b1,.int .u8 q.p.b2,.int .u8 q.p.b3,.int .u8 q.p.b4,.int .u8 q.p.b5,.int .u8 q.p.b6,.int .u8 q.p.b7,.int .i64 q.r,.bool q.u,.bool q.d,.int .i64 q.f,.int .i64 q.x]))
  case atStart=>exact⟨0,nZ _,by omega,rfl,rfl,G13.out,X13.out,Q13.out⟩
  obtain⟨j,hj,hgj,rfl,rfl,GJ,XJ,QJ⟩:=hrel;clear G13 X13 Q13
  by_cases hlj:j<can
  ·have hljz:(j:Int)< (can:Int):=by omega
   obtain⟨c,HC⟩:∃c,Hid (m.ca[j]? =some c):=⟨_,gE (by rw[HN8.out];exact hlj)⟩
   obtain⟨adc,rfl,hl⟩:=HCA.out j c HC.out;obtain⟨d0,d1,d2⟩:=hl wr GJ.out;have hcl:zK (m.ca.take j) (k:Int)<=j:=zh8 j;have HCS:Hid (zK (m.ca.take (j+1)) (k:Int)=zK (m.ca.take j) (k:Int)+(decide (c.fr=(k:Int))).toNat):=zfr HC.out;obtain⟨c0,hc0⟩:∃c0,zK (m.ca.take j) (k:Int)=c0:=⟨_,rfl⟩;rw[hc0]at hcl HCS⊢;clear hc0 hl;go_upto_region 35 with fail;obtain⟨pc,HPC⟩:∃pc,Hid (wr.heap.size=pc):=⟨_,rfl⟩;obtain⟨W14,hW14⟩:∃W14,wr.alloc (.cells #[.int .i64 c.file,.int .i64 c.idx,.int .i64 c.fr] 124)=W14:=⟨_,rfl⟩;have g14:=gP hW14
   have C14:=xP hW14 HPC
   have G14:=dD (GJ.out.trans g14);have X14:=dD (XJ.out.grew g14);have Q14:=dD (QJ.out.grew g14);rw[hW14,HPC.out];clear hW14 g14 d0 d1 d2 GJ XJ QJ HPC;have c2:=C14.out.c 2 rfl
   by_cases hkk:c.fr=(k:Int)
   ·have hke:(c.fr ==(k:Int))=true:=by simp[hkk]
    have HV:Hid (zK (m.ca.take (j+1)) (k:Int)=c0+1):=show _=_ by rw[HCS.out,decide_eq_true hkk];rfl
    clear hkk HCS;go_wp2
    go_roundg (can -(j+1))
    case measure=>omega
    exact⟨j+1,by omega,by omega,by go_num,by rw[HV.out];go_num,G14.out,X14.out,Q14.out⟩
   have hke:(c.fr ==(k:Int))=false:=by simp[hkk]
   have HV:Hid (zK (m.ca.take (j+1)) (k:Int)=c0):=show _=_ by rw[HCS.out,decide_eq_false hkk];rfl
   clear hkk HCS;go_wp2
   go_roundg (can -(j+1))
   case measure=>omega
   exact⟨j+1,by omega,by omega,by go_num,by rw[HV.out],G14.out,X14.out,Q14.out⟩
  have hljz:¬(j:Int)< (can:Int):=by omega
  obtain rfl:can=j:=by omega
  have hce:(zK (m.ca.take can) (k:Int):Int)=Cz:=by rw[List.take_of_length_le (by rw[HN8.out];exact nR _)];exact HCZ.out
  rw[hce];clear hce;have q8:=QJ.out.c 8 rfl;have q11:=QJ.out.c 11 rfl
  by_cases k1:q.r=Hz+Cz
  rotate_left
  ·have k1e:(q.r != Hz+Cz)=true:=by simp[k1]
   have HF:Hid (Z=7):=HBAD.out (.inl k1);clear k1;go_wp2;go_ret;exact⟨by rw[HF.out];rfl,GJ.out⟩
  have k1e:(q.r != Hz+Cz)=false:=by simp[k1]
  by_cases k2:0<=q.f
  ·have k2d:decide (0<=q.f)=true:=decide_eq_true k2
   by_cases k3:Cz=0
   ·have k3e:(Cz == 0)=true:=by simp[k3]
    have HF:Hid (Z=7):=HBAD.out (.inr ⟨k2,k3⟩);clear k1 k2 k3;go_wp2;go_ret;exact⟨by rw[HF.out];rfl,GJ.out⟩
   have k3e:(Cz == 0)=false:=by simp[k3]
   have ZN:Hid (ze [goL (frE m) m.fs.length (k+1),ze ((List.range m.sl.length).map (Qh m))]=Z):=HGOOD.out (by omega)
   clear k1 k2 k3;go_wp2
   go_roundg (fn -(k+1))
   case measure=>omega
   exact⟨k+1,by omega,by omega,by go_num,GJ.out,XJ.out,ZN.out⟩
  have k2d:decide (0<=q.f)=false:=decide_eq_false k2;have ZN:Hid (ze [goL (frE m) m.fs.length (k+1),ze ((List.range m.sl.length).map (Qh m))]=Z):=HGOOD.out (by omega)
  clear k1 k2;go_wp2
  go_roundg (fn -(k+1))
  case measure=>omega
  exact⟨k+1,by omega,by omega,by go_num,GJ.out,XJ.out,ZN.out⟩
 have hlkz:¬(k:Int)< (fn:Int):=by omega
 obtain rfl:fn=k:=by omega
 have Z7:Hid (ze [goL (Qh m) m.sl.length 0]=Z):=show _=_ by
  have h1:=z6 ZK.out (by rw[HN1.out];exact zdi _ _)
  rw[<-zdj]at h1;exact h1
 clear ZK HFR HCA;have x2:=XK.out.c 2 rfl;go_wp2;clear x2
 go_loopg [207] sn (fun gg s207 wr=>∃j:Nat,j<=sn/\sn - j<=gg/\s207= .int .i64 j/\Hid (zc w wr)/\Hid (Box wr w.heap.size [.slice fa fn fc,.int .i64 m.hand,.slice sa sn sc,.slice vsb.a vsb.n vsb.c,.slice vsq.a vsq.n vsq.c,.slice vdb.a vdb.n vdb.c,.slice vdq.a vdq.n vdq.c,.slice fla fln flc,.int .i64 m.cnt,.slice caa can cac,.slice spa spn spc])/\Hid (ze [goL (Qh m) m.sl.length j]=Z))
 case atStart=>exact⟨0,nZ _,by omega,rfl,GK.out,XK.out,Z7.out⟩
 obtain⟨j,hj,hgj,rfl,GJ,X12,ZJ⟩:=hrel;clear GK XK Z7
 by_cases hlj:j<sn
 ·have hljz:(j:Int)< (sn:Int):=by omega
  obtain⟨z,HQ⟩:∃z,Hid (m.sl[j]? =some z):=⟨_,gE (by rw[HN2.out];exact hlj)⟩
  obtain⟨ads,rfl,hl⟩:=HSL.out j z HQ.out;have d0:=hl wr GJ.out;obtain⟨Hz,HHZ⟩:∃Hz:Int,Hid ((j7 m 2 (j:Int):Int)=Hz):=⟨_,rfl⟩;have HSV:Hid (Qh m j=if z≠Hz then 7 else 0):=show _=_ by unfold Qh;rw[gD,HQ.out,HHZ.out];rfl
  clear hl;have hc:=HHO.out wr 2 (j:Int) GJ.out HP.out;rw[HHZ.out]at hc;obtain⟨x0,x1,x2,x3,x4,x5,x6,x7,x8,x9,x10⟩:=X12.out.c11;go_wp2_with fail;refine hc.mono ?_;clear hc d0 x0 x1 x2 x3 x4 x5 x6 x7 x8 x9 x10;rintro e W13 ⟨rfl,g13⟩;have G13:=dD (GJ.out.trans g13);have X13:=dD (X12.out.grew g13);clear g13 GJ X12
  by_cases k1:z=Hz
  ·have k1e:(z != Hz)=false:=by simp[k1]
   have ZN:Hid (ze [goL (Qh m) m.sl.length (j+1)]=Z):=zfW (by rw[HN2.out];exact hlj) ZJ.out (by rw[HSV.out,if_neg (fun h=>h k1)])
   clear k1;go_wp2
   go_roundg (sn -(j+1))
   case measure=>omega
   exact⟨j+1,by omega,by omega,by go_num,G13.out,X13.out,ZN.out⟩
  have k1e:(z != Hz)=true:=by simp[k1]
  have HF:Hid (Z=7):=show _=_ by
   have hb:Qh m j=7:=by rw[HSV.out,if_pos k1]
   rw[zfc (by rw[HN2.out];exact hlj) ZJ.out (by rw[hb];decide),hb]
  clear k1;go_wp2;go_ret;exact⟨by rw[HF.out];rfl,G13.out⟩
 have hljz:¬(j:Int)< (sn:Int):=by omega
 obtain rfl:sn=j:=by omega
 have HF:Hid (Z=0):=show _=_ by
  have h1:=z6 ZJ.out (by rw[HN2.out];exact zdi _ _)
  rw[<-h1];rfl
 go_wp2;go_ret;exact⟨by rw[HF.out];rfl,GJ.out⟩
theorem zlA:(Tryz.prog.info? 5).map (fun i=>(i.zero,i.size,i.bytes))=some (some (.int .u8 0),1,1):=by kernel_rfl
theorem zjQ (a b:List Int) (ha:a.length=8) (hb:b.length=8) (x:World):(Op.equalIn 10000 67 (.agg (pgc a).toArray) (.agg (pgc b).toArray)).run Tryz.prog x= .ok (decide (a=b)) x:=by
 obtain⟨i5,hi5,_,hz1,_⟩:=info_parts zlA;exact Qb (P:=Tryz.prog) x 67 5 .u8 9998 8 a b i5 Tryz.underlying67 Tryz.underlying5 hi5 hz1 ha hb
theorem zhh (b0 b1 b2 b3 b4 b5 b6 b7:Int) (x:World):(Op.equalIn 10000 67 (.agg #[.int .u8 b0,.int .u8 b1,.int .u8 b2,.int .u8 b3,.int .u8 b4,.int .u8 b5,.int .u8 b6,.int .u8 b7]) (.agg #[.int .u8 b0,.int .u8 b1,.int .u8 b2,.int .u8 b3,.int .u8 b4,.int .u8 b5,.int .u8 b6,.int .u8 b7])).run Tryz.prog x= .ok true x:=by
 have:=zjQ [b0,b1,b2,b3,b4,b5,b6,b7] [b0,b1,b2,b3,b4,b5,b6,b7] rfl rfl x;rw[decide_eq_true rfl]at this;exact this
theorem zdQ (d:Nat) (b0 b1 b2 b3 b4 b5 b6 b7:Int) (x:World):(Op.equalIn (d+2) 67 (.agg #[.int .u8 b0,.int .u8 b1,.int .u8 b2,.int .u8 b3,.int .u8 b4,.int .u8 b5,.int .u8 b6,.int .u8 b7]) (.agg #[.int .u8 b0,.int .u8 b1,.int .u8 b2,.int .u8 b3,.int .u8 b4,.int .u8 b5,.int .u8 b6,.int .u8 b7])).run Tryz.prog x= .ok true x:=by
 obtain⟨i5,hi5,_,hz1,_⟩:=info_parts zlA;have:=Qb (P:=Tryz.prog) x 67 5 .u8 d 8 [b0,b1,b2,b3,b4,b5,b6,b7] [b0,b1,b2,b3,b4,b5,b6,b7] i5 Tryz.underlying67 Tryz.underlying5 hi5 hz1 rfl rfl;rw[decide_eq_true rfl]at this;exact this
theorem ziz (m b0 b1 b2 b3 b4 b5 b6 b7:Int) (x:World):(Op.equalIn 10000 103 (.agg #[.int .i64 m,.int .u8 b0,.int .u8 b1,.int .u8 b2,.int .u8 b3,.int .u8 b4,.int .u8 b5,.int .u8 b6,.int .u8 b7]) (.agg #[.int .i64 m,.int .u8 b0,.int .u8 b1,.int .u8 b2,.int .u8 b3,.int .u8 b4,.int .u8 b5,.int .u8 b6,.int .u8 b7])).run Tryz.prog x= .ok true x:=by
 have hS:Tryz.prog.underlying 103=some (.struct (Tryz.prog.fieldsOf 103)):=by kernel_rfl
 have hp:Tryz.prog.stoodInHeld 103=false:=by kernel_rfl
 have hpg:=zdQ 9997 b0 b1 b2 b3 b4 b5 b6 b7;have u3:=Tryz.underlying3;have a3:=Tryz.isAgg3;have z3:=Tryz.sizeOf3;have a23:=Tryz.isAgg67;have z23:=Tryz.sizeOf67;rw[show(10000:Nat)=9999+1 from rfl,run_equalIn_agg x 9999 103 _ _ hS hp]
 simp only[Program.fieldsOf,Tryz.underlying103]
 go_simp
theorem ziu (d d':Value) (ps:List (List Int)) (qs:List (Int × List Int)) (w:World) (hd:ZD w d ps qs) (hd':ZD w d' ps qs):
  Calls Tryz.prog 41 #[d,d'] w fun e w'=>e= .returned (.bool true)/\zc w w':=by
 obtain⟨b,q,rfl,hb,hq⟩:=hd;obtain⟨b',q',rfl,hb',hq'⟩:=hd';have hbig:ps.length<=9223372036854775807:=by have:=hb.2.2;omega
 have hbigq:qs.length<=9223372036854775807:=by have:=hq.2.2;omega
 obtain⟨ab,cb,rfl,hrb⟩:=hb.rows;obtain⟨aq,cq,rfl,hrq⟩:=hq.rows;obtain⟨ab',cb',rfl,hrb'⟩:=hb'.rows;obtain⟨aq',cq',rfl,hrq'⟩:=hq'.rows;have HRB:Hid (JA w ab ps):=hrb;have HRB':Hid (JA w ab' ps):=hrb';have HRQ:Hid (ZA w aq qs):=hrq;have HRQ':Hid (ZA w aq' qs):=hrq';clear hb hq hb' hq' hrb hrb' hrq hrq';obtain⟨nb,HNB⟩:∃nb,Hid (ps.length=nb):=⟨_,rfl⟩;obtain⟨kq,HNQ⟩:∃kq,Hid (qs.length=kq):=⟨_,rfl⟩;rw[HNB.out]at hbig;rw[HNQ.out]at hbigq;rw[HNB.out,HNQ.out];obtain⟨W0,hW0⟩:∃W0,(w.alloc (.cells #[.slice ab nb cb,.slice aq kq cq] 34)).alloc (.cells #[.slice ab' nb cb',.slice aq' kq cq'] 34)=W0:=⟨_,rfl⟩;have HG0:=gD2 hW0
 have X0:=x2a hW0
 have X1:=x2b hW0
 have HW0:Hid (_=W0):=hW0;clear hW0;have hnn:((nb:Int) !=(nb:Int))=false:=by simp
 have hqq:((kq:Int) !=(kq:Int))=false:=by simp
 go_enter Tryz.func41,Tryz.ntmps41
 go_wp2;rw[HW0.out]
 go_loopg [5,26] nb (fun gg _ s26 wr=>∃kk:Nat,kk<=nb/\nb - kk<=gg/\s26= .int .i64 kk/\Hid (zc W0 wr))
 case atStart=>exact⟨0,nZ _,by omega,rfl,zc.refl _⟩
 obtain⟨kk,hkk,hg,rfl,BW⟩:=hrel
 by_cases hlt:kk<nb
 ·have hltz:(kk:Int)< (nb:Int):=by omega
  obtain⟨p,HPK⟩:∃p,Hid (ps[kk]? =some p):=⟨_,gE (by rw[HNB.out];exact hlt)⟩
  obtain⟨x,b0,b1,b2,b3,b4,b5,b6,b7,rfl,rfl,hl⟩:=HRB.out kk p HPK.out;obtain⟨x',c0,c1,c2,c3,c4,c5,c6,c7,rfl,hpp,hl'⟩:=HRB'.out kk _ HPK.out;simp only[List.cons.injEq,and_true]at hpp;obtain⟨rfl,rfl,rfl,rfl,rfl,rfl,rfl,rfl⟩:=hpp;obtain⟨d0,d1,d2,d3,d4,d5,d6,d7⟩:=hl wr (HG0.out.trans BW.out);obtain⟨f0,f1,f2,f3,f4,f5,f6,f7⟩:=hl' wr (HG0.out.trans BW.out);have z0:=(X0.out.grew BW.out).c 0 rfl;have z1:=(X1.out.grew BW.out).c 0 rfl;have pe:=zhh b0 b1 b2 b3 b4 b5 b6 b7;clear hl hl';go_wp2;go_quiet (fail);go_wp2
  go_roundg (nb -(kk+1))
  case measure=>omega
  exact⟨kk+1,by omega,by omega,by go_num,BW.out.trans (show Below _ _ _ from bD (bR _ _) _)⟩
 have hltz:¬(kk:Int)< (nb:Int):=by omega
 have:kk=nb:=by omega
 subst this;have z1:=(X0.out.grew BW.out).c 1 rfl;go_wp2;clear z1
 go_loopg [6,44] kq (fun gg _ s44 wr'=>∃jj:Nat,jj<=kq/\kq - jj<=gg/\s44= .int .i64 jj/\Hid (zc W0 wr'))
 case atStart=>exact⟨0,nZ _,by omega,rfl,BW.out⟩
 obtain⟨jj,hjj,hg,rfl,BW'⟩:=hrel
 by_cases hlt:jj<kq
 ·have hltz:(jj:Int)< (kq:Int):=by omega
  obtain⟨p,HPK⟩:∃p,Hid (qs[jj]? =some p):=⟨_,gE (by rw[HNQ.out];exact hlt)⟩
  obtain⟨x,m,b0,b1,b2,b3,b4,b5,b6,b7,rfl,rfl,hl⟩:=HRQ.out jj p HPK.out;obtain⟨x',m',c0,c1,c2,c3,c4,c5,c6,c7,rfl,hpp,hl'⟩:=HRQ'.out jj _ HPK.out;simp only[pJ,List.cons.injEq,and_true]at hpp;obtain⟨rfl,rfl,rfl,rfl,rfl,rfl,rfl,rfl,rfl⟩:=hpp;obtain⟨d0,d1,d2,d3,d4,d5,d6,d7,d8⟩:=hl wr (HG0.out.trans BW'.out);obtain⟨f0,f1,f2,f3,f4,f5,f6,f7,f8⟩:=hl' wr (HG0.out.trans BW'.out);have z0:=(X0.out.grew BW'.out).c 1 rfl;have z1:=(X1.out.grew BW'.out).c 1 rfl;have pe:=ziz m b0 b1 b2 b3 b4 b5 b6 b7;clear hl hl';go_wp2;go_quiet (fail);go_wp2
  go_roundg (kq -(jj+1))
  case measure=>omega
  exact⟨jj+1,by omega,by omega,by go_num,BW'.out.trans (show Below _ _ _ from bD (bR _ _) _)⟩
 have hltz:¬(jj:Int)< (kq:Int):=by omega
 have:jj=kq:=by omega
 subst this;go_wp2;go_ret;exact⟨rfl,HG0.out.trans BW'.out⟩
theorem zjN {α:Type} (E:Elt α) (w:World):zo E w (.slice none 0 0) ([]:List α):=(zb.nil E 0 w).at
theorem zge:j5 (fun _=>en0)=qx:=by kernel_rfl
theorem zji {F S B:Int} (h:zjA F S B):jC (zdW F.toNat S.toNat B.toNat 1) [fun _=>en0] 0=zaC F S B:=by
 unfold jC zdW zaC;simp only[List.replicate_one,List.zipWith_cons_cons,List.zipWith_nil_left,zge]
 congr 1
 unfold zjA at h;omega
def nm2:Ma:=zaC 2 2 2
def sp2:Sp:=⟨true,[],qx⟩
theorem zgW (w:World):Calls Tryz.prog 15 #[.int .i64 2,.int .i64 2,.int .i64 2,.slice none 0 0] w fun e w'=>(∃V:MaV,e= .returned (.agg #[.slice V.f.a V.f.n V.f.c,.int .i64 0,.slice V.s.a V.s.n V.s.c,.slice V.sb.a V.sb.n V.sb.c,.slice V.sq.a V.sq.n V.sq.c,.slice V.db.a V.db.n V.db.c,.slice V.dq.a V.dq.n V.dq.c,.slice V.fl.a V.fl.n V.fl.c,.int .i64 2,.slice V.ca.a V.ca.n V.ca.c,.slice V.sp.a V.sp.n V.sp.c])/\zC w' V nm2)/\Rt nm2/\zc w w':=by
 refine(zer 2 2 2 2 2 2 (by decide) (by decide) (by decide) zw [] w (zjN _ _) (nR _) (by simp)).mono ?_
 rintro e w' ⟨V2,m2,T2,hd2,hi2,ht2,vt2,rfl,hbt⟩;obtain⟨e1,e2,e3⟩:=hbt.new rfl;have hat:=hbt.at;have hf:jC (zdW 2 2 2 1) [fun _=>en0] 0=nm2:=zji (F:=2) (S:=2) (B:=2) (by unfold zjA;omega)
 rw[e1,e2,e3,hf]at hat;have hc:m2.cnt=2:=by rw[e1];rfl
 refine⟨⟨V2,by rw[hc,e3],hat.1⟩,⟨hat.2,fun s hs=>?_⟩,hbt.gr⟩
 have:s=sp2:=by
  have hs:s∈[sp2]:=hs
  simpa using hs
 rw[this];rfl
theorem zgC (V:MaV) (m:Ma) (w:World) (hm:zC w V m) (hf:m.fs.length<=40):
  Calls Tryz.prog 34 #[.agg #[.slice V.f.a V.f.n V.f.c,.int .i64 m.hand,.slice V.s.a V.s.n V.s.c,.slice V.sb.a V.sb.n V.sb.c,.slice V.sq.a V.sq.n V.sq.c,.slice V.db.a V.db.n V.db.c,.slice V.dq.a V.dq.n V.dq.c,.slice V.fl.a V.fl.n V.fl.c,.int .i64 m.cnt,.slice V.ca.a V.ca.n V.ca.c,.slice V.sp.a V.sp.n V.sp.c]] w fun e w'=>e= .returned (.int .i64 (zfg m.fs:Int))/\zc w w':=by
 obtain⟨n1,-⟩:=hm.ns;obtain⟨fa,HFA⟩:∃fa,Hid (V.f.a=fa):=⟨_,rfl⟩;have HFR:Hid (Qs w fa m.fs):=show Qs _ _ _ by rw[<-HFA.out];exact hm.frs
 obtain⟨fn,HFN⟩:∃fn,Hid (m.fs.length=fn):=⟨_,rfl⟩;rw[HFN.out]at n1 hf;have HN1:Hid (V.f.n=fn):=n1;clear n1;obtain⟨W0,hW0⟩:∃W0,w.alloc (.cells #[.slice V.f.a V.f.n V.f.c,.int .i64 m.hand,.slice V.s.a V.s.n V.s.c,.slice V.sb.a V.sb.n V.sb.c,.slice V.sq.a V.sq.n V.sq.c,.slice V.db.a V.db.n V.db.c,.slice V.dq.a V.dq.n V.dq.c,.slice V.fl.a V.fl.n V.fl.c,.int .i64 m.cnt,.slice V.ca.a V.ca.n V.ca.c,.slice V.sp.a V.sp.n V.sp.c] 41)=W0:=⟨_,rfl⟩;have G0:=gA hW0
 have X0:=xA hW0
 have HW0:Hid (_=W0):=hW0;have HZF:Hid (zfg m.fs=(m.fs.take fn).countP fun f=>decide (f.r=0)):=show _=_ by rw[<-HFN.out,List.take_length];rfl
 clear hW0 hm
 go_enter Tryz.func34,Tryz.ntmps34
 go_upto_region 2 with fail;rw[HW0.out];have x0:=X0.out.c 0 rfl;rw[HN1.out,HFA.out]at x0;go_wp2;clear x0
 go_loopg [3,10] fn (fun gg s3 s10 wr=>∃kk:Nat,kk<=fn/\fn - kk<=gg/\s3= .int .i64 (((m.fs.take kk).countP fun f=>decide (f.r=0):Nat):Int)/\s10= .int .i64 kk/\Hid (zc w wr))
 case atStart=>exact⟨0,nZ _,by omega,rfl,rfl,G0.out⟩
 obtain⟨kk,hkk,hg,rfl,rfl,GW⟩:=hrel;clear G0 X0
 by_cases hlt:kk<fn
 ·have hltz:(kk:Int)< (fn:Int):=by omega
  obtain⟨f,HK⟩:∃f,Hid (m.fs[kk]? =some f):=⟨_,gE (by rw[HFN.out];exact hlt)⟩
  obtain⟨ad,rfl,hl⟩:=HFR.out kk f HK.out;obtain⟨d0,d1,d2,d3,d4,d5,d6,d7,d8,d9,d10,d11,d12⟩:=hl wr GW.out;clear hl;have HC:Hid ((m.fs.take (kk+1)).countP (fun f=>decide (f.r=0))=(m.fs.take kk).countP (fun f=>decide (f.r=0))+(if decide (f.r=0)=true then 1 else 0)):=zgN _ HK.out
  have HCL:Hid ((m.fs.take kk).countP (fun f=>decide (f.r=0))<=kk):=show _<=_ from nT List.countP_le_length (by simp;omega)
  generalize hcn:(m.fs.take kk).countP (fun f=>decide (f.r=0))=cn at HC HCL
  clear hcn;have hcl:cn<=kk:=HCL.out;go_upto_region 5 with fail;clear d0 d1 d2 d3 d4 d5 d6 d7 d8 d9 d10 d11 d12;obtain⟨W1,hW1⟩:∃W1,wr.alloc (.cells #[.int .u8 f.p.b0,.int .u8 f.p.b1,.int .u8 f.p.b2,.int .u8 f.p.b3,.int .u8 f.p.b4,.int .u8 f.p.b5,.int .u8 f.p.b6,.int .u8 f.p.b7,.int .i64 f.r,.bool f.u,.bool f.d,.int .i64 f.f,.int .i64 f.x] 69)=W1:=⟨_,rfl⟩;have g1:=gP hW1
  have F1:=xA hW1
  have G1:=dD (GW.out.trans g1);rw[hW1];clear hW1 g1 GW;have f8:=F1.out.c 8 rfl
  by_cases hz:f.r=0
  ·have hzb:(f.r == 0)=true:=by simpa using hz
   have HC1:Hid ((m.fs.take (kk+1)).countP (fun f=>decide (f.r=0))=cn+1):=show _=_ by rw[HC.out,if_pos (by simpa using hz)]
   clear hz HC HCL;go_wp2
   go_roundg (fn -(kk+1))
   case measure=>omega
   exact⟨kk+1,by omega,by omega,by rw[HC1.out];go_num,by go_num,G1.out⟩
  have hzb:(f.r == 0)=false:=by simpa using hz
  have HC1:Hid ((m.fs.take (kk+1)).countP (fun f=>decide (f.r=0))=cn):=show _=_ by rw[HC.out,if_neg (by simpa using hz)];rfl
  clear hz HC HCL;go_wp2
  go_roundg (fn -(kk+1))
  case measure=>omega
  exact⟨kk+1,by omega,by omega,by rw[HC1.out],by go_num,G1.out⟩
 have hltz:¬(kk:Int)< (fn:Int):=by omega
 have:kk=fn:=by omega
 subst this;rw[<-HZF.out];obtain⟨zf,HZ⟩:∃zf,Hid (zfg m.fs=zf):=⟨_,rfl⟩;rw[HZ.out];go_wp2;go_ret;exact⟨by rw[HZ.out];rfl,GW.out⟩
theorem zjS:zhn nm2.fs nm2.hand=-1/\(ziL nm2).fs.length=2/\Ze nm2.fs nm2.hand=0:=⟨by kernel_rfl,by kernel_rfl,by kernel_rfl⟩
theorem zfw (w:World):Calls Tryz.prog 31 #[] w fun e w'=>e= .returned (.bool true)/\zc w w':=by
 have hbu:=zgW w
 go_enter Tryz.func31,Tryz.ntmps31
 go_wp2_with fail;refine hbu.mono ?_;clear hbu;rintro e W1 ⟨⟨V,rfl,hm⟩,hrt,g1⟩;have G1:Hid (zc w W1):=g1;have M1:Hid (zC W1 V nm2):=hm;have HR:Hid (Rt nm2):=hrt;clear g1 hm hrt;go_upto_region 2 with fail;obtain⟨b,HB⟩:∃b,Hid (W1.heap.size=b):=⟨_,rfl⟩;obtain⟨W2,hW2⟩:∃W2,W1.alloc (.cells #[.slice V.f.a V.f.n V.f.c,.int .i64 0,.slice V.s.a V.s.n V.s.c,.slice V.sb.a V.sb.n V.sb.c,.slice V.sq.a V.sq.n V.sq.c,.slice V.db.a V.db.n V.db.c,.slice V.dq.a V.dq.n V.dq.c,.slice V.fl.a V.fl.n V.fl.c,.int .i64 2,.slice V.ca.a V.ca.n V.ca.c,.slice V.sp.a V.sp.n V.sp.c] 41)=W2:=⟨_,rfl⟩;have g2:=gP hW2
 have X2:=xPT hW2 HB
 have G2:=dD (G1.out.trans g2);have M2:=dD (M1.out.grew g2);rw[hW2,HB.out];clear hW2 g2 G1 M1 HB;have hev:Calls Tryz.prog 33 #[.agg #[.slice V.f.a V.f.n V.f.c,.int .i64 0,.slice V.s.a V.s.n V.s.c,.slice V.sb.a V.sb.n V.sb.c,.slice V.sq.a V.sq.n V.sq.c,.slice V.db.a V.db.n V.db.c,.slice V.dq.a V.dq.n V.dq.c,.slice V.fl.a V.fl.n V.fl.c,.int .i64 2,.slice V.ca.a V.ca.n V.ca.c,.slice V.sp.a V.sp.n V.sp.c]] W2 fun e w'=>(∃(bo:Bool) (m':Ma) (V':MaV),(bo=false/\m'.fs.length=2)/\e= .returned (.tuple #[.agg #[.slice V'.f.a V'.f.n V'.f.c,.int .i64 m'.hand,.slice V'.s.a V'.s.n V'.s.c,.slice V'.sb.a V'.sb.n V'.sb.c,.slice V'.sq.a V'.sq.n V'.sq.c,.slice V'.db.a V'.db.n V'.db.c,.slice V'.dq.a V'.dq.n V'.dq.c,.slice V'.fl.a V'.fl.n V'.fl.c,.int .i64 m'.cnt,.slice V'.ca.a V'.ca.n V'.ca.c,.slice V'.sp.a V'.sp.n V'.sp.c],.bool bo,.int .i64 0])/\zC w' V' m')/\zc W2 w':=zgJ V nm2 W2 M2.out HR.out.w (fun bo m'=>bo=false/\m'.fs.length=2) (fun w0 W p V1 hc=>(zfk hc zjS.2.2 zjS.1 (by decide) (by decide) _).mono (by
  rintro e w' ⟨rfl,h⟩;exact⟨false,ziL nm2,rfl,⟨rfl,zjS.2.1⟩,h⟩))
 obtain⟨x0,x1,x2,x3,x4,x5,x6,x7,x8,x9,x10⟩:=X2.out.box.c11;go_wp2_with fail;refine hev.mono ?_;clear hev x0 x1 x2 x3 x4 x5 x6 x7 x8 x9 x10;rintro e W3 ⟨⟨bo,m3,V3,⟨rfl,hl3⟩,rfl,hm3⟩,g3⟩;obtain⟨n3,-⟩:=hm3.ns;have HN3:Hid (V3.f.n=2):=show _=_ by rw[n3,hl3]
 clear n3 hl3 hm3;go_upto_region 3 with fail;obtain⟨c,HC⟩:∃c,Hid (W3.heap.size=c):=⟨_,rfl⟩;obtain⟨W4,hW4⟩:∃W4,W3.alloc (.cells #[.slice V3.f.a V3.f.n V3.f.c,.int .i64 m3.hand,.slice V3.s.a V3.s.n V3.s.c,.slice V3.sb.a V3.sb.n V3.sb.c,.slice V3.sq.a V3.sq.n V3.sq.c,.slice V3.db.a V3.db.n V3.db.c,.slice V3.dq.a V3.dq.n V3.dq.c,.slice V3.fl.a V3.fl.n V3.fl.c,.int .i64 m3.cnt,.slice V3.ca.a V3.ca.n V3.ca.c,.slice V3.sp.a V3.sp.n V3.sp.c] 41)=W4:=⟨_,rfl⟩;have g4:=gP hW4
 have Y4:=xPT hW4 HC
 have X4:=dD (X2.out.grew (g3.trans g4));have G4:=dD (G2.out.trans (g3.trans g4));have M4:=dD (M2.out.grew (g3.trans g4));rw[hW4,HC.out];clear hW4 g3 g4 X2 G2 M2 HC;have hcl:Calls Tryz.prog 35 #[.agg #[.slice V.f.a V.f.n V.f.c,.int .i64 0,.slice V.s.a V.s.n V.s.c,.slice V.sb.a V.sb.n V.sb.c,.slice V.sq.a V.sq.n V.sq.c,.slice V.db.a V.db.n V.db.c,.slice V.dq.a V.dq.n V.dq.c,.slice V.fl.a V.fl.n V.fl.c,.int .i64 2,.slice V.ca.a V.ca.n V.ca.c,.slice V.sp.a V.sp.n V.sp.c]] W4 fun e w'=>(∃V':MaV,e= .returned (.tuple #[.agg #[.slice V'.f.a V'.f.n V'.f.c,.int .i64 0,.slice V'.s.a V'.s.n V'.s.c,.slice V'.sb.a V'.sb.n V'.sb.c,.slice V'.sq.a V'.sq.n V'.sq.c,.slice V'.db.a V'.db.n V'.db.c,.slice V'.dq.a V'.dq.n V'.dq.c,.slice V'.fl.a V'.fl.n V'.fl.c,.int .i64 2,.slice V'.ca.a V'.ca.n V'.ca.c,.slice V'.sp.a V'.sp.n V'.sp.c],.bool false,.int .i64 0])/\zC w' V' nm2)/\zc W4 w':=zgP V nm2 W4 M4.out HR.out.w rfl
 obtain⟨x0,x1,x2,x3,x4,x5,x6,x7,x8,x9,x10⟩:=X4.out.box.c11;go_wp2_with fail;refine hcl.mono ?_;clear hcl x0 x1 x2 x3 x4 x5 x6 x7 x8 x9 x10;rintro e W5 ⟨⟨V5,rfl,hm5⟩,g5⟩;obtain⟨-,n5,-⟩:=hm5.ns;have HN5:Hid (V5.s.n=2):=n5;clear n5 hm5;go_upto_region 4 with fail;obtain⟨d,HD⟩:∃d,Hid (W5.heap.size=d):=⟨_,rfl⟩;obtain⟨W6,hW6⟩:∃W6,W5.alloc (.cells #[.slice V5.f.a V5.f.n V5.f.c,.int .i64 0,.slice V5.s.a V5.s.n V5.s.c,.slice V5.sb.a V5.sb.n V5.sb.c,.slice V5.sq.a V5.sq.n V5.sq.c,.slice V5.db.a V5.db.n V5.db.c,.slice V5.dq.a V5.dq.n V5.dq.c,.slice V5.fl.a V5.fl.n V5.fl.c,.int .i64 2,.slice V5.ca.a V5.ca.n V5.ca.c,.slice V5.sp.a V5.sp.n V5.sp.c] 41)=W6:=⟨_,rfl⟩;have g6:=gP hW6
 have D6:=xPT hW6 HD
 have Y6:=dD (Y4.out.grew (g5.trans g6));have X6:=dD (X4.out.grew (g5.trans g6));have G6:=dD (G4.out.trans (g5.trans g6));have M6:=dD (M4.out.grew (g5.trans g6));rw[hW6,HD.out];clear hW6 g5 g6 X4 Y4 G4 M4 HD;have hcr:Calls Tryz.prog 39 #[.agg #[.slice V.f.a V.f.n V.f.c,.int .i64 0,.slice V.s.a V.s.n V.s.c,.slice V.sb.a V.sb.n V.sb.c,.slice V.sq.a V.sq.n V.sq.c,.slice V.db.a V.db.n V.db.c,.slice V.dq.a V.dq.n V.dq.c,.slice V.fl.a V.fl.n V.fl.c,.int .i64 2,.slice V.ca.a V.ca.n V.ca.c,.slice V.sp.a V.sp.n V.sp.c],.int .i64 0] W6 fun e w'=>(∃V':MaV,e= .returned (.tuple #[.agg #[.slice V'.f.a V'.f.n V'.f.c,.int .i64 0,.slice V'.s.a V'.s.n V'.s.c,.slice V'.sb.a V'.sb.n V'.sb.c,.slice V'.sq.a V'.sq.n V'.sq.c,.slice V'.db.a V'.db.n V'.db.c,.slice V'.dq.a V'.dq.n V'.dq.c,.slice V'.fl.a V'.fl.n V'.fl.c,.int .i64 2,.slice V'.ca.a V'.ca.n V'.ca.c,.slice V'.sp.a V'.sp.n V'.sp.c],.int .i64 0])/\zC w' V' (Qq nm2 (Qd (jD 0) nm2.db nm2.dq))/\∃ps,V'.sp=⟨some ⟨ps,0,none⟩,1,1⟩)/\zc W6 w':=zcv V nm2 0 W6 M6.out HR.out
 obtain⟨x0,x1,x2,x3,x4,x5,x6,x7,x8,x9,x10⟩:=X6.out.box.c11;go_wp2_with fail;refine hcr.mono ?_;clear hcr x0 x1 x2 x3 x4 x5 x6 x7 x8 x9 x10;rintro e W7 ⟨⟨V7,rfl,hm7,-⟩,g7⟩;obtain⟨-,-,-,-,n7,-,-,-,o7⟩:=hm7.ns;have HN7:Hid (V7.db.n=2):=show _=_ by
  rw[n7]
  show(Qd (jD 0) nm2.db nm2.dq).length=2
  kernel_rfl
 have HO7:Hid (V7.sp.n=1):=o7;clear n7 o7 hm7;go_upto_region 5 with fail;obtain⟨f,HF⟩:∃f,Hid (W7.heap.size=f):=⟨_,rfl⟩;obtain⟨W8,hW8⟩:∃W8,W7.alloc (.cells #[.slice V7.f.a V7.f.n V7.f.c,.int .i64 0,.slice V7.s.a V7.s.n V7.s.c,.slice V7.sb.a V7.sb.n V7.sb.c,.slice V7.sq.a V7.sq.n V7.sq.c,.slice V7.db.a V7.db.n V7.db.c,.slice V7.dq.a V7.dq.n V7.dq.c,.slice V7.fl.a V7.fl.n V7.fl.c,.int .i64 2,.slice V7.ca.a V7.ca.n V7.ca.c,.slice V7.sp.a V7.sp.n V7.sp.c] 41)=W8:=⟨_,rfl⟩;have g8:=gP hW8
 have F8:=xPT hW8 HF
 have D8:=dD (D6.out.grew (g7.trans g8));have Y8:=dD (Y6.out.grew (g7.trans g8));have X8:=dD (X6.out.grew (g7.trans g8));have G8:=dD (G6.out.trans (g7.trans g8));have M8:=dD (M6.out.grew (g7.trans g8));rw[hW8,HF.out];clear hW8 g7 g8 X6 Y6 D6 G6 M6 HF;have hsy:Calls Tryz.prog 36 #[.agg #[.slice V.f.a V.f.n V.f.c,.int .i64 0,.slice V.s.a V.s.n V.s.c,.slice V.sb.a V.sb.n V.sb.c,.slice V.sq.a V.sq.n V.sq.c,.slice V.db.a V.db.n V.db.c,.slice V.dq.a V.dq.n V.dq.c,.slice V.fl.a V.fl.n V.fl.c,.int .i64 2,.slice V.ca.a V.ca.n V.ca.c,.slice V.sp.a V.sp.n V.sp.c],.int .i64 0] W8 fun e w'=>e= .returned (.tuple #[.agg Qu.toArray,.int .i64 5])/\zc W8 w':=zg9 V nm2 0 W8 M8.out HR.out.w (.inr (by decide))
 obtain⟨x0,x1,x2,x3,x4,x5,x6,x7,x8,x9,x10⟩:=X8.out.box.c11;go_wp2_with fail;refine hsy.mono ?_;clear hsy x0 x1 x2 x3 x4 x5 x6 x7 x8 x9 x10;rintro e W9 ⟨rfl,g9⟩;unfold Qu;go_upto_region 6 with fail;obtain⟨W10,hW10⟩:∃W10,W9.alloc (.cells #[.slice none 0 0,.int .i64 0,.slice none 0 0,.slice none 0 0,.slice none 0 0,.slice none 0 0,.slice none 0 0,.slice none 0 0,.int .i64 0,.slice none 0 0,.slice none 0 0] 41)=W10:=⟨_,rfl⟩;have g10:=gP hW10
 have G10:=dD (G8.out.trans (g9.trans g10));have y0:=(Y8.out.grew (g9.trans g10)).box.c 0 rfl;have d2:=(D8.out.grew (g9.trans g10)).box.c 2 rfl;have f5:=(F8.out.grew (g9.trans g10)).box.c 5 rfl;have f10:=(F8.out.grew (g9.trans g10)).box.c 10 rfl;rw[HN3.out]at y0;rw[HN5.out]at d2;rw[HN7.out]at f5;rw[HO7.out]at f10;rw[hW10];clear hW10 g9 g10 X8 Y8 D8 F8 G8 M8;go_wp2;go_ret;exact⟨rfl,G10.out⟩
end
end Go.Proofs.YtdgccecjbpgmfaaGreat
