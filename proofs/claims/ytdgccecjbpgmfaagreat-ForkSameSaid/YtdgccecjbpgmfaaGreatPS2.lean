import Derived.Test.YtdgccecjbpgmfaaGreatPS1
import Derived.BigQuiet
import Derived.WalkSmall
import Derived.Deep.Cut
import Derived.ChangeKeysEq
namespace Go.Proofs.YtdgccecjbpgmfaaGreat
set_option maxRecDepth 100000
set_option maxHeartbeats 4000000
variable{V:MaV} {W w':World} {base' hi i j:Nat} {l:List Ar} {m:Ma} {t:TypeId} {us vs:List Value} {z:Int}
open Go.Proofs.Tryz
section
open Go.RowKit
theorem rw1 (b0 b1 b2 b3 b4 b5 b6 b7 r:Int) (u d:Bool) (f x:Int) (w:World) (_h:r<0):
  Calls prog 141 #[.agg #[U8 b0,U8 b1,U8 b2,U8 b3,U8 b4,U8 b5,U8 b6,U8 b7,I6 r,.bool u,.bool d,I6 f,I6 x]] w fun e w'=>e= .returned (I6 3)/\zc w w':=by
 go_enter func141,ntmps141
 go_wp2;go_ret;exact⟨rfl,(bR _ _).alloc (nR _) _⟩
theorem rw2 (b0 b1 b2 b3 b4 b5 b6 b7 r:Int) (u d:Bool) (f x:Int) (w:World) (_h:¬r<0) (_h2:1000<r):
  Calls prog 141 #[.agg #[U8 b0,U8 b1,U8 b2,U8 b3,U8 b4,U8 b5,U8 b6,U8 b7,I6 r,.bool u,.bool d,I6 f,I6 x]] w fun e w'=>e= .returned (I6 3)/\zc w w':=by
 go_enter func141,ntmps141
 go_wp2;go_ret;exact⟨rfl,(bR _ _).alloc (nR _) _⟩
theorem rw3 (b0 b1 b2 b3 b4 b5 b6 b7 r:Int) (u d:Bool) (f x:Int) (w:World) (_h:¬r<0) (_h2:¬1000<r) (_h3:f< -1):
  Calls prog 141 #[.agg #[U8 b0,U8 b1,U8 b2,U8 b3,U8 b4,U8 b5,U8 b6,U8 b7,I6 r,.bool u,.bool d,I6 f,I6 x]] w fun e w'=>e= .returned (I6 3)/\zc w w':=by
 go_enter func141,ntmps141
 go_wp2;go_ret;exact⟨rfl,(bR _ _).alloc (nR _) _⟩
theorem rw4 (b0 b1 b2 b3 b4 b5 b6 b7 r:Int) (u d:Bool) (f x:Int) (w:World) (_h:¬r<0) (_h2:¬1000<r) (_h3:¬f< -1) (_h4:4<f):
  Calls prog 141 #[.agg #[U8 b0,U8 b1,U8 b2,U8 b3,U8 b4,U8 b5,U8 b6,U8 b7,I6 r,.bool u,.bool d,I6 f,I6 x]] w fun e w'=>e= .returned (I6 3)/\zc w w':=by
 go_enter func141,ntmps141
 go_wp2;go_ret;exact⟨rfl,(bR _ _).alloc (nR _) _⟩
theorem rw5 (b0 b1 b2 b3 b4 b5 b6 b7 r:Int) (u d:Bool) (f x:Int) (w:World) (_h:¬r<0) (_h2:¬1000<r) (_h3:¬f< -1) (_h4:¬4<f) (_h5:x<0):
  Calls prog 141 #[.agg #[U8 b0,U8 b1,U8 b2,U8 b3,U8 b4,U8 b5,U8 b6,U8 b7,I6 r,.bool u,.bool d,I6 f,I6 x]] w fun e w'=>e= .returned (I6 3)/\zc w w':=by
 go_enter func141,ntmps141
 go_wp2;go_ret;exact⟨rfl,(bR _ _).alloc (nR _) _⟩
theorem rw6 (b0 b1 b2 b3 b4 b5 b6 b7 r:Int) (u d:Bool) (f x:Int) (w:World) (_h:¬r<0) (_h2:¬1000<r) (_h3:¬f< -1) (_h4:¬4<f) (_h5:¬x<0) (_h6:11<x):
  Calls prog 141 #[.agg #[U8 b0,U8 b1,U8 b2,U8 b3,U8 b4,U8 b5,U8 b6,U8 b7,I6 r,.bool u,.bool d,I6 f,I6 x]] w fun e w'=>e= .returned (I6 3)/\zc w w':=by
 go_enter func141,ntmps141
 go_wp2;go_ret;exact⟨rfl,(bR _ _).alloc (nR _) _⟩
theorem rw7 (b0 b1 b2 b3 b4 b5 b6 b7 r:Int) (u d:Bool) (f x:Int) (w:World) (_h:¬r<0) (_h2:¬1000<r) (_h3:¬f< -1) (_h4:¬4<f) (_h5:¬x<0) (_h6:¬11<x) (_h7:(r == 0)=false) (_h8:f<0) (_h9:0<x):
  Calls prog 141 #[.agg #[U8 b0,U8 b1,U8 b2,U8 b3,U8 b4,U8 b5,U8 b6,U8 b7,I6 r,.bool u,.bool d,I6 f,I6 x]] w fun e w'=>e= .returned (I6 7)/\zc w w':=by
 go_enter func141,ntmps141
 go_wp2;go_ret;exact⟨rfl,(bR _ _).alloc (nR _) _⟩
theorem rw8 (b0 b1 b2 b3 b4 b5 b6 b7 r:Int) (u d:Bool) (f x:Int) (w:World) (_h:¬r<0) (_h2:¬1000<r) (_h3:¬f< -1) (_h4:¬4<f) (_h5:¬x<0) (_h6:¬11<x) (_h7:(r == 0)=false) (_h8:f<0) (_h9:¬0<x):
  Calls prog 141 #[.agg #[U8 b0,U8 b1,U8 b2,U8 b3,U8 b4,U8 b5,U8 b6,U8 b7,I6 r,.bool u,.bool d,I6 f,I6 x]] w fun e w'=>e= .returned (I6 0)/\zc w w':=by
 go_enter func141,ntmps141
 go_wp2;go_ret;exact⟨rfl,(bR _ _).alloc (nR _) _⟩
theorem rw9 (b0 b1 b2 b3 b4 b5 b6 b7 r:Int) (u d:Bool) (f x:Int) (w:World) (_h:¬r<0) (_h2:¬1000<r) (_h3:¬f< -1) (_h4:¬4<f) (_h5:¬x<0) (_h6:¬11<x) (_h7:(r == 0)=false) (_h8:¬f<0):
  Calls prog 141 #[.agg #[U8 b0,U8 b1,U8 b2,U8 b3,U8 b4,U8 b5,U8 b6,U8 b7,I6 r,.bool u,.bool d,I6 f,I6 x]] w fun e w'=>e= .returned (I6 0)/\zc w w':=by
 go_enter func141,ntmps141
 go_wp2;go_ret;exact⟨rfl,(bR _ _).alloc (nR _) _⟩
theorem zlV (b0 b1 b2 b3 b4 b5 b6 b7 r:Int) (u d:Bool) (f x:Int) (w:World) (_h:¬r<0) (_h2:¬1000<r) (_h3:¬f< -1) (_h4:¬4<f) (_h5:¬x<0) (_h6:¬11<x) (_h7:(r == 0)=true) (hfr:ZK (⟨⟨b0,b1,b2,b3,b4,b5,b6,b7⟩,r,u,d,f,x⟩:Fr) frF=true) (_h8:f<0) (_h9:¬0<x):
  Calls prog 141 #[.agg #[U8 b0,U8 b1,U8 b2,U8 b3,U8 b4,U8 b5,U8 b6,U8 b7,I6 r,.bool u,.bool d,I6 f,I6 x]] w fun e w'=>e= .returned (I6 0)/\zc w w':=by
 have hq:=fun W=>zcH b0 b1 b2 b3 b4 b5 b6 b7 r u d f x 0 0 0 0 0 0 0 0 0 false false (-1) 0 W
 simp only[show(⟨⟨0,0,0,0,0,0,0,0⟩,0,false,false,-1,0⟩:Fr)=frF from rfl,hfr]at hq
 clear hfr
 go_enter func141,ntmps141
 go_wp2;go_ret;exact⟨rfl,(bR _ _).alloc (nR _) _⟩
theorem zlU (b0 b1 b2 b3 b4 b5 b6 b7 r:Int) (u d:Bool) (f x:Int) (w:World) (_h:¬r<0) (_h2:¬1000<r) (_h3:¬f< -1) (_h4:¬4<f) (_h5:¬x<0) (_h6:¬11<x) (_h7:(r == 0)=true) (hfr:ZK (⟨⟨b0,b1,b2,b3,b4,b5,b6,b7⟩,r,u,d,f,x⟩:Fr) frF=false) (_h8:(f == -1)=false):
  Calls prog 141 #[.agg #[U8 b0,U8 b1,U8 b2,U8 b3,U8 b4,U8 b5,U8 b6,U8 b7,I6 r,.bool u,.bool d,I6 f,I6 x]] w fun e w'=>e= .returned (I6 7)/\zc w w':=by
 have hq:=fun W=>zcH b0 b1 b2 b3 b4 b5 b6 b7 r u d f x 0 0 0 0 0 0 0 0 0 false false (-1) 0 W
 simp only[show(⟨⟨0,0,0,0,0,0,0,0⟩,0,false,false,-1,0⟩:Fr)=frF from rfl,hfr]at hq
 clear hfr
 go_enter func141,ntmps141
 go_wp2;go_ret;exact⟨rfl,(bR _ _).alloc (nR _) _⟩
theorem zlT (b0 b1 b2 b3 b4 b5 b6 b7 r:Int) (u d:Bool) (f x:Int) (w:World) (_h:¬r<0) (_h2:¬1000<r) (_h3:¬f< -1) (_h4:¬4<f) (_h5:¬x<0) (_h6:¬11<x) (_h7:(r == 0)=true) (hfr:ZK (⟨⟨b0,b1,b2,b3,b4,b5,b6,b7⟩,r,u,d,f,x⟩:Fr) frF=false) (_h8:(f == -1)=true) (_h9:¬0<x):
  Calls prog 141 #[.agg #[U8 b0,U8 b1,U8 b2,U8 b3,U8 b4,U8 b5,U8 b6,U8 b7,I6 r,.bool u,.bool d,I6 f,I6 x]] w fun e w'=>e= .returned (I6 7)/\zc w w':=by
 have hq:=fun W=>zcH b0 b1 b2 b3 b4 b5 b6 b7 r u d f x 0 0 0 0 0 0 0 0 0 false false (-1) 0 W
 simp only[show(⟨⟨0,0,0,0,0,0,0,0⟩,0,false,false,-1,0⟩:Fr)=frF from rfl,hfr]at hq
 clear hfr
 go_enter func141,ntmps141
 go_wp2;go_ret;exact⟨rfl,(bR _ _).alloc (nR _) _⟩
theorem zlS (b0 b1 b2 b3 b4 b5 b6 b7 r:Int) (d:Bool) (f x:Int) (w:World) (_h:¬r<0) (_h2:¬1000<r) (_h3:¬f< -1) (_h4:¬4<f) (_h5:¬x<0) (_h6:¬11<x) (_h7:(r == 0)=true) (hfr:ZK (⟨⟨b0,b1,b2,b3,b4,b5,b6,b7⟩,r,true,d,f,x⟩:Fr) frF=false) (_h8:(f == -1)=true) (_h9:0<x):
  Calls prog 141 #[.agg #[U8 b0,U8 b1,U8 b2,U8 b3,U8 b4,U8 b5,U8 b6,U8 b7,I6 r,.bool true,.bool d,I6 f,I6 x]] w fun e w'=>e= .returned (I6 7)/\zc w w':=by
 have hq:=fun W=>zcH b0 b1 b2 b3 b4 b5 b6 b7 r true d f x 0 0 0 0 0 0 0 0 0 false false (-1) 0 W
 simp only[show(⟨⟨0,0,0,0,0,0,0,0⟩,0,false,false,-1,0⟩:Fr)=frF from rfl,hfr]at hq
 clear hfr
 go_enter func141,ntmps141
 go_wp2;go_ret;exact⟨rfl,(bR _ _).alloc (nR _) _⟩
theorem zlR (b0 b1 b2 b3 b4 b5 b6 b7 r:Int) (f x:Int) (w:World) (_h:¬r<0) (_h2:¬1000<r) (_h3:¬f< -1) (_h4:¬4<f) (_h5:¬x<0) (_h6:¬11<x) (_h7:(r == 0)=true) (hfr:ZK (⟨⟨b0,b1,b2,b3,b4,b5,b6,b7⟩,r,false,true,f,x⟩:Fr) frF=false) (_h8:(f == -1)=true) (_h9:0<x):
  Calls prog 141 #[.agg #[U8 b0,U8 b1,U8 b2,U8 b3,U8 b4,U8 b5,U8 b6,U8 b7,I6 r,.bool false,.bool true,I6 f,I6 x]] w fun e w'=>e= .returned (I6 7)/\zc w w':=by
 have hq:=fun W=>zcH b0 b1 b2 b3 b4 b5 b6 b7 r false true f x 0 0 0 0 0 0 0 0 0 false false (-1) 0 W
 simp only[show(⟨⟨0,0,0,0,0,0,0,0⟩,0,false,false,-1,0⟩:Fr)=frF from rfl,hfr]at hq
 clear hfr
 go_enter func141,ntmps141
 go_wp2;go_ret;exact⟨rfl,(bR _ _).alloc (nR _) _⟩
theorem zlQ (b0 b1 b2 b3 b4 b5 b6 b7 r:Int) (f x:Int) (w:World) (_h:¬r<0) (_h2:¬1000<r) (_h3:¬f< -1) (_h4:¬4<f) (_h5:¬x<0) (_h6:¬11<x) (_h7:(r == 0)=true) (hfr:ZK (⟨⟨b0,b1,b2,b3,b4,b5,b6,b7⟩,r,false,false,f,x⟩:Fr) frF=false) (_h8:(f == -1)=true) (_h9:0<x) (hpp:zbX (⟨b0,b1,b2,b3,b4,b5,b6,b7⟩:Pg) pg0=false):
  Calls prog 141 #[.agg #[U8 b0,U8 b1,U8 b2,U8 b3,U8 b4,U8 b5,U8 b6,U8 b7,I6 r,.bool false,.bool false,I6 f,I6 x]] w fun e w'=>e= .returned (I6 7)/\zc w w':=by
 have hq:=fun W=>zcH b0 b1 b2 b3 b4 b5 b6 b7 r false false f x 0 0 0 0 0 0 0 0 0 false false (-1) 0 W
 simp only[show(⟨⟨0,0,0,0,0,0,0,0⟩,0,false,false,-1,0⟩:Fr)=frF from rfl,hfr]at hq
 clear hfr;have hqp:=fun W=>Qt 9998 b0 b1 b2 b3 b4 b5 b6 b7 0 0 0 0 0 0 0 0 W
 simp only[show(⟨0,0,0,0,0,0,0,0⟩:Pg)=pg0 from rfl,hpp]at hqp
 clear hpp
 go_enter func141,ntmps141
 go_wp2;go_ret;exact⟨rfl,(bR _ _).alloc (nR _) _⟩
theorem zlP (b0 b1 b2 b3 b4 b5 b6 b7 r:Int) (f x:Int) (w:World) (_h:¬r<0) (_h2:¬1000<r) (_h3:¬f< -1) (_h4:¬4<f) (_h5:¬x<0) (_h6:¬11<x) (_h7:(r == 0)=true) (hfr:ZK (⟨⟨b0,b1,b2,b3,b4,b5,b6,b7⟩,r,false,false,f,x⟩:Fr) frF=false) (_h8:(f == -1)=true) (_h9:0<x) (_h10:f<0) (hpp:zbX (⟨b0,b1,b2,b3,b4,b5,b6,b7⟩:Pg) pg0=true):
  Calls prog 141 #[.agg #[U8 b0,U8 b1,U8 b2,U8 b3,U8 b4,U8 b5,U8 b6,U8 b7,I6 r,.bool false,.bool false,I6 f,I6 x]] w fun e w'=>e= .returned (I6 7)/\zc w w':=by
 have hq:=fun W=>zcH b0 b1 b2 b3 b4 b5 b6 b7 r false false f x 0 0 0 0 0 0 0 0 0 false false (-1) 0 W
 simp only[show(⟨⟨0,0,0,0,0,0,0,0⟩,0,false,false,-1,0⟩:Fr)=frF from rfl,hfr]at hq
 clear hfr;have hqp:=fun W=>Qt 9998 b0 b1 b2 b3 b4 b5 b6 b7 0 0 0 0 0 0 0 0 W
 simp only[show(⟨0,0,0,0,0,0,0,0⟩:Pg)=pg0 from rfl,hpp]at hqp
 clear hpp
 go_enter func141,ntmps141
 go_wp2;go_ret;exact⟨rfl,(bR _ _).alloc (nR _) _⟩
theorem zaX (a:Fr) (w:World):Calls prog 141 #[.agg (frv a).toArray] w fun e w'=>e= .returned (I6 (frW a))/\zc w w':=by
 obtain⟨⟨b0,b1,b2,b3,b4,b5,b6,b7⟩,r,u,d,f,x⟩:=a
 show Calls prog 141 #[.agg #[U8 b0,U8 b1,U8 b2,U8 b3,U8 b4,U8 b5,U8 b6,U8 b7,I6 r,.bool u,.bool d,I6 f,I6 x]] w _
 by_cases h1:r<0
 ·rw[show frW (⟨⟨b0,b1,b2,b3,b4,b5,b6,b7⟩,r,u,d,f,x⟩:Fr)=3 from by simp[frW,inB];omega];exact rw1 _ _ _ _ _ _ _ _ _ _ _ _ _ w h1
 by_cases h2:1000<r
 ·rw[show frW (⟨⟨b0,b1,b2,b3,b4,b5,b6,b7⟩,r,u,d,f,x⟩:Fr)=3 from by simp[frW,inB];omega];exact rw2 _ _ _ _ _ _ _ _ _ _ _ _ _ w h1 h2
 have hb1:inB r 1001=true:=by simp[inB];omega
 by_cases h5:x<0
 ·have hb2:inB x 12=false:=by simp[inB];omega
  rw[show frW (⟨⟨b0,b1,b2,b3,b4,b5,b6,b7⟩,r,u,d,f,x⟩:Fr)=3 from by simp[frW,hb1,hb2]]
  by_cases h3:f< -1
  ·exact rw3 _ _ _ _ _ _ _ _ _ _ _ _ _ w h1 h2 h3
  by_cases h4:4<f
  ·exact rw4 _ _ _ _ _ _ _ _ _ _ _ _ _ w h1 h2 h3 h4
  exact rw5 _ _ _ _ _ _ _ _ _ _ _ _ _ w h1 h2 h3 h4 h5
 by_cases h6:11<x
 ·have hb2:inB x 12=false:=by simp[inB];omega
  rw[show frW (⟨⟨b0,b1,b2,b3,b4,b5,b6,b7⟩,r,u,d,f,x⟩:Fr)=3 from by simp[frW,hb1,hb2]]
  by_cases h3:f< -1
  ·exact rw3 _ _ _ _ _ _ _ _ _ _ _ _ _ w h1 h2 h3
  by_cases h4:4<f
  ·exact rw4 _ _ _ _ _ _ _ _ _ _ _ _ _ w h1 h2 h3 h4
  exact rw6 _ _ _ _ _ _ _ _ _ _ _ _ _ w h1 h2 h3 h4 h5 h6
 have hb2:inB x 12=true:=by simp[inB];omega
 by_cases h3:f< -1
 ·have hf:(f == -1)=false:=by simp;omega
  have hb3:inB f 5=false:=by simp[inB];omega
  rw[show frW (⟨⟨b0,b1,b2,b3,b4,b5,b6,b7⟩,r,u,d,f,x⟩:Fr)=3 from by simp only[frW,hb1,hb2,hf,hb3];rfl]
  exact rw3 _ _ _ _ _ _ _ _ _ _ _ _ _ w h1 h2 h3
 by_cases h4:4<f
 ·have hf:(f == -1)=false:=by simp;omega
  have hb3:inB f 5=false:=by simp[inB];omega
  rw[show frW (⟨⟨b0,b1,b2,b3,b4,b5,b6,b7⟩,r,u,d,f,x⟩:Fr)=3 from by simp only[frW,hb1,hb2,hf,hb3];rfl]
  exact rw4 _ _ _ _ _ _ _ _ _ _ _ _ _ w h1 h2 h3 h4
 by_cases h7:r=0
 ·have hre:(r == 0)=true:=by simp[h7]
  cases hfr:ZK (⟨⟨b0,b1,b2,b3,b4,b5,b6,b7⟩,r,u,d,f,x⟩:Fr) frF with
  | true=>
   have hh:=zdZ hfr;simp only[frF,Fr.mk.injEq]at hh;have hf:(f == -1)=true:=by simp[hh.2.2.2.2.1]
   have hx:(x == 0)=true:=by simp[hh.2.2.2.2.2]
   rw[show frW (⟨⟨b0,b1,b2,b3,b4,b5,b6,b7⟩,r,u,d,f,x⟩:Fr)=0 from by simp only[frW,hb1,hb2,hf,hre,hfr,hx];rfl]
   exact zlV _ _ _ _ _ _ _ _ _ _ _ _ _ w h1 h2 h3 h4 h5 h6 hre hfr (by omega) (by omega)
  | false=>
   by_cases hf:f=-1
   ·have hfe:(f == -1)=true:=by simp[hf]
    rw[show frW (⟨⟨b0,b1,b2,b3,b4,b5,b6,b7⟩,r,u,d,f,x⟩:Fr)=7 from by simp only[frW,hb1,hb2,hfe,hre,hfr];rfl]
    by_cases h9:0<x
    ·cases u with
     | true=>exact zlS _ _ _ _ _ _ _ _ _ _ _ _ w h1 h2 h3 h4 h5 h6 hre hfr hfe h9
     | false=>
      cases d with
      | true=>exact zlR _ _ _ _ _ _ _ _ _ _ _ w h1 h2 h3 h4 h5 h6 hre hfr hfe h9
      | false=>
       cases hpp:zbX (⟨b0,b1,b2,b3,b4,b5,b6,b7⟩:Pg) pg0 with
       | true=>exact zlP _ _ _ _ _ _ _ _ _ _ _ w h1 h2 h3 h4 h5 h6 hre hfr hfe h9 (by omega) hpp
       | false=>exact zlQ _ _ _ _ _ _ _ _ _ _ _ w h1 h2 h3 h4 h5 h6 hre hfr hfe h9 hpp
    exact zlT _ _ _ _ _ _ _ _ _ _ _ _ _ w h1 h2 h3 h4 h5 h6 hre hfr hfe h9
   have hfe:(f == -1)=false:=by simp[hf]
   have hb3:inB f 5=true:=by simp[inB];omega
   rw[show frW (⟨⟨b0,b1,b2,b3,b4,b5,b6,b7⟩,r,u,d,f,x⟩:Fr)=7 from by simp only[frW,hb1,hb2,hfe,hb3,hre,hfr];rfl]
   exact zlU _ _ _ _ _ _ _ _ _ _ _ _ _ w h1 h2 h3 h4 h5 h6 hre hfr hfe
 have hre:(r == 0)=false:=by simp[h7]
 by_cases hf:f=-1
 ·have hfe:(f == -1)=true:=by simp[hf]
  by_cases h9:0<x
  ·have hx:(x == 0)=false:=by simp;omega
   rw[show frW (⟨⟨b0,b1,b2,b3,b4,b5,b6,b7⟩,r,u,d,f,x⟩:Fr)=7 from by simp only[frW,hb1,hb2,hfe,hre,hx];rfl]
   exact rw7 _ _ _ _ _ _ _ _ _ _ _ _ _ w h1 h2 h3 h4 h5 h6 hre (by omega) h9
  have hx:(x == 0)=true:=by simp;omega
  rw[show frW (⟨⟨b0,b1,b2,b3,b4,b5,b6,b7⟩,r,u,d,f,x⟩:Fr)=0 from by simp only[frW,hb1,hb2,hfe,hre,hx];rfl]
  exact rw8 _ _ _ _ _ _ _ _ _ _ _ _ _ w h1 h2 h3 h4 h5 h6 hre (by omega) h9
 have hfe:(f == -1)=false:=by simp[hf]
 have hb3:inB f 5=true:=by simp[inB];omega
 rw[show frW (⟨⟨b0,b1,b2,b3,b4,b5,b6,b7⟩,r,u,d,f,x⟩:Fr)=0 from by simp only[frW,hb1,hb2,hfe,hb3,hre];rfl]
 exact rw9 _ _ _ _ _ _ _ _ _ _ _ _ _ w h1 h2 h3 h4 h5 h6 hre (by omega)
theorem jd (a:Option Addr) (c:Nat) (fs:List Fr) (h:Int) (w:World) (hv:zR w (.slice a fs.length c) fs):
  Calls prog 156 #[.agg #[.slice a fs.length c,I6 h]] w fun e w'=>e= .returned (I6 (j1 fs h))/\zc w w':=by
 have hbig:=hv.short;obtain⟨a',c',heq,hrow⟩:=hv.frs;cases heq;have HR:Hid (Q3 w a fs):=hrow;clear hrow hv;have HM:Hid (j1 fs h=if 40<fs.length then 4 else if zap fs=0 then(if inB h (max fs.length 1)then 0 else 3)else zap fs):=rfl;obtain⟨n,HN⟩:∃n,Hid (fs.length=n):=⟨_,rfl⟩;rw[HN.out]at hbig HM⊢;obtain⟨W0,hW0⟩:∃W0,w.alloc (.cells #[.slice a n c,I6 h] 28)=W0:=⟨_,rfl⟩;have HG0:=gA hW0
 have X0:=xA hW0
 have HW0:Hid (_=W0):=hW0;clear hW0
 by_cases h40:40<n
 ·have h40z:(40:Int)< (n:Int):=by omega
  go_enter func156,ntmps156
  go_wp2;go_ret;exact⟨by rw[HM.out,if_pos h40];rfl,by rw[HW0.out];exact HG0⟩
 have h40z:¬(40:Int)< (n:Int):=by omega
 rw[if_neg h40]at HM
 go_enter func156,ntmps156
 go_wp2;rw[HW0.out]
 go_loopg [4,5,13] n (fun gg _ _ s13 wr=>∃kk:Nat,kk<=n/\n - kk<=gg/\s13=I6 kk/\Hid (zc W0 wr)/\Hid (zap (fs.drop kk)=zap fs))
 case atStart=>exact⟨0,nZ _,by omega,rfl,zc.refl _,rfl⟩
 obtain⟨kk,hkk,hg,rfl,BW,A⟩:=hrel
 by_cases hlt:kk<n
 ·have hltz:(kk:Int)< (n:Int):=by omega
  obtain⟨q,HQ⟩:∃q,Hid (fs[kk]? =some q):=⟨_,gE (by rw[HN.out];exact hlt)⟩
  obtain⟨ad,rfl,hl⟩:=HR.out kk q HQ.out;obtain⟨d0,d1,d2,d3,d4,d5,d6,d7,d8,d9,d10,d11,d12⟩:=hl wr (HG0.trans BW);have hcall:∀W,Calls prog 187 #[.agg #[U8 q.p.b0,U8 q.p.b1,U8 q.p.b2,U8 q.p.b3,U8 q.p.b4,U8 q.p.b5,U8 q.p.b6,U8 q.p.b7,I6 q.r,.bool q.u,.bool q.d,I6 q.f,I6 q.x]] W fun e w'=>e= .returned (I6 (frW q))/\zc W w':=fun W=>zcv q W
  have HST:Hid (zap (fs.drop kk)=if frW q=0 then zap (fs.drop (kk+1))else frW q):=dD<|by
   obtain⟨hlt',rfl⟩:=gS.1 HQ.out;rw[List.drop_eq_getElem_cons hlt'];rfl
  clear hl
  generalize frW q=z at hcall HST
  by_cases hz:z=0
  ·have HA:Hid (zap (fs.drop (kk+1))=zap fs):=dD<|by rw[<-A.out,HST.out,if_pos hz]
   subst hz
   go_wp2_with (go_at_call 187;refine(hcall _).mono ?_;rintro e w' ⟨rfl,hb'⟩)
   go_roundg (n -(kk+1))
   case measure=>omega
   exact⟨kk+1,by omega,by omega,by go_num,(BW.trans (za _ _)).trans hb',HA⟩
  have hzb:(z != 0)=true:=by simpa using hz
  have HF:Hid (j1 fs h=z):=dD<|by
   have h1:=A.out;rw[HST.out,if_neg hz]at h1;rw[HM.out,<-h1,if_neg hz]
  skip
  go_wp2_with (go_at_call 187;refine(hcall _).mono ?_;rintro e w' ⟨rfl,hb'⟩)
  go_ret;exact⟨by rw[HF.out];rfl,((HG0.trans BW).trans (za _ _)).trans hb'⟩
 have hltz:¬(kk:Int)< (n:Int):=by omega
 have:kk=n:=by omega
 subst this;have e0:=(X0.grew BW).c 0 rfl;have e1:=(X0.grew BW).c 1 rfl;have hz:zap fs=0:=by rw[<-A.out,List.drop_of_length_le (by rw[HN.out];exact nR _)];rfl
 have HM':Hid (j1 fs h=if inB h (max kk 1)then 0 else 3):=dD<|by rw[HM.out,if_pos hz]
 clear hz;have hbel:∀W,Calls prog 176 #[I6 h,I6 (max (kk:Int) 1)] W fun e w'=>e= .returned (.bool (inB h (max kk 1)))/\w'=W:=fun W=>qa h _ W
 generalize inB h (max kk 1)=bb at hbel HM'
 cases bb with
 | true=>
  have HF:Hid (j1 fs h=0):=dD<|by rw[HM'.out];rfl
  skip
  go_wp2_with (go_at_call 176;refine(hbel _).mono ?_;rintro e w' ⟨rfl,rfl⟩)
  go_ret;exact⟨by rw[HF.out];rfl,HG0.trans BW⟩
 | false=>
  have HF:Hid (j1 fs h=3):=dD<|by rw[HM'.out];rfl
  skip
  go_wp2_with (go_at_call 176;refine(hbel _).mono ?_;rintro e w' ⟨rfl,rfl⟩)
  go_ret;exact⟨by rw[HF.out];rfl,HG0.trans BW⟩
theorem zel (z:Int) (w:World):
  Calls prog 189 #[I6 z] w fun e w'=>e= .returned (.bool (zaj z))/\zc w w':=by
 by_cases h0:z<0
 ·have HF:Hid (zaj z=true):=dD<|by simp[zaj,h0]
  go_enter func189,ntmps189
  go_wp2;go_ret;exact⟨by rw[HF.out];rfl,zc.refl _⟩
 by_cases h1:1000<z
 ·have HF:Hid (zaj z=true):=dD<|by simp[zaj,h1]
  go_enter func189,ntmps189
  go_wp2;go_ret;exact⟨by rw[HF.out];rfl,zc.refl _⟩
 have HF:Hid (zaj z=false):=dD<|by simp[zaj];omega
 go_enter func189,ntmps189
 go_wp2;go_ret;exact⟨by rw[HF.out];rfl,zc.refl _⟩
theorem zkp {p:Int->Bool} {fs:List Int} {k:Nat} {q:Int} (h:fs[k]? =some q) (hq:p q=true):fs.any p=true:=List.any_eq_true.2 ⟨q,mG h,hq⟩
theorem zko {p:Int->Bool} {fs:List Int} (hb:∀(j:Nat) x,fs[j]? =some x->p x=false):fs.any p=false:=List.any_eq_false.2 fun x hx=>by
 obtain⟨j,hj⟩:=List.getElem?_of_mem hx;rw[hb j x hj]
 decide
theorem zeQ (v:Value) (fs:List Int) (w:World) (hv:zr slE w v fs):
  Calls prog 218 #[v,.func (.func 189) #[] #[]] w fun e w'=>(∃z:Int,e= .returned (I6 z)/\decide (0<=z)=fs.any zaj)/\zc w w':=by
 have hbig:=hv.short;obtain⟨a,c,rfl,hrow⟩:=hv.sls;have HR:Hid (zaT w a fs):=hrow;have eg:=enters_of func189 (by kernel_rfl) rfl
 clear hrow hv;obtain⟨n,HN⟩:∃n,Hid (fs.length=n):=⟨_,rfl⟩;rw[HN.out]at hbig⊢
 go_enter func218,ntmps218
 go_wp2
 go_loopg [5,8] n (fun gg _ s8 wr=>∃kk:Nat,kk<=n/\n - kk<=gg/\s8=I6 kk/\Hid (zc w wr)/\Hid (∀j q,j<kk->fs[j]? =some q->zaj q=false))
 case atStart=>exact⟨0,nZ _,by omega,rfl,zc.refl w,fun j q hj=>absurd hj (nL _)⟩
 obtain⟨kk,hkk,hg,rfl,BW,A⟩:=hrel
 by_cases hlt:kk<n
 ·have hltz:(kk:Int)< (n:Int):=by omega
  obtain⟨q,HQ⟩:∃q,Hid (fs[kk]? =some q):=⟨_,gE (by rw[HN.out];exact hlt)⟩
  obtain⟨ad,rfl,hl⟩:=HR.out kk q HQ.out;have d0:=hl wr BW.out;have hcall:Calls prog 189 #[I6 q] wr fun e w'=>e= .returned (.bool (zaj q))/\zc wr w':=zel q wr
  clear hl
  cases hq:zaj q with
  | true=>
   rw[hq]at hcall;have HF:Hid (decide (0<=(kk:Int))=fs.any zaj):=dD<|by rw[zkp HQ.out hq];simp
   clear hq
   go_wp2_with (go_at_call 189;refine hcall.mono ?_;rintro e w' ⟨rfl,hb'⟩)
   go_ret;exact⟨⟨_,rfl,HF⟩,BW.trans hb'⟩
  | false=>
   rw[hq]at hcall;have HA:Hid (∀(j:Nat) q,j<kk+1->fs[j]? =some q->zaj q=false):=dD<|fun j q' hj hq'=>by
    by_cases e:j=kk
    ·subst e;rw[HQ.out]at hq';cases hq';exact hq
    exact A j q' (by omega) hq'
   clear hq
   go_wp2_with (go_at_call 189;refine hcall.mono ?_;rintro e w' ⟨rfl,hb'⟩)
   go_roundg (n -(kk+1))
   case measure=>omega
   exact⟨kk+1,by omega,by omega,by go_num,BW.trans hb',HA⟩
 have hltz:¬(kk:Int)< (n:Int):=by omega
 have:kk=n:=by omega
 subst this;have HF:Hid (decide (0<=(-1:Int))=fs.any zaj):=dD<|by
  rw[zko (fun j q hj=>A.out j q (by rw[<-HN.out];exact(gS.1 hj).1) hj)]
  rfl
 go_wp2;go_ret;exact⟨⟨_,rfl,HF⟩,BW⟩
theorem zhA (v:Value) (fs:List Int) (w:World) (hv:zr slE w v fs):
  Calls prog 188 #[v,.func (.func 189) #[] #[]] w fun e w'=>e= .returned (.bool (fs.any zaj))/\zc w w':=by
 have h1:=zeQ v fs w hv;obtain⟨a,c,rfl,_⟩:=hv.sls;clear hv
 generalize fs.any zaj=bb at h1⊢
 go_enter func188,ntmps188
 go_wp2_with fail;refine h1.mono ?_;rintro e W1 ⟨⟨z,rfl,hz⟩,g1⟩;have G1:Hid (zc w W1):=g1;have HF:Hid (decide (0<=z)=bb):=hz;clear g1 hz h1;go_wp2;go_ret;exact⟨by rw[HF.out];rfl,G1⟩
theorem zcM (a:Option Addr) (c:Nat) (s:List Int) (w:World) (hv:zr slE w (.slice a s.length c) s):
  Calls prog 157 #[.slice a s.length c] w fun e w'=>e= .returned (I6 (slW s))/\zc w w':=by
 have h1:=zhA _ s w hv;have HM:Hid (slW s=if 60<s.length then 4 else if s.any zaj then 3 else 0):=rfl;have hbig:=hv.short;obtain⟨n,HN⟩:∃n,Hid (s.length=n):=⟨_,rfl⟩;rw[HN.out]at h1 HM hbig⊢;clear hv
 generalize s.any zaj=bb at h1 HM
 by_cases h60:60<n
 ·have h60z:(60:Int)< (n:Int):=by omega
  have HF:Hid (slW s=4):=dD<|by rw[HM.out,if_pos h60]
  clear h1
  go_enter func157,ntmps157
  go_wp2;go_ret;exact⟨by rw[HF.out];rfl,zc.refl _⟩
 have h60z:¬(60:Int)< (n:Int):=by omega
 rw[if_neg h60]at HM
 cases bb with
 | true=>
  have HF:Hid (slW s=3):=HM.out
  go_enter func157,ntmps157
  go_wp2_with fail;refine h1.mono ?_;rintro e W1 ⟨rfl,g1⟩;have G1:Hid (zc w W1):=g1;clear g1 h1;go_wp2;go_ret;exact⟨by rw[HF.out];rfl,G1⟩
 | false=>
  have HF:Hid (slW s=0):=HM.out
  go_enter func157,ntmps157
  go_wp2_with fail;refine h1.mono ?_;rintro e W1 ⟨rfl,g1⟩;have G1:Hid (zc w W1):=g1;clear g1 h1;go_wp2;go_ret;exact⟨by rw[HF.out];rfl,G1⟩
def qz (n:Nat) (g:List Int):List Value:=(List.range n).map fun(i:Nat)=> .bool (g.contains (i:Int))
theorem QM {n:Nat} (g:List Int) (hi:i<n):(qz n g)[i]? =some (.bool (g.contains (i:Int))):=by
 unfold qz;rw[List.getElem?_map,List.getElem?_range hi];rfl
theorem zeK {n:Nat} (g:List Int) (hi:i<n):(qz n g).set i (.bool true)=qz n ((i:Int) :: g):=by
 apply List.ext_getElem?
 intro j
 by_cases e:j=i
 ·subst e;rw[sF (by simp[qz,hi]),QM _ hi]
  simp
 rw[sN (fun h=>e h.symm)]
 rcases Nat.lt_or_ge j n with hj|hj
 ·rw[QM _ hj,QM _ hj];have:¬((j:Int)=(i:Int)):=by omega
  simp[this]
 rw[gN (by simp[qz,hj]),gN (by simp[qz,hj])]
theorem zb0:qz 80 []=List.replicate 80 (.bool false):=by
 unfold qz
 simp[List.map_const']
theorem zjO (b cnt:Int) (g:List Int) (pc pg:Nat) (w:World) (hc:Box w pc [I6 cnt]) (hg:Box w pg (qz 80 g)) (hn:cnt<=80):
  Calls prog 220 #[I6 b,.pointer (some ⟨pc,0,none⟩),.pointer (some ⟨pg,0,none⟩)] w fun e w'=>e= .returned (I6 (ZR cnt g b))/\(ZR cnt g b=0->Box w' pg (qz 80 (Ja g b)))/\w.grownBy w' (some pg)/\w'.heap.size=w.heap.size:=by
 have c0:=hc.c 0 rfl;have HG:Hid (Box w pg (qz 80 g)):=hg
 rcases QR cnt g b with⟨h1,h2,h3⟩|⟨h1,h2,h3⟩|⟨i,h1,h2,h3,h4⟩|⟨i,h1,h2,h3,h4,h5⟩
 ·rw[h2];have HP:Hid (Box w pg (qz 80 (Ja g b))):=dD<|by rw[h3];exact hg
  subst h1;clear hc hg h2 h3
  generalize Ja g (-1)=gg at HP⊢
  go_enter func220,ntmps220
  go_wp2;go_ret;exact⟨rfl,fun _=>HP.out,World.grownBy.rfl' _ _,rfl⟩
 ·rw[h3];have hb:=zd5 h2 w;have hb1:(b == -1)=false:=by simpa using h1
  clear hc hg h2 h3
  generalize Ja g b=gg
  go_enter func220,ntmps220
  go_wp2_with (go_at_call 174;refine hb.mono ?_;rintro e w' ⟨rfl,rfl⟩)
  go_ret;exact⟨rfl,fun h=>by omega,World.grownBy.rfl' _ _,rfl⟩
 ·rw[h4];subst h1;have hi:i<80:=by omega
  have hb:=zaQ (m:=(i:Int)) (n:=cnt) (by omega) h2 w
  have hb1:((i:Int) == -1)=false:=by simp
  have d0:=hg.c i (QM g hi);rw[h3]at d0
  generalize Ja g (i:Int)=gg
  clear hc hg h2 h3 h4
  go_enter func220,ntmps220
  go_wp2_with (go_at_call 174;refine hb.mono ?_;rintro e w' ⟨rfl,rfl⟩)
  go_ret;exact⟨rfl,fun h=>by omega,World.grownBy.rfl' _ _,rfl⟩
 rw[h4];subst h1;have hi:i<80:=by omega
 have hb:=zaQ (m:=(i:Int)) (n:=cnt) (by omega) h2 w
 have hb1:((i:Int) == -1)=false:=by simp
 have d0:=hg.c i (QM g hi);have f0:=hg.f;rw[h3]at d0;have HP:Hid (Box (w.setCell ⟨pg,i,none⟩ (.bool true)) pg (qz 80 (Ja g (i:Int)))):=dD<|by
  rw[h5,<-zeK g hi];exact hg.set i _
 generalize Ja g (i:Int)=gg at HP
 clear hc hg h2 h3 h4 h5
 go_enter func220,ntmps220
 go_wp2_with (go_at_call 174;refine hb.mono ?_;rintro e w' ⟨rfl,rfl⟩)
 go_ret;exact⟨rfl,fun _=>HP.out,⟨rfl,rfl,rfl,by simp[World.setCell],fun k hk hne=>Below.heap_setCell _ _ _ _ (fun e=>hne (by rw[e]))⟩,by simp[World.setCell]⟩
def zeb:Array Value:=(List.replicate 80 (.bool false)).toArray
theorem zfr:(Tryz.prog.info? 223).map (fun i=>i.zero)=some (some (.agg zeb)):=by kernel_rfl
theorem zaW (w:World):(zeroValue 223).run prog w= .ok (.agg zeb) w:=by
 have h:=zfr
 cases hq:Tryz.prog.info? 223 with
 | none=>simp[hq]at h
 | some i=>
  simp[hq]at h
  simp[zeroValue,typeInfo,hq,h]
theorem zil (cnt:Int) (w:World):
  Calls prog 193 #[I6 cnt] w fun e w'=>e= .returned (.func (.func 220) #[] #[.pointer (some ⟨w.heap.size,0,none⟩),.pointer (some ⟨w.heap.size+1,0,none⟩)])/\Box w' w.heap.size [I6 cnt]/\Box w' (w.heap.size+1) (qz 80 [])/\zc w w'/\w'.heap.size=w.heap.size+2:=by
 have hmf:∀(fn:Fn) (first cap:Array Value) (w:World),(Instr.makeFunc fn first cap).run prog w= .ok (.func fn first cap) w:=fun _ _ _ _=>rfl
 have hz:=zaW;rw[zb0]
 go_enter func193,ntmps193
 go_wp2;go_ret;exact⟨rfl,(Box.top w _ _ rfl).alloc _,Box.top _ (List.replicate 80 (.bool false)) _ (by simp),(za _ _).trans (za _ _),by simp⟩
theorem zbG (g l:List Int) (b:Int):blG g (l++ [b])=Ja (blG g l) b:=by
 unfold blG;rw[List.foldl_append];rfl
theorem zdj (f:Fl) (xa:Option Addr) (xc:Nat) (cnt:Int) (g:List Int) (pc pg:Nat) (w:World) (hc:Box w pc [I6 cnt]) (hg:Box w pg (qz 80 g)) (hne:pc≠pg) (hn:cnt<=80) (hr:zfo blE pg (pg+1) w (.slice xa f.bl.length xc) f.bl):
  Calls prog 194 #[.agg #[I6 f.size,.slice xa f.bl.length xc],.func (.func 220) #[] #[.pointer (some ⟨pc,0,none⟩),.pointer (some ⟨pg,0,none⟩)]] w fun e w'=>e= .returned (I6 (flW cnt g f))/\(flW cnt g f=0->Box w' pg (qz 80 (blG g f.bl)))/\Out pg (pg+1) w w':=by
 obtain⟨sz,bl⟩:=f;have HD:Hid (flW cnt g ⟨sz,bl⟩=if 0<=sz/\sz<=96 then(if(bl.length:Int)=Jx sz then blW cnt g bl else 2)else 3):=rfl;have HC:Hid (Box w pc [I6 cnt]):=hc;have HG:Hid (Box w pg (qz 80 g)):=hg;have HR:Hid (zfo blE pg (pg+1) w (.slice xa bl.length xc) bl):=hr;have HNE:Hid (pc≠pg):=hne;have hbig:=(hr.now).short;clear hc hg hr hne;simp only at hbig
 show Calls _ _ #[.agg #[I6 sz,.slice xa bl.length xc],_] _ _
 generalize flW cnt g ⟨sz,bl⟩=Z at HD⊢
 simp only
 by_cases h1:0<=sz/\sz<=96
 ·rw[if_pos h1]at HD;obtain⟨h10,h11⟩:=h1;have hb:=fun W=>zaQ (m:=sz) (n:=97) h10 (by omega) W
  have hcn:=fun W=>ziO sz W h10 h11
  by_cases h2:(bl.length:Int)=Jx sz
  ·rw[if_pos h2]at HD;rw[<-h2]at hcn;clear h10 h11 h2;obtain⟨n,HN⟩:∃n,Hid (bl.length=n):=⟨_,rfl⟩;rw[HN.out]at hbig hcn HR⊢;obtain⟨W0,hW0⟩:∃W0,w.alloc (.cells #[I6 sz,.slice xa n xc] 88)=W0:=⟨_,rfl⟩;have HW0:Hid (_=W0):=hW0;have HG0:=gA hW0
   clear hW0;have eg:=enters_of func220 (by kernel_rfl) rfl
   have hnn:((n:Int) !=(n:Int))=false:=by simp
   go_enter func194,ntmps194
   go_wp2_with (go_at_call 174;refine(hb _).mono ?_;rintro e w' ⟨rfl,rfl⟩)
   go_quiet (first | (go_at_call 221;exact Calls.quiet_of_same (hcn _)))
   rw[HW0.out];obtain⟨W1,hW1⟩:∃W1,W0.drewN nq=W1:=⟨_,rfl⟩;have X1:Hid (Box W1 w.heap.size [I6 sz,.slice xa n xc]):=dD<|by rw[<-hW1,<-HW0.out];exact(Box.top w _ _ rfl).grew (show Below _ _ _ from bD (bR _ _) _)
   have O1:Hid (Out pg (pg+1) w W1):=dD<|by rw[<-hW1];exact(Out.grew HG0).trans (Out.grew (show Below _ _ _ from bD (bR _ _) _))
   have C1:Hid (Box W1 pc [I6 cnt]):=dD<|HC.out.out O1 (by have:=HNE.out;omega)
   have G1:Hid (Box W1 pg (qz 80 g)):=dD<|by rw[<-hW1];exact(HG.grew HG0).grew (show Below _ _ _ from bD (bR _ _) _)
   rw[hW1];clear hW1 hcn hb;have x0:=X1.c 0 rfl;have x1:=X1.c 1 rfl;go_wp2
   go_loopg [6,7,22] n (fun gg _ _ s22 wr=>∃kk:Nat,kk<=n/\n - kk<=gg/\s22=I6 kk/\Hid (Out pg (pg+1) w wr)/\Hid (Box wr pg (qz 80 (blG g (bl.take kk))))/\Hid (blW cnt (blG g (bl.take kk)) (bl.drop kk)=blW cnt g bl)/\Hid (Box wr pc [I6 cnt]))
   case atStart=>exact⟨0,nZ _,by omega,rfl,O1,G1,rfl,C1⟩
   obtain⟨kk,hkk,hgg,rfl,OW,GW,AW,CW⟩:=hrel;clear x0 x1
   by_cases hlt:kk<n
   ·have hltz:(kk:Int)< (n:Int):=by omega
    obtain⟨q,HQ⟩:∃q,Hid (bl[kk]? =some q):=⟨_,gE (by rw[HN.out];exact hlt)⟩
    obtain⟨a',c',heq,hrow⟩:=(HR wr OW).nums;rw[HN.out]at heq;cases heq;obtain⟨ad,rfl,hl⟩:=hrow kk q HQ.out;have d0:=hl wr (zc.refl _);have hcall:=zjO q cnt (blG g (bl.take kk)) pc pg wr CW GW hn;have HST:Hid (blW cnt (blG g (bl.take kk)) (bl.drop kk)=if ZR cnt (blG g (bl.take kk)) q=0 then blW cnt (blG g (bl.take (kk+1))) (bl.drop (kk+1))else ZR cnt (blG g (bl.take kk)) q):=dD<|by
     rw[qP HQ.out,qi HQ.out,zbG];rfl
    rw[<-zbG,<-qi HQ.out]at hcall;clear hl hrow
    generalize ZR cnt (blG g (bl.take kk)) q=z at hcall HST
    by_cases hz:z=0
    ·have HA:Hid (blW cnt (blG g (bl.take (kk+1))) (bl.drop (kk+1))=blW cnt g bl):=dD<|by rw[<-AW.out,HST.out,if_pos hz]
     subst hz;go_wp2_with fail;refine hcall.mono ?_;rintro e W2 ⟨rfl,k1,k2,k3⟩;have G2:Hid (Box W2 pg (qz 80 (blG g (bl.take (kk+1))))):=k1 (by first | exact rfl | exact trivial)
     have O2:Hid (Out pg (pg+1) w W2):=OW.trans (Out.grown k2 (fun g hg=>by cases hg;omega))
     have C2:Hid (Box W2 pc [I6 cnt]):=CW.grown k2 HNE.out;clear k1 k2 k3 hcall;go_wp2
     go_roundg (n -(kk+1))
     case measure=>omega
     exact⟨kk+1,by omega,by omega,by go_num,O2,G2,HA,C2⟩
    have hzb:(z != 0)=true:=by simpa using hz
    have HF:Hid (Z=z):=dD<|by
     have h1:=AW.out;rw[HST.out,if_neg hz]at h1;rw[HD.out,<-h1]
    go_wp2_with fail;refine hcall.mono ?_;rintro e W2 ⟨rfl,k1,k2,k3⟩;have O2:Hid (Out pg (pg+1) w W2):=OW.trans (Out.grown k2 (fun g hg=>by cases hg;omega))
    clear k1 k2 k3 hcall;go_wp2;go_ret;exact⟨by rw[HF.out];rfl,fun h=>absurd (HF.symm.trans h) hz,O2⟩
   have hltz:¬(kk:Int)< (n:Int):=by omega
   have:kk=n:=by omega
   subst this;have HF:Hid (Z=0):=dD<|by
    rw[HD.out,<-AW.out,List.drop_of_length_le (by rw[HN.out];exact nR _)]
    rfl
   have GE:Hid (Box wr pg (qz 80 (blG g bl))):=dD<|by
    have:=GW.out;rw[List.take_of_length_le (by rw[HN.out];exact nR _)]at this
    exact this
   go_wp2;go_ret;exact⟨by rw[HF.out];rfl,fun _=>GE.out,OW⟩
  rw[if_neg h2]at HD;have hnn:((bl.length:Int) != Jx sz)=true:=by simpa using h2
  clear h2 h10 h11
  generalize Jx sz=cp at*
  obtain⟨n,HN⟩:∃n,Hid (bl.length=n):=⟨_,rfl⟩;rw[HN.out]at hbig hnn HR⊢
  go_enter func194,ntmps194
  go_wp2_with (go_at_call 174;refine(hb _).mono ?_;rintro e w' ⟨rfl,rfl⟩)
  go_quiet (first | (go_at_call 221;exact Calls.quiet_of_same (hcn _)))
  go_wp2;go_ret;exact⟨by rw[HD.out];rfl,fun h=>(by rw[HD.out]at h;cases h),(Out.grew (za _ _)).trans (Out.grew (show Below _ _ _ from bD (bR _ _) _))⟩
 rw[if_neg h1]at HD;have hb:=fun W=>zd5 (m:=sz) (n:=97) (by omega) W
 clear h1;obtain⟨n,HN⟩:∃n,Hid (bl.length=n):=⟨_,rfl⟩;rw[HN.out]at hbig HR⊢
 go_enter func194,ntmps194
 go_wp2_with (go_at_call 174;refine(hb _).mono ?_;rintro e w' ⟨rfl,rfl⟩)
 go_ret;exact⟨by rw[HD.out];rfl,fun h=>(by rw[HD.out]at h;cases h),Out.grew (za _ _)⟩
def zbh (g:List Int) (fs:List Fl):List Int:=fs.foldl (fun g f=>blG g f.bl) g
theorem zaN (g:List Int) (fs:List Fl) (f:Fl):zbh g (fs++ [f])=blG (zbh g fs) f.bl:=by
 unfold zbh;rw[List.foldl_append];rfl
theorem JH {l:List Fl} {k:Nat} {q:Fl} (h:l[k]? =some q):l.take (k+1)=l.take k++ [q]:=by
 rw[List.take_add_one,h];rfl
theorem zfs (v:Value) (fs:List Fl) (cnt:Int) (w:World) (hv:qW w v fs):
  Calls prog 159 #[.agg #[v,I6 cnt]] w fun e w'=>e= .returned (I6 (stW fs cnt))/\zc w w':=by
 obtain⟨a,c,rfl,hbig,hrow⟩:=hv.rows;have HR:Hid (Qh w a fs):=hrow;have HD:Hid (stW fs cnt=if fs.length<=5/\0<=cnt/\cnt<=80 then zbD cnt [] fs else 4):=rfl;clear hrow hv
 generalize stW fs cnt=Z at HD⊢
 obtain⟨n,HN⟩:∃n,Hid (fs.length=n):=⟨_,rfl⟩;rw[HN.out]at hbig HD⊢;obtain⟨W0,hW0⟩:∃W0,w.alloc (.cells #[.slice a n c,I6 cnt] 37)=W0:=⟨_,rfl⟩;have HG0:=gA hW0
 have X0:=xA hW0
 have HS0:=sA hW0
 have HW0:Hid (_=W0):=hW0;clear hW0
 by_cases h5:n<=5
 ·have h5z:¬(5:Int)< (n:Int):=by omega
  have h5d:decide ((5:Int)< (n:Int))=false:=decide_eq_false h5z
  by_cases hc:0<=cnt/\cnt<=80
  ·rw[if_pos ⟨h5,hc⟩]at HD;have hb:=fun W=>zaQ (m:=cnt) (n:=81) hc.1 (by omega) W
   have hc80:cnt<=80:=hc.2;clear hc
   go_enter func159,ntmps159
   go_wp2_with (go_at_call 174;refine(hb _).mono ?_;rintro e w' ⟨rfl,rfl⟩)
   rw[HW0.out];refine(zil cnt W0).mono ?_;rintro e W1 ⟨rfl,k1,k2,k3,k4⟩;obtain⟨pc,hpc⟩:∃pc,W0.heap.size=pc:=⟨_,rfl⟩;rw[hpc]at k1 k2 k4 HS0⊢;have HPC:Hid (pc=w.heap.size+1):=HS0;have C1:Hid (Box W1 pc [I6 cnt]):=k1;have G1:Hid (Box W1 (pc+1) (qz 80 [])):=k2;have GR1:=dD (HG0.trans k3);have X1:=dD (X0.grew k3);clear hpc k1 k2 k3 k4 hb;have x0:=X1.c 0 rfl;have x1:=X1.c 1 rfl;go_wp2
   go_loopg [5,6,23] n (fun gg _ _ s23 wr=>∃kk:Nat,kk<=n/\n - kk<=gg/\s23=I6 kk/\Hid (zc w wr)/\Hid (Box wr pc [I6 cnt])/\Hid (Box wr (pc+1) (qz 80 (zbh [] (fs.take kk))))/\Hid (zbD cnt (zbh [] (fs.take kk)) (fs.drop kk)=zbD cnt [] fs))
   case atStart=>exact⟨0,nZ _,by omega,rfl,GR1,C1,G1,rfl⟩
   obtain⟨kk,hkk,hgg,rfl,BW,CW,GW,AW⟩:=hrel;clear x0 x1
   by_cases hlt:kk<n
   ·have hltz:(kk:Int)< (n:Int):=by omega
    obtain⟨q,HQ⟩:∃q,Hid (fs[kk]? =some q):=⟨_,gE (by rw[HN.out];exact hlt)⟩
    obtain⟨ad,rfl,xa,xc,hra,hl⟩:=HR.out kk q HQ.out;obtain⟨d0,d1⟩:=hl wr BW.out;obtain⟨W2,hW2⟩:∃W2,wr.alloc (.cells #[I6 q.size,.slice xa q.bl.length xc] 88)=W2:=⟨_,rfl⟩;have GA:=gA hW2
    have hcall:=zdj q xa xc cnt (zbh [] (fs.take kk)) pc (pc+1) W2 (CW.grew GA) (GW.grew GA) (by omega) hc80 (hra.stays (pc+2) (by have:=HPC.out;omega) (BW.trans GA))
    have C2:=dD (CW.grew GA);have B2:=dD (BW.trans GA);have HW2:Hid (_=W2):=hW2;have HST:Hid (zbD cnt (zbh [] (fs.take kk)) (fs.drop kk)=if flW cnt (zbh [] (fs.take kk)) q=0 then zbD cnt (zbh [] (fs.take (kk+1))) (fs.drop (kk+1))else flW cnt (zbh [] (fs.take kk)) q):=show _=_ by
     rw[qP HQ.out,JH HQ.out,zaN];rfl
    rw[<-zaN,<-JH HQ.out]at hcall;clear hl hW2 hra
    generalize flW cnt (zbh [] (fs.take kk)) q=z at hcall HST
    have hql:=q.bl.length
    by_cases hz:z=0
    ·have HA:Hid (zbD cnt (zbh [] (fs.take (kk+1))) (fs.drop (kk+1))=zbD cnt [] fs):=dD<|by rw[<-AW.out,HST.out,if_pos hz]
     subst hz;go_wp2_with fail;rw[HW2.out];refine hcall.mono ?_;rintro e W3 ⟨rfl,k1,k2⟩;have G3:Hid (Box W3 (pc+1) (qz 80 (zbh [] (fs.take (kk+1))))):=k1 (by first | exact rfl | exact trivial)
     have B3:Hid (zc w W3):=dD<|Out.grew_of B2 (by have:=HPC.out;omega) k2
     have C3:Hid (Box W3 pc [I6 cnt]):=C2.out.out k2 (by omega)
     clear k1 k2 hcall;go_wp2
     go_roundg (n -(kk+1))
     case measure=>omega
     exact⟨kk+1,by omega,by omega,by go_num,B3,C3,G3,HA⟩
    have hzb:(z != 0)=true:=by simpa using hz
    have HF:Hid (Z=z):=dD<|by
     have h1:=AW.out;rw[HST.out,if_neg hz]at h1;rw[HD.out,<-h1]
    go_wp2_with fail;rw[HW2.out];refine hcall.mono ?_;rintro e W3 ⟨rfl,k1,k2⟩;have B3:Hid (zc w W3):=dD<|Out.grew_of B2 (by have:=HPC.out;omega) k2
    clear k1 k2 hcall;go_wp2;go_ret;exact⟨by rw[HF.out];rfl,B3⟩
   have hltz:¬(kk:Int)< (n:Int):=by omega
   have:kk=n:=by omega
   subst this;have HF:Hid (Z=0):=dD<|by
    rw[HD.out,<-AW.out,List.drop_of_length_le (by rw[HN.out];exact nR _)]
    rfl
   go_wp2;go_ret;exact⟨by rw[HF.out];rfl,BW⟩
  rw[if_neg (fun h=>hc h.2)]at HD
  have hb:=fun W=>zd5 (m:=cnt) (n:=81) (by omega) W
  clear hc
  go_enter func159,ntmps159
  go_wp2_with (go_at_call 174;refine(hb _).mono ?_;rintro e w' ⟨rfl,rfl⟩)
  rw[HW0.out];go_ret;exact⟨by rw[HD.out];rfl,HG0⟩
 rw[if_neg (fun h=>h5 h.1)]at HD
 have h5z:(5:Int)< (n:Int):=by omega
 go_enter func159,ntmps159
 go_wp2;rw[HW0.out];go_ret;exact⟨by rw[HD.out];rfl,HG0⟩
theorem zfS (f:Fr) (a:Ar) (n:Nat) (w:World) (h1:0<=a.base/\a.base<=100) (h2:0<=a.fr/\a.fr<=100) (h3:n<=64):
  Calls prog 196 #[.agg (frv f).toArray,.agg #[I6 a.fr,I6 a.tz,.bool a.rd,.bool a.wr,.bool a.sh,I6 a.file,I6 a.base],I6 (n:Int)] w fun e w'=>e= .returned (.bool (Zs f a n))/\zc w w':=by
 have HIX:Hid (∀W,Calls prog 146 #[.agg #[I6 a.fr,I6 a.tz,.bool a.rd,.bool a.wr,.bool a.sh,I6 a.file,I6 a.base],I6 (n:Int)] W fun e w'=>e= .returned (I6 (a.base+n - a.fr))/\zc W w'):=dD<|fun W=>zfV a n W h1 h2 (by omega)
 clear h1 h2 h3;obtain⟨⟨b0,b1,b2,b3,b4,b5,b6,b7⟩,r,u,d,ff,x⟩:=f;obtain⟨fr,tz,rd,wr,sh,file,base⟩:=a;unfold frv Zs;simp only
 by_cases h:ff<0
 ·rw[if_pos h]
  go_enter func196,ntmps196
  go_wp2;go_ret;exact⟨rfl,(za _ _).trans (za _ _)⟩
 rw[if_neg h];obtain⟨W0,hW0⟩:∃W0,(w.alloc (.cells #[U8 b0,U8 b1,U8 b2,U8 b3,U8 b4,U8 b5,U8 b6,U8 b7,I6 r,.bool u,.bool d,I6 ff,I6 x] 69)).alloc (.cells #[I6 fr,.int .i64 tz,.bool rd,.bool wr,.bool sh,I6 file,I6 base] 114)=W0:=⟨_,rfl⟩;have HG0:=gD2 hW0
 have X0:=x2a hW0
 have Y0:=x2b hW0
 have HW0:Hid (_=W0):=hW0;clear hW0
 by_cases he:ff=file
 ·have he1:(ff == file)=true:=by simp[he]
  rw[he1,Bool.true_and];clear he;obtain⟨D,HD⟩:∃D,Hid ((x == base+(n:Int) - fr)=D):=⟨_,rfl⟩;rw[HD.out]
  go_enter func196,ntmps196
  go_upto_region 3 with fail;rw[HW0.out];have hx11:=X0.gw 11 rfl
  have hx12:=X0.gw 12 rfl
  have hy0:=Y0.gw 0 rfl
  have hy1:=Y0.gw 1 rfl
  have hy2:=Y0.gw 2 rfl
  have hy3:=Y0.gw 3 rfl
  have hy4:=Y0.gw 4 rfl
  have hy5:=Y0.gw 5 rfl
  have hy6:=Y0.gw 6 rfl
  have hne:Nonempty (zh W0):=⟨⟨_,zc.refl _⟩⟩;refine j4 [(10,⟨fun v=>v=I6 (base+(n:Int) - fr),fun v w'=>True⟩)] qh (by kernel_rfl) ?hS ?hp ?_
  case hS=>
   intro x hx;simp only[mC,nM,or_false]at hx;subst hx;exact⟨_,rfl⟩
  case hp=>
   intro x hx;simp only[mC,nM,or_false]at hx;subst hx;exact fun _ _ _ _ h=>h
  iterate 10 (refine zi rfl rfl rfl (fun K hK=>?_);go_big_quiet_op;refine hK _ ?_;clear hK)
  refine zK rfl rfl (fun w' hg hF=>?_) (fun v1 hv=>?_)
  ·refine zN.call [.agg #[I6 fr,.int .i64 tz,.bool rd,.bool wr,.bool sh,I6 file,I6 base],I6 (n:Int)] rfl func146 rfl rfl rfl ?_;refine(HIX w').mono ?_;rintro e w'' ⟨rfl,hg2⟩;exact⟨_,rfl,hg2,rfl,trivial⟩
  subst hv;simp only[Act.put,sB,sS,sZ];iterate 3 (refine zi rfl rfl rfl (fun K hK=>?_);go_big_quiet_op;refine hK _ ?_;clear hK)
  refine qF fun W3 hg1 hF=>?_
  have G3:=dD (HG0.trans hg1);clear hg1 hF hx11 hx12 hy0 hy1 hy2 hy3 hy4 hy5 hy6 hne;go_wp2;go_ret;exact⟨by rw[<-HD.out];rfl,G3⟩
 have he1:(ff == file)=false:=by simp[he]
 rw[he1,Bool.false_and];clear he
 go_enter func196,ntmps196
 go_upto_region 3 with fail;rw[HW0.out];have hx11:W0.cell? ⟨w.heap.size,11,none⟩=some (I6 ff):=X0.c 11 rfl;have hx12:W0.cell? ⟨w.heap.size,12,none⟩=some (I6 x):=X0.c 12 rfl;have hy0:W0.cell? ⟨w.heap.size+1,0,none⟩=some (I6 fr):=Y0.c 0 rfl;have hy1:W0.cell? ⟨w.heap.size+1,1,none⟩=some (.int .i64 tz):=Y0.c 1 rfl;have hy2:W0.cell? ⟨w.heap.size+1,2,none⟩=some (.bool rd):=Y0.c 2 rfl;have hy3:W0.cell? ⟨w.heap.size+1,3,none⟩=some (.bool wr):=Y0.c 3 rfl;have hy4:W0.cell? ⟨w.heap.size+1,4,none⟩=some (.bool sh):=Y0.c 4 rfl;have hy5:W0.cell? ⟨w.heap.size+1,5,none⟩=some (I6 file):=Y0.c 5 rfl;have hy6:W0.cell? ⟨w.heap.size+1,6,none⟩=some (I6 base):=Y0.c 6 rfl;go_quiet (fail);go_wp2;go_ret;exact⟨rfl,HG0.trans (show Below _ _ _ from bD (bR _ _) _)⟩
def zle (fl:List Fl) (file idx:Int):Bool:=bel file fl.length && bel idx ((fl.getD file.toNat ⟨0,[]⟩).bl.length:Nat)
theorem zfZ (v:Value) (fl:List Fl) (cnt file idx:Int) (w:World) (hv:qW w v fl):
  Calls prog 147 #[.agg #[v,I6 cnt],I6 file,I6 idx] w fun e w'=>e= .returned (.bool (zle fl file idx))/\zc w w':=by
 obtain⟨a,c,rfl,hbig,hrow⟩:=hv.rows;have HR:Hid (Qh w a fl):=hrow;clear hrow hv;obtain⟨n,HN⟩:∃n,Hid (fl.length=n):=⟨_,rfl⟩;unfold zle;rw[HN.out]at hbig⊢;have hb:=za7 file n
 cases h:bel file n with
 | false=>
  rw[h]at hb;rw[Bool.false_and]
  go_enter func147,ntmps147
  go_wp2_with (go_at_call 101;refine(hb _).mono ?_;rintro e w' ⟨rfl,rfl⟩)
  go_ret;exact⟨rfl,za _ _⟩
 | true=>
  rw[h]at hb;rw[Bool.true_and];obtain⟨h0,h1⟩:=za8.1 h;obtain⟨k,rfl⟩:∃k:Nat,file=(k:Int):=⟨file.toNat,by omega⟩
  obtain⟨f,HF⟩:∃f,Hid (fl[k]? =some f):=⟨_,gE (by rw[HN.out];omega)⟩
  have hg:(fl.getD ((k:Nat):Int).toNat ⟨0,[]⟩)=f:=by rw[tN,gD,HF.out];rfl
  rw[hg];clear hg;obtain⟨ad,rfl,xa,xc,_,hl⟩:=HR.out k f HF.out;obtain⟨d0,d1⟩:=hl (w.alloc (.cells #[.slice (some ad) n c,I6 cnt] 37)) (za _ _);obtain⟨q,HQ⟩:∃q,Hid (f.bl.length=q):=⟨_,rfl⟩;rw[HQ.out]at d1⊢;have hb2:=za7 idx q;clear hl
  go_enter func147,ntmps147
  go_wp2_with (go_at_call 101;first | (refine(hb _).mono ?_;clear hb;rintro e w' ⟨rfl,rfl⟩) | (refine(hb2 _).mono ?_;rintro e w' ⟨rfl,rfl⟩))
  go_ret;exact⟨rfl,za _ _⟩
theorem zbL (V:MaV) (m:Ma) (a:Ar) (n:Nat) (e:En) (w:World) (hm:zF w V m) (ha:ju a) (hn:n<=64) (he:0<=e.n):
  Calls prog 164 #[.agg (mL V m).toArray,.agg #[I6 a.fr,I6 a.tz,.bool a.rd,.bool a.wr,.bool a.sh,I6 a.file,I6 a.base],I6 (n:Int),.agg #[I6 e.kind,I6 e.n,.bool e.wr]] w fun e' w'=>e'= .returned (I6 (JS m a n e))/\zc w w':=by
 obtain⟨n1,n2,-⟩:=hm.ns;have hab:(0<=a.base/\a.base<=100)/\(0<=a.fr/\a.fr<=100):=by
  obtain⟨g1,g2,g3,g4,g5,g6,g7,g8⟩:=ha
  by_cases hf:a.file<0
  ·have:=g7 hf;omega
  have:=g8 (by omega);omega
 have HMH:Hid (∀(q:Fr) W,Calls prog 196 #[.agg (frv q).toArray,.agg #[I6 a.fr,I6 a.tz,.bool a.rd,.bool a.wr,.bool a.sh,I6 a.file,I6 a.base],I6 (n:Int)] W fun e w'=>e= .returned (.bool (Zs q a n))/\zc W w'):=dD<|fun q W=>zfS q a n W hab.1 hab.2 hn
 have HMW:Hid (∀(q:Fr) W,Calls prog 197 #[.agg (frv q).toArray,.agg #[I6 a.fr,I6 a.tz,.bool a.rd,.bool a.wr,.bool a.sh,I6 a.file,I6 a.base]] W fun e w'=>e= .returned (.bool (ZE q a))/\zc W w'):=dD<|fun q W=>zeJ q a W
 have HS:Hid (m.sl.length=V.s.n):=n2.symm;have HF:Hid (m.fs.length=V.f.n):=n1.symm;have HR:Hid (Q3 w V.f.a m.fs):=hm.frs;have HZ:Hid (JS m a n e=if e.kind=2 then(if(V.s.n:Int)<=e.n\/a.sh=true then 7 else 0)else if(V.f.n:Int)<=e.n then 3 else if Zs (zY m e.n) a n=false\/(e.wr=true/\ZE (zY m e.n) a=false)then 7 else 0):=show _=_ by
  unfold JS;rw[n1,n2]
 rw[HZ.out];clear hm ha hab n1 n2 hn;have hG3:zc w (((w.alloc (.cells (mL V m).toArray 41)).alloc (.cells #[I6 a.fr,I6 a.tz,.bool a.rd,.bool a.wr,.bool a.sh,I6 a.file,I6 a.base] 114)).alloc (.cells #[I6 e.kind,I6 e.n,.bool e.wr] 74)):=((za _ _).trans (za _ _)).trans (za _ _);have HG3:Hid (zc w (((w.alloc (.cells (mL V m).toArray 41)).alloc (.cells #[I6 a.fr,I6 a.tz,.bool a.rd,.bool a.wr,.bool a.sh,I6 a.file,I6 a.base] 114)).alloc (.cells #[I6 e.kind,I6 e.n,.bool e.wr] 74))):=hG3;clear hG3
 by_cases hk:e.kind=2
 ·have hke:(e.kind == 2)=true:=by simp[hk]
  rw[if_pos hk];clear hk
  by_cases h1:(V.s.n:Int)<=e.n
  ·rw[if_pos (.inl h1)]
   go_enter func164,ntmps164
   go_wp2;go_ret;exact⟨rfl,HG3⟩
  cases hs:a.sh with
  | true=>
   rw[if_pos (.inr rfl)];rw[hs]at HG3 HMH HMW
   go_enter func164,ntmps164
   go_wp2;go_ret;exact⟨rfl,HG3⟩
  | false=>
   rw[if_neg (by simp[h1])]
   rw[hs]at HG3 HMH HMW
   go_enter func164,ntmps164
   go_wp2;go_ret;exact⟨rfl,HG3⟩
 have hke:(e.kind == 2)=false:=by simp[hk]
 rw[if_neg hk];clear hk
 by_cases h1:(V.f.n:Int)<=e.n
 ·rw[if_pos h1]
  go_enter func164,ntmps164
  go_wp2;go_ret;exact⟨rfl,HG3⟩
 rw[if_neg h1];obtain⟨ek,en,ew⟩:=e;simp only at he hke h1 HZ HG3⊢;obtain⟨k,rfl⟩:∃k:Nat,en=(k:Int):=⟨en.toNat,by omega⟩
 have hkn:k<V.f.n:=by omega
 obtain⟨q,HQ⟩:∃q,Hid (m.fs[k]? =some q):=⟨_,gE (by rw[HF.out];exact hkn)⟩
 have hfr:zY m (k:Int)=q:=by unfold zY;rw[tN,gD,HQ.out];rfl
 rw[hfr];clear hfr;obtain⟨ad,hva,hl⟩:=HR.out k q HQ.out;(try simp only[mL,Sli.x]at HG3 HR⊢);rw[hva]at HG3 HR⊢;clear hva;obtain⟨W3,hW3⟩:∃W3,((w.alloc (.cells #[.slice (some ad) V.f.n V.f.c,I6 m.hand,V.s.x,V.sb.x,V.sq.x,V.db.x,V.dq.x,V.fl.x,I6 m.cnt,V.ca.x,V.sp.x] 41)).alloc (.cells #[I6 a.fr,I6 a.tz,.bool a.rd,.bool a.wr,.bool a.sh,I6 a.file,I6 a.base] 114)).alloc (.cells #[I6 ek,I6 (k:Int),.bool ew] 74)=W3:=⟨_,rfl⟩;rw[hW3]at HG3;have Y3:Hid (Box W3 (w.heap.size+1) [I6 a.fr,I6 a.tz,.bool a.rd,.bool a.wr,.bool a.sh,I6 a.file,I6 a.base]):=dD<|by rw[<-hW3];exact(Box.top _ _ _ (by simp)).alloc _
 have Z3:Hid (Box W3 (w.heap.size+1+1) [I6 ek,I6 (k:Int),.bool ew]):=dD<|by rw[<-hW3];exact Box.top _ _ _ (by simp)
 have X3:Hid (Box W3 w.heap.size [.slice (some ad) V.f.n V.f.c,I6 m.hand,V.s.x,V.sb.x,V.sq.x,V.db.x,V.dq.x,V.fl.x,I6 m.cnt,V.ca.x,V.sp.x]):=dD<|by rw[<-hW3];exact((Box.top _ _ _ rfl).alloc _).alloc _
 have x0:=X3.c 0 rfl;have z1:=Z3.c 1 rfl;have HS3:Hid (W3.heap.size=w.heap.size+1+1+1):=dD<|by rw[<-hW3];simp
 obtain⟨d0,d1,d2,d3,d4,d5,d6,d7,d8,d9,d10,d11,d12⟩:=hl W3 HG3.out;have HW3:Hid (_=W3):=hW3;have HP:Hid (Zs q a n=Zs q a n):=rfl;clear hW3 hl
 cases hmh:Zs q a n with
 | false=>
  have hmh':=HMH.out q;rw[hmh]at hmh';rw[if_pos (.inl rfl)];have HC:Hid (∀W,Calls prog 196 #[.agg (frv q).toArray,.agg #[I6 a.fr,I6 a.tz,.bool a.rd,.bool a.wr,.bool a.sh,I6 a.file,I6 a.base],I6 (n:Int)] W fun e w'=>e= .returned (.bool false)/\zc W w'):=hmh'
  clear hmh'
  go_enter func164,ntmps164
  go_upto_region 7 with fail;rw[HW3.out];go_upto_region 8 with fail;obtain⟨W4,hW4⟩:∃W4,W3.alloc (.cells #[U8 q.p.b0,U8 q.p.b1,U8 q.p.b2,U8 q.p.b3,U8 q.p.b4,U8 q.p.b5,U8 q.p.b6,U8 q.p.b7,I6 q.r,.bool q.u,.bool q.d,I6 q.f,I6 q.x] 69)=W4:=⟨_,rfl⟩;have HG4:=gT hW4 HG3
  have Y4:Box W4 (w.heap.size+1) [I6 a.fr,I6 a.tz,.bool a.rd,.bool a.wr,.bool a.sh,I6 a.file,I6 a.base]:=by rw[<-hW4];exact Y3.alloc _
  have F4:Box W4 (w.heap.size+1+1+1) [U8 q.p.b0,U8 q.p.b1,U8 q.p.b2,U8 q.p.b3,U8 q.p.b4,U8 q.p.b5,U8 q.p.b6,U8 q.p.b7,I6 q.r,.bool q.u,.bool q.d,I6 q.f,I6 q.x]:=by rw[<-hW4];exact Box.top _ _ _ HS3.symm
  rw[hW4,HS3.out];clear hW4 x0 z1 d0 d1 d2 d3 d4 d5 d6 d7 d8 d9 d10 d11 d12;obtain⟨y0,y1,y2,y3,y4,y5,y6⟩:=Y4.c7;have f0:=F4.c 0 rfl;have f1:=F4.c 1 rfl;have f2:=F4.c 2 rfl;have f3:=F4.c 3 rfl;have f4:=F4.c 4 rfl;have f5:=F4.c 5 rfl;have f6:=F4.c 6 rfl;have f7:=F4.c 7 rfl;have f8:=F4.c 8 rfl;have f9:=F4.c 9 rfl;have f10:=F4.c 10 rfl;have f11:=F4.c 11 rfl;have f12:=F4.c 12 rfl
  go_wp2_with (go_at_call 196;refine(HC _).mono ?_;clear y0 y1 y2 y3 y4 y5 y6 f0 f1 f2 f3 f4 f5 f6 f7 f8 f9 f10 f11 f12;rintro e W5 ⟨rfl,hg5⟩)
  go_ret;exact⟨rfl,HG4.trans hg5⟩
 | true=>
  have hmh':=HMH.out q;rw[hmh]at hmh';have HC:Hid (∀W,Calls prog 196 #[.agg (frv q).toArray,.agg #[I6 a.fr,I6 a.tz,.bool a.rd,.bool a.wr,.bool a.sh,I6 a.file,I6 a.base],I6 (n:Int)] W fun e w'=>e= .returned (.bool true)/\zc W w'):=hmh'
  clear hmh'
  cases ew with
  | false=>
   rw[if_neg (by simp)]
   go_enter func164,ntmps164
   go_upto_region 7 with fail;rw[HW3.out];go_upto_region 8 with fail;obtain⟨W4,hW4⟩:∃W4,W3.alloc (.cells #[U8 q.p.b0,U8 q.p.b1,U8 q.p.b2,U8 q.p.b3,U8 q.p.b4,U8 q.p.b5,U8 q.p.b6,U8 q.p.b7,I6 q.r,.bool q.u,.bool q.d,I6 q.f,I6 q.x] 69)=W4:=⟨_,rfl⟩;have HG4:=gT hW4 HG3
   have Y4:Box W4 (w.heap.size+1) [I6 a.fr,I6 a.tz,.bool a.rd,.bool a.wr,.bool a.sh,I6 a.file,I6 a.base]:=by rw[<-hW4];exact Y3.alloc _
   have Z4:=yA hW4 Z3
   have F4:Box W4 (w.heap.size+1+1+1) [U8 q.p.b0,U8 q.p.b1,U8 q.p.b2,U8 q.p.b3,U8 q.p.b4,U8 q.p.b5,U8 q.p.b6,U8 q.p.b7,I6 q.r,.bool q.u,.bool q.d,I6 q.f,I6 q.x]:=by rw[<-hW4];exact Box.top _ _ _ HS3.symm
   rw[hW4,HS3.out];clear hW4 x0 z1 d0 d1 d2 d3 d4 d5 d6 d7 d8 d9 d10 d11 d12;obtain⟨y0,y1,y2,y3,y4,y5,y6⟩:=Y4.c7;have f0:=F4.c 0 rfl;have f1:=F4.c 1 rfl;have f2:=F4.c 2 rfl;have f3:=F4.c 3 rfl;have f4:=F4.c 4 rfl;have f5:=F4.c 5 rfl;have f6:=F4.c 6 rfl;have f7:=F4.c 7 rfl;have f8:=F4.c 8 rfl;have f9:=F4.c 9 rfl;have f10:=F4.c 10 rfl;have f11:=F4.c 11 rfl;have f12:=F4.c 12 rfl
   go_wp2_with (go_at_call 196;refine(HC _).mono ?_;clear y0 y1 y2 y3 y4 y5 y6 f0 f1 f2 f3 f4 f5 f6 f7 f8 f9 f10 f11 f12;rintro e W5 ⟨rfl,hg5⟩;have z2:=(Z4.grew hg5).c 2 rfl)
   go_ret;exact⟨rfl,HG4.trans hg5⟩
  | true=>
   cases hmw:ZE q a with
   | false=>
    have hmw':=HMW.out q;rw[hmw]at hmw';rw[if_pos (.inr ⟨rfl,rfl⟩)];have HC2:Hid (∀W,Calls prog 197 #[.agg (frv q).toArray,.agg #[I6 a.fr,I6 a.tz,.bool a.rd,.bool a.wr,.bool a.sh,I6 a.file,I6 a.base]] W fun e w'=>e= .returned (.bool false)/\zc W w'):=hmw'
    clear hmw'
    go_enter func164,ntmps164
    go_upto_region 7 with fail;rw[HW3.out];go_upto_region 8 with fail;obtain⟨W4,hW4⟩:∃W4,W3.alloc (.cells #[U8 q.p.b0,U8 q.p.b1,U8 q.p.b2,U8 q.p.b3,U8 q.p.b4,U8 q.p.b5,U8 q.p.b6,U8 q.p.b7,I6 q.r,.bool q.u,.bool q.d,I6 q.f,I6 q.x] 69)=W4:=⟨_,rfl⟩;have HG4:=gT hW4 HG3
    have Y4:=yA hW4 Y3
    have Z4:=yA hW4 Z3
    have F4:=xP hW4 HS3
    rw[hW4,HS3.out];clear hW4 x0 z1 d0 d1 d2 d3 d4 d5 d6 d7 d8 d9 d10 d11 d12;obtain⟨y0,y1,y2,y3,y4,y5,y6⟩:=Y4.c7;have f0:=F4.c 0 rfl;have f1:=F4.c 1 rfl;have f2:=F4.c 2 rfl;have f3:=F4.c 3 rfl;have f4:=F4.c 4 rfl;have f5:=F4.c 5 rfl;have f6:=F4.c 6 rfl;have f7:=F4.c 7 rfl;have f8:=F4.c 8 rfl;have f9:=F4.c 9 rfl;have f10:=F4.c 10 rfl;have f11:=F4.c 11 rfl;have f12:=F4.c 12 rfl;go_wp2_with fail;refine(HC _).mono ?_;clear y0 y1 y2 y3 y4 y5 y6 f0 f1 f2 f3 f4 f5 f6 f7 f8 f9 f10 f11 f12;rintro e W5 ⟨rfl,hg5⟩;have HG5:=dD (HG4.trans hg5);have Y5:=Y4.grew hg5;have z2:=(Z4.grew hg5).c 2 rfl;have F5:=F4.grew hg5;clear hg5;obtain⟨y0,y1,y2,y3,y4,y5,y6⟩:=Y5.c7;have f0:=F5.c 0 rfl;have f1:=F5.c 1 rfl;have f2:=F5.c 2 rfl;have f3:=F5.c 3 rfl;have f4:=F5.c 4 rfl;have f5:=F5.c 5 rfl;have f6:=F5.c 6 rfl;have f7:=F5.c 7 rfl;have f8:=F5.c 8 rfl;have f9:=F5.c 9 rfl;have f10:=F5.c 10 rfl;have f11:=F5.c 11 rfl;have f12:=F5.c 12 rfl
    go_wp2_with (go_at_call 197;refine(HC2 _).mono ?_;clear y0 y1 y2 y3 y4 y5 y6 f0 f1 f2 f3 f4 f5 f6 f7 f8 f9 f10 f11 f12 z2;rintro e W6 ⟨rfl,hg6⟩)
    go_ret;exact⟨rfl,HG5.trans hg6⟩
   | true=>
    have hmw':=HMW.out q;rw[hmw]at hmw';rw[if_neg (by simp)]
    have HC2:Hid (∀W,Calls prog 197 #[.agg (frv q).toArray,.agg #[I6 a.fr,I6 a.tz,.bool a.rd,.bool a.wr,.bool a.sh,I6 a.file,I6 a.base]] W fun e w'=>e= .returned (.bool true)/\zc W w'):=hmw'
    clear hmw'
    go_enter func164,ntmps164
    go_upto_region 7 with fail;rw[HW3.out];go_upto_region 8 with fail;obtain⟨W4,hW4⟩:∃W4,W3.alloc (.cells #[U8 q.p.b0,U8 q.p.b1,U8 q.p.b2,U8 q.p.b3,U8 q.p.b4,U8 q.p.b5,U8 q.p.b6,U8 q.p.b7,I6 q.r,.bool q.u,.bool q.d,I6 q.f,I6 q.x] 69)=W4:=⟨_,rfl⟩;have HG4:=gT hW4 HG3
    have Y4:=yA hW4 Y3
    have Z4:=yA hW4 Z3
    have F4:=xP hW4 HS3
    rw[hW4,HS3.out];clear hW4 x0 z1 d0 d1 d2 d3 d4 d5 d6 d7 d8 d9 d10 d11 d12;obtain⟨y0,y1,y2,y3,y4,y5,y6⟩:=Y4.c7;have f0:=F4.c 0 rfl;have f1:=F4.c 1 rfl;have f2:=F4.c 2 rfl;have f3:=F4.c 3 rfl;have f4:=F4.c 4 rfl;have f5:=F4.c 5 rfl;have f6:=F4.c 6 rfl;have f7:=F4.c 7 rfl;have f8:=F4.c 8 rfl;have f9:=F4.c 9 rfl;have f10:=F4.c 10 rfl;have f11:=F4.c 11 rfl;have f12:=F4.c 12 rfl;go_wp2_with fail;refine(HC _).mono ?_;clear y0 y1 y2 y3 y4 y5 y6 f0 f1 f2 f3 f4 f5 f6 f7 f8 f9 f10 f11 f12;rintro e W5 ⟨rfl,hg5⟩;have HG5:=dD (HG4.trans hg5);have Y5:=Y4.grew hg5;have z2:=(Z4.grew hg5).c 2 rfl;have F5:=F4.grew hg5;clear hg5;obtain⟨y0,y1,y2,y3,y4,y5,y6⟩:=Y5.c7;have f0:=F5.c 0 rfl;have f1:=F5.c 1 rfl;have f2:=F5.c 2 rfl;have f3:=F5.c 3 rfl;have f4:=F5.c 4 rfl;have f5:=F5.c 5 rfl;have f6:=F5.c 6 rfl;have f7:=F5.c 7 rfl;have f8:=F5.c 8 rfl;have f9:=F5.c 9 rfl;have f10:=F5.c 10 rfl;have f11:=F5.c 11 rfl;have f12:=F5.c 12 rfl
    go_wp2_with (go_at_call 197;refine(HC2 _).mono ?_;clear y0 y1 y2 y3 y4 y5 y6 f0 f1 f2 f3 f4 f5 f6 f7 f8 f9 f10 f11 f12 z2;rintro e W6 ⟨rfl,hg6⟩)
    go_ret;exact⟨rfl,HG5.trans hg6⟩
theorem zj8 (m:Ma) (c:Ca):caE m none c=if zle m.fl c.file c.idx=false\/bel c.fr m.fs.length=false then 3 else if(zY m c.fr).r=0\/(zY m c.fr).f≠c.file\/(zY m c.fr).x≠c.idx then 7 else 0:=by
 unfold caE zle;have hb:∀(a b:Int),bel a b=false↔(a<0\/b<=a):=fun a b=>by
  constructor
  ·intro h
   rcases Int.lt_or_le a 0 with h1|h1
   ·exact .inl h1
   rcases Int.lt_or_le a b with h2|h2
   ·rw[za8.2 ⟨h1,h2⟩]at h;cases h
   exact .inr h2
  intro h;exact ziX (by omega)
 have he:(c.file<0\/(m.fl.length:Int)<=c.file\/c.idx<0\/bkN m c.file<=c.idx\/c.fr<0\/(m.fs.length:Int)<=c.fr)↔((bel c.file m.fl.length && bel c.idx ((m.fl.getD c.file.toNat ⟨0,[]⟩).bl.length:Nat))=false\/bel c.fr m.fs.length=false):=by
  rw[Bool.and_eq_false_iff,hb,hb,hb];unfold bkN;omega
 simp only[he]
theorem zbN (V:MaV) (m:Ma) (c:Ca) (w:World) (hm:zF w V m):
  Calls prog 162 #[.agg (mL V m).toArray,.agg #[I6 c.file,I6 c.idx,I6 c.fr]] w fun e w'=>e= .returned (I6 (caE m none c))/\zc w w':=by
 obtain⟨n1,-⟩:=hm.ns;rw[zj8,<-n1];have HHP:Hid (∀W,zc w W->Calls prog 147 #[.agg #[V.fl.x,I6 m.cnt],I6 c.file,I6 c.idx] W fun e w'=>e= .returned (.bool (zle m.fl c.file c.idx))/\zc W w'):=dD<|fun W hW=>zfZ _ m.fl m.cnt c.file c.idx W (hm.grew hW).fl
 have HBL:Hid (∀W,Calls prog 101 #[I6 c.fr,I6 V.f.n] W fun e w'=>e= .returned (.bool (bel c.fr V.f.n))/\w'=W):=dD<|fun W=>za7 c.fr V.f.n W
 have HF:Hid (m.fs.length=V.f.n):=n1.symm;have HR:Hid (Q3 w V.f.a m.fs):=hm.frs;clear hm n1;obtain⟨W2,hW2⟩:∃W2,(w.alloc (.cells (mL V m).toArray 41)).alloc (.cells #[I6 c.file,I6 c.idx,I6 c.fr] 124)=W2:=⟨_,rfl⟩;have HG2:=gD2 hW2
 have X2:=x2a hW2
 have Y2:=x2b hW2
 have HS2:Hid (W2.heap.size=w.heap.size+1+1):=dD<|by rw[<-hW2];simp
 have HW2:Hid (_=W2):=hW2;clear hW2;have HC1:=HHP.out W2 HG2.out;have x7:=X2.c 7 rfl;have x8:=X2.c 8 rfl;have y0:=Y2.c 0 rfl;have y1:=Y2.c 1 rfl
 cases hp:zle m.fl c.file c.idx with
 | false=>
  rw[hp]at HC1;rw[if_pos (.inl rfl)]
  go_enter func162,ntmps162
  go_upto_region 1 with fail;rw[HW2.out]
  go_wp2_with (go_at_call 147;refine HC1.mono ?_;clear x7 x8 y0 y1;rintro e W3 ⟨rfl,hg3⟩)
  go_ret;exact⟨rfl,HG2.trans hg3⟩
 | true=>
  rw[hp]at HC1
  cases hb:bel c.fr V.f.n with
  | false=>
   rw[hb]at HBL;rw[if_pos (.inr rfl)]
   go_enter func162,ntmps162
   go_upto_region 1 with fail;rw[HW2.out];go_wp2_with fail;refine HC1.mono ?_;clear x7 x8 y0 y1;rintro e W3 ⟨rfl,hg3⟩;have HG3:=dD (HG2.trans hg3);have x0:=(X2.grew hg3).c 0 rfl;have y2:=(Y2.grew hg3).c 2 rfl;clear hg3
   go_wp2_with (go_at_call 101;refine(HBL _).mono ?_;rintro e w' ⟨rfl,rfl⟩)
   go_ret;exact⟨rfl,HG3⟩
  | true=>
   rw[hb]at HBL;rw[if_neg (by simp)]
   obtain⟨g0,g1⟩:=za8.1 hb;clear hb;obtain⟨cf,ci,cr⟩:=c;simp only at g0 g1 HBL HC1 HG2 Y2 y0 y1⊢;obtain⟨k,rfl⟩:∃k:Nat,cr=(k:Int):=⟨cr.toNat,by omega⟩
   have hkn:k<V.f.n:=by omega
   obtain⟨q,HQ⟩:∃q,Hid (m.fs[k]? =some q):=⟨_,gE (by rw[HF.out];exact hkn)⟩
   have hfr:zY m (k:Int)=q:=by unfold zY;rw[tN,gD,HQ.out];rfl
   rw[hfr];clear hfr;obtain⟨ad,hva,hl⟩:=HR.out k q HQ.out;have HL:Hid (∀W,zc w W->JC W (ad.add (k*13)) q):=hl;have HVA:Hid (V.f.a=some ad):=hva;clear hl hva;obtain⟨Z,HZ⟩:∃Z:Int,Hid ((if q.r=0\/q.f≠cf\/q.x≠ci then(7:Int)else 0)=Z):=⟨_,rfl⟩;rw[HZ.out]
   go_enter func162,ntmps162
   go_upto_region 1 with fail;rw[HW2.out];go_wp2_with fail;refine HC1.mono ?_;clear x7 x8 y0 y1;rintro e W3 ⟨rfl,hg3⟩;have HG3:=dD (HG2.trans hg3);have X3:=dD (X2.grew hg3);have Y3:=dD (Y2.grew hg3);have HS3:Hid (w.heap.size+1+1<=W3.heap.size):=show _<=_ by rw[<-HS2.out];exact bS hg3
   clear hg3;have x0:=X3.c 0 rfl;have y2:=Y3.c 2 rfl
   go_upto_region 3 with(go_at_call 101;refine(HBL _).mono ?_;rintro e w' ⟨rfl,hw'⟩;rw[hw'];clear hw' w')
   (try simp only[Sli.x]at x0);rw[HVA.out]at x0;obtain⟨d0,d1,d2,d3,d4,d5,d6,d7,d8,d9,d10,d11,d12⟩:=HL.out W3 HG3.out;go_upto_region 4 with fail;obtain⟨W4,hW4⟩:∃W4,W3.alloc (.cells #[U8 q.p.b0,U8 q.p.b1,U8 q.p.b2,U8 q.p.b3,U8 q.p.b4,U8 q.p.b5,U8 q.p.b6,U8 q.p.b7,I6 q.r,.bool q.u,.bool q.d,I6 q.f,I6 q.x] 69)=W4:=⟨_,rfl⟩;have HG4:=gT hW4 HG3
   have F4:Box W4 W3.heap.size [U8 q.p.b0,U8 q.p.b1,U8 q.p.b2,U8 q.p.b3,U8 q.p.b4,U8 q.p.b5,U8 q.p.b6,U8 q.p.b7,I6 q.r,.bool q.u,.bool q.d,I6 q.f,I6 q.x]:=by rw[<-hW4];exact Box.top _ _ _ rfl
   have Y4:Box W4 (w.heap.size+1) [I6 cf,I6 ci,I6 (k:Int)]:=by rw[<-hW4];exact Y3.alloc _
   rw[hW4];clear hW4 x0 y2 d0 d1 d2 d3 d4 d5 d6 d7 d8 d9 d10 d11 d12;have f8:=F4.c 8 rfl;have f11:=F4.c 11 rfl;have f12:=F4.c 12 rfl;have y0:=Y4.c 0 rfl;have y1:=Y4.c 1 rfl
   by_cases h1:q.r=0
   ·have h1e:(q.r == 0)=true:=by simp[h1]
    have HE:Hid (Z=7):=dD<|by rw[<-HZ.out,if_pos (.inl h1)]
    clear h1;go_wp2;go_ret;exact⟨by rw[HE.out];rfl,HG4⟩
   have h1e:(q.r == 0)=false:=by simp[h1]
   by_cases h2:q.f=cf
   ·have h2e:(q.f != cf)=false:=by simp[h2]
    by_cases h3:q.x=ci
    ·have h3e:(q.x != ci)=false:=by simp[h3]
     have HE:Hid (Z=0):=dD<|by rw[<-HZ.out,if_neg (by simp[h1,h2,h3])]
     clear h1 h2 h3;go_wp2;go_ret;exact⟨by rw[HE.out];rfl,HG4⟩
    have h3e:(q.x != ci)=true:=by simp[h3]
    have HE:Hid (Z=7):=dD<|by rw[<-HZ.out,if_pos (.inr (.inr h3))]
    clear h1 h2 h3;go_wp2;go_ret;exact⟨by rw[HE.out];rfl,HG4⟩
   have h2e:(q.f != cf)=true:=by simp[h2]
   have HE:Hid (Z=7):=dD<|by rw[<-HZ.out,if_pos (.inr (.inl h2))]
   clear h1 h2;go_wp2;go_ret;exact⟨by rw[HE.out];rfl,HG4⟩
theorem zcu (V:MaV) (m:Ma) (w:World) (hm:zF w V m):
  Calls prog 115 #[.agg (mL V m).toArray] w fun e w'=>e= .returned (I6 (zB (Qi m)))/\zc w w':=by
 obtain⟨n1,n2,n3,n4,n5,n6,n7,-⟩:=hm.ns;have HC1:Hid (∀W,zc w W->Calls prog 156 #[.agg #[V.f.x,I6 m.hand]] W fun e w'=>e= .returned (I6 (j1 m.fs m.hand))/\zc W w'):=dD<|fun W hW=>by
  have h:=(hm.grew hW).fs;(try simp only[Sli.x]at h⊢);rw[n1]at h⊢;exact jd _ _ m.fs m.hand W h
 have HC2:Hid (∀W,zc w W->Calls prog 157 #[V.s.x] W fun e w'=>e= .returned (I6 (slW m.sl))/\zc W w'):=dD<|fun W hW=>by
  have h:=(hm.grew hW).sl;(try simp only[Sli.x]at h⊢);rw[n2]at h⊢;exact zcM _ _ m.sl W h
 have HC3:Hid (∀W,zc w W->Calls prog 158 #[.agg #[V.sb.x,V.sq.x]] W fun e w'=>e= .returned (I6 (zX m.sb.length m.sq))/\zc W w'):=dD<|fun W hW=>by
  have h:=(hm.grew hW).sq;rw[<-n3];exact zec _ _ _ _ m.sq W h
 have HC4:Hid (∀W,zc w W->Calls prog 158 #[.agg #[V.db.x,V.dq.x]] W fun e w'=>e= .returned (I6 (zX m.db.length m.dq))/\zc W w'):=dD<|fun W hW=>by
  have h:=(hm.grew hW).dq;rw[<-n5];exact zec _ _ _ _ m.dq W h
 have HC5:Hid (∀W,zc w W->Calls prog 159 #[.agg #[V.fl.x,I6 m.cnt]] W fun e w'=>e= .returned (I6 (stW m.fl m.cnt))/\zc W w'):=dD<|fun W hW=>zfs _ m.fl m.cnt W (hm.grew hW).fl
 clear n1 n2 n3 n4 n5 n6 n7 hm;obtain⟨W0,hW0⟩:∃W0,w.alloc (.cells (mL V m).toArray 41)=W0:=⟨_,rfl⟩;have HG0:=gA hW0
 have X0:=xA hW0
 have HW0:Hid (_=W0):=hW0;clear hW0;unfold Qi
 go_enter func115,ntmps115
 go_upto_region 1 with fail;rw[HW0.out];have hx0:=X0.gw 0 rfl
 have hx1:=X0.gw 1 rfl
 have hx2:=X0.gw 2 rfl
 have hx3:=X0.gw 3 rfl
 have hx4:=X0.gw 4 rfl
 have hx5:=X0.gw 5 rfl
 have hx6:=X0.gw 6 rfl
 have hx7:=X0.gw 7 rfl
 have hx8:=X0.gw 8 rfl
 have hne:Nonempty (zh W0):=⟨⟨_,zc.refl _⟩⟩;refine j4 [(2,⟨fun v=>v=I6 (j1 m.fs m.hand),fun v w'=>True⟩),(5,⟨fun v=>v=I6 (slW m.sl),fun v w'=>True⟩),(8,⟨fun v=>v=I6 (zX m.sb.length m.sq),fun v w'=>True⟩),(11,⟨fun v=>v=I6 (zX m.db.length m.dq),fun v w'=>True⟩),(14,⟨fun v=>v=I6 (stW m.fl m.cnt),fun v w'=>True⟩),(15,⟨fun v=>∃g,v= .slice (some ⟨g,0,none⟩) 5 5,fun v w'=>zr ziC w' v [j1 m.fs m.hand,slW m.sl,zX m.sb.length m.sq,zX m.db.length m.dq,stW m.fl m.cnt]⟩),(16,⟨fun v=>v=I6 (zB [j1 m.fs m.hand,slW m.sl,zX m.sb.length m.sq,zX m.db.length m.dq,stW m.fl m.cnt]),fun v w'=>True⟩)] qh (by kernel_rfl) ?hS ?hp ?_
 case hS=>
  intro x hx;simp only[mC,nM,or_false]at hx
  rcases hx with rfl|rfl|rfl|rfl|rfl|rfl|rfl
  ·exact⟨_,rfl⟩
  ·exact⟨_,rfl⟩
  ·exact⟨_,rfl⟩
  ·exact⟨_,rfl⟩
  ·exact⟨_,rfl⟩
  ·exact⟨_,0,rfl⟩
  exact⟨_,rfl⟩
 case hp=>
  intro x hx;simp only[mC,nM,or_false]at hx
  rcases hx with rfl|rfl|rfl|rfl|rfl|rfl|rfl
  ·exact fun _ _ _ _ h=>h
  ·exact fun _ _ _ _ h=>h
  ·exact fun _ _ _ _ h=>h
  ·exact fun _ _ _ _ h=>h
  ·exact fun _ _ _ _ h=>h
  ·exact fun _ _ _ hg h=>zr.grew h hg
  exact fun _ _ _ _ h=>h
 iterate 2 (refine zi rfl rfl rfl (fun K hK=>?_);go_big_quiet_op;refine hK _ ?_;clear hK)
 refine zK rfl rfl (fun w' hg hF=>?_) (fun v1 hv=>?_)
 ·refine zN.call [.agg #[V.f.x,I6 m.hand]] rfl func156 rfl rfl rfl ?_;refine(HC1 w' (HG0.trans hg)).mono ?_;rintro e w'' ⟨rfl,hg2⟩;exact⟨_,rfl,hg2,rfl,trivial⟩
 subst hv;simp only[Act.put,sB,sS,sZ];iterate 2 (refine zi rfl rfl rfl (fun K hK=>?_);go_big_quiet_op;refine hK _ ?_;clear hK)
 refine zK rfl rfl (fun w' hg hF=>?_) (fun v1 hv=>?_)
 ·refine zN.call [V.s.x] rfl func157 rfl rfl rfl ?_;refine(HC2 w' (HG0.trans hg)).mono ?_;rintro e w'' ⟨rfl,hg2⟩;exact⟨_,rfl,hg2,rfl,trivial⟩
 subst hv;simp only[Act.put,sB,sS,sZ];iterate 2 (refine zi rfl rfl rfl (fun K hK=>?_);go_big_quiet_op;refine hK _ ?_;clear hK)
 refine zK rfl rfl (fun w' hg hF=>?_) (fun v1 hv=>?_)
 ·refine zN.call [.agg #[V.sb.x,V.sq.x]] rfl func158 rfl rfl rfl ?_;refine(HC3 w' (HG0.trans hg)).mono ?_;rintro e w'' ⟨rfl,hg2⟩;exact⟨_,rfl,hg2,rfl,trivial⟩
 subst hv;simp only[Act.put,sB,sS,sZ];iterate 2 (refine zi rfl rfl rfl (fun K hK=>?_);go_big_quiet_op;refine hK _ ?_;clear hK)
 refine zK rfl rfl (fun w' hg hF=>?_) (fun v1 hv=>?_)
 ·refine zN.call [.agg #[V.db.x,V.dq.x]] rfl func158 rfl rfl rfl ?_;refine(HC4 w' (HG0.trans hg)).mono ?_;rintro e w'' ⟨rfl,hg2⟩;exact⟨_,rfl,hg2,rfl,trivial⟩
 subst hv;simp only[Act.put,sB,sS,sZ];iterate 2 (refine zi rfl rfl rfl (fun K hK=>?_);go_big_quiet_op;refine hK _ ?_;clear hK)
 refine zK rfl rfl (fun w' hg hF=>?_) (fun v1 hv=>?_)
 ·refine zN.call [.agg #[V.fl.x,I6 m.cnt]] rfl func159 rfl rfl rfl ?_;refine(HC5 w' (HG0.trans hg)).mono ?_;rintro e w'' ⟨rfl,hg2⟩;exact⟨_,rfl,hg2,rfl,trivial⟩
 subst hv;simp only[Act.put,sB,sS,sZ];refine zK rfl rfl (fun w' hg hF=>?_) (fun v1 hv=>?_)
 ·have hnew:zr ziC (w'.alloc (.cells #[I6 (j1 m.fs m.hand),I6 (slW m.sl),I6 (zX m.sb.length m.sq),I6 (zX m.db.length m.dq),I6 (stW m.fl m.cnt)] 43)) (.slice (some ⟨w'.heap.size,0,none⟩) 5 5) [j1 m.fs m.hand,slW m.sl,zX m.sb.length m.sq,zX m.db.length m.dq,stW m.fl m.cnt]:=zbS ziC w' [j1 m.fs m.hand,slW m.sl,zX m.sb.length m.sq,zX m.db.length m.dq,stW m.fl m.cnt] _ rfl (show 5*8<=140737488355328 by decide)
  refine zN.step (v:= .slice (some ⟨w'.heap.size,0,none⟩) 5 5) (w':=w'.alloc (.cells #[I6 (j1 m.fs m.hand),I6 (slW m.sl),I6 (zX m.sb.length m.sq),I6 (zX m.db.length m.dq),I6 (stW m.fl m.cnt)] 43)) (by simp only[execOp];go_simp) ⟨za _ _,⟨_,rfl⟩,hnew⟩
 obtain⟨g15,rfl⟩:=hv;simp only[Act.put,sB,sS,sZ];refine zK rfl rfl (fun w' hg hF=>?_) (fun v1 hv=>?_)
 ·have h15:zr ziC w' (.slice (some ⟨g15,0,none⟩) 5 5) [j1 m.fs m.hand,slW m.sl,zX m.sb.length m.sq,zX m.db.length m.dq,stW m.fl m.cnt]:=hF 15 (by kernel_rfl)
  refine zN.call [.slice (some ⟨g15,0,none⟩) 5 5] rfl func130 rfl rfl rfl ?_;refine(zeE _ _ w' h15).mono ?_;rintro e w'' ⟨rfl,rfl⟩;exact⟨_,rfl,zc.refl _,rfl,trivial⟩
 subst hv;simp only[Act.put,sB,sS,sZ];iterate 1 (refine zi rfl rfl rfl (fun K hK=>?_);go_big_quiet_op;refine hK _ ?_;clear hK)
 refine qF fun W3 hg1 hF=>?_
 have G3:=dD (HG0.trans hg1);clear hg1 hF hx0 hx1 hx2 hx3 hx4 hx5 hx6 hx7 hx8 hne;go_wp2;go_ret;exact⟨rfl,G3⟩
theorem zdk (a:Ar) (w:World):Calls prog 222 #[.agg #[I6 a.fr,I6 a.tz,.bool a.rd,.bool a.wr,.bool a.sh,I6 a.file,I6 a.base]] w fun e w'=>e= .returned (I6 (arW a))/\zc w w':=by
 obtain⟨fr,tz,rd,wr,sh,file,base⟩:=a
 by_cases c1:fr<0
 ·have hz:arW ⟨fr,tz,rd,wr,sh,file,base⟩=3:=by unfold arW;simp only;rw[if_pos (by omega)]
  rw[hz];clear hz
  go_enter func222,ntmps222
  go_wp2;go_ret;exact⟨rfl,za _ _⟩
 by_cases c2:tz<=fr
 ·have hz:arW ⟨fr,tz,rd,wr,sh,file,base⟩=3:=by unfold arW;simp only;rw[if_pos (by omega)]
  rw[hz];clear hz
  go_enter func222,ntmps222
  go_wp2;go_ret;exact⟨rfl,za _ _⟩
 by_cases c3:64<tz
 ·have hz:arW ⟨fr,tz,rd,wr,sh,file,base⟩=3:=by unfold arW;simp only;rw[if_pos (by omega)]
  rw[hz];clear hz
  go_enter func222,ntmps222
  go_wp2;go_ret;exact⟨rfl,za _ _⟩
 by_cases c4:file< -1
 ·have hz:arW ⟨fr,tz,rd,wr,sh,file,base⟩=3:=by unfold arW;simp only;rw[if_pos (by omega)]
  rw[hz];clear hz
  go_enter func222,ntmps222
  go_wp2;go_ret;exact⟨rfl,za _ _⟩
 by_cases c5:5<=file
 ·have hz:arW ⟨fr,tz,rd,wr,sh,file,base⟩=3:=by unfold arW;simp only;rw[if_pos (by omega)]
  rw[hz];clear hz
  go_enter func222,ntmps222
  go_wp2;go_ret;exact⟨rfl,za _ _⟩
 by_cases c6:base<0
 ·have hz:arW ⟨fr,tz,rd,wr,sh,file,base⟩=3:=by unfold arW;simp only;rw[if_pos (by omega)]
  rw[hz];clear hz
  go_enter func222,ntmps222
  go_wp2;go_ret;exact⟨rfl,za _ _⟩
 have hn:¬(fr<0\/tz<=fr\/64<tz\/file< -1\/5<=file\/base<0):=by omega
 by_cases d1:file<0
 ·by_cases d2:base=0
  ·cases sh
   ·have hz:arW ⟨fr,tz,rd,wr,false,file,base⟩=0:=by unfold arW;simp only;rw[if_neg hn,if_pos d1,if_neg (by simp[d2])]
    rw[hz];clear hz;have d2e:(base != 0)=false:=by simp[d2]
    have d2g:¬0<base:=by omega
    clear d2 hn
    go_enter func222,ntmps222
    go_wp2;go_ret;exact⟨rfl,za _ _⟩
   have hz:arW ⟨fr,tz,rd,wr,true,file,base⟩=7:=by unfold arW;simp only;rw[if_neg hn,if_pos d1,if_pos (by simp)]
   rw[hz];clear hz;have d2e:(base != 0)=false:=by simp[d2]
   have d2g:¬0<base:=by omega
   clear d2 hn
   go_enter func222,ntmps222
   go_wp2;go_ret;exact⟨rfl,za _ _⟩
  have hz:arW ⟨fr,tz,rd,wr,sh,file,base⟩=7:=by unfold arW;simp only;rw[if_neg hn,if_pos d1,if_pos (by simp[d2])]
  rw[hz];clear hz;have d2e:(base != 0)=true:=by simp[d2]
  have d2g:0<base:=by omega
  clear d2 hn
  go_enter func222,ntmps222
  go_wp2;go_ret;exact⟨rfl,za _ _⟩
 by_cases d2:12 -(tz - fr)<base
 ·have hz:arW ⟨fr,tz,rd,wr,sh,file,base⟩=7:=by unfold arW;simp only;rw[if_neg hn,if_neg d1,if_pos d2]
  rw[hz];clear hz;clear hn
  go_enter func222,ntmps222
  go_wp2;go_ret;exact⟨rfl,za _ _⟩
 have hz:arW ⟨fr,tz,rd,wr,sh,file,base⟩=0:=by unfold arW;simp only;rw[if_neg hn,if_neg d1,if_neg d2]
 rw[hz];clear hz;clear hn
 go_enter func222,ntmps222
 go_wp2;go_ret;exact⟨rfl,za _ _⟩
theorem QZ (a:Ar) (w:World):Calls prog 132 #[.agg #[I6 a.fr,I6 a.tz,.bool a.rd,.bool a.wr,.bool a.sh,I6 a.file,I6 a.base]] w fun e w'=>e= .returned (I6 (arW a))/\zc w w':=by
 obtain⟨fr,tz,rd,wr,sh,file,base⟩:=a
 by_cases c1:fr<0
 ·have hz:arW ⟨fr,tz,rd,wr,sh,file,base⟩=3:=by unfold arW;simp only;rw[if_pos (by omega)]
  rw[hz];clear hz
  go_enter func132,ntmps132
  go_wp2;go_ret;exact⟨rfl,za _ _⟩
 by_cases c3:64<tz
 ·have hz:arW ⟨fr,tz,rd,wr,sh,file,base⟩=3:=by unfold arW;simp only;rw[if_pos (by omega)]
  rw[hz];clear hz
  go_enter func132,ntmps132
  go_wp2;go_ret;exact⟨rfl,za _ _⟩
 by_cases c2:tz<=fr
 ·have hz:arW ⟨fr,tz,rd,wr,sh,file,base⟩=3:=by unfold arW;simp only;rw[if_pos (by omega)]
  rw[hz];clear hz
  go_enter func132,ntmps132
  go_wp2;go_ret;exact⟨rfl,za _ _⟩
 by_cases c4:file< -1
 ·have hz:arW ⟨fr,tz,rd,wr,sh,file,base⟩=3:=by unfold arW;simp only;rw[if_pos (by omega)]
  rw[hz];clear hz
  go_enter func132,ntmps132
  go_wp2;go_ret;exact⟨rfl,za _ _⟩
 by_cases c5:4<file
 ·have hz:arW ⟨fr,tz,rd,wr,sh,file,base⟩=3:=by unfold arW;simp only;rw[if_pos (by omega)]
  rw[hz];clear hz
  go_enter func132,ntmps132
  go_wp2;go_ret;exact⟨rfl,za _ _⟩
 by_cases c6:base<0
 ·have hz:arW ⟨fr,tz,rd,wr,sh,file,base⟩=3:=by unfold arW;simp only;rw[if_pos (by omega)]
  rw[hz];clear hz
  go_enter func132,ntmps132
  go_wp2;go_ret;exact⟨rfl,za _ _⟩
 have hn:¬(fr<0\/tz<=fr\/64<tz\/file< -1\/5<=file\/base<0):=by omega
 by_cases d1:file<0
 ·by_cases d2:base=0
  ·cases sh
   ·have hz:arW ⟨fr,tz,rd,wr,false,file,base⟩=0:=by unfold arW;simp only;rw[if_neg hn,if_pos d1,if_neg (by simp[d2])]
    rw[hz];clear hz;have d1e:(file == -1)=true:=by simp;omega
    have d1n:¬0<=file:=by omega
    have d2e:(base != 0)=false:=by simp[d2]
    have d2g:¬0<base:=by omega
    clear d2 hn
    go_enter func132,ntmps132
    go_wp2;go_ret;exact⟨rfl,za _ _⟩
   have hz:arW ⟨fr,tz,rd,wr,true,file,base⟩=7:=by unfold arW;simp only;rw[if_neg hn,if_pos d1,if_pos (by simp)]
   rw[hz];clear hz;have d1e:(file == -1)=true:=by simp;omega
   have d1n:¬0<=file:=by omega
   have d2e:(base != 0)=false:=by simp[d2]
   have d2g:¬0<base:=by omega
   clear d2 hn
   go_enter func132,ntmps132
   go_wp2;go_ret;exact⟨rfl,za _ _⟩
  have hz:arW ⟨fr,tz,rd,wr,sh,file,base⟩=7:=by unfold arW;simp only;rw[if_neg hn,if_pos d1,if_pos (by simp[d2])]
  rw[hz];clear hz;have d1e:(file == -1)=true:=by simp;omega
  have d1n:¬0<=file:=by omega
  have d2e:(base != 0)=true:=by simp[d2]
  have d2g:0<base:=by omega
  clear d2 hn
  go_enter func132,ntmps132
  go_wp2;go_ret;exact⟨rfl,za _ _⟩
 by_cases d2:12 -(tz - fr)<base
 ·have hz:arW ⟨fr,tz,rd,wr,sh,file,base⟩=7:=by unfold arW;simp only;rw[if_neg hn,if_neg d1,if_pos d2]
  rw[hz];clear hz;have d1e:(file == -1)=false:=by simp;omega
  have d1n:0<=file:=by omega
  clear hn
  go_enter func132,ntmps132
  go_wp2;go_ret;exact⟨rfl,za _ _⟩
 have hz:arW ⟨fr,tz,rd,wr,sh,file,base⟩=0:=by unfold arW;simp only;rw[if_neg hn,if_neg d1,if_neg d2]
 rw[hz];clear hz;have d1e:(file == -1)=false:=by simp;omega
 have d1n:0<=file:=by omega
 clear hn
 go_enter func132,ntmps132
 go_wp2;go_ret;exact⟨rfl,za _ _⟩
def Zm (a:Ar) (n:Int):Ar:={ a with fr:=n,base:=if 0<=a.file then a.base+(n - a.fr)else a.base }
theorem zhx (a:Ar) (n:Int) (w:World) (ha:ju a) (hn:0<=n/\n<=64):Calls prog 238 #[.agg #[I6 a.fr,I6 a.tz,.bool a.rd,.bool a.wr,.bool a.sh,I6 a.file,I6 a.base],I6 n] w fun e w'=>e= .returned (arA (Zm a n))/\zc w w':=by
 have HA:Hid (ju a):=ha;unfold ju at ha;obtain⟨h1,h2,h3,h4,h5,h6,h7,h8⟩:=ha;obtain⟨fr,tz,rd,wr,sh,file,base⟩:=a;simp only at h1 h2 h3 h4 h5 h6 h7 h8⊢;have hb:base<=12:=by
  by_cases h:0<=file
  ·have:=h8 h;omega
  have:=h7 (by omega);omega
 clear h7 h8;obtain⟨n1,n2⟩:=hn;obtain⟨W0,hW0⟩:∃W0,(w.alloc (.cells #[I6 fr,.int .i64 tz,.bool rd,.bool wr,.bool sh,I6 file,I6 base] 114)).alloc (.cells #[I6 0,I6 0,.bool false,.bool false,.bool false,I6 0,I6 0] 114)=W0:=⟨_,rfl⟩;have HG0:=gD2 hW0
 have X0:=x2a hW0
 have Y0:=x2b hW0
 have HW0:Hid (_=W0):=hW0;clear hW0
 by_cases hf:0<=file
 ·have HR:Hid (Zm ⟨fr,tz,rd,wr,sh,file,base⟩ n=⟨n,tz,rd,wr,sh,file,base+(n - fr)⟩):=dD<|by unfold Zm;simp only;rw[if_pos hf]
  go_enter func238,ntmps238
  go_upto_region 1 with fail;rw[HW0.out];have x0:=X0.c 0 rfl;have x5:=X0.c 5 rfl;have x6:=X0.c 6 rfl;have xf:=X0.f;go_upto_region 4 with fail;obtain⟨W1,hW1⟩:∃W1,(W0.setCell ⟨w.heap.size,6,none⟩ (I6 (base+(n - fr)))).setCell ⟨w.heap.size,0,none⟩ (I6 n)=W1:=⟨_,rfl⟩;have X1:Hid (Box W1 w.heap.size [I6 n,.int .i64 tz,.bool rd,.bool wr,.bool sh,I6 file,I6 (base+(n - fr))]):=dD<|by rw[<-hW1];exact(X0.set 6 _).set 0 _
  have Y1:Hid (Box W1 (w.heap.size+1) [I6 0,I6 0,.bool false,.bool false,.bool false,I6 0,I6 0]):=dD<|by rw[<-hW1];exact(Y0.other (by simp) _).other (by simp) _
  have HG1:Hid (zc w W1):=dD<|by rw[<-hW1];exact zu (zu HG0 (by simp) _) (by simp) _
  rw[hW1];clear hW1 x0 x5 x6 xf
  go_wp2_with (first | refine zO rfl 114 (.tmp 2) rfl w.heap.size rfl X1 underlying114 rfl zma ?_ | refine zy rfl 114 (.tmp 4) (.tmp 18) rfl (w.heap.size+1) rfl _ rfl Y1 rfl zma (arE.one ⟨n,tz,rd,wr,sh,file,base+(n - fr)⟩) ?_)
  intro W2 b2 g2 s2;have G2:Hid (zc w W2):=zd HG1 g2 (by simp)
  have B2:Hid (Box W2 (w.heap.size+1) [I6 n,.int .i64 tz,.bool rd,.bool wr,.bool sh,I6 file,I6 (base+(n - fr))]):=b2;clear b2 g2 s2;go_wp2;refine bodyPost_ret (qd rfl _ rfl B2 underlying114 rfl zma) rfl ⟨by rw[HR.out];rfl,G2⟩
 have HR:Hid (Zm ⟨fr,tz,rd,wr,sh,file,base⟩ n=⟨n,tz,rd,wr,sh,file,base⟩):=dD<|by unfold Zm;simp only;rw[if_neg hf]
 go_enter func238,ntmps238
 go_upto_region 1 with fail;rw[HW0.out];have x0:=X0.c 0 rfl;have x5:=X0.c 5 rfl;have xf:=X0.f;go_upto_region 4 with fail;obtain⟨W1,hW1⟩:∃W1,W0.setCell ⟨w.heap.size,0,none⟩ (I6 n)=W1:=⟨_,rfl⟩;have X1:Hid (Box W1 w.heap.size [I6 n,.int .i64 tz,.bool rd,.bool wr,.bool sh,I6 file,I6 base]):=dD<|by rw[<-hW1];exact X0.set 0 _
 have Y1:Hid (Box W1 (w.heap.size+1) [I6 0,I6 0,.bool false,.bool false,.bool false,I6 0,I6 0]):=dD<|by rw[<-hW1];exact Y0.other (by simp) _
 have HG1:Hid (zc w W1):=dD<|by rw[<-hW1];exact zu HG0 (by simp) _
 rw[hW1];clear hW1 x0 x5 xf
 go_wp2_with (first | refine zO rfl 114 (.tmp 2) rfl w.heap.size rfl X1 underlying114 rfl zma ?_ | refine zy rfl 114 (.tmp 4) (.tmp 18) rfl (w.heap.size+1) rfl _ rfl Y1 rfl zma (arE.one ⟨n,tz,rd,wr,sh,file,base⟩) ?_)
 intro W2 b2 g2 s2;have G2:Hid (zc w W2):=zd HG1 g2 (by simp)
 have B2:Hid (Box W2 (w.heap.size+1) [I6 n,.int .i64 tz,.bool rd,.bool wr,.bool sh,I6 file,I6 base]):=b2;clear b2 g2 s2;go_wp2;refine bodyPost_ret (qd rfl _ rfl B2 underlying114 rfl zma) rfl ⟨by rw[HR.out];rfl,G2⟩
def zhz (a b:Ar):Bool:=(a.fr == b.fr) &&(a.tz == b.tz) &&(a.rd == b.rd) &&(a.wr == b.wr) &&(a.sh == b.sh) &&(a.file == b.file) &&(a.base == b.base)
theorem zhy (a:Ar):zhz a a=true:=by simp[zhz]
theorem zlx (x0 y0:Int) (x1 y1:Int) (x2 y2:Bool) (x3 y3:Bool) (x4 y4:Bool) (x5 y5:Int) (x6 y6:Int) (w:World):(Op.equalIn 10000 114 (.agg #[I6 x0,I6 x1,.bool x2,.bool x3,.bool x4,I6 x5,I6 x6]) (.agg #[I6 y0,I6 y1,.bool y2,.bool y3,.bool y4,I6 y5,I6 y6])).run prog w= .ok (zhz ⟨x0,x1,x2,x3,x4,x5,x6⟩ ⟨y0,y1,y2,y3,y4,y5,y6⟩) w:=by
 have hf : (Tryz.prog.fieldsOf 114).toList.map (fun f => (f.name, f.type, f.offset)) = [("From", 3, 0), ("To", 3, 1), ("Read", 4, 2), ("Write", 4, 3), ("Shared", 4, 4), ("File", 3, 5), ("Base", 3, 6)] := by kernel_rfl
 rw[run_equalIn_struct w 9999 114 _ _ (by kernel_rfl) (by kernel_rfl)]
 obtain⟨f0,f1,f2,f3,f4,f5,f6,hfs⟩:∃f0 f1 f2 f3 f4 f5 f6,(Tryz.prog.fieldsOf 114).toList=[f0,f1,f2,f3,f4,f5,f6]:=by
  have hl:(Tryz.prog.fieldsOf 114).toList.length=7:=by have:=congrArg List.length hf;simpa using this
  match hq:(Tryz.prog.fieldsOf 114).toList,hl with
  | [f0,f1,f2,f3,f4,f5,f6],_=>exact⟨f0,f1,f2,f3,f4,f5,f6,rfl⟩
 rw[hfs]at hf⊢
 simp at hf
 obtain⟨⟨n0,t0,o0⟩,⟨n1,t1,o1⟩,⟨n2,t2,o2⟩,⟨n3,t3,o3⟩,⟨n4,t4,o4⟩,⟨n5,t5,o5⟩,⟨n6,t6,o6⟩⟩:=hf;have pI:∀(zs:Array Value) (o:Nat) v,zs[o]? =some (I6 v)->(part 3 zs o).run prog w= .ok (I6 v) w:=fun zs o v hz=>run_part_plain w (by simp[Program.plainKey,underlying3]) hz
 have pB:∀(zs:Array Value) (o:Nat) v,zs[o]? =some (.bool v)->(part 4 zs o).run prog w= .ok (.bool v) w:=fun zs o v hz=>run_part_plain w (by simp[Program.plainKey,underlying4]) hz
 simp only[Op.eqFields,n0,t0,o0,n1,t1,o1,n2,t2,o2,n3,t3,o3,n4,t4,o4,n5,t5,o5,n6,t6,o6]
 simp[pI,pB,run_equalIn_bool' w _ _ _ _ underlying4,run_equalIn_int w _ _ _ _ _ _ underlying3]
 unfold zhz;simp only
 by_cases e0:x0=y0
 case neg=>simp[e0]
 subst e0
 by_cases e1:x1=y1
 case neg=>simp[e1]
 subst e1
 by_cases e2:x2=y2
 case neg=>simp[e2]
 subst e2
 by_cases e3:x3=y3
 case neg=>simp[e3]
 subst e3
 by_cases e4:x4=y4
 case neg=>simp[e4]
 subst e4
 by_cases e5:x5=y5
 case neg=>simp[e5]
 subst e5
 by_cases e6:x6=y6
 case neg=>simp[e6]
 subst e6;simp
def zjw (a b:On):Bool:=(a.is == b.is) &&(a.rd == b.rd) &&(a.wr == b.wr) &&(a.sh == b.sh) &&(a.file == b.file) &&(a.page == b.page)
theorem zlo (x0 y0:Bool) (x1 y1:Bool) (x2 y2:Bool) (x3 y3:Bool) (x4 y4:Int) (x5 y5:Int) (w:World):(Op.equalIn 10000 61 (.agg #[.bool x0,.bool x1,.bool x2,.bool x3,I6 x4,I6 x5]) (.agg #[.bool y0,.bool y1,.bool y2,.bool y3,I6 y4,I6 y5])).run prog w= .ok (zjw ⟨x0,x1,x2,x3,x4,x5⟩ ⟨y0,y1,y2,y3,y4,y5⟩) w:=by
 have hf : (Tryz.prog.fieldsOf 61).toList.map (fun f => (f.name, f.type, f.offset)) = [("Some", 4, 0), ("Read", 4, 1), ("Write", 4, 2), ("Shared", 4, 3), ("File", 3, 4), ("Page", 3, 5)] := by kernel_rfl
 rw[run_equalIn_struct w 9999 61 _ _ (by kernel_rfl) (by kernel_rfl)]
 obtain⟨f0,f1,f2,f3,f4,f5,hfs⟩:∃f0 f1 f2 f3 f4 f5,(Tryz.prog.fieldsOf 61).toList=[f0,f1,f2,f3,f4,f5]:=by
  have hl:(Tryz.prog.fieldsOf 61).toList.length=6:=by have:=congrArg List.length hf;simpa using this
  match hq:(Tryz.prog.fieldsOf 61).toList,hl with
  | [f0,f1,f2,f3,f4,f5],_=>exact⟨f0,f1,f2,f3,f4,f5,rfl⟩
 rw[hfs]at hf⊢
 simp at hf
 obtain⟨⟨n0,t0,o0⟩,⟨n1,t1,o1⟩,⟨n2,t2,o2⟩,⟨n3,t3,o3⟩,⟨n4,t4,o4⟩,⟨n5,t5,o5⟩⟩:=hf;have pI:∀(zs:Array Value) (o:Nat) v,zs[o]? =some (I6 v)->(part 3 zs o).run prog w= .ok (I6 v) w:=fun zs o v hz=>run_part_plain w (by simp[Program.plainKey,underlying3]) hz
 have pB:∀(zs:Array Value) (o:Nat) v,zs[o]? =some (.bool v)->(part 4 zs o).run prog w= .ok (.bool v) w:=fun zs o v hz=>run_part_plain w (by simp[Program.plainKey,underlying4]) hz
 simp only[Op.eqFields,n0,t0,o0,n1,t1,o1,n2,t2,o2,n3,t3,o3,n4,t4,o4,n5,t5,o5]
 simp[pI,pB,run_equalIn_bool' w _ _ _ _ underlying4,run_equalIn_int w _ _ _ _ _ _ underlying3]
 unfold zjw;simp only
 by_cases e0:x0=y0
 case neg=>simp[e0]
 subst e0
 by_cases e1:x1=y1
 case neg=>simp[e1]
 subst e1
 by_cases e2:x2=y2
 case neg=>simp[e2]
 subst e2
 by_cases e3:x3=y3
 case neg=>simp[e3]
 subst e3
 by_cases e4:x4=y4
 case neg=>simp[e4]
 subst e4
 by_cases e5:x5=y5
 case neg=>simp[e5]
 subst e5;simp
theorem zkR {a b:Ar}:zhz a ⟨b.tz,a.tz,b.rd,b.wr,b.sh,b.file,(Zm b b.tz).base⟩=goB a b:=by
 unfold zhz goB Zm;simp only[beq_self_eq_true,Bool.and_true];have hd:∀x y:Int,(x == y)=decide (x=y):=fun x y=>rfl
 simp only[hd]
theorem zfj (a:Ar) (n:Int):arA (Zm a n)= .agg #[I6 n,I6 a.tz,.bool a.rd,.bool a.wr,.bool a.sh,I6 a.file,I6 (Zm a n).base]:=rfl
theorem zhg (a b:Ar) (w:World) (hbk:ju b):Calls prog 223 #[.agg #[I6 a.fr,I6 a.tz,.bool a.rd,.bool a.wr,.bool a.sh,I6 a.file,I6 a.base],.agg #[I6 b.fr,I6 b.tz,.bool b.rd,.bool b.wr,.bool b.sh,I6 b.file,I6 b.base]] w fun e w'=>e= .returned (.bool (goB a b))/\zc w w':=by
 have hb:∀W,Calls prog 238 #[.agg #[I6 b.fr,I6 b.tz,.bool b.rd,.bool b.wr,.bool b.sh,I6 b.file,I6 b.base],I6 b.tz] W fun e w'=>e= .returned (arA (Zm b b.tz))/\zc W w':=fun W=>zhx b b.tz W hbk (by have:=hbk;unfold ju at this;omega)
 have hq:=fun W=>zlx a.fr b.tz a.tz a.tz a.rd b.rd a.wr b.wr a.sh b.sh a.file b.file a.base (Zm b b.tz).base W
 have he:=zkR (a:=a) (b:=b);rw[show(⟨a.fr,a.tz,a.rd,a.wr,a.sh,a.file,a.base⟩:Ar)=a from rfl]at hq
 rw[he]at hq;rw[zfj]at hb
 generalize(Zm b b.tz).base=nb at hb hq
 clear he hbk
 generalize goB a b=R at hq⊢
 obtain⟨W0,hW0⟩:∃W0,(w.alloc (.cells #[I6 a.fr,I6 a.tz,.bool a.rd,.bool a.wr,.bool a.sh,I6 a.file,I6 a.base] 114)).alloc (.cells #[I6 b.fr,I6 b.tz,.bool b.rd,.bool b.wr,.bool b.sh,I6 b.file,I6 b.base] 114)=W0:=⟨_,rfl⟩;have HG0:=gD2 hW0
 have X0:=x2a hW0
 have Y0:=x2b hW0
 have HW0:Hid (_=W0):=hW0;clear hW0
 go_enter func223,ntmps223
 go_upto_region 1 with fail;rw[HW0.out];have y1:=Y0.c 1 rfl
 go_wp2_with (refine zO rfl 114 (.tmp 3) rfl (w.heap.size+1) rfl Y0 underlying114 rfl zma ?_)
 refine(hb _).mono ?_;rintro e W1 ⟨rfl,g1⟩;have G1:=dD (HG0.trans g1);have X1:=dD (X0.grew g1);clear g1 hb y1;obtain⟨p,HP⟩:∃p,Hid (W1.heap.size=p):=⟨_,rfl⟩;have HL:Hid (w.heap.size<p):=show _<_ by rw[<-HP.out];exact X1.lt
 go_upto_region 2 with fail;obtain⟨W2,hW2⟩:∃W2,W1.alloc (.cells #[I6 b.tz,I6 b.tz,.bool b.rd,.bool b.wr,.bool b.sh,I6 b.file,I6 nb] 114)=W2:=⟨_,rfl⟩;have G2:=gT hW2 G1
 have X2:=yA hW2 X1
 have Z2:=xP hW2 HP
 rw[hW2,HP.out];clear hW2;have x1:=X2.c 1 rfl;have z1:=Z2.c 1 rfl;have zf:=Z2.f;go_upto_region 3 with fail;obtain⟨W3,hW3⟩:∃W3,W2.setCell ⟨p,1,none⟩ (I6 a.tz)=W3:=⟨_,rfl⟩;have G3:Hid (zc w W3):=dD<|by rw[<-hW3];exact zu G2 (by have:=HL.out;simp;omega) _
 have X3:Hid (Box W3 w.heap.size [I6 a.fr,I6 a.tz,.bool a.rd,.bool a.wr,.bool a.sh,I6 a.file,I6 a.base]):=dD<|by rw[<-hW3];exact X2.other (by have:=HL.out;simp;omega) _
 have Z3:Hid (Box W3 p [I6 b.tz,I6 a.tz,.bool b.rd,.bool b.wr,.bool b.sh,I6 b.file,I6 nb]):=dD<|by rw[<-hW3];exact Z2.set 1 _
 rw[hW3];clear hW3 x1 z1 zf
 go_wp2_with (first | refine zO rfl 114 (.tmp 5) rfl p rfl Z3 underlying114 rfl zma ?_ | refine zO rfl 114 (.tmp 2) rfl w.heap.size rfl X3 underlying114 rfl zma ?_)
 go_ret;exact⟨rfl,G3⟩
def inZ (a:Ar) (n:Int):Bool:=decide (a.fr<=n) && decide (n<a.tz)
theorem zkN (a:Ar) (n:Nat):inZ a (n:Int)=ZO a n:=rfl
def zbm (l:List Ar) (n z:Int):Prop:=(∃(k:Nat) (a:Ar),z=k/\l[k]? =some a/\inZ a n=true)\/(z=-1/\∀a∈l,inZ a n=false)
theorem zjY {k:Nat} (h:zbm l k z):decide (0<=z)=(zJ l k).is:=by
 rcases h with⟨j,a,rfl,h1,h2⟩|⟨rfl,h1⟩
 ·have:∀(m:List Ar),a∈m->(zJ m k).is=true:=by
   intro m
   induction m with
   | nil=>intro hx;cases hx
   | cons c m ih=>
    intro hx
    by_cases hc:ZO c k=true
    ·rw[zJ,if_pos hc];rfl
    rw[zJ,if_neg hc]
    rcases mC.1 hx with e|hx
    ·rw[e,zkN]at h2;exact absurd h2 hc
    exact ih hx
  rw[this l (mG h1)];simp
 rw[zaA (fun a ha=>h1 a ha)]
 rfl
theorem zix (a:Ar) (n:Int) (p:Nat) (w:World) (hb:Box w p [I6 n]):
  Calls prog 144 #[.agg #[I6 a.fr,I6 a.tz,.bool a.rd,.bool a.wr,.bool a.sh,I6 a.file,I6 a.base],.pointer (some ⟨p,0,none⟩)] w fun e w'=>e= .returned (.bool (inZ a n))/\zc w w':=by
 have H:Hid (inZ a n=(decide (a.fr<=n) && decide (n<a.tz))):=rfl;obtain⟨W0,hW0⟩:∃W0,w.alloc (.cells #[I6 a.fr,I6 a.tz,.bool a.rd,.bool a.wr,.bool a.sh,I6 a.file,I6 a.base] 114)=W0:=⟨_,rfl⟩;have HG0:=gA hW0
 have X0:=xA hW0
 have B0:Hid (Box W0 p [I6 n]):=dD<|by rw[<-hW0];exact hb.alloc _
 have HW0:Hid (_=W0):=hW0;clear hW0 hb
 by_cases h0:a.fr<=n
 ·by_cases h1:n<a.tz
  ·go_enter func144,ntmps144
   go_upto_region 1 with fail;rw[HW0.out];have x0:=X0.c 0 rfl;have x1:=X0.c 1 rfl;have b0:=B0.c 0 rfl;go_wp2;go_ret;exact⟨by rw[H.out];simp[*],HG0⟩
  go_enter func144,ntmps144
  go_upto_region 1 with fail;rw[HW0.out];have x0:=X0.c 0 rfl;have x1:=X0.c 1 rfl;have b0:=B0.c 0 rfl;go_wp2;go_ret;exact⟨by rw[H.out];simp[*],HG0⟩
 go_enter func144,ntmps144
 go_upto_region 1 with fail;rw[HW0.out];have x0:=X0.c 0 rfl;have x1:=X0.c 1 rfl;have b0:=B0.c 0 rfl;go_wp2;go_ret;exact⟨by rw[H.out];simp;omega,HG0⟩
theorem zdT (v:Value) (l:List Ar) (m:Int) (p:Nat) (w:World) (hb:Box w p [I6 m]) (hv:zr arE w v l):
  Calls prog 143 #[v,.func (.func 144) #[] #[.pointer (some ⟨p,0,none⟩)]] w fun e w'=>(∃z:Int,e= .returned (I6 z)/\zbm l m z)/\zc w w':=by
 have hbig:=hv.short;obtain⟨a,c,rfl,hrow⟩:=hv.ars;have HR:Hid (zaU w a l):=hrow;have HB:Hid (Box w p [I6 m]):=hb;have eg:=enters_of func144 (by kernel_rfl) rfl
 clear hrow hv hb;obtain⟨n,HN⟩:∃n,Hid (l.length=n):=⟨_,rfl⟩;rw[HN.out]at hbig⊢;obtain⟨ANS,HANS⟩:∃ANS:Int->Prop,Hid (∀z,zbm l m z=ANS z):=⟨zbm l m,fun _=>rfl⟩
 simp only[HANS.out]
 go_enter func143,ntmps143
 go_wp2
 go_loopg [5,8] n (fun gg _ s8 wr=>∃kk:Nat,kk<=n/\n - kk<=gg/\s8=I6 kk/\Hid (zc w wr)/\Hid (∀(j:Nat) (q:Ar),j<kk->l[j]? =some q->inZ q m=false))
 case atStart=>exact⟨0,nZ _,by omega,rfl,zc.refl w,fun j q hj=>absurd hj (nL _)⟩
 obtain⟨kk,hkk,hg,rfl,BW,A⟩:=hrel
 by_cases hlt:kk<n
 ·have hltz:(kk:Int)< (n:Int):=by omega
  obtain⟨q,HQ⟩:∃q,Hid (l[kk]? =some q):=⟨_,gE (by rw[HN.out];exact hlt)⟩
  obtain⟨ad,rfl,hl⟩:=HR.out kk q HQ.out;obtain⟨d0,d1,d2,d3,d4,d5,d6⟩:=hl wr BW.out;have hcall:=zix q m p wr (HB.grew BW);clear hl
  cases hq:inZ q m with
  | true=>
   rw[hq]at hcall;have HF:Hid (ANS (kk:Int)):=dD<|by
    rw[<-HANS.out];exact .inl ⟨kk,q,rfl,HQ,hq⟩
   clear hq;go_wp2_with fail;refine hcall.mono ?_;rintro e W2 ⟨rfl,g2⟩;have G2:=dD (BW.trans g2);clear g2 hcall d0 d1 d2 d3 d4 d5 d6;go_wp2;go_ret;exact⟨⟨_,rfl,HF⟩,G2⟩
  | false=>
   rw[hq]at hcall;have HA:Hid (∀(j:Nat) (q:Ar),j<kk+1->l[j]? =some q->inZ q m=false):=dD<|fun j q' hj hq'=>by
    by_cases e:j=kk
    ·subst e;rw[HQ.out]at hq';cases hq';exact hq
    exact A j q' (by omega) hq'
   clear hq;go_wp2_with fail;refine hcall.mono ?_;rintro e W2 ⟨rfl,g2⟩;have G2:=dD (BW.trans g2);clear g2 hcall d0 d1 d2 d3 d4 d5 d6;go_wp2
   go_roundg (n -(kk+1))
   case measure=>omega
   exact⟨kk+1,by omega,by omega,by go_num,G2,HA⟩
 have hltz:¬(kk:Int)< (n:Int):=by omega
 have:kk=n:=by omega
 subst this;have HF:Hid (ANS (-1:Int)):=dD<|by
  rw[<-HANS.out];refine .inr ⟨rfl,fun x hx=>?_⟩
  obtain⟨j,hj⟩:=List.getElem?_of_mem hx;exact A j x (by rw[<-HN.out];exact(gS.1 hj).1) hj
 go_wp2;go_ret;exact⟨⟨_,rfl,HF⟩,BW⟩
theorem zjZ (v:Value) (l:List Ar) (m:Int) (w:World) (hv:zr arE w v l):
  Calls prog 100 #[v,I6 m] w fun e w'=>(∃z:Int,e= .returned (I6 z)/\zbm l m z)/\zc w w':=by
 have hmf:∀(fn:Fn) (first cap:Array Value) (w:World),(Instr.makeFunc fn first cap).run prog w= .ok (.func fn first cap) w:=fun _ _ _ _=>rfl
 have h1:Calls prog 143 #[v,.func (.func 144) #[] #[.pointer (some ⟨w.heap.size,0,none⟩)]] (w.alloc (.cells #[I6 m] 3)) fun e w'=>(∃z:Int,e= .returned (I6 z)/\zbm l m z)/\zc (w.alloc (.cells #[I6 m] 3)) w':=zdT v l m _ _ (Box.top w _ _ rfl) (hv.grew (za _ _))
 obtain⟨a,c,rfl,_⟩:=hv.ars;clear hv
 generalize l.length=n at h1⊢
 go_enter func100,ntmps100
 go_wp2_with fail;refine h1.mono ?_;rintro e W1 ⟨⟨z,rfl,hz⟩,g1⟩;have G1:Hid (zc w W1):=(za _ _).trans g1;have HZ:Hid (zbm l m z):=hz;clear g1 h1 hz;go_wp2;go_ret;exact⟨⟨_,rfl,HZ⟩,G1⟩
def jU (l:List Ar):Nat->Option Ar
 | 0=>none
 | k+1=>l[k]?
theorem zas (p:Option Ar) (a:Ar) (l:List Ar) (i:Nat):JE p (a :: l) i=if arW a≠0 then(arW a,(i:Int))else match p with | some b=>if a.fr<b.tz\/goB a b=true then(2,(i:Int))else JE (some a) l (i+1) | none=>JE (some a) l (i+1):=by
 cases p <;> rfl
theorem zhF {k:Nat} {q:Ar} {r:Int × Int} (h:JE (jU l k) (l.drop k) k=r) (hq:l[k]? =some q) (hz:arW q≠0):r=(arW q,(k:Int)):=by
 rw[qP hq,zas,if_pos hz]at h;exact h.symm
theorem zed {q:Ar} {r:Int × Int} (h:JE (jU l 0) (l.drop 0) 0=r) (hq:l[0]? =some q) (hz:arW q=0):JE (jU l 1) (l.drop 1) 1=r:=by
 rw[qP hq,zas,if_neg (fun h=>h hz)]at h
 simp only[jU]at h⊢;rw[hq];exact h
theorem zbv {b q:Ar} {r:Int × Int} (h:JE (jU l (j+1)) (l.drop (j+1)) (j+1)=r) (hb:l[j]? =some b) (hq:l[j+1]? =some q) (hz:arW q=0) (hc:q.fr<b.tz\/goB q b=true):r=(2,((j+1:Nat):Int)):=by
 rw[qP hq,zas,if_neg (fun h=>h hz)]at h
 simp only[jU,hb]at h;rw[if_pos hc]at h;exact h.symm
theorem zgi {b q:Ar} {r:Int × Int} (h:JE (jU l (j+1)) (l.drop (j+1)) (j+1)=r) (hb:l[j]? =some b) (hq:l[j+1]? =some q) (hz:arW q=0) (hc:¬q.fr<b.tz) (hc':goB q b=false):JE (jU l (j+1+1)) (l.drop (j+1+1)) (j+1+1)=r:=by
 rw[qP hq,zas,if_neg (fun h=>h hz)]at h
 simp only[jU,hb]at h;rw[if_neg (by rintro(h1 | h1);exact hc h1;rw[hc']at h1;cases h1)]at h
 simp only[jU,hq];exact h
theorem zhE {r:Int × Int} (h:JE (jU l l.length) (l.drop l.length) l.length=r):r=(0,0):=by
 rw[List.drop_length,JE]at h;exact h.symm
theorem zee (h:¬16<l.length):JE (jU l 0) (l.drop 0) 0=wrL l:=by
 unfold wrL;rw[if_neg h];rfl
theorem zfu (v:Value) (l:List Ar) (w:World) (hv:zr arE w v l):
  Calls prog 195 #[v] w fun e w'=>e= .returned (.agg #[I6 (wrL l).1,I6 (wrL l).2])/\zc w w':=by
 have hbig:=hv.short;obtain⟨a,c,rfl,hrow⟩:=hv.ars;have HR':Hid (zaU w a l):=hrow;have hwa:Hid (∀(q:Ar) W,Calls prog 222 #[.agg #[I6 q.fr,I6 q.tz,.bool q.rd,.bool q.wr,.bool q.sh,I6 q.file,I6 q.base]] W fun e w'=>e= .returned (I6 (arW q))/\zc W w'):=fun q W=>zdk q W
 have hgo:Hid (∀(q b:Ar) W,ju b->Calls prog 223 #[.agg #[I6 q.fr,I6 q.tz,.bool q.rd,.bool q.wr,.bool q.sh,I6 q.file,I6 q.base],.agg #[I6 b.fr,I6 b.tz,.bool b.rd,.bool b.wr,.bool b.sh,I6 b.file,I6 b.base]] W fun e w'=>e= .returned (.bool (goB q b))/\zc W w'):=fun q b W h=>zhg q b W h
 clear hrow hv;have HST:Hid (¬16<l.length->JE (jU l 0) (l.drop 0) 0=wrL l):=zee;have HMA:Hid (16<l.length->wrL l=(4,0)):=fun h=>by unfold wrL;rw[if_pos h]
 have HEND:Hid (∀r,JE (jU l l.length) (l.drop l.length) l.length=r->r=(0,0)):=fun r=>zhE
 obtain⟨n,HN⟩:∃n,Hid (l.length=n):=⟨_,rfl⟩;rw[HN.out]at hbig⊢;have HST':Hid (¬16<n->JE (jU l 0) (l.drop 0) 0=wrL l):=dD<|by rw[<-HN.out];exact HST.out
 have HMA':Hid (16<n->wrL l=(4,0)):=dD<|by rw[<-HN.out];exact HMA.out
 have HEND':Hid (∀r,JE (jU l n) (l.drop n) n=r->r=(0,0)):=dD<|by rw[<-HN.out];exact HEND.out
 skip
 generalize hA:wrL l=ANS at HST' HMA'⊢
 clear hA;obtain⟨W0,hW0⟩:∃W0,w.alloc (.cells #[I6 0,I6 0] 163)=W0:=⟨_,rfl⟩;have HG0:=gA hW0
 have X0:=xA hW0
 have HW0:Hid (_=W0):=hW0;clear hW0
 by_cases hmany:16<n
 ·have HR:Hid (ANS=(4,0)):=HMA'.out hmany;have hmz:(16:Int)< (n:Int):=by omega
  go_enter func195,ntmps195
  go_upto_region 1 with fail;rw[HW0.out];have f0:=X0.c 0 rfl;have f1:=X0.c 1 rfl;have ff:=X0.f;have RB:Hid (Box ((W0.setCell ⟨w.heap.size,0,none⟩ (I6 4)).setCell ⟨w.heap.size,1,none⟩ (I6 0)) w.heap.size [I6 4,I6 0]):=dD<|(X0.set 0 _).set 1 _
  have RG:Hid (zc w ((W0.setCell ⟨w.heap.size,0,none⟩ (I6 4)).setCell ⟨w.heap.size,1,none⟩ (I6 0))):=dD<|zu (zu HG0 (by simp) _) (by simp) _
  go_wp2;refine bodyPost_ret (qd (vs:=[I6 4,I6 0]) rfl _ rfl RB underlying163 rfl zmb) rfl ⟨?_,RG⟩;rw[HR.out]
 have hmz:¬(16:Int)< (n:Int):=by omega
 have HI:Hid (JE (jU l 0) (l.drop 0) 0=ANS):=HST'.out hmany
 go_enter func195,ntmps195
 go_upto_region 1 with fail;rw[HW0.out];go_wp2
 go_loopg [12] n (fun gg s12 wr=>∃kk:Nat,kk<=n/\n - kk<=gg/\s12=I6 kk/\Hid (zc w wr)/\Hid (Box wr w.heap.size [I6 0,I6 0])/\Hid (JE (jU l kk) (l.drop kk) kk=ANS)/\Hid (∀(j:Nat) q,j<kk->l[j]? =some q->ju q))
 case atStart=>exact⟨0,nZ _,by omega,rfl,HG0,X0,HI,fun j q hj=>absurd hj (nL _)⟩
 obtain⟨kk,hkk,hg,rfl,BW,FW,IW,OW⟩:=hrel
 by_cases hlt:kk<n
 ·have hltz:(kk:Int)< (n:Int):=by omega
  obtain⟨q,HQ⟩:∃q,Hid (l[kk]? =some q):=⟨_,gE (by rw[HN.out];exact hlt)⟩
  obtain⟨ad,rfl,hl⟩:=HR'.out kk q HQ.out;obtain⟨d0,d1,d2,d3,d4,d5,d6⟩:=hl wr BW.out;have HL:Hid (w.heap.size<wr.heap.size):=FW.lt;obtain⟨p,HP⟩:∃p,Hid (wr.heap.size=p):=⟨_,rfl⟩;have HLP:Hid (w.heap.size<p):=show _<_ by rw[<-HP.out];exact HL.out
  clear hl;go_upto_region 6 with fail;obtain⟨W1,hW1⟩:∃W1,wr.alloc (.cells #[I6 q.fr,I6 q.tz,.bool q.rd,.bool q.wr,.bool q.sh,I6 q.file,I6 q.base] 114)=W1:=⟨_,rfl⟩;have G1:=gT hW1 BW
  have F1:=yA hW1 FW
  have P1:=xP hW1 HP
  rw[hW1,HP.out];clear hW1 d0 d1 d2 d3 d4 d5 d6
  go_wp2_with (refine zO rfl 114 (.tmp 4) rfl p rfl P1 underlying114 rfl zma ?_)
  refine(hwa.out q _).mono ?_;rintro e W2 ⟨rfl,g2⟩;have G2:=dD (G1.trans g2);have F2:=dD (F1.grew g2);have P2:=dD (P1.grew g2);clear g2;have hpne:p≠w.heap.size:=by have:=HLP.out;omega
  have hpne':w.heap.size≠p:=by have:=HLP.out;omega
  by_cases hz:arW q=0
  ·have HZ:Hid (arW q=0):=hz;have hzb:(arW q != 0)=false:=by simp[hz]
   have HOK:Hid (ju q):=Zw.1 hz;have OW':Hid (∀(j:Nat) x,j<kk+1->l[j]? =some x->ju x):=show∀(j:Nat) x,_ from fun j x hj hx=>by
    by_cases e:j=kk
    ·subst e;rw[HQ.out]at hx;cases hx;exact HOK.out
    exact OW j x (by omega) hx
   clear hz;go_upto_region 9 with fail
   generalize arW q=zq
   cases kk with
   | zero=>
    have HNX:Hid (JE (jU l 1) (l.drop 1) 1=ANS):=zed IW HQ HZ.out;have hz0:¬(0:Int)< ((0:Nat):Int):=by decide
    have hz1:decide ((0:Int)< ((0:Nat):Int))=false:=by decide
    go_quiet (fail);go_wp2
    go_roundg (n - 1)
    case measure=>omega
    exact⟨1,by omega,by omega,by go_num,G2.trans (show Below _ _ _ from bD (bR _ _) _),F2.grew (show Below _ _ _ from bD (bR _ _) _),HNX,OW'⟩
   | succ j=>
    obtain⟨b,HB⟩:∃b,Hid (l[j]? =some b):=⟨_,gE (by rw[HN.out];omega)⟩
    have HBK:Hid (ju b):=OW.out j b (by omega) HB.out
    have hz0:(0:Int)< ((j+1:Nat):Int):=by omega
    have hz1:decide ((0:Int)< ((j+1:Nat):Int))=true:=by simp
    have hj1:((j+1:Nat):Int) - 1=(j:Int):=by omega
    have hjn:(j:Int)< (n:Int):=by omega
    obtain⟨ad',had,hl⟩:=HR'.out j b HB.out;obtain rfl:ad=ad':=by cases had;rfl
    by_cases hc:q.fr<b.tz
    ·have HR:Hid (ANS=(2,((j+1:Nat):Int))):=zbv IW HB HQ HZ (.inl hc);have hcd:decide (q.fr<b.tz)=true:=by simpa using hc
     obtain⟨e0,e1,e2,e3,e4,e5,e6⟩:=hl W2 G2.out;have p0:=P2.c 0 rfl;clear hl;go_quiet (fail);obtain⟨W3,hW3⟩:∃W3,W2.drewN nq=W3:=⟨_,rfl⟩;have G3:Hid (zc w W3):=dD<|by rw[<-hW3];exact G2.trans (show Below _ _ _ from bD (bR _ _) _)
     have F3:Hid (Box W3 w.heap.size [I6 0,I6 0]):=dD<|by rw[<-hW3];exact F2.grew (show Below _ _ _ from bD (bR _ _) _)
     rw[hW3];clear hW3 e0 e1 e2 e3 e4 e5 e6 p0;have f0:=F3.c 0 rfl;have f1:=F3.c 1 rfl;have ff:=F3.f;have RB:Hid (Box ((W3.setCell ⟨w.heap.size,0,none⟩ (I6 2)).setCell ⟨w.heap.size,1,none⟩ (I6 ((j+1:Nat):Int))) w.heap.size [I6 2,I6 ((j+1:Nat):Int)]):=dD<|(F3.set 0 _).set 1 _
     have RG:Hid (zc w ((W3.setCell ⟨w.heap.size,0,none⟩ (I6 2)).setCell ⟨w.heap.size,1,none⟩ (I6 ((j+1:Nat):Int)))):=dD<|zu (zu G3 (by simp) _) (by simp) _
     go_wp2;refine bodyPost_ret (qd (vs:=[I6 2,I6 ((j+1:Nat):Int)]) rfl _ rfl RB underlying163 rfl zmb) rfl ⟨?_,RG⟩;rw[HR.out]
    have hcd:decide (q.fr<b.tz)=false:=by simpa using hc
    have HC:Hid (¬q.fr<b.tz):=hc;have hx0:=P2.gw 0 rfl
    have hx1:=P2.gw 1 rfl
    have hx2:=P2.gw 2 rfl
    have hx3:=P2.gw 3 rfl
    have hx4:=P2.gw 4 rfl
    have hx5:=P2.gw 5 rfl
    have hx6:=P2.gw 6 rfl
    have hy0:∀y:zh W2,y.world.cell? (ad.add (j*7))=some (I6 b.fr):=fun y=>(hl _ (G2.trans y.grew)).1
    have hy1:∀y:zh W2,y.world.cell? { block:=(ad.add (j*7)).block,off:=(ad.add (j*7)).off+1 }=some (I6 b.tz):=fun y=>(hl _ (G2.trans y.grew)).2.1
    have hy2:∀y:zh W2,y.world.cell? { block:=(ad.add (j*7)).block,off:=(ad.add (j*7)).off+2 }=some (.bool b.rd):=fun y=>(hl _ (G2.trans y.grew)).2.2.1
    have hy3:∀y:zh W2,y.world.cell? { block:=(ad.add (j*7)).block,off:=(ad.add (j*7)).off+3 }=some (.bool b.wr):=fun y=>(hl _ (G2.trans y.grew)).2.2.2.1
    have hy4:∀y:zh W2,y.world.cell? { block:=(ad.add (j*7)).block,off:=(ad.add (j*7)).off+4 }=some (.bool b.sh):=fun y=>(hl _ (G2.trans y.grew)).2.2.2.2.1
    have hy5:∀y:zh W2,y.world.cell? { block:=(ad.add (j*7)).block,off:=(ad.add (j*7)).off+5 }=some (I6 b.file):=fun y=>(hl _ (G2.trans y.grew)).2.2.2.2.2.1
    have hy6:∀y:zh W2,y.world.cell? { block:=(ad.add (j*7)).block,off:=(ad.add (j*7)).off+6 }=some (I6 b.base):=fun y=>(hl _ (G2.trans y.grew)).2.2.2.2.2.2
    have hne:Nonempty (zh W2):=⟨⟨_,zc.refl _⟩⟩;clear hl;refine j4 [(19,⟨fun v=>v= .bool (goB q b),fun _ _=>True⟩)] qh (by kernel_rfl) ?_ ?_ ?_
    ·intro x hx
     simp at hx
     subst hx;exact⟨_,rfl⟩
    ·intro x hx
     simp at hx
     subst hx;exact fun _ _ _ _ h=>h
    iterate 19 (refine zi rfl rfl rfl (fun K hK=>?_);go_big_quiet_op;refine hK _ ?_;clear hK)
    refine zK rfl rfl (fun w' hg hF=>?_) (fun v1 hv=>?_)
    ·refine zN.call [.agg #[I6 q.fr,I6 q.tz,.bool q.rd,.bool q.wr,.bool q.sh,I6 q.file,I6 q.base],.agg #[I6 b.fr,I6 b.tz,.bool b.rd,.bool b.wr,.bool b.sh,I6 b.file,I6 b.base]] rfl func223 rfl rfl rfl ?_;refine(hgo.out q b w' HBK).mono ?_;rintro e w'' ⟨rfl,hg2⟩;exact⟨_,rfl,hg2,rfl,trivial⟩
    subst hv;simp only[Act.put,sB,sS,sZ];iterate 2 (refine zi rfl rfl rfl (fun K hK=>?_);go_big_quiet_op;refine hK _ ?_;clear hK)
    refine qF fun W3 hg1 hF=>?_
    have G3:=dD (G2.trans hg1);have F3:=dD (F2.grew hg1);clear hg1 hF hx0 hx1 hx2 hx3 hx4 hx5 hx6 hy0 hy1 hy2 hy3 hy4 hy5 hy6 hne
    cases hgb:goB q b with
    | true=>
     have HR:Hid (ANS=(2,((j+1:Nat):Int))):=zbv IW HB HQ HZ (.inr hgb);clear hgb;have f0:=F3.c 0 rfl;have f1:=F3.c 1 rfl;have ff:=F3.f;have RB:Hid (Box ((W3.setCell ⟨w.heap.size,0,none⟩ (I6 2)).setCell ⟨w.heap.size,1,none⟩ (I6 ((j+1:Nat):Int))) w.heap.size [I6 2,I6 ((j+1:Nat):Int)]):=show Box _ _ _ from(F3.set 0 _).set 1 _
     have RG:Hid (zc w ((W3.setCell ⟨w.heap.size,0,none⟩ (I6 2)).setCell ⟨w.heap.size,1,none⟩ (I6 ((j+1:Nat):Int)))):=dD<|zu (zu G3 (by simp) _) (by simp) _
     go_wp2;refine bodyPost_ret (qd (vs:=[I6 2,I6 ((j+1:Nat):Int)]) rfl _ rfl RB underlying163 rfl zmb) rfl ⟨?_,RG⟩;rw[HR.out]
    | false=>
     have HNX:Hid (JE (jU l (j+1+1)) (l.drop (j+1+1)) (j+1+1)=ANS):=zgi IW HB HQ HZ HC hgb;clear hgb;go_wp2
     go_roundg (n -(j+1+1))
     case measure=>omega
     exact⟨j+1+1,by omega,by omega,by go_num,G3,F3,HNX,OW'⟩
  have HR:Hid (ANS=(arW q,(kk:Int))):=zhF IW HQ hz;have hzb:(arW q != 0)=true:=by simp[hz]
  clear hz;have f0:=F2.c 0 rfl;have f1:=F2.c 1 rfl;have ff:=F2.f;have RB:Hid (Box ((W2.setCell ⟨w.heap.size,0,none⟩ (I6 (arW q))).setCell ⟨w.heap.size,1,none⟩ (I6 (kk:Int))) w.heap.size [I6 (arW q),I6 (kk:Int)]):=dD<|(F2.set 0 _).set 1 _
  have RG:Hid (zc w ((W2.setCell ⟨w.heap.size,0,none⟩ (I6 (arW q))).setCell ⟨w.heap.size,1,none⟩ (I6 (kk:Int)))):=dD<|zu (zu G2 (by simp) _) (by simp) _
  go_wp2;refine bodyPost_ret (qd (vs:=[I6 (arW q),I6 (kk:Int)]) rfl _ rfl RB underlying163 rfl zmb) rfl ⟨?_,RG⟩;rw[HR.out]
 have hltz:¬(kk:Int)< (n:Int):=by omega
 have:kk=n:=by omega
 subst this;have HR:Hid (ANS=(0,0)):=HEND'.out _ IW.out;have f0:=FW.c 0 rfl;have f1:=FW.c 1 rfl;have ff:=FW.f;have RB:Hid (Box ((wr.setCell ⟨w.heap.size,0,none⟩ (I6 0)).setCell ⟨w.heap.size,1,none⟩ (I6 0)) w.heap.size [I6 0,I6 0]):=show Box _ _ _ from(FW.set 0 _).set 1 _
 have RG:Hid (zc w ((wr.setCell ⟨w.heap.size,0,none⟩ (I6 0)).setCell ⟨w.heap.size,1,none⟩ (I6 0))):=dD<|zu (zu BW (by simp) _) (by simp) _
 go_wp2;refine bodyPost_ret (qd (vs:=[I6 0,I6 0]) rfl _ rfl RB underlying163 rfl zmb) rfl ⟨?_,RG⟩;rw[HR.out]
theorem zd1 (e:En) (l:List En):esW (e :: l)=if enW e=0 then esW l else enW e:=rfl
theorem zgl (h:List En) (t:List (List En)):tbW (h :: t)=if haW h=0 then tbW t else haW h:=rfl
theorem zij {h:List En} (h8:h.length=8):haW h=if esW h=0 then(if Zd h=true then 0 else 2)else esW h:=by
 unfold haW;rw[if_neg (by omega),if_pos h8]
theorem zdi (v:Value) (fs:List En) (w:World) (hv:zr enE w v fs):
  Calls prog 206 #[v] w fun e w'=>e= .returned (I6 (haW fs))/\zc w w':=by
 have hbig:=hv.short;have HV:Hid (zr enE w v fs):=hv;obtain⟨a,c,rfl,hrow⟩:=hv.ens;have HR:Hid (zdf w a fs):=hrow;clear hrow hv;obtain⟨n,HN⟩:∃n,Hid (fs.length=n):=⟨_,rfl⟩;obtain⟨Z,HZ⟩:∃Z,Hid (haW fs=Z):=⟨_,rfl⟩;rw[HN.out]at hbig HV⊢;rw[HZ.out]
 by_cases h0:n=0
 ·have HF:Hid (Z=0):=dD<|by rw[<-HZ.out];unfold haW;rw[if_pos (by rw[HN.out];exact h0)]
  subst h0
  go_enter func206,ntmps206
  go_wp2;go_ret;exact⟨by rw[HF.out];rfl,zc.refl _⟩
 have h0b:((n:Int) == 0)=false:=by simpa using h0
 by_cases h8:n=8
 ·have H8:=dD (HN.trans h8);have h8b:((n:Int) != 8)=false:=by simp[h8]
  clear h0 h8;have hcon:=fun W (hW:zc w W)=>Zl (.slice a n c) fs W (HV.grew hW)
  go_enter func206,ntmps206
  go_wp2
  go_loopg [14] n (fun gg s14 wr=>∃kk:Nat,kk<=n/\n - kk<=gg/\s14=I6 kk/\Hid (zc w wr)/\Hid (esW (fs.drop kk)=esW fs))
  case atStart=>exact⟨0,nZ _,by omega,rfl,zc.refl w,rfl⟩
  obtain⟨kk,hkk,hg,rfl,BW,AW⟩:=hrel
  by_cases hlt:kk<n
  ·have hltz:(kk:Int)< (n:Int):=by omega
   obtain⟨q,HQ⟩:∃q,Hid (fs[kk]? =some q):=⟨_,gE (by rw[HN.out];exact hlt)⟩
   obtain⟨ad,rfl,hl⟩:=HR.out kk q HQ.out;obtain⟨d0,d1,d2⟩:=hl wr BW.out;obtain⟨W2,hW2⟩:∃W2,wr.alloc (.cells #[I6 q.kind,I6 q.n,.bool q.wr] 74)=W2:=⟨_,rfl⟩;have GA:=gT hW2 BW
   have HW2:Hid (_=W2):=hW2;have hcall:=JQ q.kind q.n q.wr W2;have HST:Hid (esW (fs.drop kk)=if enW ⟨q.kind,q.n,q.wr⟩=0 then esW (fs.drop (kk+1))else enW ⟨q.kind,q.n,q.wr⟩):=show _=_ by rw[qP HQ.out,zd1]
   clear hl hW2
   generalize enW ⟨q.kind,q.n,q.wr⟩=z at hcall HST
   by_cases hz:z=0
   ·have HA:Hid (esW (fs.drop (kk+1))=esW fs):=dD<|by rw[<-AW.out,HST.out,if_pos hz]
    subst hz;go_wp2_with fail;rw[HW2.out];refine hcall.mono ?_;rintro e W3 ⟨rfl,k1⟩;have G3:=dD (GA.trans k1);clear k1 hcall d0 d1 d2;go_wp2
    go_roundg (n -(kk+1))
    case measure=>omega
    exact⟨kk+1,by omega,by omega,by go_num,G3,HA⟩
   have hzb:(z != 0)=true:=by simpa using hz
   have HF:Hid (Z=z):=dD<|by
    have h1:=AW.out;rw[HST.out,if_neg hz]at h1;rw[<-HZ.out,zij H8.out,<-h1,if_neg hz]
   go_wp2_with fail;rw[HW2.out];refine hcall.mono ?_;rintro e W3 ⟨rfl,k1⟩;have G3:=dD (GA.trans k1);clear k1 hcall d0 d1 d2;go_wp2;go_ret;exact⟨by rw[HF.out];rfl,G3⟩
  have hltz:¬(kk:Int)< (n:Int):=by omega
  have:kk=n:=by omega
  subst this;have HE:Hid (esW fs=0):=dD<|by
   rw[<-AW.out,List.drop_of_length_le (by rw[HN.out];exact nR _)]
   rfl
  have hcall:=hcon wr BW.out;have HST:Hid (Z=if Zd fs=true then 0 else 2):=dD<|by rw[<-HZ.out,zij H8.out,HE.out,if_pos rfl]
  generalize Zd fs=A at hcall HST
  clear hcon
  cases A with
  | true=>
   go_wp2_with fail;refine hcall.mono ?_;rintro e W3 ⟨rfl,k1⟩;have G3:=dD (BW.trans k1);clear k1 hcall;go_wp2;go_ret;exact⟨by rw[HST.out];rfl,G3⟩
  | false=>
   go_wp2_with fail;refine hcall.mono ?_;rintro e W3 ⟨rfl,k1⟩;have G3:=dD (BW.trans k1);clear k1 hcall;go_wp2;go_ret;exact⟨by rw[HST.out];rfl,G3⟩
 have h8b:((n:Int) != 8)=true:=by simp;omega
 have HF:Hid (Z=2):=dD<|by rw[<-HZ.out];unfold haW;rw[if_neg (by rw[HN.out];exact h0),if_neg (by rw[HN.out];exact h8)]
 clear h0 h8
 go_enter func206,ntmps206
 go_wp2;go_ret;exact⟨by rw[HF.out];rfl,zc.refl _⟩
theorem zbI (vs:List Value) (t:List (List En)) (w:World) (hv:Zx w vs t):
  Calls prog 177 #[.agg vs.toArray] w fun e w'=>e= .returned (I6 (tbW t))/\zc w w':=by
 have HV:Hid (Zx w vs t):=hv;have HL:Hid (vs.length=8):=hv.len;clear hv;obtain⟨Z,HZ⟩:∃Z,Hid (tbW t=Z):=⟨_,rfl⟩;rw[HZ.out];obtain⟨W0,hW0⟩:∃W0,w.alloc (.cells vs.toArray 53)=W0:=⟨_,rfl⟩;have HG0:=gA hW0
 have X0:=xA hW0
 have HW0:Hid (_=W0):=hW0;clear hW0
 go_enter func177,ntmps177
 go_upto_region 1 with fail;rw[HW0.out]
 go_wp2_with (refine qA rfl (.tmp 1) rfl w.heap.size rfl X0 HL.out ?_)
 go_loopg [7] 8 (fun gg s7 wr=>∃kk:Nat,kk<=8/\8 - kk<=gg/\s7=I6 kk/\Hid (zc w wr)/\Hid (tbW (t.drop kk)=tbW t))
 case atStart=>exact⟨0,nZ _,by omega,rfl,HG0,rfl⟩
 obtain⟨kk,hkk,hg,rfl,BW,AW⟩:=hrel
 by_cases hlt:kk<8
 ·have hltz:(kk:Int)<8:=by omega
  obtain⟨xa,xc,q,hq,hvk,hr⟩:=HV.half hlt;have HQ:Hid (t[kk]? =some q):=hq;have HVK:Hid (vs[kk]? =some (.slice xa q.length xc)):=hvk;have hcall:=zdi (.slice xa q.length xc) q wr (hr.grew BW);have HST:Hid (tbW (t.drop kk)=if haW q=0 then tbW (t.drop (kk+1))else haW q):=show _=_ by rw[qP HQ.out,zgl]
  clear hq hvk hr
  generalize haW q=z at hcall HST
  generalize q.length=nq at hcall HVK
  by_cases hz:z=0
  ·have HA:Hid (tbW (t.drop (kk+1))=tbW t):=dD<|by rw[<-AW.out,HST.out,if_pos hz]
   subst hz
   go_wp2_with (refine zbP rfl (.tmp 6) (.tmp 7) rfl vs rfl kk rfl hlt HVK.out ?_)
   refine hcall.mono ?_;rintro e W3 ⟨rfl,k1⟩;have G3:=dD (BW.trans k1);clear k1 hcall;go_wp2
   go_roundg (8 -(kk+1))
   case measure=>omega
   exact⟨kk+1,by omega,by omega,by go_num,G3,HA⟩
  have hzb:(z != 0)=true:=by simpa using hz
  have HF:Hid (Z=z):=dD<|by
   have h1:=AW.out;rw[HST.out,if_neg hz]at h1;rw[<-HZ.out,<-h1]
  skip
  go_wp2_with (refine zbP rfl (.tmp 6) (.tmp 7) rfl vs rfl kk rfl hlt HVK.out ?_)
  refine hcall.mono ?_;rintro e W3 ⟨rfl,k1⟩;have G3:=dD (BW.trans k1);clear k1 hcall;go_wp2;go_ret;exact⟨by rw[HF.out];rfl,G3⟩
 have hltz:¬(kk:Int)<8:=by omega
 have:kk=8:=by omega
 subst this;have HF:Hid (Z=0):=dD<|by
  rw[<-HZ.out,<-AW.out,List.drop_of_length_le (by rw[HV.tlen];exact nR _)]
  rfl
 go_wp2;go_ret;exact⟨by rw[HF.out];rfl,BW⟩
def enV (e:En):Value:= .agg #[I6 e.kind,I6 e.n,.bool e.wr]
theorem zcV {n:Int} (h0:0<=n) (h1:n<64):∃i k:Nat,i<8/\k<8/\n=8*i+k/\n / 8=(i:Int)/\n % 8=(k:Int)/\n.tdiv 8=(i:Int)/\n.tmod 8=(k:Int)/\n.toNat / 8=i/\n.toNat % 8=k:=by
 refine⟨n.toNat / 8,n.toNat % 8,by omega,by omega,by omega,by omega,by omega,?_,?_,rfl,rfl⟩
 ·rw[Int.tdiv_eq_ediv_of_nonneg h0];omega
 rw[Int.tmod_eq_emod_of_nonneg h0];omega
theorem zaI (vs:List Value) (t:List (List En)) (n:Int) (w:World) (hv:Zx w vs t):
  Calls prog 104 #[.agg vs.toArray,I6 n] w fun e w'=>e= .returned (enV (zf1 t n))/\zc w w':=by
 have HV:Hid (Zx w vs t):=hv;have HL:Hid (vs.length=8):=hv.len;clear hv;obtain⟨Z,HZ⟩:∃Z,Hid (zf1 t n=Z):=⟨_,rfl⟩;rw[HZ.out];obtain⟨W0,hW0⟩:∃W0,(w.alloc (.cells vs.toArray 53)).alloc (.cells #[I6 0,I6 0,.bool false] 74)=W0:=⟨_,rfl⟩;have HG0:=gD2 hW0
 have X0:=x2a hW0
 have Y0:=x2b hW0
 have HW0:Hid (_=W0):=hW0;clear hW0;have three:∀(W:World) (u v x:Value),Box W (w.heap.size+1) [I6 0,I6 0,.bool false]->zc w W->zc w (((W.setCell ⟨w.heap.size+1,0,none⟩ u).setCell ⟨w.heap.size+1,1,none⟩ v).setCell ⟨w.heap.size+1,2,none⟩ x):=fun W u v x _ hg=>
  Below.setCell (Below.setCell (Below.setCell hg (p:=⟨w.heap.size+1,0,none⟩) (by simp) _) (p:=⟨w.heap.size+1,1,none⟩) (by simp) _) (p:=⟨w.heap.size+1,2,none⟩) (by simp) _
 have HT:Hid (∀(W:World) (u v x:Value),Box W (w.heap.size+1) [I6 0,I6 0,.bool false]->zc w W->zc w (((W.setCell ⟨w.heap.size+1,0,none⟩ u).setCell ⟨w.heap.size+1,1,none⟩ v).setCell ⟨w.heap.size+1,2,none⟩ x)):=three;clear three;obtain⟨y0,y1,y2⟩:=Y0.c3;have yf:=Y0.f
 by_cases hn:0<=n/\n<64
 ·obtain⟨h0,h1⟩:=hn;obtain⟨i,k,hi,hk,hnk,q1,q2,q3,q4,q5,q6⟩:=zcV h0 h1;have hb:=fun W=>QF (m:=n) (n:=64) h0 h1 W
  obtain⟨xa,xc,q,hq,hvk,hr⟩:=HV.half hi;have HF:Hid (Z=q[k]?.getD en0):=dD<|by
   rw[<-HZ.out];unfold zf1;rw[if_pos ⟨h0,h1⟩,q5,q6];unfold zaJ;rw[hq];rfl
  have x0:=X0.c i hvk;obtain⟨_,_,heq,hens⟩:=hr.ens;cases heq;have HE:Hid (zdf w xa q):=hens;have hiz:(i:Int)<8:=by omega
  clear hens hr hq hvk q5 q6 hnk;obtain⟨nq,HNQ⟩:∃nq,Hid (q.length=nq):=⟨_,rfl⟩;rw[HNQ.out]at x0
  by_cases hkq:k<nq
  ·obtain⟨e,HE1⟩:∃e,Hid (q[k]? =some e):=⟨_,gE (by rw[HNQ.out];exact hkq)⟩
   obtain⟨ad,rfl,hl⟩:=HE.out k e HE1.out;obtain⟨d0,d1,d2⟩:=hl W0 HG0.out;have HF':Hid (Z=e):=dD<|by rw[HF.out,HE1.out];rfl
   have hkz:¬(nq:Int)<=(k:Int):=by omega
   have hkd:decide ((nq:Int)<=(k:Int))=false:=decide_eq_false hkz;have hklt:(k:Int)< (nq:Int):=by omega
   clear hl
   go_enter func104,ntmps104
   go_wp2_with fail;rw[HW0.out];refine(hb _).mono ?_;rintro e w' ⟨rfl,hw'⟩;rw[hw'];clear hw' w';go_wp2;refine bodyPost_ret (v:= .agg #[I6 e.kind,I6 e.n,.bool e.wr]) (by simp[results,Tryz.results104,go_sem, *]) rfl ⟨?_,?_⟩
   ·rw[HF'.out];rfl
   exact HT _ _ _ _ Y0 HG0.out
  have HF':Hid (Z=en0):=dD<|by rw[HF.out,gN (by rw[HNQ.out];omega)];rfl
  have hkz:(nq:Int)<=(k:Int):=by omega
  go_enter func104,ntmps104
  go_wp2_with fail;rw[HW0.out];refine(hb _).mono ?_;rintro e w' ⟨rfl,hw'⟩;rw[hw'];clear hw' w';go_wp2;refine bodyPost_ret (v:= .agg #[I6 0,I6 0,.bool false]) (by simp[results,Tryz.results104,go_sem, *]) rfl ⟨?_,?_⟩
  ·rw[HF'.out];rfl
  exact HT _ _ _ _ Y0 HG0.out
 have hb:=fun W=>zaR (m:=n) (n:=64) hn W
 have HF:Hid (Z=en0):=dD<|by rw[<-HZ.out];unfold zf1;rw[if_neg hn]
 clear hn
 go_enter func104,ntmps104
 go_wp2_with fail;rw[HW0.out];refine(hb _).mono ?_;rintro e w' ⟨rfl,hw'⟩;rw[hw'];clear hw' w';go_wp2;refine bodyPost_ret (v:= .agg #[I6 0,I6 0,.bool false]) (by simp[results,Tryz.results104,go_sem, *]) rfl ⟨?_,?_⟩
 ·rw[HF.out];rfl
 exact HT _ _ _ _ Y0 HG0.out
def Ze (_:En):Bool:=true
theorem zg7 (k n:Int) (b:Bool) (w:World):
  Calls prog 137 #[.agg #[I6 k,I6 n,.bool b]] w fun e w'=>e= .returned (.bool true)/\zc w w':=by
 go_enter func137,ntmps137
 go_wp2;go_ret;exact⟨rfl,za _ _⟩
theorem zdw (vs:List Value) (t:List (List En)) (w:World) (hv:Zx w vs t):
  Calls prog 136 #[.agg vs.toArray,.func (.func 137) #[] #[]] w fun e w'=>∃v,e= .returned v/\zb blE w.heap.size w' v (qo t Ze 64)/\zc w w':=by
 have HV:Hid (Zx w vs t):=hv;have HL:Hid (vs.length=8):=hv.len;clear hv;obtain⟨W0,hW0⟩:∃W0,w.alloc (.cells vs.toArray 53)=W0:=⟨_,rfl⟩;have HG0:=gA hW0
 have X0:=xA hW0
 have HW0:Hid (_=W0):=hW0;clear hW0;obtain⟨PG,HPG⟩:∃PG,Hid (qo t Ze=PG):=⟨_,rfl⟩;have HP0:Hid (PG 0=[]):=show _=_ by rw[<-HPG.out];rfl
 have HPS:Hid (∀m:Nat,m<64->PG (m+1)=if enS (zf1 t (m:Int)) && Ze (zf1 t (m:Int))then PG m++ [(m:Int)]else PG m):=dD<|fun m hm=>by
  rw[<-HPG.out,zbg];have:zf1 t (m:Int)=zaJ t (m / 8) (m % 8):=by unfold zf1;rw[if_pos (by omega),tN]
  rw[this]
 have HPL:Hid (∀m,(PG m).length<=m):=dD<|fun m=>by rw[<-HPG.out];exact zbY _ _ _
 rw[HPG.out];have eg:=enters_of func137 (by kernel_rfl) rfl
 go_enter func136,ntmps136
 go_upto_region 1 with fail;rw[HW0.out];go_wp2
 go_loopg [5,8] 64 (fun gg s5 s8 wr=>∃(kk:Nat) (a5:Option Addr) (n5 c5:Nat),kk<=64/\64 - kk<=gg/\s8=I6 kk/\s5= .slice a5 n5 c5/\Hid (zc W0 wr)/\Hid (zb blE W0.heap.size wr (.slice a5 n5 c5) (PG kk)))
 case atStart=>exact⟨0,none,0,0,nZ _,by omega,rfl,rfl,zc.refl _,by rw[HP0.out];exact zb.nil _ _ _⟩
 obtain⟨kk,a5,n5,c5,hkk,hg,rfl,rfl,BW,OW⟩:=hrel
 by_cases hlt:kk<64
 ·have hltz:(kk:Int)<64:=by omega
  have hget:=zaI vs t (kk:Int) wr (HV.grew (HG0.trans BW));have XW:=dD (X0.grew BW);have HST:=HPS.out kk hlt;obtain⟨x,HX⟩:∃x,Hid (zf1 t (kk:Int)=x):=⟨_,rfl⟩;rw[HX.out]at hget HST;have HST':Hid (PG (kk+1)=if enS x && Ze x then PG kk++ [(kk:Int)]else PG kk):=HST;obtain⟨xk,xn,xb⟩:=x
  go_wp2_with (refine qA rfl (.tmp 2) rfl w.heap.size rfl XW HL.out ?_)
  refine hget.mono ?_;rintro e W2 ⟨rfl,g2⟩;have G2:=dD (BW.trans g2);have O2:=dD (OW.grew g2);clear g2 hget;simp only[enV];go_upto_region 6 with fail;obtain⟨px,hpx⟩:∃px,W2.heap.size=px:=⟨_,rfl⟩;obtain⟨W3,hW3⟩:∃W3,W2.alloc (.cells #[I6 xk,I6 xn,.bool xb] 74)=W3:=⟨_,rfl⟩;have G3:=gT hW3 G2
  have O3:Hid (zb blE W0.heap.size W3 (.slice a5 n5 c5) (PG kk)):=dD<|by rw[<-hW3];exact O2.grew (za _ _)
  have P3:Hid (Box W3 px [I6 xk,I6 xn,.bool xb]):=dD<|by rw[<-hW3];exact Box.top _ _ _ hpx.symm
  rw[hW3];rw[hpx];clear hW3 hpx;obtain⟨p0,p1,p2⟩:=P3.c3;have his:=zcX xk xn xb W3
  cases hs:enS ⟨xk,xn,xb⟩with
  | false=>
   have HN:Hid (PG (kk+1)=PG kk):=dD<|by rw[HST'.out,hs];rfl
   rw[hs]at his;clear hs;go_wp2_with fail;refine his.mono ?_;rintro e W4 ⟨rfl,g4⟩;have G4:=dD (G3.trans g4);have O4:Hid (zb blE W0.heap.size W4 (.slice a5 n5 c5) (PG (kk+1))):=show zb _ _ _ _ _ by rw[HN.out];exact O3.grew g4
   clear g4 his p0 p1 p2;go_wp2
   go_roundg (64 -(kk+1))
   case measure=>omega
   exact⟨kk+1,a5,n5,c5,by omega,by omega,by go_num,rfl,G4,O4⟩
  | true=>
   rw[hs]at his;have HST2:Hid (PG (kk+1)=if Ze ⟨xk,xn,xb⟩=true then PG kk++ [(kk:Int)]else PG kk):=dD<|by rw[HST'.out,hs];rfl
   clear hs;go_wp2_with fail;refine his.mono ?_;rintro e W4 ⟨rfl,g4⟩;have G4:=dD (G3.trans g4);have O4:=dD (O3.grew g4);have P4:=dD (P3.grew g4);clear g4 his p0 p1 p2;obtain⟨p0,p1,p2⟩:=P4.c3;have hcl:=zg7 xk xn xb W4;rw[if_pos (show Ze ⟨xk,xn,xb⟩=true from rfl)]at HST2
   go_wp2_with fail;refine hcl.mono ?_;rintro e W5 ⟨rfl,g5⟩;have G5:=dD (G4.trans g5);have O5:=dD (O4.grew g5);clear g5 hcl p0 p1 p2;have HR1:Hid (zr blE (W5.alloc (.cells #[I6 (kk:Int)] 3)) (.slice (some ⟨W5.heap.size,0,none⟩) 1 1) [(kk:Int)]):=jY blE W5 (kk:Int) _ _ rfl (by decide)
   go_wp2_with (at_builtin;refine zD (E:=blE) rfl (.tmp 21) (.tmp 23) rfl W0.heap.size _ (PG kk) rfl (O5.grew (za _ _)) _ [(kk:Int)] rfl HR1.out ?qb ?qc ?_)
   case qb=>
    have:=HPL.out kk
    show(_+1)*8<=_
    omega
   case qc=>
    have:=bS G5.out;simp;omega
   intro v6 W6 ow6 gr6;obtain⟨a6,c6,rfl⟩:=ow6.form;have O6:Hid (zb blE W0.heap.size W6 (.slice a6 (PG kk++ [(kk:Int)]).length c6) (PG (kk+1))):=dD<|by rw[HST2.out];exact ow6
   have G6:Hid (zc W0 W6):=dD<|qm (G5.trans (za _ _)) gr6 (fun g hg=>(O5.lt g hg).1)
   clear ow6 gr6;go_wp2
   go_roundg (64 -(kk+1))
   case measure=>omega
   exact⟨kk+1,_,_,_,by omega,by omega,by go_num,rfl,G6,O6⟩
 have hltz:¬(kk:Int)<64:=by omega
 have:kk=64:=by omega
 subst this;have OE:Hid (zb blE w.heap.size wr (.slice a5 n5 c5) (PG 64)):=OW.base (bS HG0);have GE:=dD (HG0.trans BW);go_wp2;go_ret;exact⟨_,rfl,OE,GE⟩
theorem QJ (vs:List Value) (t:List (List En)) (w:World) (hv:Zx w vs t):
  Calls prog 90 #[.agg vs.toArray] w fun e w'=>∃v,e= .returned v/\zb blE w.heap.size w' v (qo t Ze 64)/\zc w w':=by
 have HL:Hid (vs.length=8):=hv.len;obtain⟨W0,hW0⟩:∃W0,w.alloc (.cells vs.toArray 53)=W0:=⟨_,rfl⟩;have HG0:=gA hW0
 have X0:=xA hW0
 have hcall:=zdw vs t W0 (hv.grew HG0);have HW0:Hid (_=W0):=hW0;clear hW0 hv
 generalize qo t Ze 64=PG at hcall⊢
 go_enter func90,ntmps90
 go_upto_region 1 with fail;rw[HW0.out]
 go_wp2_with (refine qA rfl (.tmp 1) rfl w.heap.size rfl X0 HL.out ?_)
 refine hcall.mono ?_;rintro e W2 ⟨v,rfl,ow,g2⟩;have O2:Hid (zb blE w.heap.size W2 v PG):=ow.base (bS HG0);have G2:=dD (HG0.trans g2);clear ow g2 hcall;go_wp2;go_ret;exact⟨v,rfl,O2,G2⟩
theorem zhV (a b:Int) (W:World):(Instr.field 163 (.agg #[I6 a,I6 b]) 0).run prog W= .ok (I6 a) W:=by
 kernel_rfl
theorem jX (s:Sp):qo s.tb Ze 64=(qg s).map fun(n:Nat)=>(n:Int):=by
 unfold qo qg zk Ze;simp
theorem zjg {s:Sp} (h8:s.tb.length=8):spE s=if zB [(wrL s.ars).1,tbW s.tb]=0 then(if s.live=false/\(0<s.ars.length\/0< (qo s.tb Ze 64).length)then 7 else 0)else zB [(wrL s.ars).1,tbW s.tb]:=by
 unfold spE;simp only[zV,za4]
 by_cases h1:(wrL s.ars).1=0
 ·by_cases h2:tbW s.tb=0
  ·simp only[h1,h2,ne_eq,not_true,if_false,if_true];have hp:(0< (qo s.tb Ze 64).length)↔¬s.tb.all (·.isEmpty)=true:=by
    rw[jX,List.length_map,<-zeB h2 h8,List.length_pos_iff]
   have ha:(0<s.ars.length)↔¬s.ars.isEmpty=true:=by
    rw[List.length_pos_iff];simp
   simp only[hp,ha]
   cases s.live <;> cases s.ars.isEmpty <;> cases s.tb.all (·.isEmpty) <;> simp
  simp[h1,h2]
 simp[h1]
theorem zct (x:SpV) (s:Sp) (w:World) (hs:zZ w x s):
  Calls prog 161 #[.agg #[.bool x.live,x.ar.x,x.t0.x,x.t1.x,x.t2.x,x.t3.x,x.t4.x,x.t5.x,x.t6.x,x.t7.x]] w fun e w'=>e= .returned (I6 (spE s))/\zc w w':=by
 have HC1:Hid (∀W,zc w W->Calls prog 195 #[x.ar.x] W fun e w'=>e= .returned (.agg #[I6 (wrL s.ars).1,I6 (wrL s.ars).2])/\zc W w'):=dD<|fun W hW=>zfu _ s.ars W (hs.grew hW).ar
 have HC2:Hid (∀W,zc w W->Calls prog 177 #[.agg #[x.t0.x,x.t1.x,x.t2.x,x.t3.x,x.t4.x,x.t5.x,x.t6.x,x.t7.x]] W fun e w'=>e= .returned (I6 (tbW s.tb))/\zc W w'):=dD<|fun W hW=>zbI x.tab s.tb W (hs.grew hW).tb
 have HC3:Hid (∀W,zc w W->Calls prog 90 #[.agg #[x.t0.x,x.t1.x,x.t2.x,x.t3.x,x.t4.x,x.t5.x,x.t6.x,x.t7.x]] W fun e w'=>∃v,e= .returned v/\zb blE W.heap.size w' v (qo s.tb Ze 64)/\zc W w'):=dD<|fun W hW=>QJ x.tab s.tb W (hs.grew hW).tb
 have hlv:=hs.live;have hn:=hs.ar.n;rw[zjg hs.tb.tlen,<-hlv,<-hn];clear hs;obtain⟨E0,HE0⟩:∃E0,Hid (zB [(wrL s.ars).1,tbW s.tb]=E0):=⟨_,rfl⟩;obtain⟨PL,HPL⟩:∃PL,Hid (qo s.tb Ze 64=PL):=⟨_,rfl⟩;rw[HE0.out,HPL.out];rw[HPL.out]at HC3;clear hlv hn;obtain⟨W0,hW0⟩:∃W0,w.alloc (.cells #[.bool x.live,x.ar.x,x.t0.x,x.t1.x,x.t2.x,x.t3.x,x.t4.x,x.t5.x,x.t6.x,x.t7.x] 55)=W0:=⟨_,rfl⟩;have HG0:=gA hW0
 have X0:=xA hW0
 have HW0:Hid (_=W0):=hW0;clear hW0;obtain⟨Z,HZ⟩:∃Z:Int,Hid ((if E0=0 then(if x.live=false/\(0<x.ar.n\/0<PL.length)then 7 else 0)else E0)=Z):=⟨_,rfl⟩;rw[HZ.out]
 go_enter func161,ntmps161
 go_upto_region 1 with fail;rw[HW0.out];have hx1:=X0.gw 1 rfl
 have hx2:=X0.gw 2 rfl
 have hx3:=X0.gw 3 rfl
 have hx4:=X0.gw 4 rfl
 have hx5:=X0.gw 5 rfl
 have hx6:=X0.gw 6 rfl
 have hx7:=X0.gw 7 rfl
 have hx8:=X0.gw 8 rfl
 have hx9:=X0.gw 9 rfl
 have hne:Nonempty (zh W0):=⟨⟨_,zc.refl _⟩⟩;have hfd:=fun(y:zh W0)=>zhV (wrL s.ars).1 (wrL s.ars).2 y.world
 refine j4 [(2,⟨fun v=>v= .agg #[I6 (wrL s.ars).1,I6 (wrL s.ars).2],fun v w'=>True⟩),(6,⟨fun v=>v=I6 (tbW s.tb),fun v w'=>True⟩),(7,⟨fun v=>∃g,v= .slice (some ⟨g,0,none⟩) 2 2,fun v w'=>zr ziC w' v [(wrL s.ars).1,tbW s.tb]⟩),(8,⟨fun v=>v=I6 (zB [(wrL s.ars).1,tbW s.tb]),fun v w'=>True⟩)] qh (by kernel_rfl) ?hS ?hp ?_
 case hS=>
  intro x hx;simp only[mC,nM,or_false]at hx
  rcases hx with rfl|rfl|rfl|rfl
  ·exact⟨_,rfl⟩
  ·exact⟨_,rfl⟩
  ·exact⟨_,0,rfl⟩
  exact⟨_,rfl⟩
 case hp=>
  intro x hx;simp only[mC,nM,or_false]at hx
  rcases hx with rfl|rfl|rfl|rfl
  ·exact fun _ _ _ _ h=>h
  ·exact fun _ _ _ _ h=>h
  ·exact fun _ _ _ hg h=>zr.grew h hg
  exact fun _ _ _ _ h=>h
 iterate 2 (refine zi rfl rfl rfl (fun K hK=>?_);go_big_quiet_op;refine hK _ ?_;clear hK)
 refine zK rfl rfl (fun w' hg hF=>?_) (fun v1 hv=>?_)
 ·refine zN.call [x.ar.x] rfl func195 rfl rfl rfl ?_;refine(HC1 w' (HG0.trans hg)).mono ?_;rintro e w'' ⟨rfl,hg2⟩;exact⟨_,rfl,hg2,rfl,trivial⟩
 subst hv;simp only[Act.put,sB,sS,sZ];iterate 3 (refine zi rfl rfl rfl (fun K hK=>?_);go_big_quiet_op;refine hK _ ?_;clear hK)
 refine zK rfl rfl (fun w' hg hF=>?_) (fun v1 hv=>?_)
 ·refine zN.call [.agg #[x.t0.x,x.t1.x,x.t2.x,x.t3.x,x.t4.x,x.t5.x,x.t6.x,x.t7.x]] rfl func177 rfl rfl rfl ?_;refine(HC2 w' (HG0.trans hg)).mono ?_;rintro e w'' ⟨rfl,hg2⟩;exact⟨_,rfl,hg2,rfl,trivial⟩
 subst hv;simp only[Act.put,sB,sS,sZ];refine zK rfl rfl (fun w' hg hF=>?_) (fun v1 hv=>?_)
 ·have hnew:zr ziC (w'.alloc (.cells #[I6 ((wrL s.ars).1),I6 (tbW s.tb)] 43)) (.slice (some ⟨w'.heap.size,0,none⟩) 2 2) [(wrL s.ars).1,tbW s.tb]:=zbS ziC w' [(wrL s.ars).1,tbW s.tb] _ rfl (show 2*8<=140737488355328 by decide)
  refine zN.step (v:= .slice (some ⟨w'.heap.size,0,none⟩) 2 2) (w':=w'.alloc (.cells #[I6 ((wrL s.ars).1),I6 (tbW s.tb)] 43)) (by simp only[execOp];go_simp) ⟨za _ _,⟨_,rfl⟩,hnew⟩
 obtain⟨g7,rfl⟩:=hv;simp only[Act.put,sB,sS,sZ];refine zK rfl rfl (fun w' hg hF=>?_) (fun v1 hv=>?_)
 ·have h7:zr ziC w' (.slice (some ⟨g7,0,none⟩) 2 2) [(wrL s.ars).1,tbW s.tb]:=hF 7 (by kernel_rfl)
  refine zN.call [.slice (some ⟨g7,0,none⟩) 2 2] rfl func130 rfl rfl rfl ?_;refine(zeE _ _ w' h7).mono ?_;rintro e w'' ⟨rfl,rfl⟩;exact⟨_,rfl,zc.refl _,rfl,trivial⟩
 subst hv;simp only[Act.put,sB,sS,sZ];iterate 1 (refine zi rfl rfl rfl (fun K hK=>?_);go_big_quiet_op;refine hK _ ?_;clear hK)
 refine qF fun W3 hg1 hF=>?_
 have G3:=dD (HG0.trans hg1);have X3:=dD (X0.grew hg1);clear hg1 hF hx1 hx2 hx3 hx4 hx5 hx6 hx7 hx8 hx9 hne hfd;rw[HE0.out]
 by_cases h0:E0=0
 ·have h0e:(E0 != 0)=false:=by simp[h0]
  rw[if_pos h0]at HZ;have HE:Hid (E0=0):=h0;clear h0;obtain⟨x0,x1,x2,x3,x4,x5,x6,x7,x8,x9⟩:=X3.c10
  cases hlv:x.live with
  | true=>
   rw[hlv]at HZ x0;have HR:Hid (Z=0):=dD<|by rw[<-HZ.out,if_neg (by simp)]
   clear x2 x3 x4 x5 x6 x7 x8 x9;go_wp2;go_ret;exact⟨by rw[HR.out];rfl,G3⟩
  | false=>
   rw[hlv]at HZ x0
   by_cases h1:0<x.ar.n
   ·have h1z:(0:Int)< (x.ar.n:Int):=by omega
    have HR:Hid (Z=7):=dD<|by rw[<-HZ.out,if_pos ⟨rfl,.inl h1⟩]
    clear x2 x3 x4 x5 x6 x7 x8 x9;go_wp2;go_ret;exact⟨by rw[HR.out];rfl,G3⟩
   have h1z:¬(0:Int)< (x.ar.n:Int):=by omega
   have hc3:=HC3.out W3 G3.out;have HN1:Hid (¬0<x.ar.n):=h1;clear h1;go_wp2_with fail;refine hc3.mono ?_;clear hc3 x0 x1 x2 x3 x4 x5 x6 x7 x8 x9;rintro e W4 ⟨v,rfl,ow4,g4⟩;have HG4:=dD (G3.trans g4);obtain⟨va,vc,rfl⟩:=ow4.form;clear ow4 g4
   by_cases h2:0<PL.length
   ·have h2z:(0:Int)< (PL.length:Int):=by omega
    have HR:Hid (Z=7):=dD<|by rw[<-HZ.out,if_pos (by first | exact⟨rfl,.inr h2⟩ | exact⟨trivial,.inr h2⟩)]
    go_wp2;go_ret;exact⟨by rw[HR.out];rfl,HG4⟩
   have h2z:¬(0:Int)< (PL.length:Int):=by omega
   have HR:Hid (Z=0):=dD<|by rw[<-HZ.out,if_neg (fun h=>h.2.elim HN1.out h2)]
   go_wp2;go_ret;exact⟨by rw[HR.out];rfl,HG4⟩
 have h0e:(E0 != 0)=true:=by simp[h0]
 rw[if_neg h0]at HZ;clear h0;go_wp2;go_ret;exact⟨by rw[<-HZ.out];rfl,G3⟩
def zcs (W:World) (y:Addr) (x:SpV):Prop:=W.cell? y=some (.bool x.live)/\W.cell? { block:=y.block,off:=y.off+1 }=some (x.ar.x)/\W.cell? { block:=y.block,off:=y.off+2 }=some (x.t0.x)/\W.cell? { block:=y.block,off:=y.off+3 }=some (x.t1.x)/\W.cell? { block:=y.block,off:=y.off+4 }=some (x.t2.x)/\W.cell? { block:=y.block,off:=y.off+5 }=some (x.t3.x)/\W.cell? { block:=y.block,off:=y.off+6 }=some (x.t4.x)/\W.cell? { block:=y.block,off:=y.off+7 }=some (x.t5.x)/\W.cell? { block:=y.block,off:=y.off+8 }=some (x.t6.x)/\W.cell? { block:=y.block,off:=y.off+9 }=some (x.t7.x)
theorem jp.sp10 {y:Addr} {x:SpV} (h:jp W y (spv x)):zcs W y x:=⟨h 0 _ rfl,h 1 _ rfl,h 2 _ rfl,h 3 _ rfl,h 4 _ rfl,h 5 _ rfl,h 6 _ rfl,h 7 _ rfl,h 8 _ rfl,h 9 _ rfl⟩
theorem zF.spaces {w:World} (h:zF w V m):∃xs:List SpV,xs.length=m.sp.length/\(∀(j:Nat) x,xs[j]? =some x->∃ad,V.sp.a=some ad/\∀W,zc w W->zcs W (ad.add (j*10)) x)/\∀(i:Nat) x s,xs[i]? =some x->m.sp[i]? =some s->zZ w x s:=by
 obtain⟨xs,h1,h2,h3⟩:=h.sp;refine⟨xs,h2,fun j x hj=>?_,h3⟩
 obtain⟨ad,h4,h5⟩:=h1.rowsAt j x hj;exact⟨ad,h4,fun W hW=>(h5 W hW).sp10⟩
theorem zbJ (V:MaV) (m:Ma) (w:World) (hm:zF w V m):
  Calls prog 117 #[.agg (mL V m).toArray] w fun e w'=>e= .returned (I6 (ZA m))/\zc w w':=by
 obtain⟨vf,vs,vsb,vsq,vdb,vdq,vfl,vca,⟨spa,spn,spc⟩⟩:=V;dsimp only[mL];obtain⟨-,-,-,-,-,-,-,-,n9⟩:=hm.ns;dsimp only at n9;obtain⟨xs,hxl,hrow,hsp⟩:=hm.spaces;have HXL:Hid (xs.length=m.sp.length):=hxl;have HR:Hid (∀(j:Nat) x,xs[j]? =some x->∃ad,spa=some ad/\∀W,zc w W->zcs W (ad.add (j*10)) x):=hrow;have HSP:Hid (∀(i:Nat) x s,xs[i]? =some x->m.sp[i]? =some s->zZ w x s):=hsp;have HN:Hid (m.sp.length=spn):=n9.symm;obtain⟨Z,HZ⟩:∃Z,Hid (ZA m=Z):=⟨_,rfl⟩;rw[HZ.out];have HZ2:Hid ((if 4<spn then 4 else zB (m.sp.map spE))=Z):=show _=_ by rw[<-HZ.out,<-HN.out];rfl
 clear hm hxl hrow hsp n9;obtain⟨W0,hW0⟩:∃W0,w.alloc (.cells #[vf.x,I6 m.hand,vs.x,vsb.x,vsq.x,vdb.x,vdq.x,vfl.x,I6 m.cnt,vca.x,.slice spa spn spc] 41)=W0:=⟨_,rfl⟩;have HG0:=gA hW0
 have X0:=xA hW0
 have HW0:Hid (_=W0):=hW0;clear hW0
 by_cases h4:4<spn
 ·have h4z:(4:Int)< (spn:Int):=by omega
  have HE:Hid (Z=4):=dD<|by rw[<-HZ2.out,if_pos h4]
  go_enter func117,ntmps117
  go_upto_region 1 with fail;rw[HW0.out];have x10:=X0.c 10 rfl;go_wp2;go_ret;exact⟨by rw[HE.out];rfl,HG0⟩
 have h4z:¬(4:Int)< (spn:Int):=by omega
 have hs4:spn<=4:=by omega
 have HZ3:Hid (zB (m.sp.map spE)=Z):=dD<|by rw[<-HZ2.out,if_neg h4]
 clear h4
 go_enter func117,ntmps117
 go_upto_region 1 with fail;rw[HW0.out];have x10:=X0.c 10 rfl;go_wp2;clear x10
 go_loopg [13] spn (fun gg s13 wr=>∃kk:Nat,kk<=spn/\spn - kk<=gg/\s13=I6 kk/\Hid (zc w wr)/\Hid (∀(j:Nat) s,j<kk->m.sp[j]? =some s->spE s=0))
 case atStart=>exact⟨0,nZ _,by omega,rfl,HG0,fun j s hj=>absurd hj (nL _)⟩
 obtain⟨kk,hkk,hgg,rfl,BW,OW⟩:=hrel
 by_cases hlt:kk<spn
 ·have hltz:(kk:Int)< (spn:Int):=by omega
  obtain⟨s,HS⟩:∃s,Hid (m.sp[kk]? =some s):=⟨_,gE (by rw[HN.out];exact hlt)⟩
  obtain⟨x,HX⟩:∃x,Hid (xs[kk]? =some x):=⟨_,gE (by rw[HXL.out,HN.out];exact hlt)⟩
  obtain⟨ad,rfl,hl⟩:=HR.out kk x HX.out;obtain⟨d0,d1,d2,d3,d4,d5,d6,d7,d8,d9⟩:=hl wr BW.out;have hcall:=zct x s _ ((HSP kk x s HX HS).grew (BW.trans (za wr (.cells #[.bool x.live,x.ar.x,x.t0.x,x.t1.x,x.t2.x,x.t3.x,x.t4.x,x.t5.x,x.t6.x,x.t7.x] 55))));clear hl;obtain⟨e,HEE⟩:∃e,Hid (spE s=e):=⟨_,rfl⟩;rw[HEE.out]at hcall;go_upto_region 6 with fail;clear d0 d1 d2 d3 d4 d5 d6 d7 d8 d9;go_wp2_with fail;refine hcall.mono ?_;clear hcall;rintro e' W4 ⟨rfl,hg4⟩;have HG4:=dD ((BW.trans (za _ _)).trans hg4);clear hg4
  by_cases h0:e=0
  ·have h0e:(e != 0)=false:=by simp[h0]
   have OW':Hid (∀(j:Nat) s,j<kk+1->m.sp[j]? =some s->spE s=0):=dD<|fun j s hj hs=>by
    by_cases ej:j=kk
    ·subst ej;rw[HS.out]at hs;cases hs;rw[HEE.out];exact h0
    exact OW j s (by omega) hs
   clear h0;go_wp2
   go_roundg (spn -(kk+1))
   case measure=>omega
   exact⟨kk+1,by omega,by omega,by go_num,HG4,OW'⟩
  have h0e:(e != 0)=true:=by simp[h0]
  have HE:Hid (Z=e):=dD<|by rw[<-HZ3.out,j7 HS OW (by rw[HEE.out];exact h0)];exact HEE.out
  clear h0;go_wp2;go_ret;exact⟨by rw[HE.out];rfl,HG4⟩
 have hltz:¬(kk:Int)< (spn:Int):=by omega
 have:kk=spn:=by omega
 subst this;have HE:Hid (Z=0):=dD<|by rw[<-HZ3.out];exact Qy fun j s hs=>OW.out j s (by rw[<-HN.out];exact(gS.1 hs).1) hs
 go_wp2;go_ret;exact⟨by rw[HE.out];rfl,BW⟩
def J5 (l:List Ca) (k:Nat):Option Ca:=match k with | 0=>none | k+1=>l[k]?
theorem zk4 {p:Option Ca} {c:Ca} (h:caE m none c≠0):caE m p c=caE m none c:=by
 unfold caE at h⊢
 by_cases h1:c.file<0\/(m.fl.length:Int)<=c.file\/c.idx<0\/bkN m c.file<=c.idx\/c.fr<0\/(m.fs.length:Int)<=c.fr
 ·simp only[if_pos h1]
 simp only[if_neg h1]at h⊢
 by_cases h2:(zY m c.fr).r=0\/(zY m c.fr).f≠c.file\/(zY m c.fr).x≠c.idx
 ·simp only[if_pos h2]
 simp only[if_neg h2]at h;exact absurd rfl h
theorem zfe {q c:Ca} (h:caE m none c=0):caE m (some q) c=if jN c<=jN q then 2 else 0:=by
 unfold caE at h⊢
 split at h
 ·cases h
 rename_i h1
 rw[if_neg h1]
 split at h
 ·cases h
 rename_i h2
 rw[if_neg h2]
theorem zgK {l:List Ca} {k:Nat} {c:Ca} {Z:Int} (h:zai m (J5 l k) (l.drop k)=Z) (hc:l[k]? =some c) (hn:caE m (J5 l k) c≠0):Z=caE m (J5 l k) c:=by
 rw[qP hc]at h;unfold zai at h;rw[if_neg hn]at h;exact h.symm
theorem zfd {l:List Ca} {k:Nat} {c:Ca} {Z:Int} (h:zai m (J5 l k) (l.drop k)=Z) (hc:l[k]? =some c) (hn:caE m (J5 l k) c=0):zai m (J5 l (k+1)) (l.drop (k+1))=Z:=by
 rw[qP hc]at h;unfold zai at h;rw[if_pos hn]at h
 show zai m (l[k]?) _=Z
 rw[hc];exact h
theorem zcx (V:MaV) (m:Ma) (w:World) (hm:zF w V m) (h1:zfl m):
  Calls prog 118 #[.agg (mL V m).toArray] w fun e w'=>e= .returned (I6 (zei m))/\zc w w':=by
 have HWC:Hid (∀(c:Ca) W,zc w W->Calls prog 162 #[.agg (mL V m).toArray,.agg #[I6 c.file,I6 c.idx,I6 c.fr]] W fun e w'=>e= .returned (I6 (caE m none c))/\zc W w'):=dD<|fun c W hW=>zbN V m c W (hm.grew hW)
 obtain⟨vf,vs,vsb,vsq,vdb,vdq,vfl,⟨caa,can,cac⟩,vsp⟩:=V;dsimp only[mL]at HWC⊢;obtain⟨-,-,-,-,-,-,-,n8,-⟩:=hm.ns;dsimp only at n8;have HR:Hid (zbn w caa m.ca):=hm.cas;have HN:Hid (m.ca.length=can):=n8.symm;have hbig:can<=9223372036854775807:=by have:=hm.ca.short;omega
 have HIX:Hid (∀c p,caE m p c=0->0<=c.idx/\c.idx<100):=dD<|fun c p h=>zk3 h1.st h
 obtain⟨Z,HZ⟩:∃Z,Hid (zei m=Z):=⟨_,rfl⟩;rw[HZ.out];have HZ2:Hid (zai m (J5 m.ca 0) (m.ca.drop 0)=Z):=HZ.out;clear hm n8 h1;obtain⟨W0,hW0⟩:∃W0,w.alloc (.cells #[vf.x,I6 m.hand,vs.x,vsb.x,vsq.x,vdb.x,vdq.x,vfl.x,I6 m.cnt,.slice caa can cac,vsp.x] 41)=W0:=⟨_,rfl⟩;have HG0:=gA hW0
 have X0:=xA hW0
 have HW0:Hid (_=W0):=hW0;clear hW0
 go_enter func118,ntmps118
 go_upto_region 1 with fail;rw[HW0.out];have x9:=X0.c 9 rfl;go_wp2;clear x9
 go_loopg [9] can (fun gg s9 wr=>∃kk:Nat,kk<=can/\can - kk<=gg/\s9=I6 kk/\Hid (zc w wr)/\Hid (Box wr w.heap.size [vf.x,I6 m.hand,vs.x,vsb.x,vsq.x,vdb.x,vdq.x,vfl.x,I6 m.cnt,.slice caa can cac,vsp.x])/\Hid (zai m (J5 m.ca kk) (m.ca.drop kk)=Z)/\Hid (∀(j:Nat) c,j<kk->m.ca[j]? =some c->0<=c.idx/\c.idx<100))
 case atStart=>exact⟨0,nZ _,by omega,rfl,HG0,X0,HZ2,fun j c hj=>absurd hj (nL _)⟩
 obtain⟨kk,hkk,hgg,rfl,BW,XW,GW,OW⟩:=hrel
 by_cases hlt:kk<can
 ·have hltz:(kk:Int)< (can:Int):=by omega
  obtain⟨c,HC⟩:∃c,Hid (m.ca[kk]? =some c):=⟨_,gE (by rw[HN.out];exact hlt)⟩
  obtain⟨ad,rfl,hl⟩:=HR.out kk c HC.out;obtain⟨d0,d1,d2⟩:=hl wr BW.out;clear hl;go_upto_region 4 with fail;obtain⟨W1,hW1⟩:∃W1,wr.alloc (.cells #[I6 c.file,I6 c.idx,I6 c.fr] 124)=W1:=⟨_,rfl⟩;have HG1:=gT hW1 BW
  have X1:=yA hW1 XW
  have C1:=xA hW1
  rw[hW1];clear hW1 d0 d1 d2;obtain⟨pb,HPB⟩:∃pb,Hid (wr.heap.size=pb):=⟨_,rfl⟩;rw[HPB.out]at C1⊢;have hcall:=HWC.out c W1 HG1.out;obtain⟨e,HEE⟩:∃e,Hid (caE m none c=e):=⟨_,rfl⟩;rw[HEE.out]at hcall;obtain⟨x0,x1,x2,x3,x4,x5,x6,x7,x8,x9,x10⟩:=X1.c11;obtain⟨c0,c1,c2⟩:=C1.c3;go_wp2_with fail;refine hcall.mono ?_;clear hcall x0 x1 x2 x3 x4 x5 x6 x7 x8 x9 x10 c0 c1 c2;rintro e' W2 ⟨rfl,hg2⟩;have HG2:=dD (HG1.trans hg2);have X2:=dD (X1.grew hg2);have C2:=dD (C1.grew hg2);clear hg2
  by_cases h0:e=0
  ·have h0e:(e != 0)=false:=by simp[h0]
   have HE0:Hid (caE m none c=0):=dD<|by rw[HEE.out];exact h0
   have HCI:Hid (0<=c.idx/\c.idx<100):=HIX.out c none HE0.out;have OW':Hid (∀(j:Nat) c,j<kk+1->m.ca[j]? =some c->0<=c.idx/\c.idx<100):=show∀(j:Nat) c,_ from fun j c' hj hc=>by
    by_cases ej:j=kk
    ·subst ej;rw[HC.out]at hc;cases hc;exact HCI.out
    exact OW j c' (by omega) hc
   clear h0;go_upto_region 7 with fail
   cases kk with
   | zero=>
    have GN:Hid (zai m (J5 m.ca 1) (m.ca.drop 1)=Z):=zfd GW HC HE0.out;have hz0:¬(0:Int)< ((0:Nat):Int):=by decide
    have hz1:decide ((0:Int)< ((0:Nat):Int))=false:=by decide
    go_quiet (fail);go_wp2
    go_roundg (can - 1)
    case measure=>omega
    exact⟨1,by omega,by omega,by go_num,HG2.trans (show Below _ _ _ from bD (bR _ _) _),X2.grew (show Below _ _ _ from bD (bR _ _) _),GN,OW'⟩
   | succ j=>
    obtain⟨b,HB⟩:∃b,Hid (m.ca[j]? =some b):=⟨_,gE (by rw[HN.out];omega)⟩
    have HBI:Hid (0<=b.idx/\b.idx<100):=OW.out j b (by omega) HB.out
    have hz0:(0:Int)< ((j+1:Nat):Int):=by omega
    have hz1:decide ((0:Int)< ((j+1:Nat):Int))=true:=by simp
    have hj1:((j+1:Nat):Int) - 1=(j:Int):=by omega
    have hjn:(j:Int)< (can:Int):=by omega
    obtain⟨ad',had,hl⟩:=HR.out j b HB.out;obtain rfl:ad=ad':=by cases had;rfl
    have hx9:=X2.gw 9 rfl
    have hc0:=C2.gw 0 rfl
    have hc1:=C2.gw 1 rfl
    have hc2:=C2.gw 2 rfl
    have hy0:∀y:zh W2,y.world.cell? (ad.add (j*3))=some (I6 b.file):=fun y=>(hl _ (HG2.trans y.grew)).1
    have hy1:∀y:zh W2,y.world.cell? { block:=(ad.add (j*3)).block,off:=(ad.add (j*3)).off+1 }=some (I6 b.idx):=fun y=>(hl _ (HG2.trans y.grew)).2.1
    have hy2:∀y:zh W2,y.world.cell? { block:=(ad.add (j*3)).block,off:=(ad.add (j*3)).off+2 }=some (I6 b.fr):=fun y=>(hl _ (HG2.trans y.grew)).2.2
    have hne:Nonempty (zh W2):=⟨⟨_,zc.refl _⟩⟩;clear hl had;have HAK:Hid (Qd b c=decide (¬jN c<=jN b)):=ziZ HBI HCI.out;refine j4 [(10,⟨fun v=>v= .bool (Qd b c),fun v w'=>True⟩)] qh (by kernel_rfl) ?hS ?hp ?_
    case hS=>
     intro x hx;simp only[mC,nM,or_false]at hx;subst hx;exact⟨_,rfl⟩
    case hp=>
     intro x hx;simp only[mC,nM,or_false]at hx;subst hx;exact fun _ _ _ _ h=>h
    iterate 10 (refine zi rfl rfl rfl (fun K hK=>?_);go_big_quiet_op;refine hK _ ?_;clear hK)
    refine zK rfl rfl (fun w' hg hF=>?_) (fun v1 hv=>?_)
    ·refine zN.call [.agg #[I6 b.file,I6 b.idx,I6 b.fr],.agg #[I6 c.file,I6 c.idx,I6 c.fr]] rfl func163 rfl rfl rfl ?_;refine(zfU b c w').mono ?_;rintro e w'' ⟨rfl,hg3⟩;exact⟨_,rfl,hg3,rfl,trivial⟩
    subst hv;simp only[Act.put,sB,sS,sZ];iterate 2 (refine zi rfl rfl rfl (fun K hK=>?_);go_big_quiet_op;refine hK _ ?_;clear hK)
    refine qF fun W3 hg3 hF=>?_
    have HG3:=dD (HG2.trans hg3);have X3:=dD (X2.grew hg3);clear hg3 hF hx9 hc0 hc1 hc2 hy0 hy1 hy2 hne
    cases hab:Qd b c with
    | true=>
     have GN:Hid (zai m (J5 m.ca (j+1+1)) (m.ca.drop (j+1+1))=Z):=zfd GW HC (by
      have hp:J5 m.ca (j+1)=some b:=HB.out;rw[hp,zfe HE0.out,if_neg];have:=HAK.out;rw[hab]at this
      simpa using this)
     go_wp2
     go_roundg (can -(j+1+1))
     case measure=>omega
     exact⟨j+1+1,by omega,by omega,by go_num,HG3,X3,GN,OW'⟩
    | false=>
     have HZE:Hid (Z=2):=dD<|by
      have hp:J5 m.ca (j+1)=some b:=HB.out;have h2:caE m (J5 m.ca (j+1)) c=2:=by
       rw[hp,zfe HE0.out,if_pos];have:=HAK.out;rw[hab]at this
       simpa using this
      rw[zgK GW HC (by rw[h2];decide),h2]
     go_wp2;go_ret;exact⟨by rw[HZE.out];rfl,HG3⟩
  have h0e:(e != 0)=true:=by simp[h0]
  have HZE:Hid (Z=e):=dD<|by
   have h2:caE m (J5 m.ca kk) c=e:=by rw[zk4 (by rw[HEE.out];exact h0),HEE.out]
   rw[zgK GW HC (by rw[h2];exact h0),h2]
  clear h0;go_wp2;go_ret;exact⟨by rw[HZE.out];rfl,HG2⟩
 have hltz:¬(kk:Int)< (can:Int):=by omega
 have:kk=can:=by omega
 subst this;have HZE:Hid (Z=0):=dD<|by
  rw[<-GW.out,List.drop_of_length_le (by rw[HN.out];exact nR _)]
  cases J5 m.ca kk <;> rfl
 go_wp2;go_ret;exact⟨by rw[HZE.out];rfl,BW⟩
structure QT (lo hi:Nat) (w:World) (x:SpV) (s:Sp):Prop where
 live:x.live=s.live
 ar:zb arE lo w x.ar.v s.ars
 tb:jb lo w x.tab s.tb
 arh:∀g,x.ar.v.ownBlock=some g->g<hi
 tbh:∀(i:Nat) v,x.tab[i]? =some v->∀g,v.ownBlock=some g->g<hi
theorem QT.grew {lo:Nat} {w:World} {x:SpV} {s:Sp} (h:QT lo hi w x s) (k:zc w w'):QT lo hi w' x s:=⟨h.live,h.ar.grew k,h.tb.grew k,h.arh,h.tbh⟩
theorem QT.at {lo:Nat} {w:World} {x:SpV} {s:Sp} (h:QT lo hi w x s):zZ w x s:=⟨h.live,h.ar.at,h.ar.cap,h.tb.new.now⟩
theorem jb.grown {base:Nat} {w:World} {t:List (List En)} {g:Nat} (h:jb base w vs t) (hg:w.grownBy w' (some g)) (hn:∀(i:Nat) v,vs[i]? =some v->v.ownBlock≠some g):jb base w' vs t:=
 ⟨h.len,h.tlen,fun i v x hv hx=>(h.row i v x hv hx).grown hg (fun b hb e=>by cases e;exact hn i v hv hb),h.two⟩
theorem QT.beside {lo:Nat} {w:World} {x:SpV} {s:Sp} {g:Nat} {cs:Array Value} (h:QT lo hi w x s) (hg:w.grownBy w' (some g)) (ho:w.heap[g]? =some (.cells cs t (0,0))) (h1:t≠arE.ty) (h2:t≠enE.ty):QT lo hi w' x s:=by
 have key:∀{α:Type} {E:Elt α} {b:Nat} {v:Value} {l:List α},zb E b w v l->t≠E.ty->∀k,v.ownBlock=some k->some g≠some k:=fun hr hne k hk e=>by
  cases e;obtain⟨ds,h3⟩:=hr.obj hk;rw[ho]at h3;cases h3;exact hne rfl
 refine⟨h.live,h.ar.grown hg (key h.ar h1),h.tb.grown hg (fun i v hv e=>?_),h.arh,h.tbh⟩
 obtain⟨y,hy⟩:∃y,s.tb[i]? =some y:=⟨_,gE (by rw[h.tb.tlen,<-h.tb.len];exact(gS.1 hv).1)⟩
 exact key (h.tb.row i v y hv hy) h2 g e rfl
def Qf (base:Nat) (w:World) (v:Value) (ss:List Sp):Prop:=
 ∃(xs:List SpV) (B:Nat->Nat),zb jx base w v xs/\xs.length=ss.length/\base<=B 0/\(∀i,B i<=B (i+1))/\∀(i:Nat) x s,xs[i]? =some x->ss[i]? =some s->QT (B i) (B (i+1)) w x s
theorem Qf.grew {base:Nat} {w:World} {v:Value} {ss:List Sp} (h:Qf base w v ss) (k:zc w w'):Qf base w' v ss:=by
 obtain⟨xs,B,h1,h2,h3,h4,h5⟩:=h;exact⟨xs,B,h1.grew k,h2,h3,h4,fun i x s hx hs=>(h5 i x s hx hs).grew k⟩
theorem Qf.base {base:Nat} {w:World} {v:Value} {ss:List Sp} (h:Qf base w v ss) (hb:base'<=base):Qf base' w v ss:=by
 obtain⟨xs,B,h1,h2,h3,h4,h5⟩:=h;exact⟨xs,B,h1.base hb,h2,by omega,h4,h5⟩
structure zba (base:Nat) (w:World) (kk:Nat) (xs ys:List SpV) (ss:List Sp) (B:Nat->Nat):Prop where
 len:ys.length=xs.length
 own:∀(i:Nat) y s,i<kk->ys[i]? =some y->ss[i]? =some s->QT (B i) (B (i+1)) w y s
 rest:∀(i:Nat),kk<=i->ys[i]? =xs[i]?
 b0:base<=B 0
 mono:∀i,B i<=B (i+1)
 top:B kk<=w.heap.size
theorem zba.grew {base kk:Nat} {w:World} {xs ys:List SpV} {ss:List Sp} {B:Nat->Nat} (h:zba base w kk xs ys ss B) (k:zc w w'):zba base w' kk xs ys ss B:=⟨h.len,fun i y s hi hy hs=>(h.own i y s hi hy hs).grew k,h.rest,h.b0,h.mono,nT h.top (bS k)⟩
theorem zdJ {B:Nat->Nat} (h:∀i,B i<=B (i+1)):∀{i j:Nat},i<=j->B i<=B j
 | i,0,hij=>by rw[show i=0 from by omega];exact nR _
 | i,j+1,hij=>by
  by_cases e:i=j+1
  ·subst e;exact nR _
  exact nT (zdJ h (by omega)) (h j)
theorem ZB:jx.ty≠arE.ty/\jx.ty≠enE.ty:=by decide
theorem zba.step {base kk:Nat} {w:World} {xs ys:List SpV} {ss:List Sp} {B:Nat->Nat} {g:Nat} {cs:Array Value} (h:zba base w kk xs ys ss B) (hg:w.grownBy w' (some g)) (ho:w.heap[g]? =some (.cells cs jx.ty (0,0))) (hsz:w'.heap.size=w.heap.size) {x:SpV} {s:Sp} (hx:xs[kk]? =some x) (hs:ss[kk]? =some s)
  {y:SpV} (hown:QT (B kk) w.heap.size w' y s):zba base w' (kk+1) xs (ys.set kk y) ss (fun i=>if i<=kk then B i else w.heap.size):=by
 have hk:kk<ys.length:=by rw[h.len];exact(gS.1 hx).1
 refine⟨by simp[h.len],fun i z s' hi hz hs'=>?_,fun i hi=>?_,by simpa using h.b0,fun i=>?_,by rw[if_neg (by omega),hsz];exact nR _⟩
 ·by_cases e:i=kk
  ·subst e;rw[sF hk]at hz;cases hz;rw[hs]at hs';cases hs';rw[if_pos (nR _),if_neg (by omega)]
   exact hown
  rw[sN (fun h=>e h.symm)]at hz
  have h1:=(h.own i z s' (by omega) hz hs').beside hg ho ZB.1 ZB.2
  have e1:i<=kk:=by omega
  have e2:i+1<=kk:=by omega
  simpa [e1,e2]using h1
 ·rw[sN (by omega)]
  exact h.rest i (by omega)
 by_cases e1:i+1<=kk
 ·rw[if_pos (by omega),if_pos e1]
  exact h.mono i
 rw[if_neg e1]
 by_cases e2:i<=kk
 ·rw[if_pos e2];exact nT (zdJ h.mono e2) h.top
 rw[if_neg e2];exact nR _
theorem zba.all {base:Nat} {w:World} {xs ys:List SpV} {ss:List Sp} {B:Nat->Nat} {v:Value} (h:zba base w xs.length xs ys ss B) (hl:xs.length=ss.length) (hv:zb jx base w v ys):Qf base w v ss:=
 ⟨ys,B,hv,h.len.trans hl,h.b0,h.mono,fun i y s hy hs=>h.own i y s (by rw[<-h.len];exact(gS.1 hy).1) hy hs⟩
theorem zje {base:Nat} {w:World} {t:List (List En)} (h:jb base w us t):∃t0 t1 t2 t3 t4 t5 t6 t7:Sli,us=[t0.v,t1.v,t2.v,t3.v,t4.v,t5.v,t6.v,t7.v]:=by
 obtain⟨u0,u1,u2,u3,u4,u5,u6,u7,rfl⟩:=zhm h.len;obtain⟨y0,y1,y2,y3,y4,y5,y6,y7,rfl⟩:=zhm h.tlen;obtain⟨a0,c0,rfl⟩:=(h.row 0 _ _ rfl rfl).form;obtain⟨a1,c1,rfl⟩:=(h.row 1 _ _ rfl rfl).form;obtain⟨a2,c2,rfl⟩:=(h.row 2 _ _ rfl rfl).form;obtain⟨a3,c3,rfl⟩:=(h.row 3 _ _ rfl rfl).form;obtain⟨a4,c4,rfl⟩:=(h.row 4 _ _ rfl rfl).form;obtain⟨a5,c5,rfl⟩:=(h.row 5 _ _ rfl rfl).form;obtain⟨a6,c6,rfl⟩:=(h.row 6 _ _ rfl rfl).form;obtain⟨a7,c7,rfl⟩:=(h.row 7 _ _ rfl rfl).form;exact⟨⟨a0,_,c0⟩,⟨a1,_,c1⟩,⟨a2,_,c2⟩,⟨a3,_,c3⟩,⟨a4,_,c4⟩,⟨a5,_,c5⟩,⟨a6,_,c6⟩,⟨a7,_,c7⟩,rfl⟩
theorem zdG (v:Value) (ss:List Sp) (w:World) (hv:Qe w v ss):
  Calls prog 75 #[v] w fun e w'=>∃v',e= .returned v'/\Qf w.heap.size w' v' ss/\zc w w':=by
 obtain⟨xs,k1,k2,k3⟩:=hv;have HX:Hid (zr jx w v xs):=k1;have HL:Hid (xs.length=ss.length):=k2;have HSP:Hid (∀(i:Nat) x s,xs[i]? =some x->ss[i]? =some s->zZ w x s):=k3;have hbig:=k1.short;obtain⟨a,c,rfl,_⟩:=k1.rows;clear k1 k2 k3;obtain⟨n,HN⟩:∃n,Hid (xs.length=n):=⟨_,rfl⟩;rw[HN.out]at hbig HX⊢;have hcl:=zf6 _ xs w HX.out
 go_enter func75,ntmps75
 go_wp2_with fail;refine hcl.mono ?_;clear hcl;rintro e W1 ⟨v1,rfl,ow1,g1⟩;obtain⟨xa,xc,rfl⟩:=ow1.form;rw[HN.out]at ow1⊢;have O1:Hid (zb jx w.heap.size W1 (.slice xa n xc) xs):=ow1;have G1:Hid (zc w W1):=g1;clear ow1 g1;go_wp2
 go_loopg [10] n (fun gg s10 wr=>∃(kk:Nat) (ys:List SpV) (B:Nat->Nat),kk<=n/\n - kk<=gg/\s10=I6 kk/\Hid (zc w wr)/\Hid (zb jx w.heap.size wr (.slice xa n xc) ys)/\Hid (zba w.heap.size wr kk xs ys ss B))
 case atStart=>exact⟨0,xs,fun _=>W1.heap.size,nZ _,by omega,rfl,G1,O1,⟨rfl,fun i y f hi=>absurd hi (nL _),fun i _=>rfl,bS G1,fun i=>nR _,nR _⟩⟩
 obtain⟨kk,ys,B,hkk,hgg,rfl,BW,OW,HH⟩:=hrel
 by_cases hlt:kk<n
 ·have hltz:(kk:Int)< (n:Int):=by omega
  obtain⟨x,HXK⟩:∃x,Hid (xs[kk]? =some x):=⟨_,gE (by rw[HN.out];exact hlt)⟩
  obtain⟨s,HSK⟩:∃s,Hid (ss[kk]? =some s):=⟨_,gE (by rw[<-HL.out,HN.out];exact hlt)⟩
  have HAT:Hid (zZ w x s):=HSP.out kk x s HXK HSK.out;have HY:Hid (ys[kk]? =some x):=show _=_ by rw[HH.rest kk (nR _)];exact HXK.out
  have HYL:Hid (ys.length=n):=dD<|by rw[HH.len,HN.out]
  obtain⟨g,xc',heq⟩:=OW.formS (by rw[HYL.out];omega)
  rw[HYL.out]at heq;cases heq;have hce:zcs wr ((Addr.mk g 0 none).add (kk*10)) x:=(OW.one HY).sp10;rw[Addr.add_lit,zA]at hce;obtain⟨d0,d1,d2,d3,d4,d5,d6,d7,d8,d9⟩:=hce;have HGB:Hid (w.heap.size<=g):=dD<|(OW.lt g rfl).1
  go_upto_region 5 with fail;clear d0 d1 d2 d3 d4 d5 d6 d7 d8 d9;obtain⟨W2,hW2⟩:∃W2,wr.alloc (.cells #[.bool x.live,x.ar.x,x.t0.x,x.t1.x,x.t2.x,x.t3.x,x.t4.x,x.t5.x,x.t6.x,x.t7.x] 55)=W2:=⟨_,rfl⟩;have HG2:=gT hW2 BW
  have S2:=xA hW2
  have OW2:Hid (zb jx w.heap.size W2 (.slice (some ⟨g,0,none⟩) n xc) ys):=dD<|by rw[<-hW2];exact OW.grew (za _ _)
  have H2:Hid (zba w.heap.size W2 kk xs ys ss B):=dD<|by rw[<-hW2];exact HH.grew (za _ _)
  have HGL:Hid (g<wr.heap.size):=dD<|(OW.lt g rfl).2
  rw[hW2];clear hW2;obtain⟨pb,HPB⟩:∃pb,Hid (wr.heap.size=pb):=⟨_,rfl⟩;rw[HPB.out]at S2 HGL⊢;have s1:=S2.c 1 rfl;have hca:=zcj (x.ar.x) s.ars W2 (HAT.ar.grew HG2);go_wp2_with fail;refine hca.mono ?_;clear hca s1;rintro e W3 ⟨v3,rfl,ow3,g3⟩;have HCP:Hid (Cap v3):=ow3.cap;obtain⟨ra,rc,rfl⟩:=ow3.form;obtain⟨rn,HRN⟩:∃rn,Hid (s.ars.length=rn):=⟨_,rfl⟩;rw[HRN.out]at ow3⊢;have A3:Hid (zb arE W2.heap.size W3 (.slice ra rn rc) s.ars):=ow3;have HG3:=dD (HG2.trans g3);have S3:=dD (S2.grew g3);have OW3:=dD (OW2.grew g3);have H3:=dD (H2.grew g3);have HB2:Hid (B kk<=W2.heap.size):=H2.top;have HS2:Hid (W2.heap.size<=W3.heap.size):=show _<=_ from bS g3
  clear ow3 g3
  go_wp2_with (refine zC (E:=jx) rfl (.tmp 21) (.tmp 19) 50 rfl w.heap.size _ ys OW3 g kk 1 rfl x { x with ar:=⟨ra,rn,rc⟩ } HY.out [.slice ra rn rc] ?s1 rfl ?s2 ?s3 ⟨g,kk*10+1,none⟩ rfl rfl (.slice ra rn rc) rfl rfl ?_)
  case s1=>kernel_rfl
  case s2=>show 1+1<=10;omega
  case s3=>simp;rfl
  intro W4 ow4 gr4 sz4;have HK4:Hid (∃cs,W3.heap[g]? =some (.cells cs jx.ty (0,0))):=OW3.obj rfl;have HG4:Hid (zc w W4):=show zc _ _ from zd HG3 gr4 HGB.out
  have S4:Hid (Box W4 pb [.bool x.live,x.ar.x,x.t0.x,x.t1.x,x.t2.x,x.t3.x,x.t4.x,x.t5.x,x.t6.x,x.t7.x]):=S3.grown gr4 (by have:=HGL.out;omega)
  have OW4:Hid (zb jx w.heap.size W4 (.slice (some ⟨g,0,none⟩) n xc) (ys.set kk { x with ar:=⟨ra,rn,rc⟩ })):=ow4;have A4:Hid (zb arE W2.heap.size W4 (.slice ra rn rc) s.ars):=A3.grown gr4 (fun b hb e=>by
   cases e;exact OW3.apart A3 ZB.1 g rfl hb)
  have H4:Hid (∀(i:Nat) y s',i<kk->ys[i]? =some y->ss[i]? =some s'->QT (B i) (B (i+1)) W4 y s'):=dD<|fun i y s' hi hy hs=>by
   obtain⟨cs,hcs⟩:=HK4.out;exact(H3.own i y s' hi hy hs).beside gr4 hcs ZB.1 ZB.2
  have HS4:Hid (W4.heap.size=W3.heap.size):=sz4;clear ow4 gr4 sz4;have hct:=zeD x.tab s.tb W4 (HAT.grew HG4).tb;have hct':Calls prog 114 #[.agg #[x.t0.x,x.t1.x,x.t2.x,x.t3.x,x.t4.x,x.t5.x,x.t6.x,x.t7.x]] W4 fun e w'=>∃us,e= .returned (.agg us.toArray)/\jb (W4.heap.size+2) w' us s.tb/\zc W4 w'/\W4.heap.size+2<=w'.heap.size:=hct
  clear hct;have s2:=S4.c 2 rfl;have s3:=S4.c 3 rfl;have s4:=S4.c 4 rfl;have s5:=S4.c 5 rfl;have s6:=S4.c 6 rfl;have s7:=S4.c 7 rfl;have s8:=S4.c 8 rfl;have s9:=S4.c 9 rfl;go_wp2_with fail;refine hct'.mono ?_;clear hct' s2 s3 s4 s5 s6 s7 s8 s9;rintro e W5 ⟨us,rfl,ot5,g5,_⟩;obtain⟨t0,t1,t2,t3,t4,t5,t6,t7,rfl⟩:=zje ot5;have T5:Hid (jb (W4.heap.size+2) W5 [t0.v,t1.v,t2.v,t3.v,t4.v,t5.v,t6.v,t7.v] s.tb):=ot5;have HG5:=dD (HG4.trans g5);have OW5:=dD (OW4.grew g5);have A5:=dD (A4.grew g5);have H5:Hid (∀(i:Nat) y s',i<kk->ys[i]? =some y->ss[i]? =some s'->QT (B i) (B (i+1)) W5 y s'):=show∀(i:Nat) y s',_ from fun i y s' hi hy hs=>(H4 i y s' hi hy hs).grew g5
  have HS5:Hid (W4.heap.size<=W5.heap.size):=dD<|bS g5
  clear ot5 g5;have HYS:Hid ((ys.set kk { x with ar:=⟨ra,rn,rc⟩ })[kk]? =some { x with ar:=⟨ra,rn,rc⟩ }):=dD<|sF (by rw[HYL.out];exact hlt)
  go_wp2_with (refine zC (E:=jx) rfl (.tmp 28) (.tmp 26) 53 rfl w.heap.size _ _ OW5 g kk 2 rfl { x with ar:=⟨ra,rn,rc⟩ } ⟨x.live,⟨ra,rn,rc⟩,t0,t1,t2,t3,t4,t5,t6,t7⟩ HYS.out [t0.v,t1.v,t2.v,t3.v,t4.v,t5.v,t6.v,t7.v] ?s1 rfl ?s2 ?s3 ⟨g,kk*10+2,none⟩ rfl rfl _ rfl rfl ?_)
  case s1=>kernel_rfl
  case s2=>show 2+8<=10;omega
  case s3=>
   intro u hu;simp only[mC,nM,or_false]at hu
   rcases hu with rfl|rfl|rfl|rfl|rfl|rfl|rfl|rfl <;> rfl
  intro W6 ow6 gr6 sz6;have HK6:Hid (∃cs,W5.heap[g]? =some (.cells cs jx.ty (0,0))):=OW5.obj rfl;have HG6:Hid (zc w W6):=show zc _ _ from zd HG5 gr6 HGB.out
  have OW6:Hid (zb jx w.heap.size W6 (.slice (some ⟨g,0,none⟩) n xc) (ys.set kk ⟨x.live,⟨ra,rn,rc⟩,t0,t1,t2,t3,t4,t5,t6,t7⟩)):=ow6;have HF6:Hid (zba w.heap.size W6 (kk+1) xs (ys.set kk ⟨x.live,⟨ra,rn,rc⟩,t0,t1,t2,t3,t4,t5,t6,t7⟩) ss (fun i=>if i<=kk then B i else W5.heap.size)):=show zba _ _ _ _ _ _ _ by
   obtain⟨cs,hcs⟩:=HK6.out;have h5:zba w.heap.size W5 kk xs ys ss B:=⟨HH.len,H5,HH.rest,HH.b0,HH.mono,by have:=HB2.out;have:=HS2.out;have:=HS4.out;have:=HS5.out;omega⟩
   refine h5.step gr6 hcs sz6 HXK HSK.out ?_;have own5:QT (B kk) W5.heap.size W5 ⟨x.live,⟨ra,rn,rc⟩,t0,t1,t2,t3,t4,t5,t6,t7⟩ s:=⟨HAT.live,A5.base HB2,T5.base (by have:=HB2.out;have:=HS2.out;have:=HS4.out;omega),fun b hb=>(A5.lt b hb).2,fun i u hu b hb=>by
    obtain⟨y,hy⟩:∃y,s.tb[i]? =some y:=⟨_,gE (by rw[T5.tlen,<-T5.len];exact(gS.1 hu).1)⟩
    exact((T5.row i u y hu hy).lt b hb).2⟩
   exact own5.beside gr6 hcs ZB.1 ZB.2
  clear ow6 gr6 sz6;go_wp2
  go_roundg (n -(kk+1))
  case measure=>omega
  exact⟨kk+1,_,_,by omega,by omega,by go_num,HG6,OW6,HF6⟩
 have hltz:¬(kk:Int)< (n:Int):=by omega
 have:kk=n:=by omega
 subst this;have HA:Hid (Qf w.heap.size wr (.slice xa kk xc) ss):=dD<|by
  have h1:=HH.out;rw[<-HN.out]at h1;exact h1.all HL OW.out
 go_wp2;go_ret;exact⟨_,rfl,HA,BW⟩
theorem zci (v:Value) (fs:List Fr) (w:World) (hv:zR w v fs):
  Calls prog 108 #[v] w fun e w'=>∃v',e= .returned v'/\zE w.heap.size w' v' fs/\zc w w':=by
 have HV:Hid (zR w v fs):=hv;obtain⟨⟨a,c,rfl,hnone,hcells⟩,hbytes⟩:=hv;have q22:∀(w:World) (a:Option Addr) (n c n' c':Nat),(binOp .eql 26 (.slice a n c) (.slice none n' c')).run prog w= .ok (.bool a.isNone) w:=fun w a n c n' c'=>Lib.run_eql_slice_nil w _ _ a n c n' c' underlying26
 cases a with
 | none=>
  have hps:=hnone rfl;subst hps;clear hcells hnone hbytes
  go_enter func108,ntmps108
  go_wp2;go_ret;exact⟨_,rfl,zE.nil _ _,zc.refl w⟩
 | some x=>
  have HB:Hid (fs.length*40<=140737488355328):=hbytes;clear hcells hnone hbytes
  go_enter func108,ntmps108
  go_wp2_with (at_builtin;refine zad rfl (.tmp 5) (.tmp 6) rfl w.heap.size _ [] rfl (zE.made w) _ fs rfl (HV.grew (za _ _)) ?qb (by simp) ?_)
  case qb=>rw[List.length_nil,zA];exact HB.out
  intro v' w1 hown hgrow;go_wp2;go_ret;exact⟨v',rfl,by simpa using hown,((bR _ w).alloc (nR _) _).grown hgrow (by simp) (by intro k hk;simp[Value.ownBlock]at hk;omega)⟩
theorem zaY (a:Option Addr) (c:Nat) (fs:List Fr) (h:Int) (w:World) (hv:zR w (.slice a fs.length c) fs):
  Calls prog 70 #[.agg #[.slice a fs.length c,I6 h]] w fun e w'=>∃b,e= .returned (.agg #[b,I6 h])/\zE w.heap.size w' b fs/\zc w w':=by
 have HV:Hid (zR w (.slice a fs.length c) fs):=hv;clear hv;obtain⟨n,HN⟩:∃n,Hid (fs.length=n):=⟨_,rfl⟩;rw[HN.out]at HV⊢
 go_enter func70,ntmps70
 go_wp2;obtain⟨W1,hW⟩:∃W1,(w.alloc (.cells #[.slice a n c,I6 h] 28)).alloc (.cells #[eS,I6 0] 28)=W1:=⟨_,rfl⟩;have hg1:=gD2 hW
 have hsz:Hid (W1.heap.size=w.heap.size+2):=dD<|by rw[<-hW];simp
 have X0:=x2a hW
 have X1:=x2b hW
 rw[hW];clear hW;have hx0:∀x:zh W1,x.world.cell? ⟨w.heap.size,0,none⟩=some (.slice a n c):=fun x=>(X0.grew x.grew).c 0 rfl
 have hx1:∀x:zh W1,x.world.cell? ⟨w.heap.size,1,none⟩=some (I6 h):=fun x=>(X0.grew x.grew).c 1 rfl
 have hne:Nonempty (zh W1):=⟨⟨_,zc.refl _⟩⟩;refine jq 6 [(2,⟨fun v=>∃a n c,v= .slice a n c,fun v w'=>zE (w.heap.size+2) w' v fs⟩)] qh (by kernel_rfl) rfl rfl (by decide) ?_ ?_ ?_
 ·intro x hx
  simp at hx
  subst hx;exact⟨_,none,0,0,rfl⟩
 ·intro x hx
  simp at hx
  subst hx;intro v w1 w2 hg h;exact h.grew hg
 simp only[List.take,List.drop];iterate 2 (refine zi rfl rfl rfl (fun K hK=>?_);go_big_quiet_op;refine hK _ ?_;clear hK)
 refine zK rfl rfl (fun w' hg hF=>?_) (fun v1 hv=>?_)
 ·refine zN.call [.slice a n c] rfl func108 rfl rfl rfl ?_;refine(zci _ fs w' (HV.grew (hg1.out.trans hg))).mono ?_;rintro e w'' ⟨v2,rfl,hb,hg2⟩;obtain⟨a2,c2,rfl⟩:=hb.form;exact⟨_,rfl,hg2,⟨_,_,_,rfl⟩,hb.base (by have:=bS hg;rw[hsz.out]at this;exact this)⟩
 obtain⟨a1,n1,c1,rfl⟩:=hv;simp only[Act.put,sB,sS,sZ];iterate 3 (refine zi rfl rfl rfl (fun K hK=>?_);go_big_quiet_op;refine hK _ ?_;clear hK)
 refine qF fun w' hg hF=>?_
 have ow1:Hid (zE (w.heap.size+2) w' (.slice a1 n1 c1) fs):=hF 2;have X2:=X1.grew hg;have m2:=X2.c 0 rfl;have m3:=X2.c 1 rfl;have g2:=X2.f;have HG:=dD (hg1.out.trans hg);clear hF hx0 hx1 hg hne;go_wp2;refine bodyPost_ret (v:= .agg #[.slice a1 n1 c1,I6 h]) (by simp[results,Tryz.results70,go_sem, *]) rfl ⟨_,rfl,((ow1.out.setCell (by simp) _).setCell (by simp) _).base (by omega),?_⟩
 exact Below.setCell (Below.setCell HG (p:=⟨w.heap.size+1,0,none⟩) (by simp) _) (p:=⟨w.heap.size+1,1,none⟩) (by simp) _
end
end Go.Proofs.YtdgccecjbpgmfaaGreat
