import Derived.Test.YtdgccecjbpgmfaaGreatPC1
import Derived.BigQuiet
import Derived.WalkSmall
import Derived.Deep.Cut
import Derived.ChangeKeysEq
namespace Go.Proofs.YtdgccecjbpgmfaaGreat
set_option maxRecDepth 100000
set_option maxHeartbeats 4000000
section
open Go.RowKit
theorem rw1 (b0 b1 b2 b3 b4 b5 b6 b7 r:Int) (u d:Bool) (f x:Int) (w:World) (_h:r<0):
  Calls Tryz.prog 141 #[.agg #[.int .u8 b0,.int .u8 b1,.int .u8 b2,.int .u8 b3,.int .u8 b4,.int .u8 b5,.int .u8 b6,.int .u8 b7,.int .i64 r,.bool u,.bool d,.int .i64 f,.int .i64 x]] w fun e w'=>e= .returned (.int .i64 3)/\zc w w':=by
 go_enter Tryz.func141,Tryz.ntmps141
 go_wp2;go_ret;exact⟨rfl,(bR _ _).alloc (nR _) _⟩
theorem rw2 (b0 b1 b2 b3 b4 b5 b6 b7 r:Int) (u d:Bool) (f x:Int) (w:World) (_h:¬r<0) (_h2:1000<r):
  Calls Tryz.prog 141 #[.agg #[.int .u8 b0,.int .u8 b1,.int .u8 b2,.int .u8 b3,.int .u8 b4,.int .u8 b5,.int .u8 b6,.int .u8 b7,.int .i64 r,.bool u,.bool d,.int .i64 f,.int .i64 x]] w fun e w'=>e= .returned (.int .i64 3)/\zc w w':=by
 go_enter Tryz.func141,Tryz.ntmps141
 go_wp2;go_ret;exact⟨rfl,(bR _ _).alloc (nR _) _⟩
theorem rw3 (b0 b1 b2 b3 b4 b5 b6 b7 r:Int) (u d:Bool) (f x:Int) (w:World) (_h:¬r<0) (_h2:¬1000<r) (_h3:f< -1):
  Calls Tryz.prog 141 #[.agg #[.int .u8 b0,.int .u8 b1,.int .u8 b2,.int .u8 b3,.int .u8 b4,.int .u8 b5,.int .u8 b6,.int .u8 b7,.int .i64 r,.bool u,.bool d,.int .i64 f,.int .i64 x]] w fun e w'=>e= .returned (.int .i64 3)/\zc w w':=by
 go_enter Tryz.func141,Tryz.ntmps141
 go_wp2;go_ret;exact⟨rfl,(bR _ _).alloc (nR _) _⟩
theorem rw4 (b0 b1 b2 b3 b4 b5 b6 b7 r:Int) (u d:Bool) (f x:Int) (w:World) (_h:¬r<0) (_h2:¬1000<r) (_h3:¬f< -1) (_h4:4<f):
  Calls Tryz.prog 141 #[.agg #[.int .u8 b0,.int .u8 b1,.int .u8 b2,.int .u8 b3,.int .u8 b4,.int .u8 b5,.int .u8 b6,.int .u8 b7,.int .i64 r,.bool u,.bool d,.int .i64 f,.int .i64 x]] w fun e w'=>e= .returned (.int .i64 3)/\zc w w':=by
 go_enter Tryz.func141,Tryz.ntmps141
 go_wp2;go_ret;exact⟨rfl,(bR _ _).alloc (nR _) _⟩
theorem rw5 (b0 b1 b2 b3 b4 b5 b6 b7 r:Int) (u d:Bool) (f x:Int) (w:World) (_h:¬r<0) (_h2:¬1000<r) (_h3:¬f< -1) (_h4:¬4<f) (_h5:x<0):
  Calls Tryz.prog 141 #[.agg #[.int .u8 b0,.int .u8 b1,.int .u8 b2,.int .u8 b3,.int .u8 b4,.int .u8 b5,.int .u8 b6,.int .u8 b7,.int .i64 r,.bool u,.bool d,.int .i64 f,.int .i64 x]] w fun e w'=>e= .returned (.int .i64 3)/\zc w w':=by
 go_enter Tryz.func141,Tryz.ntmps141
 go_wp2;go_ret;exact⟨rfl,(bR _ _).alloc (nR _) _⟩
theorem rw6 (b0 b1 b2 b3 b4 b5 b6 b7 r:Int) (u d:Bool) (f x:Int) (w:World) (_h:¬r<0) (_h2:¬1000<r) (_h3:¬f< -1) (_h4:¬4<f) (_h5:¬x<0) (_h6:11<x):
  Calls Tryz.prog 141 #[.agg #[.int .u8 b0,.int .u8 b1,.int .u8 b2,.int .u8 b3,.int .u8 b4,.int .u8 b5,.int .u8 b6,.int .u8 b7,.int .i64 r,.bool u,.bool d,.int .i64 f,.int .i64 x]] w fun e w'=>e= .returned (.int .i64 3)/\zc w w':=by
 go_enter Tryz.func141,Tryz.ntmps141
 go_wp2;go_ret;exact⟨rfl,(bR _ _).alloc (nR _) _⟩
theorem rw7 (b0 b1 b2 b3 b4 b5 b6 b7 r:Int) (u d:Bool) (f x:Int) (w:World) (_h:¬r<0) (_h2:¬1000<r) (_h3:¬f< -1) (_h4:¬4<f) (_h5:¬x<0) (_h6:¬11<x) (_h7:(r == 0)=false) (_h8:f<0) (_h9:0<x):
  Calls Tryz.prog 141 #[.agg #[.int .u8 b0,.int .u8 b1,.int .u8 b2,.int .u8 b3,.int .u8 b4,.int .u8 b5,.int .u8 b6,.int .u8 b7,.int .i64 r,.bool u,.bool d,.int .i64 f,.int .i64 x]] w fun e w'=>e= .returned (.int .i64 7)/\zc w w':=by
 go_enter Tryz.func141,Tryz.ntmps141
 go_wp2;go_ret;exact⟨rfl,(bR _ _).alloc (nR _) _⟩
theorem rw8 (b0 b1 b2 b3 b4 b5 b6 b7 r:Int) (u d:Bool) (f x:Int) (w:World) (_h:¬r<0) (_h2:¬1000<r) (_h3:¬f< -1) (_h4:¬4<f) (_h5:¬x<0) (_h6:¬11<x) (_h7:(r == 0)=false) (_h8:f<0) (_h9:¬0<x):
  Calls Tryz.prog 141 #[.agg #[.int .u8 b0,.int .u8 b1,.int .u8 b2,.int .u8 b3,.int .u8 b4,.int .u8 b5,.int .u8 b6,.int .u8 b7,.int .i64 r,.bool u,.bool d,.int .i64 f,.int .i64 x]] w fun e w'=>e= .returned (.int .i64 0)/\zc w w':=by
 go_enter Tryz.func141,Tryz.ntmps141
 go_wp2;go_ret;exact⟨rfl,(bR _ _).alloc (nR _) _⟩
theorem rw9 (b0 b1 b2 b3 b4 b5 b6 b7 r:Int) (u d:Bool) (f x:Int) (w:World) (_h:¬r<0) (_h2:¬1000<r) (_h3:¬f< -1) (_h4:¬4<f) (_h5:¬x<0) (_h6:¬11<x) (_h7:(r == 0)=false) (_h8:¬f<0):
  Calls Tryz.prog 141 #[.agg #[.int .u8 b0,.int .u8 b1,.int .u8 b2,.int .u8 b3,.int .u8 b4,.int .u8 b5,.int .u8 b6,.int .u8 b7,.int .i64 r,.bool u,.bool d,.int .i64 f,.int .i64 x]] w fun e w'=>e= .returned (.int .i64 0)/\zc w w':=by
 go_enter Tryz.func141,Tryz.ntmps141
 go_wp2;go_ret;exact⟨rfl,(bR _ _).alloc (nR _) _⟩
theorem zk5 (b0 b1 b2 b3 b4 b5 b6 b7 r:Int) (u d:Bool) (f x:Int) (w:World) (_h:¬r<0) (_h2:¬1000<r) (_h3:¬f< -1) (_h4:¬4<f) (_h5:¬x<0) (_h6:¬11<x) (_h7:(r == 0)=true) (hfr:Zz (⟨⟨b0,b1,b2,b3,b4,b5,b6,b7⟩,r,u,d,f,x⟩:Fr) frF=true) (_h8:f<0) (_h9:¬0<x):
  Calls Tryz.prog 141 #[.agg #[.int .u8 b0,.int .u8 b1,.int .u8 b2,.int .u8 b3,.int .u8 b4,.int .u8 b5,.int .u8 b6,.int .u8 b7,.int .i64 r,.bool u,.bool d,.int .i64 f,.int .i64 x]] w fun e w'=>e= .returned (.int .i64 0)/\zc w w':=by
 have hq:=fun W=>zcb b0 b1 b2 b3 b4 b5 b6 b7 r u d f x 0 0 0 0 0 0 0 0 0 false false (-1) 0 W
 simp only[show(⟨⟨0,0,0,0,0,0,0,0⟩,0,false,false,-1,0⟩:Fr)=frF from rfl,hfr]at hq
 clear hfr
 go_enter Tryz.func141,Tryz.ntmps141
 go_wp2;go_ret;exact⟨rfl,(bR _ _).alloc (nR _) _⟩
theorem zk4 (b0 b1 b2 b3 b4 b5 b6 b7 r:Int) (u d:Bool) (f x:Int) (w:World) (_h:¬r<0) (_h2:¬1000<r) (_h3:¬f< -1) (_h4:¬4<f) (_h5:¬x<0) (_h6:¬11<x) (_h7:(r == 0)=true) (hfr:Zz (⟨⟨b0,b1,b2,b3,b4,b5,b6,b7⟩,r,u,d,f,x⟩:Fr) frF=false) (_h8:(f == -1)=false):
  Calls Tryz.prog 141 #[.agg #[.int .u8 b0,.int .u8 b1,.int .u8 b2,.int .u8 b3,.int .u8 b4,.int .u8 b5,.int .u8 b6,.int .u8 b7,.int .i64 r,.bool u,.bool d,.int .i64 f,.int .i64 x]] w fun e w'=>e= .returned (.int .i64 7)/\zc w w':=by
 have hq:=fun W=>zcb b0 b1 b2 b3 b4 b5 b6 b7 r u d f x 0 0 0 0 0 0 0 0 0 false false (-1) 0 W
 simp only[show(⟨⟨0,0,0,0,0,0,0,0⟩,0,false,false,-1,0⟩:Fr)=frF from rfl,hfr]at hq
 clear hfr
 go_enter Tryz.func141,Tryz.ntmps141
 go_wp2;go_ret;exact⟨rfl,(bR _ _).alloc (nR _) _⟩
theorem zk3 (b0 b1 b2 b3 b4 b5 b6 b7 r:Int) (u d:Bool) (f x:Int) (w:World) (_h:¬r<0) (_h2:¬1000<r) (_h3:¬f< -1) (_h4:¬4<f) (_h5:¬x<0) (_h6:¬11<x) (_h7:(r == 0)=true) (hfr:Zz (⟨⟨b0,b1,b2,b3,b4,b5,b6,b7⟩,r,u,d,f,x⟩:Fr) frF=false) (_h8:(f == -1)=true) (_h9:¬0<x):
  Calls Tryz.prog 141 #[.agg #[.int .u8 b0,.int .u8 b1,.int .u8 b2,.int .u8 b3,.int .u8 b4,.int .u8 b5,.int .u8 b6,.int .u8 b7,.int .i64 r,.bool u,.bool d,.int .i64 f,.int .i64 x]] w fun e w'=>e= .returned (.int .i64 7)/\zc w w':=by
 have hq:=fun W=>zcb b0 b1 b2 b3 b4 b5 b6 b7 r u d f x 0 0 0 0 0 0 0 0 0 false false (-1) 0 W
 simp only[show(⟨⟨0,0,0,0,0,0,0,0⟩,0,false,false,-1,0⟩:Fr)=frF from rfl,hfr]at hq
 clear hfr
 go_enter Tryz.func141,Tryz.ntmps141
 go_wp2;go_ret;exact⟨rfl,(bR _ _).alloc (nR _) _⟩
theorem zk2 (b0 b1 b2 b3 b4 b5 b6 b7 r:Int) (d:Bool) (f x:Int) (w:World) (_h:¬r<0) (_h2:¬1000<r) (_h3:¬f< -1) (_h4:¬4<f) (_h5:¬x<0) (_h6:¬11<x) (_h7:(r == 0)=true) (hfr:Zz (⟨⟨b0,b1,b2,b3,b4,b5,b6,b7⟩,r,true,d,f,x⟩:Fr) frF=false) (_h8:(f == -1)=true) (_h9:0<x):
  Calls Tryz.prog 141 #[.agg #[.int .u8 b0,.int .u8 b1,.int .u8 b2,.int .u8 b3,.int .u8 b4,.int .u8 b5,.int .u8 b6,.int .u8 b7,.int .i64 r,.bool true,.bool d,.int .i64 f,.int .i64 x]] w fun e w'=>e= .returned (.int .i64 7)/\zc w w':=by
 have hq:=fun W=>zcb b0 b1 b2 b3 b4 b5 b6 b7 r true d f x 0 0 0 0 0 0 0 0 0 false false (-1) 0 W
 simp only[show(⟨⟨0,0,0,0,0,0,0,0⟩,0,false,false,-1,0⟩:Fr)=frF from rfl,hfr]at hq
 clear hfr
 go_enter Tryz.func141,Tryz.ntmps141
 go_wp2;go_ret;exact⟨rfl,(bR _ _).alloc (nR _) _⟩
theorem zk1 (b0 b1 b2 b3 b4 b5 b6 b7 r:Int) (f x:Int) (w:World) (_h:¬r<0) (_h2:¬1000<r) (_h3:¬f< -1) (_h4:¬4<f) (_h5:¬x<0) (_h6:¬11<x) (_h7:(r == 0)=true) (hfr:Zz (⟨⟨b0,b1,b2,b3,b4,b5,b6,b7⟩,r,false,true,f,x⟩:Fr) frF=false) (_h8:(f == -1)=true) (_h9:0<x):
  Calls Tryz.prog 141 #[.agg #[.int .u8 b0,.int .u8 b1,.int .u8 b2,.int .u8 b3,.int .u8 b4,.int .u8 b5,.int .u8 b6,.int .u8 b7,.int .i64 r,.bool false,.bool true,.int .i64 f,.int .i64 x]] w fun e w'=>e= .returned (.int .i64 7)/\zc w w':=by
 have hq:=fun W=>zcb b0 b1 b2 b3 b4 b5 b6 b7 r false true f x 0 0 0 0 0 0 0 0 0 false false (-1) 0 W
 simp only[show(⟨⟨0,0,0,0,0,0,0,0⟩,0,false,false,-1,0⟩:Fr)=frF from rfl,hfr]at hq
 clear hfr
 go_enter Tryz.func141,Tryz.ntmps141
 go_wp2;go_ret;exact⟨rfl,(bR _ _).alloc (nR _) _⟩
theorem zk0 (b0 b1 b2 b3 b4 b5 b6 b7 r:Int) (f x:Int) (w:World) (_h:¬r<0) (_h2:¬1000<r) (_h3:¬f< -1) (_h4:¬4<f) (_h5:¬x<0) (_h6:¬11<x) (_h7:(r == 0)=true) (hfr:Zz (⟨⟨b0,b1,b2,b3,b4,b5,b6,b7⟩,r,false,false,f,x⟩:Fr) frF=false) (_h8:(f == -1)=true) (_h9:0<x) (hpp:zbu (⟨b0,b1,b2,b3,b4,b5,b6,b7⟩:Pg) pg0=false):
  Calls Tryz.prog 141 #[.agg #[.int .u8 b0,.int .u8 b1,.int .u8 b2,.int .u8 b3,.int .u8 b4,.int .u8 b5,.int .u8 b6,.int .u8 b7,.int .i64 r,.bool false,.bool false,.int .i64 f,.int .i64 x]] w fun e w'=>e= .returned (.int .i64 7)/\zc w w':=by
 have hq:=fun W=>zcb b0 b1 b2 b3 b4 b5 b6 b7 r false false f x 0 0 0 0 0 0 0 0 0 false false (-1) 0 W
 simp only[show(⟨⟨0,0,0,0,0,0,0,0⟩,0,false,false,-1,0⟩:Fr)=frF from rfl,hfr]at hq
 clear hfr;have hqp:=fun W=>Qi 9998 b0 b1 b2 b3 b4 b5 b6 b7 0 0 0 0 0 0 0 0 W
 simp only[show(⟨0,0,0,0,0,0,0,0⟩:Pg)=pg0 from rfl,hpp]at hqp
 clear hpp
 go_enter Tryz.func141,Tryz.ntmps141
 go_wp2;go_ret;exact⟨rfl,(bR _ _).alloc (nR _) _⟩
theorem zkZ (b0 b1 b2 b3 b4 b5 b6 b7 r:Int) (f x:Int) (w:World) (_h:¬r<0) (_h2:¬1000<r) (_h3:¬f< -1) (_h4:¬4<f) (_h5:¬x<0) (_h6:¬11<x) (_h7:(r == 0)=true) (hfr:Zz (⟨⟨b0,b1,b2,b3,b4,b5,b6,b7⟩,r,false,false,f,x⟩:Fr) frF=false) (_h8:(f == -1)=true) (_h9:0<x) (_h10:f<0) (hpp:zbu (⟨b0,b1,b2,b3,b4,b5,b6,b7⟩:Pg) pg0=true):
  Calls Tryz.prog 141 #[.agg #[.int .u8 b0,.int .u8 b1,.int .u8 b2,.int .u8 b3,.int .u8 b4,.int .u8 b5,.int .u8 b6,.int .u8 b7,.int .i64 r,.bool false,.bool false,.int .i64 f,.int .i64 x]] w fun e w'=>e= .returned (.int .i64 7)/\zc w w':=by
 have hq:=fun W=>zcb b0 b1 b2 b3 b4 b5 b6 b7 r false false f x 0 0 0 0 0 0 0 0 0 false false (-1) 0 W
 simp only[show(⟨⟨0,0,0,0,0,0,0,0⟩,0,false,false,-1,0⟩:Fr)=frF from rfl,hfr]at hq
 clear hfr;have hqp:=fun W=>Qi 9998 b0 b1 b2 b3 b4 b5 b6 b7 0 0 0 0 0 0 0 0 W
 simp only[show(⟨0,0,0,0,0,0,0,0⟩:Pg)=pg0 from rfl,hpp]at hqp
 clear hpp
 go_enter Tryz.func141,Tryz.ntmps141
 go_wp2;go_ret;exact⟨rfl,(bR _ _).alloc (nR _) _⟩
theorem zaA (a:Fr) (w:World):Calls Tryz.prog 141 #[.agg (frv a).toArray] w fun e w'=>e= .returned (.int .i64 (frW a))/\zc w w':=by
 obtain⟨⟨b0,b1,b2,b3,b4,b5,b6,b7⟩,r,u,d,f,x⟩:=a
 show Calls Tryz.prog 141 #[.agg #[.int .u8 b0,.int .u8 b1,.int .u8 b2,.int .u8 b3,.int .u8 b4,.int .u8 b5,.int .u8 b6,.int .u8 b7,.int .i64 r,.bool u,.bool d,.int .i64 f,.int .i64 x]] w _
 by_cases h1:r<0
 ·rw[show frW (⟨⟨b0,b1,b2,b3,b4,b5,b6,b7⟩,r,u,d,f,x⟩:Fr)=3 from by simp[frW,inB];omega];exact rw1 _ _ _ _ _ _ _ _ _ _ _ _ _ w h1
 by_cases h2:1000<r
 ·rw[show frW (⟨⟨b0,b1,b2,b3,b4,b5,b6,b7⟩,r,u,d,f,x⟩:Fr)=3 from by simp[frW,inB];omega];exact rw2 _ _ _ _ _ _ _ _ _ _ _ _ _ w h1 h2
 have hb1:inB r 1001=true:=by simp[inB];omega
 by_cases h5:x<0
 ·have hb2:inB x 12=false:=by simp[inB];omega
  rw[show frW (⟨⟨b0,b1,b2,b3,b4,b5,b6,b7⟩,r,u,d,f,x⟩:Fr)=3 from by simp[frW,hb1,hb2]]
  by_cases h3:f< -1
  ·exact rw3 _ _ _ _ _ _ _ _ _ _ _ _ _ w h1 h2 h3
  by_cases h4:4<f
  ·exact rw4 _ _ _ _ _ _ _ _ _ _ _ _ _ w h1 h2 h3 h4
  exact rw5 _ _ _ _ _ _ _ _ _ _ _ _ _ w h1 h2 h3 h4 h5
 by_cases h6:11<x
 ·have hb2:inB x 12=false:=by simp[inB];omega
  rw[show frW (⟨⟨b0,b1,b2,b3,b4,b5,b6,b7⟩,r,u,d,f,x⟩:Fr)=3 from by simp[frW,hb1,hb2]]
  by_cases h3:f< -1
  ·exact rw3 _ _ _ _ _ _ _ _ _ _ _ _ _ w h1 h2 h3
  by_cases h4:4<f
  ·exact rw4 _ _ _ _ _ _ _ _ _ _ _ _ _ w h1 h2 h3 h4
  exact rw6 _ _ _ _ _ _ _ _ _ _ _ _ _ w h1 h2 h3 h4 h5 h6
 have hb2:inB x 12=true:=by simp[inB];omega
 by_cases h3:f< -1
 ·have hf:(f == -1)=false:=by simp;omega
  have hb3:inB f 5=false:=by simp[inB];omega
  rw[show frW (⟨⟨b0,b1,b2,b3,b4,b5,b6,b7⟩,r,u,d,f,x⟩:Fr)=3 from by simp only[frW,hb1,hb2,hf,hb3];rfl]
  exact rw3 _ _ _ _ _ _ _ _ _ _ _ _ _ w h1 h2 h3
 by_cases h4:4<f
 ·have hf:(f == -1)=false:=by simp;omega
  have hb3:inB f 5=false:=by simp[inB];omega
  rw[show frW (⟨⟨b0,b1,b2,b3,b4,b5,b6,b7⟩,r,u,d,f,x⟩:Fr)=3 from by simp only[frW,hb1,hb2,hf,hb3];rfl]
  exact rw4 _ _ _ _ _ _ _ _ _ _ _ _ _ w h1 h2 h3 h4
 by_cases h7:r=0
 ·have hre:(r == 0)=true:=by simp[h7]
  cases hfr:Zz (⟨⟨b0,b1,b2,b3,b4,b5,b6,b7⟩,r,u,d,f,x⟩:Fr) frF with
  | true=>
   have hh:=zdk hfr;simp only[frF,Fr.mk.injEq]at hh;have hf:(f == -1)=true:=by simp[hh.2.2.2.2.1]
   have hx:(x == 0)=true:=by simp[hh.2.2.2.2.2]
   rw[show frW (⟨⟨b0,b1,b2,b3,b4,b5,b6,b7⟩,r,u,d,f,x⟩:Fr)=0 from by simp only[frW,hb1,hb2,hf,hre,hfr,hx];rfl]
   exact zk5 _ _ _ _ _ _ _ _ _ _ _ _ _ w h1 h2 h3 h4 h5 h6 hre hfr (by omega) (by omega)
  | false=>
   by_cases hf:f=-1
   ·have hfe:(f == -1)=true:=by simp[hf]
    rw[show frW (⟨⟨b0,b1,b2,b3,b4,b5,b6,b7⟩,r,u,d,f,x⟩:Fr)=7 from by simp only[frW,hb1,hb2,hfe,hre,hfr];rfl]
    by_cases h9:0<x
    ·cases u with
     | true=>exact zk2 _ _ _ _ _ _ _ _ _ _ _ _ w h1 h2 h3 h4 h5 h6 hre hfr hfe h9
     | false=>
      cases d with
      | true=>exact zk1 _ _ _ _ _ _ _ _ _ _ _ w h1 h2 h3 h4 h5 h6 hre hfr hfe h9
      | false=>
       cases hpp:zbu (⟨b0,b1,b2,b3,b4,b5,b6,b7⟩:Pg) pg0 with
       | true=>exact zkZ _ _ _ _ _ _ _ _ _ _ _ w h1 h2 h3 h4 h5 h6 hre hfr hfe h9 (by omega) hpp
       | false=>exact zk0 _ _ _ _ _ _ _ _ _ _ _ w h1 h2 h3 h4 h5 h6 hre hfr hfe h9 hpp
    exact zk3 _ _ _ _ _ _ _ _ _ _ _ _ _ w h1 h2 h3 h4 h5 h6 hre hfr hfe h9
   have hfe:(f == -1)=false:=by simp[hf]
   have hb3:inB f 5=true:=by simp[inB];omega
   rw[show frW (⟨⟨b0,b1,b2,b3,b4,b5,b6,b7⟩,r,u,d,f,x⟩:Fr)=7 from by simp only[frW,hb1,hb2,hfe,hb3,hre,hfr];rfl]
   exact zk4 _ _ _ _ _ _ _ _ _ _ _ _ _ w h1 h2 h3 h4 h5 h6 hre hfr hfe
 have hre:(r == 0)=false:=by simp[h7]
 by_cases hf:f=-1
 ·have hfe:(f == -1)=true:=by simp[hf]
  by_cases h9:0<x
  ·have hx:(x == 0)=false:=by simp;omega
   rw[show frW (⟨⟨b0,b1,b2,b3,b4,b5,b6,b7⟩,r,u,d,f,x⟩:Fr)=7 from by simp only[frW,hb1,hb2,hfe,hre,hx];rfl]
   exact rw7 _ _ _ _ _ _ _ _ _ _ _ _ _ w h1 h2 h3 h4 h5 h6 hre (by omega) h9
  have hx:(x == 0)=true:=by simp;omega
  rw[show frW (⟨⟨b0,b1,b2,b3,b4,b5,b6,b7⟩,r,u,d,f,x⟩:Fr)=0 from by simp only[frW,hb1,hb2,hfe,hre,hx];rfl]
  exact rw8 _ _ _ _ _ _ _ _ _ _ _ _ _ w h1 h2 h3 h4 h5 h6 hre (by omega) h9
 have hfe:(f == -1)=false:=by simp[hf]
 have hb3:inB f 5=true:=by simp[inB];omega
 rw[show frW (⟨⟨b0,b1,b2,b3,b4,b5,b6,b7⟩,r,u,d,f,x⟩:Fr)=0 from by simp only[frW,hb1,hb2,hfe,hb3,hre];rfl]
 exact rw9 _ _ _ _ _ _ _ _ _ _ _ _ _ w h1 h2 h3 h4 h5 h6 hre (by omega)
theorem QY (a:Option Addr) (c:Nat) (fs:List Fr) (h:Int) (w:World) (hv:zY w (.slice a fs.length c) fs):
  Calls Tryz.prog 156 #[.agg #[.slice a fs.length c,.int .i64 h]] w fun e w'=>e= .returned (.int .i64 (Ze fs h))/\zc w w':=by
 have hbig:=hv.short;obtain⟨a',c',heq,hrow⟩:=hv.frs;cases heq;have HR:Hid (Qs w a fs):=hrow;clear hrow hv;have HM:Hid (Ze fs h=if 40<fs.length then 4 else if J5 fs=0 then(if inB h (max fs.length 1)then 0 else 3)else J5 fs):=rfl;obtain⟨n,HN⟩:∃n,Hid (fs.length=n):=⟨_,rfl⟩;rw[HN.out]at hbig HM⊢;obtain⟨W0,hW0⟩:∃W0,w.alloc (.cells #[.slice a n c,.int .i64 h] 28)=W0:=⟨_,rfl⟩;have HG0:=gA hW0
 have X0:=xA hW0
 have HW0:Hid (_=W0):=hW0;clear hW0
 by_cases h40:40<n
 ·have h40z:(40:Int)< (n:Int):=by omega
  go_enter Tryz.func156,Tryz.ntmps156
  go_wp2;go_ret;exact⟨by rw[HM.out,if_pos h40];rfl,by rw[HW0.out];exact HG0.out⟩
 have h40z:¬(40:Int)< (n:Int):=by omega
 rw[if_neg h40]at HM
 go_enter Tryz.func156,Tryz.ntmps156
 go_wp2;rw[HW0.out]
 go_loopg [4,5,13] n (fun gg _ _ s13 wr=>∃kk:Nat,kk<=n/\n - kk<=gg/\s13= .int .i64 kk/\Hid (zc W0 wr)/\Hid (J5 (fs.drop kk)=J5 fs))
 case atStart=>exact⟨0,nZ _,by omega,rfl,zc.refl _,rfl⟩
 obtain⟨kk,hkk,hg,rfl,BW,A⟩:=hrel
 by_cases hlt:kk<n
 ·have hltz:(kk:Int)< (n:Int):=by omega
  obtain⟨q,HQ⟩:∃q,Hid (fs[kk]? =some q):=⟨_,gE (by rw[HN.out];exact hlt)⟩
  obtain⟨ad,rfl,hl⟩:=HR.out kk q HQ.out;obtain⟨d0,d1,d2,d3,d4,d5,d6,d7,d8,d9,d10,d11,d12⟩:=hl wr (HG0.out.trans BW.out);have hcall:∀W,Calls Tryz.prog 187 #[.agg #[.int .u8 q.p.b0,.int .u8 q.p.b1,.int .u8 q.p.b2,.int .u8 q.p.b3,.int .u8 q.p.b4,.int .u8 q.p.b5,.int .u8 q.p.b6,.int .u8 q.p.b7,.int .i64 q.r,.bool q.u,.bool q.d,.int .i64 q.f,.int .i64 q.x]] W fun e w'=>e= .returned (.int .i64 (frW q))/\zc W w':=fun W=>zb0 q W
  have HST:Hid (J5 (fs.drop kk)=if frW q=0 then J5 (fs.drop (kk+1))else frW q):=show _=_ by
   obtain⟨hlt',rfl⟩:=gS.1 HQ.out;rw[List.drop_eq_getElem_cons hlt'];rfl
  clear hl
  generalize frW q=z at hcall HST
  by_cases hz:z=0
  ·have HA:Hid (J5 (fs.drop (kk+1))=J5 fs):=show _=_ by rw[<-A.out,HST.out,if_pos hz]
   subst hz;clear HST
   go_wp2_with (go_at_call 187;refine(hcall _).mono ?_;rintro e w' ⟨rfl,hb'⟩)
   go_roundg (n -(kk+1))
   case measure=>omega
   exact⟨kk+1,by omega,by omega,by go_num,(BW.out.trans (za _ _)).trans hb',HA.out⟩
  have hzb:(z != 0)=true:=by simpa using hz
  have HF:Hid (Ze fs h=z):=show _=_ by
   have h1:=A.out;rw[HST.out,if_neg hz]at h1;rw[HM.out,<-h1,if_neg hz]
  clear HST A HM
  go_wp2_with (go_at_call 187;refine(hcall _).mono ?_;rintro e w' ⟨rfl,hb'⟩)
  go_ret;exact⟨by rw[HF.out];rfl,((HG0.out.trans BW.out).trans (za _ _)).trans hb'⟩
 have hltz:¬(kk:Int)< (n:Int):=by omega
 have:kk=n:=by omega
 subst this;have e0:=(X0.out.grew BW.out).c 0 rfl;have e1:=(X0.out.grew BW.out).c 1 rfl;have hz:J5 fs=0:=by rw[<-A.out,List.drop_of_length_le (by rw[HN.out];exact nR _)];rfl
 have HM':Hid (Ze fs h=if inB h (max kk 1)then 0 else 3):=show _=_ by rw[HM.out,if_pos hz]
 clear HM A hz;have hbel:∀W,Calls Tryz.prog 176 #[.int .i64 h,.int .i64 (max (kk:Int) 1)] W fun e w'=>e= .returned (.bool (inB h (max kk 1)))/\w'=W:=fun W=>qW h _ W
 generalize inB h (max kk 1)=bb at hbel HM'
 cases bb with
 | true=>
  have HF:Hid (Ze fs h=0):=show _=_ by rw[HM'.out];rfl
  clear HM'
  go_wp2_with (go_at_call 176;refine(hbel _).mono ?_;rintro e w' ⟨rfl,rfl⟩)
  go_ret;exact⟨by rw[HF.out];rfl,HG0.out.trans BW.out⟩
 | false=>
  have HF:Hid (Ze fs h=3):=show _=_ by rw[HM'.out];rfl
  clear HM'
  go_wp2_with (go_at_call 176;refine(hbel _).mono ?_;rintro e w' ⟨rfl,rfl⟩)
  go_ret;exact⟨by rw[HF.out];rfl,HG0.out.trans BW.out⟩
theorem zdD (z:Int) (w:World):
  Calls Tryz.prog 189 #[.int .i64 z] w fun e w'=>e= .returned (.bool (zav z))/\zc w w':=by
 by_cases h0:z<0
 ·have HF:Hid (zav z=true):=show _=_ by simp[zav,h0]
  go_enter Tryz.func189,Tryz.ntmps189
  go_wp2;go_ret;exact⟨by rw[HF.out];rfl,zc.refl _⟩
 by_cases h1:1000<z
 ·have HF:Hid (zav z=true):=show _=_ by simp[zav,h1]
  go_enter Tryz.func189,Tryz.ntmps189
  go_wp2;go_ret;exact⟨by rw[HF.out];rfl,zc.refl _⟩
 have HF:Hid (zav z=false):=show _=_ by simp[zav];omega
 go_enter Tryz.func189,Tryz.ntmps189
 go_wp2;go_ret;exact⟨by rw[HF.out];rfl,zc.refl _⟩
theorem zjD {p:Int->Bool} {fs:List Int} {k:Nat} {q:Int} (h:fs[k]? =some q) (hq:p q=true):fs.any p=true:=List.any_eq_true.2 ⟨q,mG h,hq⟩
theorem zjC {p:Int->Bool} {fs:List Int} (hb:∀(j:Nat) x,fs[j]? =some x->p x=false):fs.any p=false:=List.any_eq_false.2 fun x hx=>by
 obtain⟨j,hj⟩:=List.getElem?_of_mem hx;rw[hb j x hj]
 decide
theorem zd6 (v:Value) (fs:List Int) (w:World) (hv:zo slE w v fs):
  Calls Tryz.prog 218 #[v,.func (.func 189) #[] #[]] w fun e w'=>(∃z:Int,e= .returned (.int .i64 z)/\decide (0<=z)=fs.any zav)/\zc w w':=by
 have hbig:=hv.short;obtain⟨a,c,rfl,hrow⟩:=hv.sls;have HR:Hid (zaU w a fs):=hrow;have eg:=enters_of Tryz.func189 (by kernel_rfl) rfl
 clear hrow hv;obtain⟨n,HN⟩:∃n,Hid (fs.length=n):=⟨_,rfl⟩;rw[HN.out]at hbig⊢
 go_enter Tryz.func218,Tryz.ntmps218
 go_wp2
 go_loopg [5,8] n (fun gg _ s8 wr=>∃kk:Nat,kk<=n/\n - kk<=gg/\s8= .int .i64 kk/\Hid (zc w wr)/\Hid (∀j q,j<kk->fs[j]? =some q->zav q=false))
 case atStart=>exact⟨0,nZ _,by omega,rfl,zc.refl w,fun j q hj=>absurd hj (nL _)⟩
 obtain⟨kk,hkk,hg,rfl,BW,A⟩:=hrel
 by_cases hlt:kk<n
 ·have hltz:(kk:Int)< (n:Int):=by omega
  obtain⟨q,HQ⟩:∃q,Hid (fs[kk]? =some q):=⟨_,gE (by rw[HN.out];exact hlt)⟩
  obtain⟨ad,rfl,hl⟩:=HR.out kk q HQ.out;have d0:=hl wr BW.out;have hcall:Calls Tryz.prog 189 #[.int .i64 q] wr fun e w'=>e= .returned (.bool (zav q))/\zc wr w':=zdD q wr
  clear hl
  cases hq:zav q with
  | true=>
   rw[hq]at hcall;have HF:Hid (decide (0<=(kk:Int))=fs.any zav):=show _=_ by rw[zjD HQ.out hq];simp
   clear hq
   go_wp2_with (go_at_call 189;refine hcall.mono ?_;rintro e w' ⟨rfl,hb'⟩)
   go_ret;exact⟨⟨_,rfl,HF.out⟩,BW.out.trans hb'⟩
  | false=>
   rw[hq]at hcall;have HA:Hid (∀(j:Nat) q,j<kk+1->fs[j]? =some q->zav q=false):=show∀(j:Nat) q,_ from fun j q' hj hq'=>by
    by_cases e:j=kk
    ·subst e;rw[HQ.out]at hq';cases hq';exact hq
    exact A.out j q' (by omega) hq'
   clear hq
   go_wp2_with (go_at_call 189;refine hcall.mono ?_;rintro e w' ⟨rfl,hb'⟩)
   go_roundg (n -(kk+1))
   case measure=>omega
   exact⟨kk+1,by omega,by omega,by go_num,BW.out.trans hb',HA.out⟩
 have hltz:¬(kk:Int)< (n:Int):=by omega
 have:kk=n:=by omega
 subst this;have HF:Hid (decide (0<=(-1:Int))=fs.any zav):=show _=_ by
  rw[zjC (fun j q hj=>A.out j q (by rw[<-HN.out];exact(gS.1 hj).1) hj)]
  rfl
 go_wp2;go_ret;exact⟨⟨_,rfl,HF.out⟩,BW.out⟩
theorem zgY (v:Value) (fs:List Int) (w:World) (hv:zo slE w v fs):
  Calls Tryz.prog 188 #[v,.func (.func 189) #[] #[]] w fun e w'=>e= .returned (.bool (fs.any zav))/\zc w w':=by
 have h1:=zd6 v fs w hv;obtain⟨a,c,rfl,_⟩:=hv.sls;clear hv
 generalize fs.any zav=bb at h1⊢
 go_enter Tryz.func188,Tryz.ntmps188
 go_wp2_with fail;refine h1.mono ?_;rintro e W1 ⟨⟨z,rfl,hz⟩,g1⟩;have G1:Hid (zc w W1):=g1;have HF:Hid (decide (0<=z)=bb):=hz;clear g1 hz h1;go_wp2;go_ret;exact⟨by rw[HF.out];rfl,G1.out⟩
theorem zga (a:Option Addr) (c:Nat) (s:List Int) (w:World) (hv:zo slE w (.slice a s.length c) s):
  Calls Tryz.prog 157 #[.slice a s.length c] w fun e w'=>e= .returned (.int .i64 (slW s))/\zc w w':=by
 have h1:=zgY _ s w hv;have HM:Hid (slW s=if 60<s.length then 4 else if s.any zav then 3 else 0):=rfl;have hbig:=hv.short;obtain⟨n,HN⟩:∃n,Hid (s.length=n):=⟨_,rfl⟩;rw[HN.out]at h1 HM hbig⊢;clear hv
 generalize s.any zav=bb at h1 HM
 by_cases h60:60<n
 ·have h60z:(60:Int)< (n:Int):=by omega
  have HF:Hid (slW s=4):=show _=_ by rw[HM.out,if_pos h60]
  clear HM h1
  go_enter Tryz.func157,Tryz.ntmps157
  go_wp2;go_ret;exact⟨by rw[HF.out];rfl,zc.refl _⟩
 have h60z:¬(60:Int)< (n:Int):=by omega
 rw[if_neg h60]at HM
 cases bb with
 | true=>
  have HF:Hid (slW s=3):=HM.out;clear HM
  go_enter Tryz.func157,Tryz.ntmps157
  go_wp2_with fail;refine h1.mono ?_;rintro e W1 ⟨rfl,g1⟩;have G1:Hid (zc w W1):=g1;clear g1 h1;go_wp2;go_ret;exact⟨by rw[HF.out];rfl,G1.out⟩
 | false=>
  have HF:Hid (slW s=0):=HM.out;clear HM
  go_enter Tryz.func157,Tryz.ntmps157
  go_wp2_with fail;refine h1.mono ?_;rintro e W1 ⟨rfl,g1⟩;have G1:Hid (zc w W1):=g1;clear g1 h1;go_wp2;go_ret;exact⟨by rw[HF.out];rfl,G1.out⟩
def qp (n:Nat) (g:List Int):List Value:=(List.range n).map fun(i:Nat)=> .bool (g.contains (i:Int))
theorem QB {n:Nat} (g:List Int) {i:Nat} (hi:i<n):(qp n g)[i]? =some (.bool (g.contains (i:Int))):=by
 unfold qp;rw[List.getElem?_map,List.getElem?_range hi];rfl
theorem zd0 {n:Nat} (g:List Int) {i:Nat} (hi:i<n):(qp n g).set i (.bool true)=qp n ((i:Int) :: g):=by
 apply List.ext_getElem?
 intro j
 by_cases e:j=i
 ·subst e;rw[sF (by simp[qp,hi]),QB _ hi]
  simp
 rw[sN (fun h=>e h.symm)]
 rcases Nat.lt_or_ge j n with hj | hj
 ·rw[QB _ hj,QB _ hj];have:¬((j:Int)=(i:Int)):=by omega
  simp[this]
 rw[gN (by simp[qp,hj]),gN (by simp[qp,hj])]
theorem zby:qp 80 []=List.replicate 80 (.bool false):=by
 unfold qp
 simp[List.map_const']
theorem zi6 (b cnt:Int) (g:List Int) (pc pg:Nat) (w:World) (hc:Box w pc [.int .i64 cnt]) (hg:Box w pg (qp 80 g)) (hn:cnt<=80):
  Calls Tryz.prog 220 #[.int .i64 b,.pointer (some ⟨pc,0,none⟩),.pointer (some ⟨pg,0,none⟩)] w fun e w'=>e= .returned (.int .i64 (ZE cnt g b))/\(ZE cnt g b=0->Box w' pg (qp 80 (QV g b)))/\w.grownBy w' (some pg)/\w'.heap.size=w.heap.size:=by
 have c0:=hc.c 0 rfl;have HG:Hid (Box w pg (qp 80 g)):=hg
 rcases QG cnt g b with⟨h1,h2,h3⟩ | ⟨h1,h2,h3⟩ | ⟨i,h1,h2,h3,h4⟩ | ⟨i,h1,h2,h3,h4,h5⟩
 ·rw[h2];have HP:Hid (Box w pg (qp 80 (QV g b))):=show Box _ _ _ by rw[h3];exact hg
  subst h1;clear hc hg h2 h3
  generalize QV g (-1)=gg at HP⊢
  go_enter Tryz.func220,Tryz.ntmps220
  go_wp2;go_ret;exact⟨rfl,fun _=>HP.out,World.grownBy.rfl' _ _,rfl⟩
 ·rw[h3];have hb:=zbd h2 w;have hb1:(b == -1)=false:=by simpa using h1
  clear hc hg h2 h3
  generalize QV g b=gg
  go_enter Tryz.func220,Tryz.ntmps220
  go_wp2_with (go_at_call 174;refine hb.mono ?_;rintro e w' ⟨rfl,rfl⟩)
  go_ret;exact⟨rfl,fun h=>by omega,World.grownBy.rfl' _ _,rfl⟩
 ·rw[h4];subst h1;have hi:i<80:=by omega
  have hb:=Jn (m:=(i:Int)) (n:=cnt) (by omega) h2 w
  have hb1:((i:Int) == -1)=false:=by simp
  have d0:=hg.c i (QB g hi);rw[h3]at d0
  generalize QV g (i:Int)=gg
  clear hc hg h2 h3 h4
  go_enter Tryz.func220,Tryz.ntmps220
  go_wp2_with (go_at_call 174;refine hb.mono ?_;rintro e w' ⟨rfl,rfl⟩)
  go_ret;exact⟨rfl,fun h=>by omega,World.grownBy.rfl' _ _,rfl⟩
 rw[h4];subst h1;have hi:i<80:=by omega
 have hb:=Jn (m:=(i:Int)) (n:=cnt) (by omega) h2 w
 have hb1:((i:Int) == -1)=false:=by simp
 have d0:=hg.c i (QB g hi);have f0:=hg.f;rw[h3]at d0;have HP:Hid (Box (w.setCell ⟨pg,i,none⟩ (.bool true)) pg (qp 80 (QV g (i:Int)))):=show Box _ _ _ by
  rw[h5,<-zd0 g hi];exact hg.set i _
 generalize QV g (i:Int)=gg at HP
 clear hc hg h2 h3 h4 h5
 go_enter Tryz.func220,Tryz.ntmps220
 go_wp2_with (go_at_call 174;refine hb.mono ?_;rintro e w' ⟨rfl,rfl⟩)
 go_ret;exact⟨rfl,fun _=>HP.out,⟨rfl,rfl,rfl,by simp[World.setCell],fun k hk hne=>Below.heap_setCell _ _ _ _ (fun e=>hne (by rw[e]))⟩,by simp[World.setCell]⟩
def zdu:Array Value:=(List.replicate 80 (.bool false)).toArray
theorem zeE:(Tryz.prog.info? 223).map (fun i=>i.zero)=some (some (.agg zdu)):=by kernel_rfl
theorem zaz (w:World):(zeroValue 223).run Tryz.prog w= .ok (.agg zdu) w:=by
 have h:=zeE
 cases hq:Tryz.prog.info? 223 with
 | none=>simp[hq]at h
 | some i=>
  simp[hq]at h
  simp[zeroValue,typeInfo,hq,h]
theorem zhH (cnt:Int) (w:World):
  Calls Tryz.prog 193 #[.int .i64 cnt] w fun e w'=>e= .returned (.func (.func 220) #[] #[.pointer (some ⟨w.heap.size,0,none⟩),.pointer (some ⟨w.heap.size+1,0,none⟩)])/\Box w' w.heap.size [.int .i64 cnt]/\Box w' (w.heap.size+1) (qp 80 [])/\zc w w'/\w'.heap.size=w.heap.size+2:=by
 have hmf:∀(fn:Fn) (first cap:Array Value) (w:World),(Instr.makeFunc fn first cap).run Tryz.prog w= .ok (.func fn first cap) w:=fun _ _ _ _=>rfl
 have hz:=zaz;rw[zby]
 go_enter Tryz.func193,Tryz.ntmps193
 go_wp2;go_ret;exact⟨rfl,(Box.top w _ _ rfl).alloc _,Box.top _ (List.replicate 80 (.bool false)) _ (by simp),(za _ _).trans (za _ _),by simp⟩
theorem zbc (g l:List Int) (b:Int):blG g (l++ [b])=QV (blG g l) b:=by
 unfold blG;rw[List.foldl_append];rfl
theorem zcG (f:Fl) (xa:Option Addr) (xc:Nat) (cnt:Int) (g:List Int) (pc pg:Nat) (w:World) (hc:Box w pc [.int .i64 cnt]) (hg:Box w pg (qp 80 g)) (hne:pc≠pg) (hn:cnt<=80) (hr:zeB blE pg (pg+1) w (.slice xa f.bl.length xc) f.bl):
  Calls Tryz.prog 194 #[.agg #[.int .i64 f.size,.slice xa f.bl.length xc],.func (.func 220) #[] #[.pointer (some ⟨pc,0,none⟩),.pointer (some ⟨pg,0,none⟩)]] w fun e w'=>e= .returned (.int .i64 (flW cnt g f))/\(flW cnt g f=0->Box w' pg (qp 80 (blG g f.bl)))/\Out pg (pg+1) w w':=by
 obtain⟨sz,bl⟩:=f;have HD:Hid (flW cnt g ⟨sz,bl⟩=if 0<=sz/\sz<=96 then(if(bl.length:Int)=JG sz then blW cnt g bl else 2)else 3):=rfl;have HC:Hid (Box w pc [.int .i64 cnt]):=hc;have HG:Hid (Box w pg (qp 80 g)):=hg;have HR:Hid (zeB blE pg (pg+1) w (.slice xa bl.length xc) bl):=hr;have HNE:Hid (pc≠pg):=hne;have hbig:=(hr.now).short;clear hc hg hr hne;simp only at hbig
 show Calls _ _ #[.agg #[.int .i64 sz,.slice xa bl.length xc],_] _ _
 generalize flW cnt g ⟨sz,bl⟩=Z at HD⊢
 simp only
 by_cases h1:0<=sz/\sz<=96
 ·rw[if_pos h1]at HD;obtain⟨h10,h11⟩:=h1;have hb:=fun W=>Jn (m:=sz) (n:=97) h10 (by omega) W
  have hcn:=fun W=>zh2 sz W h10 h11
  by_cases h2:(bl.length:Int)=JG sz
  ·rw[if_pos h2]at HD;rw[<-h2]at hcn;clear h10 h11 h2;obtain⟨n,HN⟩:∃n,Hid (bl.length=n):=⟨_,rfl⟩;rw[HN.out]at hbig hcn HR⊢;obtain⟨W0,hW0⟩:∃W0,w.alloc (.cells #[.int .i64 sz,.slice xa n xc] 88)=W0:=⟨_,rfl⟩;have HW0:Hid (_=W0):=hW0;have HG0:=gA hW0
   clear hW0;have eg:=enters_of Tryz.func220 (by kernel_rfl) rfl
   have hnn:((n:Int) !=(n:Int))=false:=by simp
   go_enter Tryz.func194,Tryz.ntmps194
   go_wp2_with (go_at_call 174;refine(hb _).mono ?_;rintro e w' ⟨rfl,rfl⟩)
   go_quiet (first | (go_at_call 221;exact Calls.quiet_of_same (hcn _)))
   rw[HW0.out];obtain⟨W1,hW1⟩:∃W1,W0.drewN nq=W1:=⟨_,rfl⟩;have X1:Hid (Box W1 w.heap.size [.int .i64 sz,.slice xa n xc]):=show Box _ _ _ by rw[<-hW1,<-HW0.out];exact(Box.top w _ _ rfl).grew (show Below _ _ _ from bD (bR _ _) _)
   have O1:Hid (Out pg (pg+1) w W1):=show Out _ _ _ _ by rw[<-hW1];exact(Out.grew HG0.out).trans (Out.grew (show Below _ _ _ from bD (bR _ _) _))
   have C1:Hid (Box W1 pc [.int .i64 cnt]):=show Box _ _ _ from HC.out.out O1.out (by have:=HNE.out;omega)
   have G1:Hid (Box W1 pg (qp 80 g)):=show Box _ _ _ by rw[<-hW1];exact(HG.out.grew HG0.out).grew (show Below _ _ _ from bD (bR _ _) _)
   rw[hW1];clear hW1 hcn hb HC HG;have x0:=X1.out.c 0 rfl;have x1:=X1.out.c 1 rfl;go_wp2
   go_loopg [6,7,22] n (fun gg _ _ s22 wr=>∃kk:Nat,kk<=n/\n - kk<=gg/\s22= .int .i64 kk/\Hid (Out pg (pg+1) w wr)/\Hid (Box wr pg (qp 80 (blG g (bl.take kk))))/\Hid (blW cnt (blG g (bl.take kk)) (bl.drop kk)=blW cnt g bl)/\Hid (Box wr pc [.int .i64 cnt]))
   case atStart=>exact⟨0,nZ _,by omega,rfl,O1.out,G1.out,rfl,C1.out⟩
   obtain⟨kk,hkk,hgg,rfl,OW,GW,AW,CW⟩:=hrel;clear x0 x1 X1 O1 C1 G1
   by_cases hlt:kk<n
   ·have hltz:(kk:Int)< (n:Int):=by omega
    obtain⟨q,HQ⟩:∃q,Hid (bl[kk]? =some q):=⟨_,gE (by rw[HN.out];exact hlt)⟩
    obtain⟨a',c',heq,hrow⟩:=(HR.out wr OW.out).nums;rw[HN.out]at heq;cases heq;obtain⟨ad,rfl,hl⟩:=hrow kk q HQ.out;have d0:=hl wr (zc.refl _);have hcall:=zi6 q cnt (blG g (bl.take kk)) pc pg wr CW.out GW.out hn;have HST:Hid (blW cnt (blG g (bl.take kk)) (bl.drop kk)=if ZE cnt (blG g (bl.take kk)) q=0 then blW cnt (blG g (bl.take (kk+1))) (bl.drop (kk+1))else ZE cnt (blG g (bl.take kk)) q):=show _=_ by
     rw[qJ HQ.out,qa HQ.out,zbc];rfl
    rw[<-zbc,<-qa HQ.out]at hcall;clear hl hrow
    generalize ZE cnt (blG g (bl.take kk)) q=z at hcall HST
    by_cases hz:z=0
    ·have HA:Hid (blW cnt (blG g (bl.take (kk+1))) (bl.drop (kk+1))=blW cnt g bl):=show _=_ by rw[<-AW.out,HST.out,if_pos hz]
     subst hz;clear HST;go_wp2_with fail;refine hcall.mono ?_;rintro e W2 ⟨rfl,k1,k2,k3⟩;have G2:Hid (Box W2 pg (qp 80 (blG g (bl.take (kk+1))))):=k1 (by first | exact rfl | exact trivial)
     have O2:Hid (Out pg (pg+1) w W2):=OW.out.trans (Out.grown k2 (fun g hg=>by cases hg;omega))
     have C2:Hid (Box W2 pc [.int .i64 cnt]):=CW.out.grown k2 HNE.out;clear k1 k2 k3 hcall;go_wp2
     go_roundg (n -(kk+1))
     case measure=>omega
     exact⟨kk+1,by omega,by omega,by go_num,O2.out,G2.out,HA.out,C2.out⟩
    have hzb:(z != 0)=true:=by simpa using hz
    have HF:Hid (Z=z):=show _=_ by
     have h1:=AW.out;rw[HST.out,if_neg hz]at h1;rw[HD.out,<-h1]
    clear HST;go_wp2_with fail;refine hcall.mono ?_;rintro e W2 ⟨rfl,k1,k2,k3⟩;have O2:Hid (Out pg (pg+1) w W2):=OW.out.trans (Out.grown k2 (fun g hg=>by cases hg;omega))
    clear k1 k2 k3 hcall;go_wp2;go_ret;exact⟨by rw[HF.out];rfl,fun h=>absurd (HF.out.symm.trans h) hz,O2.out⟩
   have hltz:¬(kk:Int)< (n:Int):=by omega
   have:kk=n:=by omega
   subst this;have HF:Hid (Z=0):=show _=_ by
    rw[HD.out,<-AW.out,List.drop_of_length_le (by rw[HN.out];exact nR _)]
    rfl
   have GE:Hid (Box wr pg (qp 80 (blG g bl))):=show Box _ _ _ by
    have:=GW.out;rw[List.take_of_length_le (by rw[HN.out];exact nR _)]at this
    exact this
   go_wp2;go_ret;exact⟨by rw[HF.out];rfl,fun _=>GE.out,OW.out⟩
  rw[if_neg h2]at HD;have hnn:((bl.length:Int) != JG sz)=true:=by simpa using h2
  clear h2 h10 h11
  generalize JG sz=cp at*
  obtain⟨n,HN⟩:∃n,Hid (bl.length=n):=⟨_,rfl⟩;rw[HN.out]at hbig hnn HR⊢
  go_enter Tryz.func194,Tryz.ntmps194
  go_wp2_with (go_at_call 174;refine(hb _).mono ?_;rintro e w' ⟨rfl,rfl⟩)
  go_quiet (first | (go_at_call 221;exact Calls.quiet_of_same (hcn _)))
  go_wp2;go_ret;exact⟨by rw[HD.out];rfl,fun h=>(by rw[HD.out]at h;cases h),(Out.grew (za _ _)).trans (Out.grew (show Below _ _ _ from bD (bR _ _) _))⟩
 rw[if_neg h1]at HD;have hb:=fun W=>zbd (m:=sz) (n:=97) (by omega) W
 clear h1;obtain⟨n,HN⟩:∃n,Hid (bl.length=n):=⟨_,rfl⟩;rw[HN.out]at hbig HR⊢
 go_enter Tryz.func194,Tryz.ntmps194
 go_wp2_with (go_at_call 174;refine(hb _).mono ?_;rintro e w' ⟨rfl,rfl⟩)
 go_ret;exact⟨by rw[HD.out];rfl,fun h=>(by rw[HD.out]at h;cases h),Out.grew (za _ _)⟩
def zaR (g:List Int) (fs:List Fl):List Int:=fs.foldl (fun g f=>blG g f.bl) g
theorem zaq (g:List Int) (fs:List Fl) (f:Fl):zaR g (fs++ [f])=blG (zaR g fs) f.bl:=by
 unfold zaR;rw[List.foldl_append];rfl
theorem Jv {l:List Fl} {k:Nat} {q:Fl} (h:l[k]? =some q):l.take (k+1)=l.take k++ [q]:=by
 rw[List.take_add_one,h];rfl
theorem zeG (v:Value) (fs:List Fl) (cnt:Int) (w:World) (hv:qN w v fs):
  Calls Tryz.prog 159 #[.agg #[v,.int .i64 cnt]] w fun e w'=>e= .returned (.int .i64 (stW fs cnt))/\zc w w':=by
 obtain⟨a,c,rfl,hbig,hrow⟩:=hv.rows;have HR:Hid (Zb w a fs):=hrow;have HD:Hid (stW fs cnt=if fs.length<=5/\0<=cnt/\cnt<=80 then zba cnt [] fs else 4):=rfl;clear hrow hv
 generalize stW fs cnt=Z at HD⊢
 obtain⟨n,HN⟩:∃n,Hid (fs.length=n):=⟨_,rfl⟩;rw[HN.out]at hbig HD⊢;obtain⟨W0,hW0⟩:∃W0,w.alloc (.cells #[.slice a n c,.int .i64 cnt] 37)=W0:=⟨_,rfl⟩;have HG0:=gA hW0
 have X0:=xA hW0
 have HS0:=sA hW0
 have HW0:Hid (_=W0):=hW0;clear hW0
 by_cases h5:n<=5
 ·have h5z:¬(5:Int)< (n:Int):=by omega
  have h5d:decide ((5:Int)< (n:Int))=false:=decide_eq_false h5z
  by_cases hc:0<=cnt/\cnt<=80
  ·rw[if_pos ⟨h5,hc⟩]at HD;have hb:=fun W=>Jn (m:=cnt) (n:=81) hc.1 (by omega) W
   have hc80:cnt<=80:=hc.2;clear hc
   go_enter Tryz.func159,Tryz.ntmps159
   go_wp2_with (go_at_call 174;refine(hb _).mono ?_;rintro e w' ⟨rfl,rfl⟩)
   rw[HW0.out];refine(zhH cnt W0).mono ?_;rintro e W1 ⟨rfl,k1,k2,k3,k4⟩;obtain⟨pc,hpc⟩:∃pc,W0.heap.size=pc:=⟨_,rfl⟩;rw[hpc]at k1 k2 k4 HS0⊢;have HPC:Hid (pc=w.heap.size+1):=HS0;have C1:Hid (Box W1 pc [.int .i64 cnt]):=k1;have G1:Hid (Box W1 (pc+1) (qp 80 [])):=k2;have GR1:=dD (HG0.out.trans k3);have X1:=dD (X0.out.grew k3);clear hpc k1 k2 k3 k4 hb HS0 X0 HG0 HW0;have x0:=X1.out.c 0 rfl;have x1:=X1.out.c 1 rfl;go_wp2
   go_loopg [5,6,23] n (fun gg _ _ s23 wr=>∃kk:Nat,kk<=n/\n - kk<=gg/\s23= .int .i64 kk/\Hid (zc w wr)/\Hid (Box wr pc [.int .i64 cnt])/\Hid (Box wr (pc+1) (qp 80 (zaR [] (fs.take kk))))/\Hid (zba cnt (zaR [] (fs.take kk)) (fs.drop kk)=zba cnt [] fs))
   case atStart=>exact⟨0,nZ _,by omega,rfl,GR1.out,C1.out,G1.out,rfl⟩
   obtain⟨kk,hkk,hgg,rfl,BW,CW,GW,AW⟩:=hrel;clear x0 x1 X1 C1 G1 GR1
   by_cases hlt:kk<n
   ·have hltz:(kk:Int)< (n:Int):=by omega
    obtain⟨q,HQ⟩:∃q,Hid (fs[kk]? =some q):=⟨_,gE (by rw[HN.out];exact hlt)⟩
    obtain⟨ad,rfl,xa,xc,hra,hl⟩:=HR.out kk q HQ.out;obtain⟨d0,d1⟩:=hl wr BW.out;obtain⟨W2,hW2⟩:∃W2,wr.alloc (.cells #[.int .i64 q.size,.slice xa q.bl.length xc] 88)=W2:=⟨_,rfl⟩;have GA:=gA hW2
    have hcall:=zcG q xa xc cnt (zaR [] (fs.take kk)) pc (pc+1) W2 (CW.out.grew GA.out) (GW.out.grew GA.out) (by omega) hc80 (hra.stays (pc+2) (by have:=HPC.out;omega) (BW.out.trans GA.out))
    have C2:=dD (CW.out.grew GA.out);have B2:=dD (BW.out.trans GA.out);have HW2:Hid (_=W2):=hW2;have HST:Hid (zba cnt (zaR [] (fs.take kk)) (fs.drop kk)=if flW cnt (zaR [] (fs.take kk)) q=0 then zba cnt (zaR [] (fs.take (kk+1))) (fs.drop (kk+1))else flW cnt (zaR [] (fs.take kk)) q):=show _=_ by
     rw[qJ HQ.out,Jv HQ.out,zaq];rfl
    rw[<-zaq,<-Jv HQ.out]at hcall;clear hl hW2 hra
    generalize flW cnt (zaR [] (fs.take kk)) q=z at hcall HST
    have hql:=q.bl.length
    by_cases hz:z=0
    ·have HA:Hid (zba cnt (zaR [] (fs.take (kk+1))) (fs.drop (kk+1))=zba cnt [] fs):=show _=_ by rw[<-AW.out,HST.out,if_pos hz]
     subst hz;clear HST;go_wp2_with fail;rw[HW2.out];refine hcall.mono ?_;rintro e W3 ⟨rfl,k1,k2⟩;have G3:Hid (Box W3 (pc+1) (qp 80 (zaR [] (fs.take (kk+1))))):=k1 (by first | exact rfl | exact trivial)
     have B3:Hid (zc w W3):=show zc _ _ from Out.grew_of B2.out (by have:=HPC.out;omega) k2
     have C3:Hid (Box W3 pc [.int .i64 cnt]):=C2.out.out k2 (by omega)
     clear k1 k2 hcall;go_wp2
     go_roundg (n -(kk+1))
     case measure=>omega
     exact⟨kk+1,by omega,by omega,by go_num,B3.out,C3.out,G3.out,HA.out⟩
    have hzb:(z != 0)=true:=by simpa using hz
    have HF:Hid (Z=z):=show _=_ by
     have h1:=AW.out;rw[HST.out,if_neg hz]at h1;rw[HD.out,<-h1]
    clear HST;go_wp2_with fail;rw[HW2.out];refine hcall.mono ?_;rintro e W3 ⟨rfl,k1,k2⟩;have B3:Hid (zc w W3):=show zc _ _ from Out.grew_of B2.out (by have:=HPC.out;omega) k2
    clear k1 k2 hcall;go_wp2;go_ret;exact⟨by rw[HF.out];rfl,B3.out⟩
   have hltz:¬(kk:Int)< (n:Int):=by omega
   have:kk=n:=by omega
   subst this;have HF:Hid (Z=0):=show _=_ by
    rw[HD.out,<-AW.out,List.drop_of_length_le (by rw[HN.out];exact nR _)]
    rfl
   go_wp2;go_ret;exact⟨by rw[HF.out];rfl,BW.out⟩
  rw[if_neg (fun h=>hc h.2)]at HD
  have hb:=fun W=>zbd (m:=cnt) (n:=81) (by omega) W
  clear hc
  go_enter Tryz.func159,Tryz.ntmps159
  go_wp2_with (go_at_call 174;refine(hb _).mono ?_;rintro e w' ⟨rfl,rfl⟩)
  rw[HW0.out];go_ret;exact⟨by rw[HD.out];rfl,HG0.out⟩
 rw[if_neg (fun h=>h5 h.1)]at HD
 have h5z:(5:Int)< (n:Int):=by omega
 go_enter Tryz.func159,Tryz.ntmps159
 go_wp2;rw[HW0.out];go_ret;exact⟨by rw[HD.out];rfl,HG0.out⟩
theorem ze4 (f:Fr) (a:Ar) (n:Nat) (w:World) (h1:0<=a.base/\a.base<=100) (h2:0<=a.fr/\a.fr<=100) (h3:n<=64):
  Calls Tryz.prog 196 #[.agg (frv f).toArray,.agg #[.int .i64 a.fr,.int .i64 a.tz,.bool a.rd,.bool a.wr,.bool a.sh,.int .i64 a.file,.int .i64 a.base],.int .i64 (n:Int)] w fun e w'=>e= .returned (.bool (Zf f a n))/\zc w w':=by
 have HIX:Hid (∀W,Calls Tryz.prog 146 #[.agg #[.int .i64 a.fr,.int .i64 a.tz,.bool a.rd,.bool a.wr,.bool a.sh,.int .i64 a.file,.int .i64 a.base],.int .i64 (n:Int)] W fun e w'=>e= .returned (.int .i64 (a.base+n - a.fr))/\zc W w'):=show∀W,_ from fun W=>ze7 a n W h1 h2 (by omega)
 clear h1 h2 h3;obtain⟨⟨b0,b1,b2,b3,b4,b5,b6,b7⟩,r,u,d,ff,x⟩:=f;obtain⟨fr,tz,rd,wr,sh,file,base⟩:=a;unfold frv Zf;simp only
 by_cases h:ff<0
 ·rw[if_pos h]
  go_enter Tryz.func196,Tryz.ntmps196
  go_wp2;go_ret;exact⟨rfl,(za _ _).trans (za _ _)⟩
 rw[if_neg h];obtain⟨W0,hW0⟩:∃W0,(w.alloc (.cells #[.int .u8 b0,.int .u8 b1,.int .u8 b2,.int .u8 b3,.int .u8 b4,.int .u8 b5,.int .u8 b6,.int .u8 b7,.int .i64 r,.bool u,.bool d,.int .i64 ff,.int .i64 x] 69)).alloc (.cells #[.int .i64 fr,.int .i64 tz,.bool rd,.bool wr,.bool sh,.int .i64 file,.int .i64 base] 114)=W0:=⟨_,rfl⟩;have HG0:=gD2 hW0
 have X0:=x2a hW0
 have Y0:=x2b hW0
 have HW0:Hid (_=W0):=hW0;clear hW0
 by_cases he:ff=file
 ·have he1:(ff == file)=true:=by simp[he]
  rw[he1,Bool.true_and];clear he;obtain⟨D,HD⟩:∃D,Hid ((x == base+(n:Int) - fr)=D):=⟨_,rfl⟩;rw[HD.out]
  go_enter Tryz.func196,Tryz.ntmps196
  go_upto_region 3 with fail;rw[HW0.out];have hx11:=X0.out.gw 11 rfl
  have hx12:=X0.out.gw 12 rfl
  have hy0:=Y0.out.gw 0 rfl
  have hy1:=Y0.out.gw 1 rfl
  have hy2:=Y0.out.gw 2 rfl
  have hy3:=Y0.out.gw 3 rfl
  have hy4:=Y0.out.gw 4 rfl
  have hy5:=Y0.out.gw 5 rfl
  have hy6:=Y0.out.gw 6 rfl
  have hne:Nonempty (zx W0):=⟨⟨_,zc.refl _⟩⟩;refine jX [(10,⟨fun v=>v= .int .i64 (base+(n:Int) - fr),fun v w'=>True⟩)] qy (by kernel_rfl) ?hS ?hp ?_
  case hS=>
   intro x hx;simp only[mC,nM,or_false]at hx;subst hx;exact⟨_,rfl⟩
  case hp=>
   intro x hx;simp only[mC,nM,or_false]at hx;subst hx;exact fun _ _ _ _ h=>h
  iterate 10 (refine zm rfl rfl rfl (fun K hK=>?_);go_big_quiet_op;refine hK _ ?_;clear hK K)
  refine zM rfl rfl (fun w' hg hF=>?_) (fun v1 hv=>?_)
  ·refine zL.call [.agg #[.int .i64 fr,.int .i64 tz,.bool rd,.bool wr,.bool sh,.int .i64 file,.int .i64 base],.int .i64 (n:Int)] rfl Tryz.func146 rfl rfl rfl ?_;refine(HIX.out w').mono ?_;rintro e w'' ⟨rfl,hg2⟩;exact⟨_,rfl,hg2,rfl,trivial⟩
  subst hv;simp only[Act.put,sB,sS,sZ];iterate 3 (refine zm rfl rfl rfl (fun K hK=>?_);go_big_quiet_op;refine hK _ ?_;clear hK K)
  refine qU fun W3 hg1 hF=>?_
  have G3:=dD (HG0.out.trans hg1);clear hg1 hF hx11 hx12 hy0 hy1 hy2 hy3 hy4 hy5 hy6 hne;go_wp2;go_ret;exact⟨by rw[<-HD.out];rfl,G3.out⟩
 have he1:(ff == file)=false:=by simp[he]
 rw[he1,Bool.false_and];clear he
 go_enter Tryz.func196,Tryz.ntmps196
 go_upto_region 3 with fail;rw[HW0.out];have hx11:W0.cell? ⟨w.heap.size,11,none⟩=some (.int .i64 ff):=X0.out.c 11 rfl;have hx12:W0.cell? ⟨w.heap.size,12,none⟩=some (.int .i64 x):=X0.out.c 12 rfl;have hy0:W0.cell? ⟨w.heap.size+1,0,none⟩=some (.int .i64 fr):=Y0.out.c 0 rfl;have hy1:W0.cell? ⟨w.heap.size+1,1,none⟩=some (.int .i64 tz):=Y0.out.c 1 rfl;have hy2:W0.cell? ⟨w.heap.size+1,2,none⟩=some (.bool rd):=Y0.out.c 2 rfl;have hy3:W0.cell? ⟨w.heap.size+1,3,none⟩=some (.bool wr):=Y0.out.c 3 rfl;have hy4:W0.cell? ⟨w.heap.size+1,4,none⟩=some (.bool sh):=Y0.out.c 4 rfl;have hy5:W0.cell? ⟨w.heap.size+1,5,none⟩=some (.int .i64 file):=Y0.out.c 5 rfl;have hy6:W0.cell? ⟨w.heap.size+1,6,none⟩=some (.int .i64 base):=Y0.out.c 6 rfl;go_quiet (fail);go_wp2;go_ret;exact⟨rfl,HG0.out.trans (show Below _ _ _ from bD (bR _ _) _)⟩
def zkn (fl:List Fl) (file idx:Int):Bool:=bel file fl.length && bel idx ((fl.getD file.toNat ⟨0,[]⟩).bl.length:Nat)
theorem zfb (v:Value) (fl:List Fl) (cnt file idx:Int) (w:World) (hv:qN w v fl):
  Calls Tryz.prog 147 #[.agg #[v,.int .i64 cnt],.int .i64 file,.int .i64 idx] w fun e w'=>e= .returned (.bool (zkn fl file idx))/\zc w w':=by
 obtain⟨a,c,rfl,hbig,hrow⟩:=hv.rows;have HR:Hid (Zb w a fl):=hrow;clear hrow hv;obtain⟨n,HN⟩:∃n,Hid (fl.length=n):=⟨_,rfl⟩;unfold zkn;rw[HN.out]at hbig⊢;have hb:=zaJ file n
 cases h:bel file n with
 | false=>
  rw[h]at hb;rw[Bool.false_and]
  go_enter Tryz.func147,Tryz.ntmps147
  go_wp2_with (go_at_call 101;refine(hb _).mono ?_;rintro e w' ⟨rfl,rfl⟩)
  go_ret;exact⟨rfl,za _ _⟩
 | true=>
  rw[h]at hb;rw[Bool.true_and];obtain⟨h0,h1⟩:=zaK.1 h;obtain⟨k,rfl⟩:∃k:Nat,file=(k:Int):=⟨file.toNat,by omega⟩
  obtain⟨f,HF⟩:∃f,Hid (fl[k]? =some f):=⟨_,gE (by rw[HN.out];omega)⟩
  have hg:(fl.getD ((k:Nat):Int).toNat ⟨0,[]⟩)=f:=by rw[tN,gD,HF.out];rfl
  rw[hg];clear hg;obtain⟨ad,rfl,xa,xc,_,hl⟩:=HR.out k f HF.out;obtain⟨d0,d1⟩:=hl (w.alloc (.cells #[.slice (some ad) n c,.int .i64 cnt] 37)) (za _ _);obtain⟨q,HQ⟩:∃q,Hid (f.bl.length=q):=⟨_,rfl⟩;rw[HQ.out]at d1⊢;have hb2:=zaJ idx q;clear hl
  go_enter Tryz.func147,Tryz.ntmps147
  go_wp2_with (go_at_call 101;first | (refine(hb _).mono ?_;clear hb;rintro e w' ⟨rfl,rfl⟩) | (refine(hb2 _).mono ?_;rintro e w' ⟨rfl,rfl⟩))
  go_ret;exact⟨rfl,za _ _⟩
theorem zbi (V:MaV) (m:Ma) (a:Ar) (n:Nat) (e:En) (w:World) (hm:zC w V m) (ha:jo a) (hn:n<=64) (he:0<=e.n):
  Calls Tryz.prog 164 #[.agg #[.slice V.f.a V.f.n V.f.c,.int .i64 m.hand,.slice V.s.a V.s.n V.s.c,.slice V.sb.a V.sb.n V.sb.c,.slice V.sq.a V.sq.n V.sq.c,.slice V.db.a V.db.n V.db.c,.slice V.dq.a V.dq.n V.dq.c,.slice V.fl.a V.fl.n V.fl.c,.int .i64 m.cnt,.slice V.ca.a V.ca.n V.ca.c,.slice V.sp.a V.sp.n V.sp.c],.agg #[.int .i64 a.fr,.int .i64 a.tz,.bool a.rd,.bool a.wr,.bool a.sh,.int .i64 a.file,.int .i64 a.base],.int .i64 (n:Int),.agg #[.int .i64 e.kind,.int .i64 e.n,.bool e.wr]] w fun e' w'=>e'= .returned (.int .i64 (JI m a n e))/\zc w w':=by
 obtain⟨n1,n2,-⟩:=hm.ns;have hab:(0<=a.base/\a.base<=100)/\(0<=a.fr/\a.fr<=100):=by
  obtain⟨g1,g2,g3,g4,g5,g6,g7,g8⟩:=ha
  by_cases hf:a.file<0
  ·have:=g7 hf;omega
  have:=g8 (by omega);omega
 have HMH:Hid (∀(q:Fr) W,Calls Tryz.prog 196 #[.agg (frv q).toArray,.agg #[.int .i64 a.fr,.int .i64 a.tz,.bool a.rd,.bool a.wr,.bool a.sh,.int .i64 a.file,.int .i64 a.base],.int .i64 (n:Int)] W fun e w'=>e= .returned (.bool (Zf q a n))/\zc W w'):=show∀(q:Fr) W,_ from fun q W=>ze4 q a n W hab.1 hab.2 hn
 have HMW:Hid (∀(q:Fr) W,Calls Tryz.prog 197 #[.agg (frv q).toArray,.agg #[.int .i64 a.fr,.int .i64 a.tz,.bool a.rd,.bool a.wr,.bool a.sh,.int .i64 a.file,.int .i64 a.base]] W fun e w'=>e= .returned (.bool (Zs q a))/\zc W w'):=show∀(q:Fr) W,_ from fun q W=>zdZ q a W
 have HS:Hid (m.sl.length=V.s.n):=n2.symm;have HF:Hid (m.fs.length=V.f.n):=n1.symm;have HR:Hid (Qs w V.f.a m.fs):=hm.frs;have HZ:Hid (JI m a n e=if e.kind=2 then(if(V.s.n:Int)<=e.n\/a.sh=true then 7 else 0)else if(V.f.n:Int)<=e.n then 3 else if Zf (z8 m e.n) a n=false\/(e.wr=true/\Zs (z8 m e.n) a=false)then 7 else 0):=show _=_ by
  unfold JI;rw[n1,n2]
 rw[HZ.out];clear hm ha hab n1 n2 hn;have hG3:zc w (((w.alloc (.cells #[.slice V.f.a V.f.n V.f.c,.int .i64 m.hand,.slice V.s.a V.s.n V.s.c,.slice V.sb.a V.sb.n V.sb.c,.slice V.sq.a V.sq.n V.sq.c,.slice V.db.a V.db.n V.db.c,.slice V.dq.a V.dq.n V.dq.c,.slice V.fl.a V.fl.n V.fl.c,.int .i64 m.cnt,.slice V.ca.a V.ca.n V.ca.c,.slice V.sp.a V.sp.n V.sp.c] 41)).alloc (.cells #[.int .i64 a.fr,.int .i64 a.tz,.bool a.rd,.bool a.wr,.bool a.sh,.int .i64 a.file,.int .i64 a.base] 114)).alloc (.cells #[.int .i64 e.kind,.int .i64 e.n,.bool e.wr] 74)):=((za _ _).trans (za _ _)).trans (za _ _);have HG3:Hid (zc w (((w.alloc (.cells #[.slice V.f.a V.f.n V.f.c,.int .i64 m.hand,.slice V.s.a V.s.n V.s.c,.slice V.sb.a V.sb.n V.sb.c,.slice V.sq.a V.sq.n V.sq.c,.slice V.db.a V.db.n V.db.c,.slice V.dq.a V.dq.n V.dq.c,.slice V.fl.a V.fl.n V.fl.c,.int .i64 m.cnt,.slice V.ca.a V.ca.n V.ca.c,.slice V.sp.a V.sp.n V.sp.c] 41)).alloc (.cells #[.int .i64 a.fr,.int .i64 a.tz,.bool a.rd,.bool a.wr,.bool a.sh,.int .i64 a.file,.int .i64 a.base] 114)).alloc (.cells #[.int .i64 e.kind,.int .i64 e.n,.bool e.wr] 74))):=hG3;clear hG3
 by_cases hk:e.kind=2
 ·have hke:(e.kind == 2)=true:=by simp[hk]
  rw[if_pos hk];clear hk
  by_cases h1:(V.s.n:Int)<=e.n
  ·rw[if_pos (.inl h1)]
   go_enter Tryz.func164,Tryz.ntmps164
   go_wp2;go_ret;exact⟨rfl,HG3.out⟩
  cases hs:a.sh with
  | true=>
   rw[if_pos (.inr rfl)];rw[hs]at HG3 HMH HMW
   go_enter Tryz.func164,Tryz.ntmps164
   go_wp2;go_ret;exact⟨rfl,HG3.out⟩
  | false=>
   rw[if_neg (by simp[h1])]
   rw[hs]at HG3 HMH HMW
   go_enter Tryz.func164,Tryz.ntmps164
   go_wp2;go_ret;exact⟨rfl,HG3.out⟩
 have hke:(e.kind == 2)=false:=by simp[hk]
 rw[if_neg hk];clear hk
 by_cases h1:(V.f.n:Int)<=e.n
 ·rw[if_pos h1]
  go_enter Tryz.func164,Tryz.ntmps164
  go_wp2;go_ret;exact⟨rfl,HG3.out⟩
 rw[if_neg h1];obtain⟨ek,en,ew⟩:=e;simp only at he hke h1 HZ HG3⊢;clear HZ;obtain⟨k,rfl⟩:∃k:Nat,en=(k:Int):=⟨en.toNat,by omega⟩
 have hkn:k<V.f.n:=by omega
 obtain⟨q,HQ⟩:∃q,Hid (m.fs[k]? =some q):=⟨_,gE (by rw[HF.out];exact hkn)⟩
 have hfr:z8 m (k:Int)=q:=by unfold z8;rw[tN,gD,HQ.out];rfl
 rw[hfr];clear hfr;obtain⟨ad,hva,hl⟩:=HR.out k q HQ.out;rw[hva]at HG3 HR⊢;clear hva;obtain⟨W3,hW3⟩:∃W3,((w.alloc (.cells #[.slice (some ad) V.f.n V.f.c,.int .i64 m.hand,.slice V.s.a V.s.n V.s.c,.slice V.sb.a V.sb.n V.sb.c,.slice V.sq.a V.sq.n V.sq.c,.slice V.db.a V.db.n V.db.c,.slice V.dq.a V.dq.n V.dq.c,.slice V.fl.a V.fl.n V.fl.c,.int .i64 m.cnt,.slice V.ca.a V.ca.n V.ca.c,.slice V.sp.a V.sp.n V.sp.c] 41)).alloc (.cells #[.int .i64 a.fr,.int .i64 a.tz,.bool a.rd,.bool a.wr,.bool a.sh,.int .i64 a.file,.int .i64 a.base] 114)).alloc (.cells #[.int .i64 ek,.int .i64 (k:Int),.bool ew] 74)=W3:=⟨_,rfl⟩;rw[hW3]at HG3;have Y3:Hid (Box W3 (w.heap.size+1) [.int .i64 a.fr,.int .i64 a.tz,.bool a.rd,.bool a.wr,.bool a.sh,.int .i64 a.file,.int .i64 a.base]):=show Box _ _ _ by rw[<-hW3];exact(Box.top _ _ _ (by simp)).alloc _
 have Z3:Hid (Box W3 (w.heap.size+1+1) [.int .i64 ek,.int .i64 (k:Int),.bool ew]):=show Box _ _ _ by rw[<-hW3];exact Box.top _ _ _ (by simp)
 have X3:Hid (Box W3 w.heap.size [.slice (some ad) V.f.n V.f.c,.int .i64 m.hand,.slice V.s.a V.s.n V.s.c,.slice V.sb.a V.sb.n V.sb.c,.slice V.sq.a V.sq.n V.sq.c,.slice V.db.a V.db.n V.db.c,.slice V.dq.a V.dq.n V.dq.c,.slice V.fl.a V.fl.n V.fl.c,.int .i64 m.cnt,.slice V.ca.a V.ca.n V.ca.c,.slice V.sp.a V.sp.n V.sp.c]):=show Box _ _ _ by rw[<-hW3];exact((Box.top _ _ _ rfl).alloc _).alloc _
 have x0:=X3.out.c 0 rfl;have z1:=Z3.out.c 1 rfl;have HS3:Hid (W3.heap.size=w.heap.size+1+1+1):=show _=_ by rw[<-hW3];simp
 obtain⟨d0,d1,d2,d3,d4,d5,d6,d7,d8,d9,d10,d11,d12⟩:=hl W3 HG3.out;have HW3:Hid (_=W3):=hW3;have HP:Hid (Zf q a n=Zf q a n):=rfl;clear hW3 hl
 cases hmh:Zf q a n with
 | false=>
  have hmh':=HMH.out q;rw[hmh]at hmh';rw[if_pos (.inl rfl)];have HC:Hid (∀W,Calls Tryz.prog 196 #[.agg (frv q).toArray,.agg #[.int .i64 a.fr,.int .i64 a.tz,.bool a.rd,.bool a.wr,.bool a.sh,.int .i64 a.file,.int .i64 a.base],.int .i64 (n:Int)] W fun e w'=>e= .returned (.bool false)/\zc W w'):=hmh'
  clear hmh'
  go_enter Tryz.func164,Tryz.ntmps164
  go_upto_region 7 with fail;rw[HW3.out];go_upto_region 8 with fail;obtain⟨W4,hW4⟩:∃W4,W3.alloc (.cells #[.int .u8 q.p.b0,.int .u8 q.p.b1,.int .u8 q.p.b2,.int .u8 q.p.b3,.int .u8 q.p.b4,.int .u8 q.p.b5,.int .u8 q.p.b6,.int .u8 q.p.b7,.int .i64 q.r,.bool q.u,.bool q.d,.int .i64 q.f,.int .i64 q.x] 69)=W4:=⟨_,rfl⟩;have HG4:=gT hW4 HG3
  have Y4:Box W4 (w.heap.size+1) [.int .i64 a.fr,.int .i64 a.tz,.bool a.rd,.bool a.wr,.bool a.sh,.int .i64 a.file,.int .i64 a.base]:=by rw[<-hW4];exact Y3.out.alloc _
  have F4:Box W4 (w.heap.size+1+1+1) [.int .u8 q.p.b0,.int .u8 q.p.b1,.int .u8 q.p.b2,.int .u8 q.p.b3,.int .u8 q.p.b4,.int .u8 q.p.b5,.int .u8 q.p.b6,.int .u8 q.p.b7,.int .i64 q.r,.bool q.u,.bool q.d,.int .i64 q.f,.int .i64 q.x]:=by rw[<-hW4];exact Box.top _ _ _ HS3.out.symm
  rw[hW4,HS3.out];clear hW4 x0 z1 d0 d1 d2 d3 d4 d5 d6 d7 d8 d9 d10 d11 d12;obtain⟨y0,y1,y2,y3,y4,y5,y6⟩:=Y4.c7;have f0:=F4.c 0 rfl;have f1:=F4.c 1 rfl;have f2:=F4.c 2 rfl;have f3:=F4.c 3 rfl;have f4:=F4.c 4 rfl;have f5:=F4.c 5 rfl;have f6:=F4.c 6 rfl;have f7:=F4.c 7 rfl;have f8:=F4.c 8 rfl;have f9:=F4.c 9 rfl;have f10:=F4.c 10 rfl;have f11:=F4.c 11 rfl;have f12:=F4.c 12 rfl;clear Y4 F4
  go_wp2_with (go_at_call 196;refine(HC.out _).mono ?_;clear y0 y1 y2 y3 y4 y5 y6 f0 f1 f2 f3 f4 f5 f6 f7 f8 f9 f10 f11 f12;rintro e W5 ⟨rfl,hg5⟩)
  go_ret;exact⟨rfl,HG4.out.trans hg5⟩
 | true=>
  have hmh':=HMH.out q;rw[hmh]at hmh';have HC:Hid (∀W,Calls Tryz.prog 196 #[.agg (frv q).toArray,.agg #[.int .i64 a.fr,.int .i64 a.tz,.bool a.rd,.bool a.wr,.bool a.sh,.int .i64 a.file,.int .i64 a.base],.int .i64 (n:Int)] W fun e w'=>e= .returned (.bool true)/\zc W w'):=hmh'
  clear hmh'
  cases ew with
  | false=>
   rw[if_neg (by simp)]
   go_enter Tryz.func164,Tryz.ntmps164
   go_upto_region 7 with fail;rw[HW3.out];go_upto_region 8 with fail;obtain⟨W4,hW4⟩:∃W4,W3.alloc (.cells #[.int .u8 q.p.b0,.int .u8 q.p.b1,.int .u8 q.p.b2,.int .u8 q.p.b3,.int .u8 q.p.b4,.int .u8 q.p.b5,.int .u8 q.p.b6,.int .u8 q.p.b7,.int .i64 q.r,.bool q.u,.bool q.d,.int .i64 q.f,.int .i64 q.x] 69)=W4:=⟨_,rfl⟩;have HG4:=gT hW4 HG3
   have Y4:Box W4 (w.heap.size+1) [.int .i64 a.fr,.int .i64 a.tz,.bool a.rd,.bool a.wr,.bool a.sh,.int .i64 a.file,.int .i64 a.base]:=by rw[<-hW4];exact Y3.out.alloc _
   have Z4:=yA hW4 Z3
   have F4:Box W4 (w.heap.size+1+1+1) [.int .u8 q.p.b0,.int .u8 q.p.b1,.int .u8 q.p.b2,.int .u8 q.p.b3,.int .u8 q.p.b4,.int .u8 q.p.b5,.int .u8 q.p.b6,.int .u8 q.p.b7,.int .i64 q.r,.bool q.u,.bool q.d,.int .i64 q.f,.int .i64 q.x]:=by rw[<-hW4];exact Box.top _ _ _ HS3.out.symm
   rw[hW4,HS3.out];clear hW4 x0 z1 d0 d1 d2 d3 d4 d5 d6 d7 d8 d9 d10 d11 d12;obtain⟨y0,y1,y2,y3,y4,y5,y6⟩:=Y4.c7;have f0:=F4.c 0 rfl;have f1:=F4.c 1 rfl;have f2:=F4.c 2 rfl;have f3:=F4.c 3 rfl;have f4:=F4.c 4 rfl;have f5:=F4.c 5 rfl;have f6:=F4.c 6 rfl;have f7:=F4.c 7 rfl;have f8:=F4.c 8 rfl;have f9:=F4.c 9 rfl;have f10:=F4.c 10 rfl;have f11:=F4.c 11 rfl;have f12:=F4.c 12 rfl;clear Y4 F4
   go_wp2_with (go_at_call 196;refine(HC.out _).mono ?_;clear y0 y1 y2 y3 y4 y5 y6 f0 f1 f2 f3 f4 f5 f6 f7 f8 f9 f10 f11 f12;rintro e W5 ⟨rfl,hg5⟩;have z2:=(Z4.out.grew hg5).c 2 rfl)
   go_ret;exact⟨rfl,HG4.out.trans hg5⟩
  | true=>
   cases hmw:Zs q a with
   | false=>
    have hmw':=HMW.out q;rw[hmw]at hmw';rw[if_pos (.inr ⟨rfl,rfl⟩)];have HC2:Hid (∀W,Calls Tryz.prog 197 #[.agg (frv q).toArray,.agg #[.int .i64 a.fr,.int .i64 a.tz,.bool a.rd,.bool a.wr,.bool a.sh,.int .i64 a.file,.int .i64 a.base]] W fun e w'=>e= .returned (.bool false)/\zc W w'):=hmw'
    clear hmw'
    go_enter Tryz.func164,Tryz.ntmps164
    go_upto_region 7 with fail;rw[HW3.out];go_upto_region 8 with fail;obtain⟨W4,hW4⟩:∃W4,W3.alloc (.cells #[.int .u8 q.p.b0,.int .u8 q.p.b1,.int .u8 q.p.b2,.int .u8 q.p.b3,.int .u8 q.p.b4,.int .u8 q.p.b5,.int .u8 q.p.b6,.int .u8 q.p.b7,.int .i64 q.r,.bool q.u,.bool q.d,.int .i64 q.f,.int .i64 q.x] 69)=W4:=⟨_,rfl⟩;have HG4:=gT hW4 HG3
    have Y4:=yA hW4 Y3
    have Z4:=yA hW4 Z3
    have F4:=xP hW4 HS3
    rw[hW4,HS3.out];clear hW4 x0 z1 d0 d1 d2 d3 d4 d5 d6 d7 d8 d9 d10 d11 d12;obtain⟨y0,y1,y2,y3,y4,y5,y6⟩:=Y4.out.c7;have f0:=F4.out.c 0 rfl;have f1:=F4.out.c 1 rfl;have f2:=F4.out.c 2 rfl;have f3:=F4.out.c 3 rfl;have f4:=F4.out.c 4 rfl;have f5:=F4.out.c 5 rfl;have f6:=F4.out.c 6 rfl;have f7:=F4.out.c 7 rfl;have f8:=F4.out.c 8 rfl;have f9:=F4.out.c 9 rfl;have f10:=F4.out.c 10 rfl;have f11:=F4.out.c 11 rfl;have f12:=F4.out.c 12 rfl;go_wp2_with fail;refine(HC.out _).mono ?_;clear y0 y1 y2 y3 y4 y5 y6 f0 f1 f2 f3 f4 f5 f6 f7 f8 f9 f10 f11 f12;rintro e W5 ⟨rfl,hg5⟩;have HG5:=dD (HG4.out.trans hg5);have Y5:=Y4.out.grew hg5;have z2:=(Z4.out.grew hg5).c 2 rfl;have F5:=F4.out.grew hg5;clear hg5;obtain⟨y0,y1,y2,y3,y4,y5,y6⟩:=Y5.c7;have f0:=F5.c 0 rfl;have f1:=F5.c 1 rfl;have f2:=F5.c 2 rfl;have f3:=F5.c 3 rfl;have f4:=F5.c 4 rfl;have f5:=F5.c 5 rfl;have f6:=F5.c 6 rfl;have f7:=F5.c 7 rfl;have f8:=F5.c 8 rfl;have f9:=F5.c 9 rfl;have f10:=F5.c 10 rfl;have f11:=F5.c 11 rfl;have f12:=F5.c 12 rfl;clear Y5 F5
    go_wp2_with (go_at_call 197;refine(HC2.out _).mono ?_;clear y0 y1 y2 y3 y4 y5 y6 f0 f1 f2 f3 f4 f5 f6 f7 f8 f9 f10 f11 f12 z2;rintro e W6 ⟨rfl,hg6⟩)
    go_ret;exact⟨rfl,HG5.out.trans hg6⟩
   | true=>
    have hmw':=HMW.out q;rw[hmw]at hmw';rw[if_neg (by simp)]
    have HC2:Hid (∀W,Calls Tryz.prog 197 #[.agg (frv q).toArray,.agg #[.int .i64 a.fr,.int .i64 a.tz,.bool a.rd,.bool a.wr,.bool a.sh,.int .i64 a.file,.int .i64 a.base]] W fun e w'=>e= .returned (.bool true)/\zc W w'):=hmw'
    clear hmw'
    go_enter Tryz.func164,Tryz.ntmps164
    go_upto_region 7 with fail;rw[HW3.out];go_upto_region 8 with fail;obtain⟨W4,hW4⟩:∃W4,W3.alloc (.cells #[.int .u8 q.p.b0,.int .u8 q.p.b1,.int .u8 q.p.b2,.int .u8 q.p.b3,.int .u8 q.p.b4,.int .u8 q.p.b5,.int .u8 q.p.b6,.int .u8 q.p.b7,.int .i64 q.r,.bool q.u,.bool q.d,.int .i64 q.f,.int .i64 q.x] 69)=W4:=⟨_,rfl⟩;have HG4:=gT hW4 HG3
    have Y4:=yA hW4 Y3
    have Z4:=yA hW4 Z3
    have F4:=xP hW4 HS3
    rw[hW4,HS3.out];clear hW4 x0 z1 d0 d1 d2 d3 d4 d5 d6 d7 d8 d9 d10 d11 d12;obtain⟨y0,y1,y2,y3,y4,y5,y6⟩:=Y4.out.c7;have f0:=F4.out.c 0 rfl;have f1:=F4.out.c 1 rfl;have f2:=F4.out.c 2 rfl;have f3:=F4.out.c 3 rfl;have f4:=F4.out.c 4 rfl;have f5:=F4.out.c 5 rfl;have f6:=F4.out.c 6 rfl;have f7:=F4.out.c 7 rfl;have f8:=F4.out.c 8 rfl;have f9:=F4.out.c 9 rfl;have f10:=F4.out.c 10 rfl;have f11:=F4.out.c 11 rfl;have f12:=F4.out.c 12 rfl;go_wp2_with fail;refine(HC.out _).mono ?_;clear y0 y1 y2 y3 y4 y5 y6 f0 f1 f2 f3 f4 f5 f6 f7 f8 f9 f10 f11 f12;rintro e W5 ⟨rfl,hg5⟩;have HG5:=dD (HG4.out.trans hg5);have Y5:=Y4.out.grew hg5;have z2:=(Z4.out.grew hg5).c 2 rfl;have F5:=F4.out.grew hg5;clear hg5;obtain⟨y0,y1,y2,y3,y4,y5,y6⟩:=Y5.c7;have f0:=F5.c 0 rfl;have f1:=F5.c 1 rfl;have f2:=F5.c 2 rfl;have f3:=F5.c 3 rfl;have f4:=F5.c 4 rfl;have f5:=F5.c 5 rfl;have f6:=F5.c 6 rfl;have f7:=F5.c 7 rfl;have f8:=F5.c 8 rfl;have f9:=F5.c 9 rfl;have f10:=F5.c 10 rfl;have f11:=F5.c 11 rfl;have f12:=F5.c 12 rfl;clear Y5 F5
    go_wp2_with (go_at_call 197;refine(HC2.out _).mono ?_;clear y0 y1 y2 y3 y4 y5 y6 f0 f1 f2 f3 f4 f5 f6 f7 f8 f9 f10 f11 f12 z2;rintro e W6 ⟨rfl,hg6⟩)
    go_ret;exact⟨rfl,HG5.out.trans hg6⟩
theorem zjo (m:Ma) (c:Ca):caE m none c=if zkn m.fl c.file c.idx=false\/bel c.fr m.fs.length=false then 3 else if(z8 m c.fr).r=0\/(z8 m c.fr).f≠c.file\/(z8 m c.fr).x≠c.idx then 7 else 0:=by
 unfold caE zkn;have hb:∀(a b:Int),bel a b=false↔(a<0\/b<=a):=fun a b=>by
  constructor
  ·intro h
   rcases Int.lt_or_le a 0 with h1 | h1
   ·exact .inl h1
   rcases Int.lt_or_le a b with h2 | h2
   ·rw[zaK.2 ⟨h1,h2⟩]at h;cases h
   exact .inr h2
  intro h;exact zia (by omega)
 have he:(c.file<0\/(m.fl.length:Int)<=c.file\/c.idx<0\/bkN m c.file<=c.idx\/c.fr<0\/(m.fs.length:Int)<=c.fr)↔((bel c.file m.fl.length && bel c.idx ((m.fl.getD c.file.toNat ⟨0,[]⟩).bl.length:Nat))=false\/bel c.fr m.fs.length=false):=by
  rw[Bool.and_eq_false_iff,hb,hb,hb];unfold bkN;omega
 simp only[he]
theorem zbk (V:MaV) (m:Ma) (c:Ca) (w:World) (hm:zC w V m):
  Calls Tryz.prog 162 #[.agg #[.slice V.f.a V.f.n V.f.c,.int .i64 m.hand,.slice V.s.a V.s.n V.s.c,.slice V.sb.a V.sb.n V.sb.c,.slice V.sq.a V.sq.n V.sq.c,.slice V.db.a V.db.n V.db.c,.slice V.dq.a V.dq.n V.dq.c,.slice V.fl.a V.fl.n V.fl.c,.int .i64 m.cnt,.slice V.ca.a V.ca.n V.ca.c,.slice V.sp.a V.sp.n V.sp.c],.agg #[.int .i64 c.file,.int .i64 c.idx,.int .i64 c.fr]] w fun e w'=>e= .returned (.int .i64 (caE m none c))/\zc w w':=by
 obtain⟨n1,-⟩:=hm.ns;rw[zjo,<-n1];have HHP:Hid (∀W,zc w W->Calls Tryz.prog 147 #[.agg #[.slice V.fl.a V.fl.n V.fl.c,.int .i64 m.cnt],.int .i64 c.file,.int .i64 c.idx] W fun e w'=>e= .returned (.bool (zkn m.fl c.file c.idx))/\zc W w'):=show∀W,_ from fun W hW=>zfb _ m.fl m.cnt c.file c.idx W (hm.grew hW).fl
 have HBL:Hid (∀W,Calls Tryz.prog 101 #[.int .i64 c.fr,.int .i64 V.f.n] W fun e w'=>e= .returned (.bool (bel c.fr V.f.n))/\w'=W):=show∀W,_ from fun W=>zaJ c.fr V.f.n W
 have HF:Hid (m.fs.length=V.f.n):=n1.symm;have HR:Hid (Qs w V.f.a m.fs):=hm.frs;clear hm n1;obtain⟨W2,hW2⟩:∃W2,(w.alloc (.cells #[.slice V.f.a V.f.n V.f.c,.int .i64 m.hand,.slice V.s.a V.s.n V.s.c,.slice V.sb.a V.sb.n V.sb.c,.slice V.sq.a V.sq.n V.sq.c,.slice V.db.a V.db.n V.db.c,.slice V.dq.a V.dq.n V.dq.c,.slice V.fl.a V.fl.n V.fl.c,.int .i64 m.cnt,.slice V.ca.a V.ca.n V.ca.c,.slice V.sp.a V.sp.n V.sp.c] 41)).alloc (.cells #[.int .i64 c.file,.int .i64 c.idx,.int .i64 c.fr] 124)=W2:=⟨_,rfl⟩;have HG2:=gD2 hW2
 have X2:=x2a hW2
 have Y2:=x2b hW2
 have HS2:Hid (W2.heap.size=w.heap.size+1+1):=show _=_ by rw[<-hW2];simp
 have HW2:Hid (_=W2):=hW2;clear hW2;have HC1:=HHP.out W2 HG2.out;clear HHP;have x7:=X2.out.c 7 rfl;have x8:=X2.out.c 8 rfl;have y0:=Y2.out.c 0 rfl;have y1:=Y2.out.c 1 rfl
 cases hp:zkn m.fl c.file c.idx with
 | false=>
  rw[hp]at HC1;rw[if_pos (.inl rfl)]
  go_enter Tryz.func162,Tryz.ntmps162
  go_upto_region 1 with fail;rw[HW2.out]
  go_wp2_with (go_at_call 147;refine HC1.mono ?_;clear HC1 x7 x8 y0 y1;rintro e W3 ⟨rfl,hg3⟩)
  go_ret;exact⟨rfl,HG2.out.trans hg3⟩
 | true=>
  rw[hp]at HC1
  cases hb:bel c.fr V.f.n with
  | false=>
   rw[hb]at HBL;rw[if_pos (.inr rfl)]
   go_enter Tryz.func162,Tryz.ntmps162
   go_upto_region 1 with fail;rw[HW2.out];go_wp2_with fail;refine HC1.mono ?_;clear HC1 x7 x8 y0 y1;rintro e W3 ⟨rfl,hg3⟩;have HG3:=dD (HG2.out.trans hg3);have x0:=(X2.out.grew hg3).c 0 rfl;have y2:=(Y2.out.grew hg3).c 2 rfl;clear hg3
   go_wp2_with (go_at_call 101;refine(HBL.out _).mono ?_;rintro e w' ⟨rfl,rfl⟩)
   go_ret;exact⟨rfl,HG3.out⟩
  | true=>
   rw[hb]at HBL;rw[if_neg (by simp)]
   obtain⟨g0,g1⟩:=zaK.1 hb;clear hb;obtain⟨cf,ci,cr⟩:=c;simp only at g0 g1 HBL HC1 HG2 Y2 y0 y1⊢;obtain⟨k,rfl⟩:∃k:Nat,cr=(k:Int):=⟨cr.toNat,by omega⟩
   have hkn:k<V.f.n:=by omega
   obtain⟨q,HQ⟩:∃q,Hid (m.fs[k]? =some q):=⟨_,gE (by rw[HF.out];exact hkn)⟩
   have hfr:z8 m (k:Int)=q:=by unfold z8;rw[tN,gD,HQ.out];rfl
   rw[hfr];clear hfr;obtain⟨ad,hva,hl⟩:=HR.out k q HQ.out;have HL:Hid (∀W,zc w W->zfA W (ad.add (k*13)) q):=hl;have HVA:Hid (V.f.a=some ad):=hva;clear hl hva;obtain⟨Z,HZ⟩:∃Z:Int,Hid ((if q.r=0\/q.f≠cf\/q.x≠ci then(7:Int)else 0)=Z):=⟨_,rfl⟩;rw[HZ.out]
   go_enter Tryz.func162,Tryz.ntmps162
   go_upto_region 1 with fail;rw[HW2.out];go_wp2_with fail;refine HC1.mono ?_;clear HC1 x7 x8 y0 y1;rintro e W3 ⟨rfl,hg3⟩;have HG3:=dD (HG2.out.trans hg3);have X3:=dD (X2.out.grew hg3);have Y3:=dD (Y2.out.grew hg3);have HS3:Hid (w.heap.size+1+1<=W3.heap.size):=show _<=_ by rw[<-HS2.out];exact bS hg3
   clear hg3;have x0:=X3.out.c 0 rfl;have y2:=Y3.out.c 2 rfl
   go_upto_region 3 with(go_at_call 101;refine(HBL.out _).mono ?_;rintro e w' ⟨rfl,hw'⟩;rw[hw'];clear hw' w')
   rw[HVA.out]at x0;obtain⟨d0,d1,d2,d3,d4,d5,d6,d7,d8,d9,d10,d11,d12⟩:=HL.out W3 HG3.out;go_upto_region 4 with fail;obtain⟨W4,hW4⟩:∃W4,W3.alloc (.cells #[.int .u8 q.p.b0,.int .u8 q.p.b1,.int .u8 q.p.b2,.int .u8 q.p.b3,.int .u8 q.p.b4,.int .u8 q.p.b5,.int .u8 q.p.b6,.int .u8 q.p.b7,.int .i64 q.r,.bool q.u,.bool q.d,.int .i64 q.f,.int .i64 q.x] 69)=W4:=⟨_,rfl⟩;have HG4:=gT hW4 HG3
   have F4:Box W4 W3.heap.size [.int .u8 q.p.b0,.int .u8 q.p.b1,.int .u8 q.p.b2,.int .u8 q.p.b3,.int .u8 q.p.b4,.int .u8 q.p.b5,.int .u8 q.p.b6,.int .u8 q.p.b7,.int .i64 q.r,.bool q.u,.bool q.d,.int .i64 q.f,.int .i64 q.x]:=by rw[<-hW4];exact Box.top _ _ _ rfl
   have Y4:Box W4 (w.heap.size+1) [.int .i64 cf,.int .i64 ci,.int .i64 (k:Int)]:=by rw[<-hW4];exact Y3.out.alloc _
   rw[hW4];clear hW4 x0 y2 d0 d1 d2 d3 d4 d5 d6 d7 d8 d9 d10 d11 d12;have f8:=F4.c 8 rfl;have f11:=F4.c 11 rfl;have f12:=F4.c 12 rfl;have y0:=Y4.c 0 rfl;have y1:=Y4.c 1 rfl;clear F4 Y4
   by_cases h1:q.r=0
   ·have h1e:(q.r == 0)=true:=by simp[h1]
    have HE:Hid (Z=7):=show _=_ by rw[<-HZ.out,if_pos (.inl h1)]
    clear h1;go_wp2;go_ret;exact⟨by rw[HE.out];rfl,HG4.out⟩
   have h1e:(q.r == 0)=false:=by simp[h1]
   by_cases h2:q.f=cf
   ·have h2e:(q.f != cf)=false:=by simp[h2]
    by_cases h3:q.x=ci
    ·have h3e:(q.x != ci)=false:=by simp[h3]
     have HE:Hid (Z=0):=show _=_ by rw[<-HZ.out,if_neg (by simp[h1,h2,h3])]
     clear h1 h2 h3;go_wp2;go_ret;exact⟨by rw[HE.out];rfl,HG4.out⟩
    have h3e:(q.x != ci)=true:=by simp[h3]
    have HE:Hid (Z=7):=show _=_ by rw[<-HZ.out,if_pos (.inr (.inr h3))]
    clear h1 h2 h3;go_wp2;go_ret;exact⟨by rw[HE.out];rfl,HG4.out⟩
   have h2e:(q.f != cf)=true:=by simp[h2]
   have HE:Hid (Z=7):=show _=_ by rw[<-HZ.out,if_pos (.inr (.inl h2))]
   clear h1 h2;go_wp2;go_ret;exact⟨by rw[HE.out];rfl,HG4.out⟩
theorem zbZ (V:MaV) (m:Ma) (w:World) (hm:zC w V m):
  Calls Tryz.prog 115 #[.agg #[.slice V.f.a V.f.n V.f.c,.int .i64 m.hand,.slice V.s.a V.s.n V.s.c,.slice V.sb.a V.sb.n V.sb.c,.slice V.sq.a V.sq.n V.sq.c,.slice V.db.a V.db.n V.db.c,.slice V.dq.a V.dq.n V.dq.c,.slice V.fl.a V.fl.n V.fl.c,.int .i64 m.cnt,.slice V.ca.a V.ca.n V.ca.c,.slice V.sp.a V.sp.n V.sp.c]] w fun e w'=>e= .returned (.int .i64 (ze (ZZ m)))/\zc w w':=by
 obtain⟨n1,n2,n3,n4,n5,n6,n7,-⟩:=hm.ns;have HC1:Hid (∀W,zc w W->Calls Tryz.prog 156 #[.agg #[.slice V.f.a V.f.n V.f.c,.int .i64 m.hand]] W fun e w'=>e= .returned (.int .i64 (Ze m.fs m.hand))/\zc W w'):=show∀W,_ from fun W hW=>by
  have h:=(hm.grew hW).fs;rw[n1]at h⊢;exact QY _ _ m.fs m.hand W h
 have HC2:Hid (∀W,zc w W->Calls Tryz.prog 157 #[.slice V.s.a V.s.n V.s.c] W fun e w'=>e= .returned (.int .i64 (slW m.sl))/\zc W w'):=show∀W,_ from fun W hW=>by
  have h:=(hm.grew hW).sl;rw[n2]at h⊢;exact zga _ _ m.sl W h
 have HC3:Hid (∀W,zc w W->Calls Tryz.prog 158 #[.agg #[.slice V.sb.a V.sb.n V.sb.c,.slice V.sq.a V.sq.n V.sq.c]] W fun e w'=>e= .returned (.int .i64 (zy m.sb.length m.sq))/\zc W w'):=show∀W,_ from fun W hW=>by
  have h:=(hm.grew hW).sq;rw[<-n3];exact zbe _ _ _ _ m.sq W h
 have HC4:Hid (∀W,zc w W->Calls Tryz.prog 158 #[.agg #[.slice V.db.a V.db.n V.db.c,.slice V.dq.a V.dq.n V.dq.c]] W fun e w'=>e= .returned (.int .i64 (zy m.db.length m.dq))/\zc W w'):=show∀W,_ from fun W hW=>by
  have h:=(hm.grew hW).dq;rw[<-n5];exact zbe _ _ _ _ m.dq W h
 have HC5:Hid (∀W,zc w W->Calls Tryz.prog 159 #[.agg #[.slice V.fl.a V.fl.n V.fl.c,.int .i64 m.cnt]] W fun e w'=>e= .returned (.int .i64 (stW m.fl m.cnt))/\zc W w'):=show∀W,_ from fun W hW=>zeG _ m.fl m.cnt W (hm.grew hW).fl
 clear n1 n2 n3 n4 n5 n6 n7 hm;obtain⟨W0,hW0⟩:∃W0,w.alloc (.cells #[.slice V.f.a V.f.n V.f.c,.int .i64 m.hand,.slice V.s.a V.s.n V.s.c,.slice V.sb.a V.sb.n V.sb.c,.slice V.sq.a V.sq.n V.sq.c,.slice V.db.a V.db.n V.db.c,.slice V.dq.a V.dq.n V.dq.c,.slice V.fl.a V.fl.n V.fl.c,.int .i64 m.cnt,.slice V.ca.a V.ca.n V.ca.c,.slice V.sp.a V.sp.n V.sp.c] 41)=W0:=⟨_,rfl⟩;have HG0:=gA hW0
 have X0:=xA hW0
 have HW0:Hid (_=W0):=hW0;clear hW0;unfold ZZ
 go_enter Tryz.func115,Tryz.ntmps115
 go_upto_region 1 with fail;rw[HW0.out];have hx0:=X0.out.gw 0 rfl
 have hx1:=X0.out.gw 1 rfl
 have hx2:=X0.out.gw 2 rfl
 have hx3:=X0.out.gw 3 rfl
 have hx4:=X0.out.gw 4 rfl
 have hx5:=X0.out.gw 5 rfl
 have hx6:=X0.out.gw 6 rfl
 have hx7:=X0.out.gw 7 rfl
 have hx8:=X0.out.gw 8 rfl
 have hne:Nonempty (zx W0):=⟨⟨_,zc.refl _⟩⟩;refine jX [(2,⟨fun v=>v= .int .i64 (Ze m.fs m.hand),fun v w'=>True⟩),(5,⟨fun v=>v= .int .i64 (slW m.sl),fun v w'=>True⟩),(8,⟨fun v=>v= .int .i64 (zy m.sb.length m.sq),fun v w'=>True⟩),(11,⟨fun v=>v= .int .i64 (zy m.db.length m.dq),fun v w'=>True⟩),(14,⟨fun v=>v= .int .i64 (stW m.fl m.cnt),fun v w'=>True⟩),(15,⟨fun v=>∃g,v= .slice (some ⟨g,0,none⟩) 5 5,fun v w'=>zo zg1 w' v [Ze m.fs m.hand,slW m.sl,zy m.sb.length m.sq,zy m.db.length m.dq,stW m.fl m.cnt]⟩),(16,⟨fun v=>v= .int .i64 (ze [Ze m.fs m.hand,slW m.sl,zy m.sb.length m.sq,zy m.db.length m.dq,stW m.fl m.cnt]),fun v w'=>True⟩)] qy (by kernel_rfl) ?hS ?hp ?_
 case hS=>
  intro x hx;simp only[mC,nM,or_false]at hx
  rcases hx with rfl | rfl | rfl | rfl | rfl | rfl | rfl
  ·exact⟨_,rfl⟩
  ·exact⟨_,rfl⟩
  ·exact⟨_,rfl⟩
  ·exact⟨_,rfl⟩
  ·exact⟨_,rfl⟩
  ·exact⟨_,0,rfl⟩
  exact⟨_,rfl⟩
 case hp=>
  intro x hx;simp only[mC,nM,or_false]at hx
  rcases hx with rfl | rfl | rfl | rfl | rfl | rfl | rfl
  ·exact fun _ _ _ _ h=>h
  ·exact fun _ _ _ _ h=>h
  ·exact fun _ _ _ _ h=>h
  ·exact fun _ _ _ _ h=>h
  ·exact fun _ _ _ _ h=>h
  ·exact fun _ _ _ hg h=>zo.grew h hg
  exact fun _ _ _ _ h=>h
 iterate 2 (refine zm rfl rfl rfl (fun K hK=>?_);go_big_quiet_op;refine hK _ ?_;clear hK K)
 refine zM rfl rfl (fun w' hg hF=>?_) (fun v1 hv=>?_)
 ·refine zL.call [.agg #[.slice V.f.a V.f.n V.f.c,.int .i64 m.hand]] rfl Tryz.func156 rfl rfl rfl ?_;refine(HC1.out w' (HG0.out.trans hg)).mono ?_;rintro e w'' ⟨rfl,hg2⟩;exact⟨_,rfl,hg2,rfl,trivial⟩
 subst hv;simp only[Act.put,sB,sS,sZ];iterate 2 (refine zm rfl rfl rfl (fun K hK=>?_);go_big_quiet_op;refine hK _ ?_;clear hK K)
 refine zM rfl rfl (fun w' hg hF=>?_) (fun v1 hv=>?_)
 ·refine zL.call [.slice V.s.a V.s.n V.s.c] rfl Tryz.func157 rfl rfl rfl ?_;refine(HC2.out w' (HG0.out.trans hg)).mono ?_;rintro e w'' ⟨rfl,hg2⟩;exact⟨_,rfl,hg2,rfl,trivial⟩
 subst hv;simp only[Act.put,sB,sS,sZ];iterate 2 (refine zm rfl rfl rfl (fun K hK=>?_);go_big_quiet_op;refine hK _ ?_;clear hK K)
 refine zM rfl rfl (fun w' hg hF=>?_) (fun v1 hv=>?_)
 ·refine zL.call [.agg #[.slice V.sb.a V.sb.n V.sb.c,.slice V.sq.a V.sq.n V.sq.c]] rfl Tryz.func158 rfl rfl rfl ?_;refine(HC3.out w' (HG0.out.trans hg)).mono ?_;rintro e w'' ⟨rfl,hg2⟩;exact⟨_,rfl,hg2,rfl,trivial⟩
 subst hv;simp only[Act.put,sB,sS,sZ];iterate 2 (refine zm rfl rfl rfl (fun K hK=>?_);go_big_quiet_op;refine hK _ ?_;clear hK K)
 refine zM rfl rfl (fun w' hg hF=>?_) (fun v1 hv=>?_)
 ·refine zL.call [.agg #[.slice V.db.a V.db.n V.db.c,.slice V.dq.a V.dq.n V.dq.c]] rfl Tryz.func158 rfl rfl rfl ?_;refine(HC4.out w' (HG0.out.trans hg)).mono ?_;rintro e w'' ⟨rfl,hg2⟩;exact⟨_,rfl,hg2,rfl,trivial⟩
 subst hv;simp only[Act.put,sB,sS,sZ];iterate 2 (refine zm rfl rfl rfl (fun K hK=>?_);go_big_quiet_op;refine hK _ ?_;clear hK K)
 refine zM rfl rfl (fun w' hg hF=>?_) (fun v1 hv=>?_)
 ·refine zL.call [.agg #[.slice V.fl.a V.fl.n V.fl.c,.int .i64 m.cnt]] rfl Tryz.func159 rfl rfl rfl ?_;refine(HC5.out w' (HG0.out.trans hg)).mono ?_;rintro e w'' ⟨rfl,hg2⟩;exact⟨_,rfl,hg2,rfl,trivial⟩
 subst hv;simp only[Act.put,sB,sS,sZ];refine zM rfl rfl (fun w' hg hF=>?_) (fun v1 hv=>?_)
 ·have hnew:zo zg1 (w'.alloc (.cells #[.int .i64 (Ze m.fs m.hand),.int .i64 (slW m.sl),.int .i64 (zy m.sb.length m.sq),.int .i64 (zy m.db.length m.dq),.int .i64 (stW m.fl m.cnt)] 43)) (.slice (some ⟨w'.heap.size,0,none⟩) 5 5) [Ze m.fs m.hand,slW m.sl,zy m.sb.length m.sq,zy m.db.length m.dq,stW m.fl m.cnt]:=zeR zg1 w' [Ze m.fs m.hand,slW m.sl,zy m.sb.length m.sq,zy m.db.length m.dq,stW m.fl m.cnt] _ rfl (show 5*8<=140737488355328 by decide)
  refine zL.step (v:= .slice (some ⟨w'.heap.size,0,none⟩) 5 5) (w':=w'.alloc (.cells #[.int .i64 (Ze m.fs m.hand),.int .i64 (slW m.sl),.int .i64 (zy m.sb.length m.sq),.int .i64 (zy m.db.length m.dq),.int .i64 (stW m.fl m.cnt)] 43)) (by simp only[execOp];go_simp) ⟨za _ _,⟨_,rfl⟩,hnew⟩
 obtain⟨g15,rfl⟩:=hv;simp only[Act.put,sB,sS,sZ];refine zM rfl rfl (fun w' hg hF=>?_) (fun v1 hv=>?_)
 ·have h15:zo zg1 w' (.slice (some ⟨g15,0,none⟩) 5 5) [Ze m.fs m.hand,slW m.sl,zy m.sb.length m.sq,zy m.db.length m.dq,stW m.fl m.cnt]:=hF 15 (by kernel_rfl)
  refine zL.call [.slice (some ⟨g15,0,none⟩) 5 5] rfl Tryz.func130 rfl rfl rfl ?_;refine(zbw _ _ w' h15).mono ?_;rintro e w'' ⟨rfl,rfl⟩;exact⟨_,rfl,zc.refl _,rfl,trivial⟩
 subst hv;simp only[Act.put,sB,sS,sZ];iterate 1 (refine zm rfl rfl rfl (fun K hK=>?_);go_big_quiet_op;refine hK _ ?_;clear hK K)
 refine qU fun W3 hg1 hF=>?_
 have G3:=dD (HG0.out.trans hg1);clear hg1 hF hx0 hx1 hx2 hx3 hx4 hx5 hx6 hx7 hx8 hne;go_wp2;go_ret;exact⟨rfl,G3.out⟩
theorem zcH (a:Ar) (w:World):Calls Tryz.prog 222 #[.agg #[.int .i64 a.fr,.int .i64 a.tz,.bool a.rd,.bool a.wr,.bool a.sh,.int .i64 a.file,.int .i64 a.base]] w fun e w'=>e= .returned (.int .i64 (arW a))/\zc w w':=by
 obtain⟨fr,tz,rd,wr,sh,file,base⟩:=a
 by_cases c1:fr<0
 ·have hz:arW ⟨fr,tz,rd,wr,sh,file,base⟩=3:=by unfold arW;simp only;rw[if_pos (by omega)]
  rw[hz];clear hz
  go_enter Tryz.func222,Tryz.ntmps222
  go_wp2;go_ret;exact⟨rfl,za _ _⟩
 by_cases c2:tz<=fr
 ·have hz:arW ⟨fr,tz,rd,wr,sh,file,base⟩=3:=by unfold arW;simp only;rw[if_pos (by omega)]
  rw[hz];clear hz
  go_enter Tryz.func222,Tryz.ntmps222
  go_wp2;go_ret;exact⟨rfl,za _ _⟩
 by_cases c3:64<tz
 ·have hz:arW ⟨fr,tz,rd,wr,sh,file,base⟩=3:=by unfold arW;simp only;rw[if_pos (by omega)]
  rw[hz];clear hz
  go_enter Tryz.func222,Tryz.ntmps222
  go_wp2;go_ret;exact⟨rfl,za _ _⟩
 by_cases c4:file< -1
 ·have hz:arW ⟨fr,tz,rd,wr,sh,file,base⟩=3:=by unfold arW;simp only;rw[if_pos (by omega)]
  rw[hz];clear hz
  go_enter Tryz.func222,Tryz.ntmps222
  go_wp2;go_ret;exact⟨rfl,za _ _⟩
 by_cases c5:5<=file
 ·have hz:arW ⟨fr,tz,rd,wr,sh,file,base⟩=3:=by unfold arW;simp only;rw[if_pos (by omega)]
  rw[hz];clear hz
  go_enter Tryz.func222,Tryz.ntmps222
  go_wp2;go_ret;exact⟨rfl,za _ _⟩
 by_cases c6:base<0
 ·have hz:arW ⟨fr,tz,rd,wr,sh,file,base⟩=3:=by unfold arW;simp only;rw[if_pos (by omega)]
  rw[hz];clear hz
  go_enter Tryz.func222,Tryz.ntmps222
  go_wp2;go_ret;exact⟨rfl,za _ _⟩
 have hn:¬(fr<0\/tz<=fr\/64<tz\/file< -1\/5<=file\/base<0):=by omega
 by_cases d1:file<0
 ·by_cases d2:base=0
  ·cases sh
   ·have hz:arW ⟨fr,tz,rd,wr,false,file,base⟩=0:=by unfold arW;simp only;rw[if_neg hn,if_pos d1,if_neg (by simp[d2])]
    rw[hz];clear hz;have d2e:(base != 0)=false:=by simp[d2]
    have d2g:¬0<base:=by omega
    clear d2 hn
    go_enter Tryz.func222,Tryz.ntmps222
    go_wp2;go_ret;exact⟨rfl,za _ _⟩
   have hz:arW ⟨fr,tz,rd,wr,true,file,base⟩=7:=by unfold arW;simp only;rw[if_neg hn,if_pos d1,if_pos (by simp)]
   rw[hz];clear hz;have d2e:(base != 0)=false:=by simp[d2]
   have d2g:¬0<base:=by omega
   clear d2 hn
   go_enter Tryz.func222,Tryz.ntmps222
   go_wp2;go_ret;exact⟨rfl,za _ _⟩
  have hz:arW ⟨fr,tz,rd,wr,sh,file,base⟩=7:=by unfold arW;simp only;rw[if_neg hn,if_pos d1,if_pos (by simp[d2])]
  rw[hz];clear hz;have d2e:(base != 0)=true:=by simp[d2]
  have d2g:0<base:=by omega
  clear d2 hn
  go_enter Tryz.func222,Tryz.ntmps222
  go_wp2;go_ret;exact⟨rfl,za _ _⟩
 by_cases d2:12 -(tz - fr)<base
 ·have hz:arW ⟨fr,tz,rd,wr,sh,file,base⟩=7:=by unfold arW;simp only;rw[if_neg hn,if_neg d1,if_pos d2]
  rw[hz];clear hz;clear hn
  go_enter Tryz.func222,Tryz.ntmps222
  go_wp2;go_ret;exact⟨rfl,za _ _⟩
 have hz:arW ⟨fr,tz,rd,wr,sh,file,base⟩=0:=by unfold arW;simp only;rw[if_neg hn,if_neg d1,if_neg d2]
 rw[hz];clear hz;clear hn
 go_enter Tryz.func222,Tryz.ntmps222
 go_wp2;go_ret;exact⟨rfl,za _ _⟩
theorem QQ (a:Ar) (w:World):Calls Tryz.prog 132 #[.agg #[.int .i64 a.fr,.int .i64 a.tz,.bool a.rd,.bool a.wr,.bool a.sh,.int .i64 a.file,.int .i64 a.base]] w fun e w'=>e= .returned (.int .i64 (arW a))/\zc w w':=by
 obtain⟨fr,tz,rd,wr,sh,file,base⟩:=a
 by_cases c1:fr<0
 ·have hz:arW ⟨fr,tz,rd,wr,sh,file,base⟩=3:=by unfold arW;simp only;rw[if_pos (by omega)]
  rw[hz];clear hz
  go_enter Tryz.func132,Tryz.ntmps132
  go_wp2;go_ret;exact⟨rfl,za _ _⟩
 by_cases c3:64<tz
 ·have hz:arW ⟨fr,tz,rd,wr,sh,file,base⟩=3:=by unfold arW;simp only;rw[if_pos (by omega)]
  rw[hz];clear hz
  go_enter Tryz.func132,Tryz.ntmps132
  go_wp2;go_ret;exact⟨rfl,za _ _⟩
 by_cases c2:tz<=fr
 ·have hz:arW ⟨fr,tz,rd,wr,sh,file,base⟩=3:=by unfold arW;simp only;rw[if_pos (by omega)]
  rw[hz];clear hz
  go_enter Tryz.func132,Tryz.ntmps132
  go_wp2;go_ret;exact⟨rfl,za _ _⟩
 by_cases c4:file< -1
 ·have hz:arW ⟨fr,tz,rd,wr,sh,file,base⟩=3:=by unfold arW;simp only;rw[if_pos (by omega)]
  rw[hz];clear hz
  go_enter Tryz.func132,Tryz.ntmps132
  go_wp2;go_ret;exact⟨rfl,za _ _⟩
 by_cases c5:4<file
 ·have hz:arW ⟨fr,tz,rd,wr,sh,file,base⟩=3:=by unfold arW;simp only;rw[if_pos (by omega)]
  rw[hz];clear hz
  go_enter Tryz.func132,Tryz.ntmps132
  go_wp2;go_ret;exact⟨rfl,za _ _⟩
 by_cases c6:base<0
 ·have hz:arW ⟨fr,tz,rd,wr,sh,file,base⟩=3:=by unfold arW;simp only;rw[if_pos (by omega)]
  rw[hz];clear hz
  go_enter Tryz.func132,Tryz.ntmps132
  go_wp2;go_ret;exact⟨rfl,za _ _⟩
 have hn:¬(fr<0\/tz<=fr\/64<tz\/file< -1\/5<=file\/base<0):=by omega
 by_cases d1:file<0
 ·by_cases d2:base=0
  ·cases sh
   ·have hz:arW ⟨fr,tz,rd,wr,false,file,base⟩=0:=by unfold arW;simp only;rw[if_neg hn,if_pos d1,if_neg (by simp[d2])]
    rw[hz];clear hz;have d1e:(file == -1)=true:=by simp;omega
    have d1n:¬0<=file:=by omega
    have d2e:(base != 0)=false:=by simp[d2]
    have d2g:¬0<base:=by omega
    clear d2 hn
    go_enter Tryz.func132,Tryz.ntmps132
    go_wp2;go_ret;exact⟨rfl,za _ _⟩
   have hz:arW ⟨fr,tz,rd,wr,true,file,base⟩=7:=by unfold arW;simp only;rw[if_neg hn,if_pos d1,if_pos (by simp)]
   rw[hz];clear hz;have d1e:(file == -1)=true:=by simp;omega
   have d1n:¬0<=file:=by omega
   have d2e:(base != 0)=false:=by simp[d2]
   have d2g:¬0<base:=by omega
   clear d2 hn
   go_enter Tryz.func132,Tryz.ntmps132
   go_wp2;go_ret;exact⟨rfl,za _ _⟩
  have hz:arW ⟨fr,tz,rd,wr,sh,file,base⟩=7:=by unfold arW;simp only;rw[if_neg hn,if_pos d1,if_pos (by simp[d2])]
  rw[hz];clear hz;have d1e:(file == -1)=true:=by simp;omega
  have d1n:¬0<=file:=by omega
  have d2e:(base != 0)=true:=by simp[d2]
  have d2g:0<base:=by omega
  clear d2 hn
  go_enter Tryz.func132,Tryz.ntmps132
  go_wp2;go_ret;exact⟨rfl,za _ _⟩
 by_cases d2:12 -(tz - fr)<base
 ·have hz:arW ⟨fr,tz,rd,wr,sh,file,base⟩=7:=by unfold arW;simp only;rw[if_neg hn,if_neg d1,if_pos d2]
  rw[hz];clear hz;have d1e:(file == -1)=false:=by simp;omega
  have d1n:0<=file:=by omega
  clear hn
  go_enter Tryz.func132,Tryz.ntmps132
  go_wp2;go_ret;exact⟨rfl,za _ _⟩
 have hz:arW ⟨fr,tz,rd,wr,sh,file,base⟩=0:=by unfold arW;simp only;rw[if_neg hn,if_neg d1,if_neg d2]
 rw[hz];clear hz;have d1e:(file == -1)=false:=by simp;omega
 have d1n:0<=file:=by omega
 clear hn
 go_enter Tryz.func132,Tryz.ntmps132
 go_wp2;go_ret;exact⟨rfl,za _ _⟩
def j9 (a:Ar) (n:Int):Ar:={ a with fr:=n,base:=if 0<=a.file then a.base+(n - a.fr)else a.base }
theorem zgX (a:Ar) (n:Int) (w:World) (ha:jo a) (hn:0<=n/\n<=64):Calls Tryz.prog 238 #[.agg #[.int .i64 a.fr,.int .i64 a.tz,.bool a.rd,.bool a.wr,.bool a.sh,.int .i64 a.file,.int .i64 a.base],.int .i64 n] w fun e w'=>e= .returned (arA (j9 a n))/\zc w w':=by
 have HA:Hid (jo a):=ha;unfold jo at ha;obtain⟨h1,h2,h3,h4,h5,h6,h7,h8⟩:=ha;obtain⟨fr,tz,rd,wr,sh,file,base⟩:=a;simp only at h1 h2 h3 h4 h5 h6 h7 h8⊢;have hb:base<=12:=by
  by_cases h:0<=file
  ·have:=h8 h;omega
  have:=h7 (by omega);omega
 clear h7 h8;obtain⟨n1,n2⟩:=hn;obtain⟨W0,hW0⟩:∃W0,(w.alloc (.cells #[.int .i64 fr,.int .i64 tz,.bool rd,.bool wr,.bool sh,.int .i64 file,.int .i64 base] 114)).alloc (.cells #[.int .i64 0,.int .i64 0,.bool false,.bool false,.bool false,.int .i64 0,.int .i64 0] 114)=W0:=⟨_,rfl⟩;have HG0:=gD2 hW0
 have X0:=x2a hW0
 have Y0:=x2b hW0
 have HW0:Hid (_=W0):=hW0;clear hW0
 by_cases hf:0<=file
 ·have HR:Hid (j9 ⟨fr,tz,rd,wr,sh,file,base⟩ n=⟨n,tz,rd,wr,sh,file,base+(n - fr)⟩):=show _=_ by unfold j9;simp only;rw[if_pos hf]
  go_enter Tryz.func238,Tryz.ntmps238
  go_upto_region 1 with fail;rw[HW0.out];have x0:=X0.out.c 0 rfl;have x5:=X0.out.c 5 rfl;have x6:=X0.out.c 6 rfl;have xf:=X0.out.f;go_upto_region 4 with fail;obtain⟨W1,hW1⟩:∃W1,(W0.setCell ⟨w.heap.size,6,none⟩ (.int .i64 (base+(n - fr)))).setCell ⟨w.heap.size,0,none⟩ (.int .i64 n)=W1:=⟨_,rfl⟩;have X1:Hid (Box W1 w.heap.size [.int .i64 n,.int .i64 tz,.bool rd,.bool wr,.bool sh,.int .i64 file,.int .i64 (base+(n - fr))]):=show Box _ _ _ by rw[<-hW1];exact(X0.out.set 6 _).set 0 _
  have Y1:Hid (Box W1 (w.heap.size+1) [.int .i64 0,.int .i64 0,.bool false,.bool false,.bool false,.int .i64 0,.int .i64 0]):=show Box _ _ _ by rw[<-hW1];exact(Y0.out.other (by simp) _).other (by simp) _
  have HG1:Hid (zc w W1):=show zc _ _ by rw[<-hW1];exact zD (zD HG0.out (by simp) _) (by simp) _
  rw[hW1];clear hW1 x0 x5 x6 xf
  go_wp2_with (first | refine zG rfl 114 (.tmp 2) rfl w.heap.size rfl X1.out Tryz.underlying114 rfl zlj ?_ | refine zQ rfl 114 (.tmp 4) (.tmp 18) rfl (w.heap.size+1) rfl _ rfl Y1.out rfl zlj (arE.one ⟨n,tz,rd,wr,sh,file,base+(n - fr)⟩) ?_)
  intro W2 b2 g2 s2;have G2:Hid (zc w W2):=zg HG1.out g2 (by simp)
  have B2:Hid (Box W2 (w.heap.size+1) [.int .i64 n,.int .i64 tz,.bool rd,.bool wr,.bool sh,.int .i64 file,.int .i64 (base+(n - fr))]):=b2;clear b2 g2 s2;go_wp2;refine bodyPost_ret (zW rfl _ rfl B2.out Tryz.underlying114 rfl zlj) rfl ⟨by rw[HR.out];rfl,G2.out⟩
 have HR:Hid (j9 ⟨fr,tz,rd,wr,sh,file,base⟩ n=⟨n,tz,rd,wr,sh,file,base⟩):=show _=_ by unfold j9;simp only;rw[if_neg hf]
 go_enter Tryz.func238,Tryz.ntmps238
 go_upto_region 1 with fail;rw[HW0.out];have x0:=X0.out.c 0 rfl;have x5:=X0.out.c 5 rfl;have xf:=X0.out.f;go_upto_region 4 with fail;obtain⟨W1,hW1⟩:∃W1,W0.setCell ⟨w.heap.size,0,none⟩ (.int .i64 n)=W1:=⟨_,rfl⟩;have X1:Hid (Box W1 w.heap.size [.int .i64 n,.int .i64 tz,.bool rd,.bool wr,.bool sh,.int .i64 file,.int .i64 base]):=show Box _ _ _ by rw[<-hW1];exact X0.out.set 0 _
 have Y1:Hid (Box W1 (w.heap.size+1) [.int .i64 0,.int .i64 0,.bool false,.bool false,.bool false,.int .i64 0,.int .i64 0]):=show Box _ _ _ by rw[<-hW1];exact Y0.out.other (by simp) _
 have HG1:Hid (zc w W1):=show zc _ _ by rw[<-hW1];exact zD HG0.out (by simp) _
 rw[hW1];clear hW1 x0 x5 xf
 go_wp2_with (first | refine zG rfl 114 (.tmp 2) rfl w.heap.size rfl X1.out Tryz.underlying114 rfl zlj ?_ | refine zQ rfl 114 (.tmp 4) (.tmp 18) rfl (w.heap.size+1) rfl _ rfl Y1.out rfl zlj (arE.one ⟨n,tz,rd,wr,sh,file,base⟩) ?_)
 intro W2 b2 g2 s2;have G2:Hid (zc w W2):=zg HG1.out g2 (by simp)
 have B2:Hid (Box W2 (w.heap.size+1) [.int .i64 n,.int .i64 tz,.bool rd,.bool wr,.bool sh,.int .i64 file,.int .i64 base]):=b2;clear b2 g2 s2;go_wp2;refine bodyPost_ret (zW rfl _ rfl B2.out Tryz.underlying114 rfl zlj) rfl ⟨by rw[HR.out];rfl,G2.out⟩
def zjq (a b:Ar):Bool:=(a.fr == b.fr) &&(a.tz == b.tz) &&(a.rd == b.rd) &&(a.wr == b.wr) &&(a.sh == b.sh) &&(a.file == b.file) &&(a.base == b.base)
theorem zkW (x0 y0:Int) (x1 y1:Int) (x2 y2:Bool) (x3 y3:Bool) (x4 y4:Bool) (x5 y5:Int) (x6 y6:Int) (w:World):(Op.equalIn 10000 114 (.agg #[.int .i64 x0,.int .i64 x1,.bool x2,.bool x3,.bool x4,.int .i64 x5,.int .i64 x6]) (.agg #[.int .i64 y0,.int .i64 y1,.bool y2,.bool y3,.bool y4,.int .i64 y5,.int .i64 y6])).run Tryz.prog w= .ok (zjq ⟨x0,x1,x2,x3,x4,x5,x6⟩ ⟨y0,y1,y2,y3,y4,y5,y6⟩) w:=by
 have hf : (Tryz.prog.fieldsOf 114).toList.map (fun f => (f.name, f.type, f.offset)) = [("From", 3, 0), ("To", 3, 1), ("Read", 4, 2), ("Write", 4, 3), ("Shared", 4, 4), ("File", 3, 5), ("Base", 3, 6)] := by kernel_rfl
 rw[run_equalIn_struct w 9999 114 _ _ (by kernel_rfl) (by kernel_rfl)]
 obtain⟨f0,f1,f2,f3,f4,f5,f6,hfs⟩:∃f0 f1 f2 f3 f4 f5 f6,(Tryz.prog.fieldsOf 114).toList=[f0,f1,f2,f3,f4,f5,f6]:=by
  have hl:(Tryz.prog.fieldsOf 114).toList.length=7:=by have:=congrArg List.length hf;simpa using this
  match hq:(Tryz.prog.fieldsOf 114).toList,hl with
  | [f0,f1,f2,f3,f4,f5,f6],_=>exact⟨f0,f1,f2,f3,f4,f5,f6,rfl⟩
 rw[hfs]at hf⊢
 simp at hf
 obtain⟨⟨n0,t0,o0⟩,⟨n1,t1,o1⟩,⟨n2,t2,o2⟩,⟨n3,t3,o3⟩,⟨n4,t4,o4⟩,⟨n5,t5,o5⟩,⟨n6,t6,o6⟩⟩:=hf;have pI:∀(zs:Array Value) (o:Nat) v,zs[o]? =some (.int .i64 v)->(part 3 zs o).run Tryz.prog w= .ok (.int .i64 v) w:=fun zs o v hz=>run_part_plain w (by simp[Program.plainKey,Tryz.underlying3]) hz
 have pB:∀(zs:Array Value) (o:Nat) v,zs[o]? =some (.bool v)->(part 4 zs o).run Tryz.prog w= .ok (.bool v) w:=fun zs o v hz=>run_part_plain w (by simp[Program.plainKey,Tryz.underlying4]) hz
 simp only[Op.eqFields,n0,t0,o0,n1,t1,o1,n2,t2,o2,n3,t3,o3,n4,t4,o4,n5,t5,o5,n6,t6,o6]
 simp[pI,pB,run_equalIn_bool' w _ _ _ _ Tryz.underlying4,run_equalIn_int w _ _ _ _ _ _ Tryz.underlying3]
 unfold zjq;simp only
 by_cases e0:x0=y0
 case neg=>simp[e0]
 subst e0
 by_cases e1:x1=y1
 case neg=>simp[e1]
 subst e1
 by_cases e2:x2=y2
 case neg=>simp[e2]
 subst e2
 by_cases e3:x3=y3
 case neg=>simp[e3]
 subst e3
 by_cases e4:x4=y4
 case neg=>simp[e4]
 subst e4
 by_cases e5:x5=y5
 case neg=>simp[e5]
 subst e5
 by_cases e6:x6=y6
 case neg=>simp[e6]
 subst e6;simp
def ziH (a b:On):Bool:=(a.is == b.is) &&(a.rd == b.rd) &&(a.wr == b.wr) &&(a.sh == b.sh) &&(a.file == b.file) &&(a.page == b.page)
theorem zkz (x0 y0:Bool) (x1 y1:Bool) (x2 y2:Bool) (x3 y3:Bool) (x4 y4:Int) (x5 y5:Int) (w:World):(Op.equalIn 10000 61 (.agg #[.bool x0,.bool x1,.bool x2,.bool x3,.int .i64 x4,.int .i64 x5]) (.agg #[.bool y0,.bool y1,.bool y2,.bool y3,.int .i64 y4,.int .i64 y5])).run Tryz.prog w= .ok (ziH ⟨x0,x1,x2,x3,x4,x5⟩ ⟨y0,y1,y2,y3,y4,y5⟩) w:=by
 have hf : (Tryz.prog.fieldsOf 61).toList.map (fun f => (f.name, f.type, f.offset)) = [("Some", 4, 0), ("Read", 4, 1), ("Write", 4, 2), ("Shared", 4, 3), ("File", 3, 4), ("Page", 3, 5)] := by kernel_rfl
 rw[run_equalIn_struct w 9999 61 _ _ (by kernel_rfl) (by kernel_rfl)]
 obtain⟨f0,f1,f2,f3,f4,f5,hfs⟩:∃f0 f1 f2 f3 f4 f5,(Tryz.prog.fieldsOf 61).toList=[f0,f1,f2,f3,f4,f5]:=by
  have hl:(Tryz.prog.fieldsOf 61).toList.length=6:=by have:=congrArg List.length hf;simpa using this
  match hq:(Tryz.prog.fieldsOf 61).toList,hl with
  | [f0,f1,f2,f3,f4,f5],_=>exact⟨f0,f1,f2,f3,f4,f5,rfl⟩
 rw[hfs]at hf⊢
 simp at hf
 obtain⟨⟨n0,t0,o0⟩,⟨n1,t1,o1⟩,⟨n2,t2,o2⟩,⟨n3,t3,o3⟩,⟨n4,t4,o4⟩,⟨n5,t5,o5⟩⟩:=hf;have pI:∀(zs:Array Value) (o:Nat) v,zs[o]? =some (.int .i64 v)->(part 3 zs o).run Tryz.prog w= .ok (.int .i64 v) w:=fun zs o v hz=>run_part_plain w (by simp[Program.plainKey,Tryz.underlying3]) hz
 have pB:∀(zs:Array Value) (o:Nat) v,zs[o]? =some (.bool v)->(part 4 zs o).run Tryz.prog w= .ok (.bool v) w:=fun zs o v hz=>run_part_plain w (by simp[Program.plainKey,Tryz.underlying4]) hz
 simp only[Op.eqFields,n0,t0,o0,n1,t1,o1,n2,t2,o2,n3,t3,o3,n4,t4,o4,n5,t5,o5]
 simp[pI,pB,run_equalIn_bool' w _ _ _ _ Tryz.underlying4,run_equalIn_int w _ _ _ _ _ _ Tryz.underlying3]
 unfold ziH;simp only
 by_cases e0:x0=y0
 case neg=>simp[e0]
 subst e0
 by_cases e1:x1=y1
 case neg=>simp[e1]
 subst e1
 by_cases e2:x2=y2
 case neg=>simp[e2]
 subst e2
 by_cases e3:x3=y3
 case neg=>simp[e3]
 subst e3
 by_cases e4:x4=y4
 case neg=>simp[e4]
 subst e4
 by_cases e5:x5=y5
 case neg=>simp[e5]
 subst e5;simp
theorem zj1 {a b:Ar}:zjq a ⟨b.tz,a.tz,b.rd,b.wr,b.sh,b.file,(j9 b b.tz).base⟩=goB a b:=by
 unfold zjq goB j9;simp only[beq_self_eq_true,Bool.and_true];have hd:∀x y:Int,(x == y)=decide (x=y):=fun x y=>rfl
 simp only[hd]
theorem zeu (a:Ar) (n:Int):arA (j9 a n)= .agg #[.int .i64 n,.int .i64 a.tz,.bool a.rd,.bool a.wr,.bool a.sh,.int .i64 a.file,.int .i64 (j9 a n).base]:=rfl
theorem zgB (a b:Ar) (w:World) (hbk:jo b):Calls Tryz.prog 223 #[.agg #[.int .i64 a.fr,.int .i64 a.tz,.bool a.rd,.bool a.wr,.bool a.sh,.int .i64 a.file,.int .i64 a.base],.agg #[.int .i64 b.fr,.int .i64 b.tz,.bool b.rd,.bool b.wr,.bool b.sh,.int .i64 b.file,.int .i64 b.base]] w fun e w'=>e= .returned (.bool (goB a b))/\zc w w':=by
 have hb:∀W,Calls Tryz.prog 238 #[.agg #[.int .i64 b.fr,.int .i64 b.tz,.bool b.rd,.bool b.wr,.bool b.sh,.int .i64 b.file,.int .i64 b.base],.int .i64 b.tz] W fun e w'=>e= .returned (arA (j9 b b.tz))/\zc W w':=fun W=>zgX b b.tz W hbk (by have:=hbk;unfold jo at this;omega)
 have hq:=fun W=>zkW a.fr b.tz a.tz a.tz a.rd b.rd a.wr b.wr a.sh b.sh a.file b.file a.base (j9 b b.tz).base W
 have he:=zj1 (a:=a) (b:=b);rw[show(⟨a.fr,a.tz,a.rd,a.wr,a.sh,a.file,a.base⟩:Ar)=a from rfl]at hq
 rw[he]at hq;rw[zeu]at hb
 generalize(j9 b b.tz).base=nb at hb hq
 clear he hbk
 generalize goB a b=R at hq⊢
 obtain⟨W0,hW0⟩:∃W0,(w.alloc (.cells #[.int .i64 a.fr,.int .i64 a.tz,.bool a.rd,.bool a.wr,.bool a.sh,.int .i64 a.file,.int .i64 a.base] 114)).alloc (.cells #[.int .i64 b.fr,.int .i64 b.tz,.bool b.rd,.bool b.wr,.bool b.sh,.int .i64 b.file,.int .i64 b.base] 114)=W0:=⟨_,rfl⟩;have HG0:=gD2 hW0
 have X0:=x2a hW0
 have Y0:=x2b hW0
 have HW0:Hid (_=W0):=hW0;clear hW0
 go_enter Tryz.func223,Tryz.ntmps223
 go_upto_region 1 with fail;rw[HW0.out];have y1:=Y0.out.c 1 rfl
 go_wp2_with (refine zG rfl 114 (.tmp 3) rfl (w.heap.size+1) rfl Y0.out Tryz.underlying114 rfl zlj ?_)
 refine(hb _).mono ?_;rintro e W1 ⟨rfl,g1⟩;have G1:=dD (HG0.out.trans g1);have X1:=dD (X0.out.grew g1);clear g1 hb y1;obtain⟨p,HP⟩:∃p,Hid (W1.heap.size=p):=⟨_,rfl⟩;have HL:Hid (w.heap.size<p):=show _<_ by rw[<-HP.out];exact X1.out.lt
 go_upto_region 2 with fail;obtain⟨W2,hW2⟩:∃W2,W1.alloc (.cells #[.int .i64 b.tz,.int .i64 b.tz,.bool b.rd,.bool b.wr,.bool b.sh,.int .i64 b.file,.int .i64 nb] 114)=W2:=⟨_,rfl⟩;have G2:=gT hW2 G1
 have X2:=yA hW2 X1
 have Z2:=xP hW2 HP
 rw[hW2,HP.out];clear hW2;have x1:=X2.out.c 1 rfl;have z1:=Z2.out.c 1 rfl;have zf:=Z2.out.f;go_upto_region 3 with fail;obtain⟨W3,hW3⟩:∃W3,W2.setCell ⟨p,1,none⟩ (.int .i64 a.tz)=W3:=⟨_,rfl⟩;have G3:Hid (zc w W3):=show zc _ _ by rw[<-hW3];exact zD G2.out (by have:=HL.out;simp;omega) _
 have X3:Hid (Box W3 w.heap.size [.int .i64 a.fr,.int .i64 a.tz,.bool a.rd,.bool a.wr,.bool a.sh,.int .i64 a.file,.int .i64 a.base]):=show Box _ _ _ by rw[<-hW3];exact X2.out.other (by have:=HL.out;simp;omega) _
 have Z3:Hid (Box W3 p [.int .i64 b.tz,.int .i64 a.tz,.bool b.rd,.bool b.wr,.bool b.sh,.int .i64 b.file,.int .i64 nb]):=show Box _ _ _ by rw[<-hW3];exact Z2.out.set 1 _
 rw[hW3];clear hW3 x1 z1 zf
 go_wp2_with (first | refine zG rfl 114 (.tmp 5) rfl p rfl Z3.out Tryz.underlying114 rfl zlj ?_ | refine zG rfl 114 (.tmp 2) rfl w.heap.size rfl X3.out Tryz.underlying114 rfl zlj ?_)
 go_ret;exact⟨rfl,G3.out⟩
def inZ (a:Ar) (n:Int):Bool:=decide (a.fr<=n) && decide (n<a.tz)
theorem zjX (a:Ar) (n:Nat):inZ a (n:Int)=ZG a n:=rfl
def zaW (l:List Ar) (n z:Int):Prop:=(∃(k:Nat) (a:Ar),z=k/\l[k]? =some a/\inZ a n=true)\/(z=-1/\∀a∈l,inZ a n=false)
theorem zjf {l:List Ar} {k:Nat} {z:Int} (h:zaW l k z):decide (0<=z)=(zH l k).is:=by
 rcases h with⟨j,a,rfl,h1,h2⟩ | ⟨rfl,h1⟩
 ·have:∀(m:List Ar),a∈m->(zH m k).is=true:=by
   intro m
   induction m with
   | nil=>intro hx;cases hx
   | cons c m ih=>
    intro hx
    by_cases hc:ZG c k=true
    ·rw[zH,if_pos hc];rfl
    rw[zH,if_neg hc]
    rcases mC.1 hx with e | hx
    ·rw[e,zjX]at h2;exact absurd h2 hc
    exact ih hx
  rw[this l (mG h1)];simp
 rw[zag (fun a ha=>h1 a ha)]
 rfl
theorem zhQ (a:Ar) (n:Int) (p:Nat) (w:World) (hb:Box w p [.int .i64 n]):
  Calls Tryz.prog 144 #[.agg #[.int .i64 a.fr,.int .i64 a.tz,.bool a.rd,.bool a.wr,.bool a.sh,.int .i64 a.file,.int .i64 a.base],.pointer (some ⟨p,0,none⟩)] w fun e w'=>e= .returned (.bool (inZ a n))/\zc w w':=by
 have H:Hid (inZ a n=(decide (a.fr<=n) && decide (n<a.tz))):=rfl;obtain⟨W0,hW0⟩:∃W0,w.alloc (.cells #[.int .i64 a.fr,.int .i64 a.tz,.bool a.rd,.bool a.wr,.bool a.sh,.int .i64 a.file,.int .i64 a.base] 114)=W0:=⟨_,rfl⟩;have HG0:=gA hW0
 have X0:=xA hW0
 have B0:Hid (Box W0 p [.int .i64 n]):=show Box _ _ _ by rw[<-hW0];exact hb.alloc _
 have HW0:Hid (_=W0):=hW0;clear hW0 hb
 by_cases h0:a.fr<=n
 ·by_cases h1:n<a.tz
  ·go_enter Tryz.func144,Tryz.ntmps144
   go_upto_region 1 with fail;rw[HW0.out];have x0:=X0.out.c 0 rfl;have x1:=X0.out.c 1 rfl;have b0:=B0.out.c 0 rfl;go_wp2;go_ret;exact⟨by rw[H.out];simp[*],HG0.out⟩
  go_enter Tryz.func144,Tryz.ntmps144
  go_upto_region 1 with fail;rw[HW0.out];have x0:=X0.out.c 0 rfl;have x1:=X0.out.c 1 rfl;have b0:=B0.out.c 0 rfl;go_wp2;go_ret;exact⟨by rw[H.out];simp[*],HG0.out⟩
 go_enter Tryz.func144,Tryz.ntmps144
 go_upto_region 1 with fail;rw[HW0.out];have x0:=X0.out.c 0 rfl;have x1:=X0.out.c 1 rfl;have b0:=B0.out.c 0 rfl;go_wp2;go_ret;exact⟨by rw[H.out];simp;omega,HG0.out⟩
theorem zdd (v:Value) (l:List Ar) (m:Int) (p:Nat) (w:World) (hb:Box w p [.int .i64 m]) (hv:zo arE w v l):
  Calls Tryz.prog 143 #[v,.func (.func 144) #[] #[.pointer (some ⟨p,0,none⟩)]] w fun e w'=>(∃z:Int,e= .returned (.int .i64 z)/\zaW l m z)/\zc w w':=by
 have hbig:=hv.short;obtain⟨a,c,rfl,hrow⟩:=hv.ars;have HR:Hid (zbX w a l):=hrow;have HB:Hid (Box w p [.int .i64 m]):=hb;have eg:=enters_of Tryz.func144 (by kernel_rfl) rfl
 clear hrow hv hb;obtain⟨n,HN⟩:∃n,Hid (l.length=n):=⟨_,rfl⟩;rw[HN.out]at hbig⊢;obtain⟨ANS,HANS⟩:∃ANS:Int->Prop,Hid (∀z,zaW l m z=ANS z):=⟨zaW l m,fun _=>rfl⟩
 simp only[HANS.out]
 go_enter Tryz.func143,Tryz.ntmps143
 go_wp2
 go_loopg [5,8] n (fun gg _ s8 wr=>∃kk:Nat,kk<=n/\n - kk<=gg/\s8= .int .i64 kk/\Hid (zc w wr)/\Hid (∀(j:Nat) (q:Ar),j<kk->l[j]? =some q->inZ q m=false))
 case atStart=>exact⟨0,nZ _,by omega,rfl,zc.refl w,fun j q hj=>absurd hj (nL _)⟩
 obtain⟨kk,hkk,hg,rfl,BW,A⟩:=hrel
 by_cases hlt:kk<n
 ·have hltz:(kk:Int)< (n:Int):=by omega
  obtain⟨q,HQ⟩:∃q,Hid (l[kk]? =some q):=⟨_,gE (by rw[HN.out];exact hlt)⟩
  obtain⟨ad,rfl,hl⟩:=HR.out kk q HQ.out;obtain⟨d0,d1,d2,d3,d4,d5,d6⟩:=hl wr BW.out;have hcall:=zhQ q m p wr (HB.out.grew BW.out);clear hl
  cases hq:inZ q m with
  | true=>
   rw[hq]at hcall;have HF:Hid (ANS (kk:Int)):=show ANS _ by
    rw[<-HANS.out];exact .inl ⟨kk,q,rfl,HQ.out,hq⟩
   clear hq;go_wp2_with fail;refine hcall.mono ?_;rintro e W2 ⟨rfl,g2⟩;have G2:=dD (BW.out.trans g2);clear g2 hcall d0 d1 d2 d3 d4 d5 d6;go_wp2;go_ret;exact⟨⟨_,rfl,HF.out⟩,G2.out⟩
  | false=>
   rw[hq]at hcall;have HA:Hid (∀(j:Nat) (q:Ar),j<kk+1->l[j]? =some q->inZ q m=false):=show∀(j:Nat) (q:Ar),_ from fun j q' hj hq'=>by
    by_cases e:j=kk
    ·subst e;rw[HQ.out]at hq';cases hq';exact hq
    exact A.out j q' (by omega) hq'
   clear hq;go_wp2_with fail;refine hcall.mono ?_;rintro e W2 ⟨rfl,g2⟩;have G2:=dD (BW.out.trans g2);clear g2 hcall d0 d1 d2 d3 d4 d5 d6;go_wp2
   go_roundg (n -(kk+1))
   case measure=>omega
   exact⟨kk+1,by omega,by omega,by go_num,G2.out,HA.out⟩
 have hltz:¬(kk:Int)< (n:Int):=by omega
 have:kk=n:=by omega
 subst this;have HF:Hid (ANS (-1:Int)):=show ANS _ by
  rw[<-HANS.out];refine .inr ⟨rfl,fun x hx=>?_⟩
  obtain⟨j,hj⟩:=List.getElem?_of_mem hx;exact A.out j x (by rw[<-HN.out];exact(gS.1 hj).1) hj
 go_wp2;go_ret;exact⟨⟨_,rfl,HF.out⟩,BW.out⟩
theorem zjg (v:Value) (l:List Ar) (m:Int) (w:World) (hv:zo arE w v l):
  Calls Tryz.prog 100 #[v,.int .i64 m] w fun e w'=>(∃z:Int,e= .returned (.int .i64 z)/\zaW l m z)/\zc w w':=by
 have hmf:∀(fn:Fn) (first cap:Array Value) (w:World),(Instr.makeFunc fn first cap).run Tryz.prog w= .ok (.func fn first cap) w:=fun _ _ _ _=>rfl
 have h1:Calls Tryz.prog 143 #[v,.func (.func 144) #[] #[.pointer (some ⟨w.heap.size,0,none⟩)]] (w.alloc (.cells #[.int .i64 m] 3)) fun e w'=>(∃z:Int,e= .returned (.int .i64 z)/\zaW l m z)/\zc (w.alloc (.cells #[.int .i64 m] 3)) w':=zdd v l m _ _ (Box.top w _ _ rfl) (hv.grew (za _ _))
 obtain⟨a,c,rfl,_⟩:=hv.ars;clear hv
 generalize l.length=n at h1⊢
 go_enter Tryz.func100,Tryz.ntmps100
 go_wp2_with fail;refine h1.mono ?_;rintro e W1 ⟨⟨z,rfl,hz⟩,g1⟩;have G1:Hid (zc w W1):=(za _ _).trans g1;have HZ:Hid (zaW l m z):=hz;clear g1 h1 hz;go_wp2;go_ret;exact⟨⟨_,rfl,HZ.out⟩,G1.out⟩
def jN (l:List Ar):Nat->Option Ar
 | 0=>none
 | k+1=>l[k]?
theorem J7 (p:Option Ar) (a:Ar) (l:List Ar) (i:Nat):Js p (a :: l) i=if arW a≠0 then(arW a,(i:Int))else match p with | some b=>if a.fr<b.tz\/goB a b=true then(2,(i:Int))else Js (some a) l (i+1) | none=>Js (some a) l (i+1):=by
 cases p <;> rfl
theorem zg3 {l:List Ar} {k:Nat} {q:Ar} {r:Int × Int} (h:Js (jN l k) (l.drop k) k=r) (hq:l[k]? =some q) (hz:arW q≠0):r=(arW q,(k:Int)):=by
 rw[qJ hq,J7,if_pos hz]at h;exact h.symm
theorem zdv {l:List Ar} {q:Ar} {r:Int × Int} (h:Js (jN l 0) (l.drop 0) 0=r) (hq:l[0]? =some q) (hz:arW q=0):Js (jN l 1) (l.drop 1) 1=r:=by
 rw[qJ hq,J7,if_neg (fun h=>h hz)]at h
 simp only[jN]at h⊢;rw[hq];exact h
theorem za6 {l:List Ar} {j:Nat} {b q:Ar} {r:Int × Int} (h:Js (jN l (j+1)) (l.drop (j+1)) (j+1)=r) (hb:l[j]? =some b) (hq:l[j+1]? =some q) (hz:arW q=0) (hc:q.fr<b.tz\/goB q b=true):r=(2,((j+1:Nat):Int)):=by
 rw[qJ hq,J7,if_neg (fun h=>h hz)]at h
 simp only[jN,hb]at h;rw[if_pos hc]at h;exact h.symm
theorem zfC {l:List Ar} {j:Nat} {b q:Ar} {r:Int × Int} (h:Js (jN l (j+1)) (l.drop (j+1)) (j+1)=r) (hb:l[j]? =some b) (hq:l[j+1]? =some q) (hz:arW q=0) (hc:¬q.fr<b.tz) (hc':goB q b=false):Js (jN l (j+1+1)) (l.drop (j+1+1)) (j+1+1)=r:=by
 rw[qJ hq,J7,if_neg (fun h=>h hz)]at h
 simp only[jN,hb]at h;rw[if_neg (by rintro(h1 | h1);exact hc h1;rw[hc']at h1;cases h1)]at h
 simp only[jN,hq];exact h
theorem zg2 {l:List Ar} {r:Int × Int} (h:Js (jN l l.length) (l.drop l.length) l.length=r):r=(0,0):=by
 rw[List.drop_length,Js]at h;exact h.symm
theorem zdw {l:List Ar} (h:¬16<l.length):Js (jN l 0) (l.drop 0) 0=wrL l:=by
 unfold wrL;rw[if_neg h];rfl
theorem zeI (v:Value) (l:List Ar) (w:World) (hv:zo arE w v l):
  Calls Tryz.prog 195 #[v] w fun e w'=>e= .returned (.agg #[.int .i64 (wrL l).1,.int .i64 (wrL l).2])/\zc w w':=by
 have hbig:=hv.short;obtain⟨a,c,rfl,hrow⟩:=hv.ars;have HR':Hid (zbX w a l):=hrow;have hwa:Hid (∀(q:Ar) W,Calls Tryz.prog 222 #[.agg #[.int .i64 q.fr,.int .i64 q.tz,.bool q.rd,.bool q.wr,.bool q.sh,.int .i64 q.file,.int .i64 q.base]] W fun e w'=>e= .returned (.int .i64 (arW q))/\zc W w'):=fun q W=>zcH q W
 have hgo:Hid (∀(q b:Ar) W,jo b->Calls Tryz.prog 223 #[.agg #[.int .i64 q.fr,.int .i64 q.tz,.bool q.rd,.bool q.wr,.bool q.sh,.int .i64 q.file,.int .i64 q.base],.agg #[.int .i64 b.fr,.int .i64 b.tz,.bool b.rd,.bool b.wr,.bool b.sh,.int .i64 b.file,.int .i64 b.base]] W fun e w'=>e= .returned (.bool (goB q b))/\zc W w'):=fun q b W h=>zgB q b W h
 clear hrow hv;have HST:Hid (¬16<l.length->Js (jN l 0) (l.drop 0) 0=wrL l):=zdw;have HMA:Hid (16<l.length->wrL l=(4,0)):=fun h=>by unfold wrL;rw[if_pos h]
 have HEND:Hid (∀r,Js (jN l l.length) (l.drop l.length) l.length=r->r=(0,0)):=fun r=>zg2
 obtain⟨n,HN⟩:∃n,Hid (l.length=n):=⟨_,rfl⟩;rw[HN.out]at hbig⊢;have HST':Hid (¬16<n->Js (jN l 0) (l.drop 0) 0=wrL l):=show _->_ by rw[<-HN.out];exact HST.out
 have HMA':Hid (16<n->wrL l=(4,0)):=show _->_ by rw[<-HN.out];exact HMA.out
 have HEND':Hid (∀r,Js (jN l n) (l.drop n) n=r->r=(0,0)):=show∀r,_ by rw[<-HN.out];exact HEND.out
 clear HST HMA HEND
 generalize hA:wrL l=ANS at HST' HMA'⊢
 clear hA;obtain⟨W0,hW0⟩:∃W0,w.alloc (.cells #[.int .i64 0,.int .i64 0] 163)=W0:=⟨_,rfl⟩;have HG0:=gA hW0
 have X0:=xA hW0
 have HW0:Hid (_=W0):=hW0;clear hW0
 by_cases hmany:16<n
 ·have HR:Hid (ANS=(4,0)):=HMA'.out hmany;have hmz:(16:Int)< (n:Int):=by omega
  go_enter Tryz.func195,Tryz.ntmps195
  go_upto_region 1 with fail;rw[HW0.out];have f0:=X0.out.c 0 rfl;have f1:=X0.out.c 1 rfl;have ff:=X0.out.f;have RB:Hid (Box ((W0.setCell ⟨w.heap.size,0,none⟩ (.int .i64 4)).setCell ⟨w.heap.size,1,none⟩ (.int .i64 0)) w.heap.size [.int .i64 4,.int .i64 0]):=show Box _ _ _ from(X0.out.set 0 _).set 1 _
  have RG:Hid (zc w ((W0.setCell ⟨w.heap.size,0,none⟩ (.int .i64 4)).setCell ⟨w.heap.size,1,none⟩ (.int .i64 0))):=show zc _ _ from zD (zD HG0.out (by simp) _) (by simp) _
  go_wp2;refine bodyPost_ret (zW (vs:=[.int .i64 4,.int .i64 0]) rfl _ rfl RB.out Tryz.underlying163 rfl zlk) rfl ⟨?_,RG.out⟩;rw[HR.out]
 have hmz:¬(16:Int)< (n:Int):=by omega
 have HI:Hid (Js (jN l 0) (l.drop 0) 0=ANS):=HST'.out hmany
 go_enter Tryz.func195,Tryz.ntmps195
 go_upto_region 1 with fail;rw[HW0.out];go_wp2
 go_loopg [12] n (fun gg s12 wr=>∃kk:Nat,kk<=n/\n - kk<=gg/\s12= .int .i64 kk/\Hid (zc w wr)/\Hid (Box wr w.heap.size [.int .i64 0,.int .i64 0])/\Hid (Js (jN l kk) (l.drop kk) kk=ANS)/\Hid (∀(j:Nat) q,j<kk->l[j]? =some q->jo q))
 case atStart=>exact⟨0,nZ _,by omega,rfl,HG0.out,X0.out,HI.out,fun j q hj=>absurd hj (nL _)⟩
 obtain⟨kk,hkk,hg,rfl,BW,FW,IW,OW⟩:=hrel
 by_cases hlt:kk<n
 ·have hltz:(kk:Int)< (n:Int):=by omega
  obtain⟨q,HQ⟩:∃q,Hid (l[kk]? =some q):=⟨_,gE (by rw[HN.out];exact hlt)⟩
  obtain⟨ad,rfl,hl⟩:=HR'.out kk q HQ.out;obtain⟨d0,d1,d2,d3,d4,d5,d6⟩:=hl wr BW.out;have HL:Hid (w.heap.size<wr.heap.size):=FW.out.lt;obtain⟨p,HP⟩:∃p,Hid (wr.heap.size=p):=⟨_,rfl⟩;have HLP:Hid (w.heap.size<p):=show _<_ by rw[<-HP.out];exact HL.out
  clear hl HL;go_upto_region 6 with fail;obtain⟨W1,hW1⟩:∃W1,wr.alloc (.cells #[.int .i64 q.fr,.int .i64 q.tz,.bool q.rd,.bool q.wr,.bool q.sh,.int .i64 q.file,.int .i64 q.base] 114)=W1:=⟨_,rfl⟩;have G1:=gT hW1 BW
  have F1:=yA hW1 FW
  have P1:=xP hW1 HP
  rw[hW1,HP.out];clear hW1 d0 d1 d2 d3 d4 d5 d6
  go_wp2_with (refine zG rfl 114 (.tmp 4) rfl p rfl P1.out Tryz.underlying114 rfl zlj ?_)
  refine(hwa.out q _).mono ?_;rintro e W2 ⟨rfl,g2⟩;have G2:=dD (G1.out.trans g2);have F2:=dD (F1.out.grew g2);have P2:=dD (P1.out.grew g2);clear g2;have hpne:p≠w.heap.size:=by have:=HLP.out;omega
  have hpne':w.heap.size≠p:=by have:=HLP.out;omega
  by_cases hz:arW q=0
  ·have HZ:Hid (arW q=0):=hz;have hzb:(arW q != 0)=false:=by simp[hz]
   have HOK:Hid (jo q):=Zj.1 hz;have OW':Hid (∀(j:Nat) x,j<kk+1->l[j]? =some x->jo x):=show∀(j:Nat) x,_ from fun j x hj hx=>by
    by_cases e:j=kk
    ·subst e;rw[HQ.out]at hx;cases hx;exact HOK.out
    exact OW.out j x (by omega) hx
   clear hz;go_upto_region 9 with fail
   generalize arW q=zq
   cases kk with
   | zero=>
    have HNX:Hid (Js (jN l 1) (l.drop 1) 1=ANS):=zdv IW.out HQ.out HZ.out;have hz0:¬(0:Int)< ((0:Nat):Int):=by decide
    have hz1:decide ((0:Int)< ((0:Nat):Int))=false:=by decide
    go_quiet (fail);go_wp2
    go_roundg (n - 1)
    case measure=>omega
    exact⟨1,by omega,by omega,by go_num,G2.out.trans (show Below _ _ _ from bD (bR _ _) _),F2.out.grew (show Below _ _ _ from bD (bR _ _) _),HNX.out,OW'.out⟩
   | succ j=>
    obtain⟨b,HB⟩:∃b,Hid (l[j]? =some b):=⟨_,gE (by rw[HN.out];omega)⟩
    have HBK:Hid (jo b):=OW.out j b (by omega) HB.out
    have hz0:(0:Int)< ((j+1:Nat):Int):=by omega
    have hz1:decide ((0:Int)< ((j+1:Nat):Int))=true:=by simp
    have hj1:((j+1:Nat):Int) - 1=(j:Int):=by omega
    have hjn:(j:Int)< (n:Int):=by omega
    obtain⟨ad',had,hl⟩:=HR'.out j b HB.out;obtain rfl:ad=ad':=by cases had;rfl
    by_cases hc:q.fr<b.tz
    ·have HR:Hid (ANS=(2,((j+1:Nat):Int))):=za6 IW.out HB.out HQ.out HZ.out (.inl hc);have hcd:decide (q.fr<b.tz)=true:=by simpa using hc
     obtain⟨e0,e1,e2,e3,e4,e5,e6⟩:=hl W2 G2.out;have p0:=P2.out.c 0 rfl;clear hl;go_quiet (fail);obtain⟨W3,hW3⟩:∃W3,W2.drewN nq=W3:=⟨_,rfl⟩;have G3:Hid (zc w W3):=show zc _ _ by rw[<-hW3];exact G2.out.trans (show Below _ _ _ from bD (bR _ _) _)
     have F3:Hid (Box W3 w.heap.size [.int .i64 0,.int .i64 0]):=show Box _ _ _ by rw[<-hW3];exact F2.out.grew (show Below _ _ _ from bD (bR _ _) _)
     rw[hW3];clear hW3 e0 e1 e2 e3 e4 e5 e6 p0;have f0:=F3.out.c 0 rfl;have f1:=F3.out.c 1 rfl;have ff:=F3.out.f;have RB:Hid (Box ((W3.setCell ⟨w.heap.size,0,none⟩ (.int .i64 2)).setCell ⟨w.heap.size,1,none⟩ (.int .i64 ((j+1:Nat):Int))) w.heap.size [.int .i64 2,.int .i64 ((j+1:Nat):Int)]):=show Box _ _ _ from(F3.out.set 0 _).set 1 _
     have RG:Hid (zc w ((W3.setCell ⟨w.heap.size,0,none⟩ (.int .i64 2)).setCell ⟨w.heap.size,1,none⟩ (.int .i64 ((j+1:Nat):Int)))):=show zc _ _ from zD (zD G3.out (by simp) _) (by simp) _
     go_wp2;refine bodyPost_ret (zW (vs:=[.int .i64 2,.int .i64 ((j+1:Nat):Int)]) rfl _ rfl RB.out Tryz.underlying163 rfl zlk) rfl ⟨?_,RG.out⟩;rw[HR.out]
    have hcd:decide (q.fr<b.tz)=false:=by simpa using hc
    have HC:Hid (¬q.fr<b.tz):=hc;have hx0:=P2.out.gw 0 rfl
    have hx1:=P2.out.gw 1 rfl
    have hx2:=P2.out.gw 2 rfl
    have hx3:=P2.out.gw 3 rfl
    have hx4:=P2.out.gw 4 rfl
    have hx5:=P2.out.gw 5 rfl
    have hx6:=P2.out.gw 6 rfl
    have hy0:∀y:zx W2,y.world.cell? (ad.add (j*7))=some (.int .i64 b.fr):=fun y=>(hl _ (G2.out.trans y.grew)).1
    have hy1:∀y:zx W2,y.world.cell? { block:=(ad.add (j*7)).block,off:=(ad.add (j*7)).off+1 }=some (.int .i64 b.tz):=fun y=>(hl _ (G2.out.trans y.grew)).2.1
    have hy2:∀y:zx W2,y.world.cell? { block:=(ad.add (j*7)).block,off:=(ad.add (j*7)).off+2 }=some (.bool b.rd):=fun y=>(hl _ (G2.out.trans y.grew)).2.2.1
    have hy3:∀y:zx W2,y.world.cell? { block:=(ad.add (j*7)).block,off:=(ad.add (j*7)).off+3 }=some (.bool b.wr):=fun y=>(hl _ (G2.out.trans y.grew)).2.2.2.1
    have hy4:∀y:zx W2,y.world.cell? { block:=(ad.add (j*7)).block,off:=(ad.add (j*7)).off+4 }=some (.bool b.sh):=fun y=>(hl _ (G2.out.trans y.grew)).2.2.2.2.1
    have hy5:∀y:zx W2,y.world.cell? { block:=(ad.add (j*7)).block,off:=(ad.add (j*7)).off+5 }=some (.int .i64 b.file):=fun y=>(hl _ (G2.out.trans y.grew)).2.2.2.2.2.1
    have hy6:∀y:zx W2,y.world.cell? { block:=(ad.add (j*7)).block,off:=(ad.add (j*7)).off+6 }=some (.int .i64 b.base):=fun y=>(hl _ (G2.out.trans y.grew)).2.2.2.2.2.2
    have hne:Nonempty (zx W2):=⟨⟨_,zc.refl _⟩⟩;clear hl;refine jX [(19,⟨fun v=>v= .bool (goB q b),fun _ _=>True⟩)] qy (by kernel_rfl) ?_ ?_ ?_
    ·intro x hx
     simp at hx
     subst hx;exact⟨_,rfl⟩
    ·intro x hx
     simp at hx
     subst hx;exact fun _ _ _ _ h=>h
    iterate 19 (refine zm rfl rfl rfl (fun K hK=>?_);go_big_quiet_op;refine hK _ ?_;clear hK K)
    refine zM rfl rfl (fun w' hg hF=>?_) (fun v1 hv=>?_)
    ·refine zL.call [.agg #[.int .i64 q.fr,.int .i64 q.tz,.bool q.rd,.bool q.wr,.bool q.sh,.int .i64 q.file,.int .i64 q.base],.agg #[.int .i64 b.fr,.int .i64 b.tz,.bool b.rd,.bool b.wr,.bool b.sh,.int .i64 b.file,.int .i64 b.base]] rfl Tryz.func223 rfl rfl rfl ?_;refine(hgo.out q b w' HBK.out).mono ?_;rintro e w'' ⟨rfl,hg2⟩;exact⟨_,rfl,hg2,rfl,trivial⟩
    subst hv;simp only[Act.put,sB,sS,sZ];iterate 2 (refine zm rfl rfl rfl (fun K hK=>?_);go_big_quiet_op;refine hK _ ?_;clear hK K)
    refine qU fun W3 hg1 hF=>?_
    have G3:=dD (G2.out.trans hg1);have F3:=dD (F2.out.grew hg1);clear hg1 hF hx0 hx1 hx2 hx3 hx4 hx5 hx6 hy0 hy1 hy2 hy3 hy4 hy5 hy6 hne
    cases hgb:goB q b with
    | true=>
     have HR:Hid (ANS=(2,((j+1:Nat):Int))):=za6 IW.out HB.out HQ.out HZ.out (.inr hgb);clear hgb;have f0:=F3.out.c 0 rfl;have f1:=F3.out.c 1 rfl;have ff:=F3.out.f;have RB:Hid (Box ((W3.setCell ⟨w.heap.size,0,none⟩ (.int .i64 2)).setCell ⟨w.heap.size,1,none⟩ (.int .i64 ((j+1:Nat):Int))) w.heap.size [.int .i64 2,.int .i64 ((j+1:Nat):Int)]):=show Box _ _ _ from(F3.out.set 0 _).set 1 _
     have RG:Hid (zc w ((W3.setCell ⟨w.heap.size,0,none⟩ (.int .i64 2)).setCell ⟨w.heap.size,1,none⟩ (.int .i64 ((j+1:Nat):Int)))):=show zc _ _ from zD (zD G3.out (by simp) _) (by simp) _
     go_wp2;refine bodyPost_ret (zW (vs:=[.int .i64 2,.int .i64 ((j+1:Nat):Int)]) rfl _ rfl RB.out Tryz.underlying163 rfl zlk) rfl ⟨?_,RG.out⟩;rw[HR.out]
    | false=>
     have HNX:Hid (Js (jN l (j+1+1)) (l.drop (j+1+1)) (j+1+1)=ANS):=zfC IW.out HB.out HQ.out HZ.out HC.out hgb;clear hgb;go_wp2
     go_roundg (n -(j+1+1))
     case measure=>omega
     exact⟨j+1+1,by omega,by omega,by go_num,G3.out,F3.out,HNX.out,OW'.out⟩
  have HR:Hid (ANS=(arW q,(kk:Int))):=zg3 IW.out HQ.out hz;have hzb:(arW q != 0)=true:=by simp[hz]
  clear hz;have f0:=F2.out.c 0 rfl;have f1:=F2.out.c 1 rfl;have ff:=F2.out.f;have RB:Hid (Box ((W2.setCell ⟨w.heap.size,0,none⟩ (.int .i64 (arW q))).setCell ⟨w.heap.size,1,none⟩ (.int .i64 (kk:Int))) w.heap.size [.int .i64 (arW q),.int .i64 (kk:Int)]):=show Box _ _ _ from(F2.out.set 0 _).set 1 _
  have RG:Hid (zc w ((W2.setCell ⟨w.heap.size,0,none⟩ (.int .i64 (arW q))).setCell ⟨w.heap.size,1,none⟩ (.int .i64 (kk:Int)))):=show zc _ _ from zD (zD G2.out (by simp) _) (by simp) _
  go_wp2;refine bodyPost_ret (zW (vs:=[.int .i64 (arW q),.int .i64 (kk:Int)]) rfl _ rfl RB.out Tryz.underlying163 rfl zlk) rfl ⟨?_,RG.out⟩;rw[HR.out]
 have hltz:¬(kk:Int)< (n:Int):=by omega
 have:kk=n:=by omega
 subst this;have HR:Hid (ANS=(0,0)):=HEND'.out _ IW.out;have f0:=FW.out.c 0 rfl;have f1:=FW.out.c 1 rfl;have ff:=FW.out.f;have RB:Hid (Box ((wr.setCell ⟨w.heap.size,0,none⟩ (.int .i64 0)).setCell ⟨w.heap.size,1,none⟩ (.int .i64 0)) w.heap.size [.int .i64 0,.int .i64 0]):=show Box _ _ _ from(FW.out.set 0 _).set 1 _
 have RG:Hid (zc w ((wr.setCell ⟨w.heap.size,0,none⟩ (.int .i64 0)).setCell ⟨w.heap.size,1,none⟩ (.int .i64 0))):=show zc _ _ from zD (zD BW.out (by simp) _) (by simp) _
 go_wp2;refine bodyPost_ret (zW (vs:=[.int .i64 0,.int .i64 0]) rfl _ rfl RB.out Tryz.underlying163 rfl zlk) rfl ⟨?_,RG.out⟩;rw[HR.out]
theorem zdn (e:En) (l:List En):esW (e :: l)=if enW e=0 then esW l else enW e:=rfl
theorem zfF (h:List En) (t:List (List En)):tbW (h :: t)=if haW h=0 then tbW t else haW h:=rfl
theorem zhF {h:List En} (h8:h.length=8):haW h=if esW h=0 then(if Za h=true then 0 else 2)else esW h:=by
 unfold haW;rw[if_neg (by omega),if_pos h8]
theorem zcF (v:Value) (fs:List En) (w:World) (hv:zo enE w v fs):
  Calls Tryz.prog 206 #[v] w fun e w'=>e= .returned (.int .i64 (haW fs))/\zc w w':=by
 have hbig:=hv.short;have HV:Hid (zo enE w v fs):=hv;obtain⟨a,c,rfl,hrow⟩:=hv.ens;have HR:Hid (zcE w a fs):=hrow;clear hrow hv;obtain⟨n,HN⟩:∃n,Hid (fs.length=n):=⟨_,rfl⟩;obtain⟨Z,HZ⟩:∃Z,Hid (haW fs=Z):=⟨_,rfl⟩;rw[HN.out]at hbig HV⊢;rw[HZ.out]
 by_cases h0:n=0
 ·have HF:Hid (Z=0):=show _=_ by rw[<-HZ.out];unfold haW;rw[if_pos (by rw[HN.out];exact h0)]
  subst h0
  go_enter Tryz.func206,Tryz.ntmps206
  go_wp2;go_ret;exact⟨by rw[HF.out];rfl,zc.refl _⟩
 have h0b:((n:Int) == 0)=false:=by simpa using h0
 by_cases h8:n=8
 ·have H8:=dD (HN.out.trans h8);have h8b:((n:Int) != 8)=false:=by simp[h8]
  clear h0 h8;have hcon:=fun W (hW:zc w W)=>za1 (.slice a n c) fs W (HV.out.grew hW)
  go_enter Tryz.func206,Tryz.ntmps206
  go_wp2
  go_loopg [14] n (fun gg s14 wr=>∃kk:Nat,kk<=n/\n - kk<=gg/\s14= .int .i64 kk/\Hid (zc w wr)/\Hid (esW (fs.drop kk)=esW fs))
  case atStart=>exact⟨0,nZ _,by omega,rfl,zc.refl w,rfl⟩
  obtain⟨kk,hkk,hg,rfl,BW,AW⟩:=hrel
  by_cases hlt:kk<n
  ·have hltz:(kk:Int)< (n:Int):=by omega
   obtain⟨q,HQ⟩:∃q,Hid (fs[kk]? =some q):=⟨_,gE (by rw[HN.out];exact hlt)⟩
   obtain⟨ad,rfl,hl⟩:=HR.out kk q HQ.out;obtain⟨d0,d1,d2⟩:=hl wr BW.out;obtain⟨W2,hW2⟩:∃W2,wr.alloc (.cells #[.int .i64 q.kind,.int .i64 q.n,.bool q.wr] 74)=W2:=⟨_,rfl⟩;have GA:=gT hW2 BW
   have HW2:Hid (_=W2):=hW2;have hcall:=zb1 q.kind q.n q.wr W2;have HST:Hid (esW (fs.drop kk)=if enW ⟨q.kind,q.n,q.wr⟩=0 then esW (fs.drop (kk+1))else enW ⟨q.kind,q.n,q.wr⟩):=show _=_ by rw[qJ HQ.out,zdn]
   clear hl hW2
   generalize enW ⟨q.kind,q.n,q.wr⟩=z at hcall HST
   by_cases hz:z=0
   ·have HA:Hid (esW (fs.drop (kk+1))=esW fs):=show _=_ by rw[<-AW.out,HST.out,if_pos hz]
    subst hz;clear HST;go_wp2_with fail;rw[HW2.out];refine hcall.mono ?_;rintro e W3 ⟨rfl,k1⟩;have G3:=dD (GA.out.trans k1);clear k1 hcall d0 d1 d2;go_wp2
    go_roundg (n -(kk+1))
    case measure=>omega
    exact⟨kk+1,by omega,by omega,by go_num,G3.out,HA.out⟩
   have hzb:(z != 0)=true:=by simpa using hz
   have HF:Hid (Z=z):=show _=_ by
    have h1:=AW.out;rw[HST.out,if_neg hz]at h1;rw[<-HZ.out,zhF H8.out,<-h1,if_neg hz]
   clear HST;go_wp2_with fail;rw[HW2.out];refine hcall.mono ?_;rintro e W3 ⟨rfl,k1⟩;have G3:=dD (GA.out.trans k1);clear k1 hcall d0 d1 d2;go_wp2;go_ret;exact⟨by rw[HF.out];rfl,G3.out⟩
  have hltz:¬(kk:Int)< (n:Int):=by omega
  have:kk=n:=by omega
  subst this;have HE:Hid (esW fs=0):=show _=_ by
   rw[<-AW.out,List.drop_of_length_le (by rw[HN.out];exact nR _)]
   rfl
  have hcall:=hcon wr BW.out;have HST:Hid (Z=if Za fs=true then 0 else 2):=show _=_ by rw[<-HZ.out,zhF H8.out,HE.out,if_pos rfl]
  generalize Za fs=A at hcall HST
  clear hcon
  cases A with
  | true=>
   go_wp2_with fail;refine hcall.mono ?_;rintro e W3 ⟨rfl,k1⟩;have G3:=dD (BW.out.trans k1);clear k1 hcall;go_wp2;go_ret;exact⟨by rw[HST.out];rfl,G3.out⟩
  | false=>
   go_wp2_with fail;refine hcall.mono ?_;rintro e W3 ⟨rfl,k1⟩;have G3:=dD (BW.out.trans k1);clear k1 hcall;go_wp2;go_ret;exact⟨by rw[HST.out];rfl,G3.out⟩
 have h8b:((n:Int) != 8)=true:=by simp;omega
 have HF:Hid (Z=2):=show _=_ by rw[<-HZ.out];unfold haW;rw[if_neg (by rw[HN.out];exact h0),if_neg (by rw[HN.out];exact h8)]
 clear h0 h8
 go_enter Tryz.func206,Tryz.ntmps206
 go_wp2;go_ret;exact⟨by rw[HF.out];rfl,zc.refl _⟩
theorem zeF (vs:List Value) (t:List (List En)) (w:World) (hv:ZH w vs t):
  Calls Tryz.prog 177 #[.agg vs.toArray] w fun e w'=>e= .returned (.int .i64 (tbW t))/\zc w w':=by
 have HV:Hid (ZH w vs t):=hv;have HL:Hid (vs.length=8):=hv.len;clear hv;obtain⟨Z,HZ⟩:∃Z,Hid (tbW t=Z):=⟨_,rfl⟩;rw[HZ.out];obtain⟨W0,hW0⟩:∃W0,w.alloc (.cells vs.toArray 53)=W0:=⟨_,rfl⟩;have HG0:=gA hW0
 have X0:=xA hW0
 have HW0:Hid (_=W0):=hW0;clear hW0
 go_enter Tryz.func177,Tryz.ntmps177
 go_upto_region 1 with fail;rw[HW0.out]
 go_wp2_with (refine jA rfl (.tmp 1) rfl w.heap.size rfl X0.out HL.out ?_)
 go_loopg [7] 8 (fun gg s7 wr=>∃kk:Nat,kk<=8/\8 - kk<=gg/\s7= .int .i64 kk/\Hid (zc w wr)/\Hid (tbW (t.drop kk)=tbW t))
 case atStart=>exact⟨0,nZ _,by omega,rfl,HG0.out,rfl⟩
 obtain⟨kk,hkk,hg,rfl,BW,AW⟩:=hrel
 by_cases hlt:kk<8
 ·have hltz:(kk:Int)<8:=by omega
  obtain⟨xa,xc,q,hq,hvk,hr⟩:=HV.out.half hlt;have HQ:Hid (t[kk]? =some q):=hq;have HVK:Hid (vs[kk]? =some (.slice xa q.length xc)):=hvk;have hcall:=zcF (.slice xa q.length xc) q wr (hr.grew BW.out);have HST:Hid (tbW (t.drop kk)=if haW q=0 then tbW (t.drop (kk+1))else haW q):=show _=_ by rw[qJ HQ.out,zfF]
  clear hq hvk hr
  generalize haW q=z at hcall HST
  generalize q.length=nq at hcall HVK
  by_cases hz:z=0
  ·have HA:Hid (tbW (t.drop (kk+1))=tbW t):=show _=_ by rw[<-AW.out,HST.out,if_pos hz]
   subst hz;clear HST
   go_wp2_with (refine zbn rfl (.tmp 6) (.tmp 7) rfl vs rfl kk rfl hlt HVK.out ?_)
   refine hcall.mono ?_;rintro e W3 ⟨rfl,k1⟩;have G3:=dD (BW.out.trans k1);clear k1 hcall;go_wp2
   go_roundg (8 -(kk+1))
   case measure=>omega
   exact⟨kk+1,by omega,by omega,by go_num,G3.out,HA.out⟩
  have hzb:(z != 0)=true:=by simpa using hz
  have HF:Hid (Z=z):=show _=_ by
   have h1:=AW.out;rw[HST.out,if_neg hz]at h1;rw[<-HZ.out,<-h1]
  clear HST
  go_wp2_with (refine zbn rfl (.tmp 6) (.tmp 7) rfl vs rfl kk rfl hlt HVK.out ?_)
  refine hcall.mono ?_;rintro e W3 ⟨rfl,k1⟩;have G3:=dD (BW.out.trans k1);clear k1 hcall;go_wp2;go_ret;exact⟨by rw[HF.out];rfl,G3.out⟩
 have hltz:¬(kk:Int)<8:=by omega
 have:kk=8:=by omega
 subst this;have HF:Hid (Z=0):=show _=_ by
  rw[<-HZ.out,<-AW.out,List.drop_of_length_le (by rw[HV.out.tlen];exact nR _)]
  rfl
 go_wp2;go_ret;exact⟨by rw[HF.out];rfl,BW.out⟩
def enV (e:En):Value:= .agg #[.int .i64 e.kind,.int .i64 e.n,.bool e.wr]
theorem zgl {n:Int} (h0:0<=n) (h1:n<64):∃i k:Nat,i<8/\k<8/\n=8*i+k/\n / 8=(i:Int)/\n % 8=(k:Int)/\n.tdiv 8=(i:Int)/\n.tmod 8=(k:Int)/\n.toNat / 8=i/\n.toNat % 8=k:=by
 refine⟨n.toNat / 8,n.toNat % 8,by omega,by omega,by omega,by omega,by omega,?_,?_,rfl,rfl⟩
 ·rw[Int.tdiv_eq_ediv_of_nonneg h0];omega
 rw[Int.tmod_eq_emod_of_nonneg h0];omega
theorem zbG (vs:List Value) (t:List (List En)) (n:Int) (w:World) (hv:ZH w vs t):
  Calls Tryz.prog 104 #[.agg vs.toArray,.int .i64 n] w fun e w'=>e= .returned (enV (zhI t n))/\zc w w':=by
 have HV:Hid (ZH w vs t):=hv;have HL:Hid (vs.length=8):=hv.len;clear hv;obtain⟨Z,HZ⟩:∃Z,Hid (zhI t n=Z):=⟨_,rfl⟩;rw[HZ.out];obtain⟨W0,hW0⟩:∃W0,(w.alloc (.cells vs.toArray 53)).alloc (.cells #[.int .i64 0,.int .i64 0,.bool false] 74)=W0:=⟨_,rfl⟩;have HG0:=gD2 hW0
 have X0:=x2a hW0
 have Y0:=x2b hW0
 have HW0:Hid (_=W0):=hW0;clear hW0;have three:∀(W:World) (u v x:Value),Box W (w.heap.size+1) [.int .i64 0,.int .i64 0,.bool false]->zc w W->zc w (((W.setCell ⟨w.heap.size+1,0,none⟩ u).setCell ⟨w.heap.size+1,1,none⟩ v).setCell ⟨w.heap.size+1,2,none⟩ x):=fun W u v x _ hg=>
  Below.setCell (Below.setCell (Below.setCell hg (p:=⟨w.heap.size+1,0,none⟩) (by simp) _) (p:=⟨w.heap.size+1,1,none⟩) (by simp) _) (p:=⟨w.heap.size+1,2,none⟩) (by simp) _
 have HT:Hid (∀(W:World) (u v x:Value),Box W (w.heap.size+1) [.int .i64 0,.int .i64 0,.bool false]->zc w W->zc w (((W.setCell ⟨w.heap.size+1,0,none⟩ u).setCell ⟨w.heap.size+1,1,none⟩ v).setCell ⟨w.heap.size+1,2,none⟩ x)):=three;clear three;obtain⟨y0,y1,y2⟩:=Y0.out.c3;have yf:=Y0.out.f
 by_cases hn:0<=n/\n<64
 ·obtain⟨h0,h1⟩:=hn;obtain⟨i,k,hi,hk,hnk,q1,q2,q3,q4,q5,q6⟩:=zgl h0 h1;have hb:=fun W=>zaI (m:=n) (n:=64) h0 h1 W
  obtain⟨xa,xc,q,hq,hvk,hr⟩:=HV.out.half hi;have HF:Hid (Z=q[k]?.getD en0):=show _=_ by
   rw[<-HZ.out];unfold zhI;rw[if_pos ⟨h0,h1⟩,q5,q6];unfold za0;rw[hq];rfl
  have x0:=X0.out.c i hvk;obtain⟨_,_,heq,hens⟩:=hr.ens;cases heq;have HE:Hid (zcE w xa q):=hens;have hiz:(i:Int)<8:=by omega
  clear hens hr hq hvk q5 q6 hnk;obtain⟨nq,HNQ⟩:∃nq,Hid (q.length=nq):=⟨_,rfl⟩;rw[HNQ.out]at x0
  by_cases hkq:k<nq
  ·obtain⟨e,HE1⟩:∃e,Hid (q[k]? =some e):=⟨_,gE (by rw[HNQ.out];exact hkq)⟩
   obtain⟨ad,rfl,hl⟩:=HE.out k e HE1.out;obtain⟨d0,d1,d2⟩:=hl W0 HG0.out;have HF':Hid (Z=e):=show _=_ by rw[HF.out,HE1.out];rfl
   have hkz:¬(nq:Int)<=(k:Int):=by omega
   have hkd:decide ((nq:Int)<=(k:Int))=false:=decide_eq_false hkz;have hklt:(k:Int)< (nq:Int):=by omega
   clear hl
   go_enter Tryz.func104,Tryz.ntmps104
   go_wp2_with fail;rw[HW0.out];refine(hb _).mono ?_;rintro e w' ⟨rfl,hw'⟩;rw[hw'];clear hw' w';go_wp2;refine bodyPost_ret (v:= .agg #[.int .i64 e.kind,.int .i64 e.n,.bool e.wr]) (by simp[results,Tryz.results104,go_sem, *]) rfl ⟨?_,?_⟩
   ·rw[HF'.out];rfl
   exact HT.out _ _ _ _ Y0.out HG0.out
  have HF':Hid (Z=en0):=show _=_ by rw[HF.out,gN (by rw[HNQ.out];omega)];rfl
  have hkz:(nq:Int)<=(k:Int):=by omega
  go_enter Tryz.func104,Tryz.ntmps104
  go_wp2_with fail;rw[HW0.out];refine(hb _).mono ?_;rintro e w' ⟨rfl,hw'⟩;rw[hw'];clear hw' w';go_wp2;refine bodyPost_ret (v:= .agg #[.int .i64 0,.int .i64 0,.bool false]) (by simp[results,Tryz.results104,go_sem, *]) rfl ⟨?_,?_⟩
  ·rw[HF'.out];rfl
  exact HT.out _ _ _ _ Y0.out HG0.out
 have hb:=fun W=>zbT (m:=n) (n:=64) hn W
 have HF:Hid (Z=en0):=show _=_ by rw[<-HZ.out];unfold zhI;rw[if_neg hn]
 clear hn
 go_enter Tryz.func104,Tryz.ntmps104
 go_wp2_with fail;rw[HW0.out];refine(hb _).mono ?_;rintro e w' ⟨rfl,hw'⟩;rw[hw'];clear hw' w';go_wp2;refine bodyPost_ret (v:= .agg #[.int .i64 0,.int .i64 0,.bool false]) (by simp[results,Tryz.results104,go_sem, *]) rfl ⟨?_,?_⟩
 ·rw[HF.out];rfl
 exact HT.out _ _ _ _ Y0.out HG0.out
def Jo (_:En):Bool:=true
theorem zgk (k n:Int) (b:Bool) (w:World):
  Calls Tryz.prog 137 #[.agg #[.int .i64 k,.int .i64 n,.bool b]] w fun e w'=>e= .returned (.bool true)/\zc w w':=by
 go_enter Tryz.func137,Tryz.ntmps137
 go_wp2;go_ret;exact⟨rfl,za _ _⟩
theorem zcT (vs:List Value) (t:List (List En)) (w:World) (hv:ZH w vs t):
  Calls Tryz.prog 136 #[.agg vs.toArray,.func (.func 137) #[] #[]] w fun e w'=>∃v,e= .returned v/\zb blE w.heap.size w' v (jd t Jo 64)/\zc w w':=by
 have HV:Hid (ZH w vs t):=hv;have HL:Hid (vs.length=8):=hv.len;clear hv;obtain⟨W0,hW0⟩:∃W0,w.alloc (.cells vs.toArray 53)=W0:=⟨_,rfl⟩;have HG0:=gA hW0
 have X0:=xA hW0
 have HW0:Hid (_=W0):=hW0;clear hW0;obtain⟨PG,HPG⟩:∃PG,Hid (jd t Jo=PG):=⟨_,rfl⟩;have HP0:Hid (PG 0=[]):=show _=_ by rw[<-HPG.out];rfl
 have HPS:Hid (∀m:Nat,m<64->PG (m+1)=if enS (zhI t (m:Int)) && Jo (zhI t (m:Int))then PG m++ [(m:Int)]else PG m):=show∀m:Nat,_ from fun m hm=>by
  rw[<-HPG.out,zaQ];have:zhI t (m:Int)=za0 t (m / 8) (m % 8):=by unfold zhI;rw[if_pos (by omega),tN]
  rw[this]
 have HPL:Hid (∀m,(PG m).length<=m):=show∀m,_ from fun m=>by rw[<-HPG.out];exact zbv _ _ _
 rw[HPG.out];have eg:=enters_of Tryz.func137 (by kernel_rfl) rfl
 go_enter Tryz.func136,Tryz.ntmps136
 go_upto_region 1 with fail;rw[HW0.out];go_wp2
 go_loopg [5,8] 64 (fun gg s5 s8 wr=>∃(kk:Nat) (a5:Option Addr) (n5 c5:Nat),kk<=64/\64 - kk<=gg/\s8= .int .i64 kk/\s5= .slice a5 n5 c5/\Hid (zc W0 wr)/\Hid (zb blE W0.heap.size wr (.slice a5 n5 c5) (PG kk)))
 case atStart=>exact⟨0,none,0,0,nZ _,by omega,rfl,rfl,zc.refl _,by rw[HP0.out];exact zb.nil _ _ _⟩
 obtain⟨kk,a5,n5,c5,hkk,hg,rfl,rfl,BW,OW⟩:=hrel
 by_cases hlt:kk<64
 ·have hltz:(kk:Int)<64:=by omega
  have hget:=zbG vs t (kk:Int) wr (HV.out.grew (HG0.out.trans BW.out));have XW:=dD (X0.out.grew BW.out);have HST:=HPS.out kk hlt;obtain⟨x,HX⟩:∃x,Hid (zhI t (kk:Int)=x):=⟨_,rfl⟩;rw[HX.out]at hget HST;have HST':Hid (PG (kk+1)=if enS x && Jo x then PG kk++ [(kk:Int)]else PG kk):=HST;clear HST;obtain⟨xk,xn,xb⟩:=x
  go_wp2_with (refine jA rfl (.tmp 2) rfl w.heap.size rfl XW.out HL.out ?_)
  refine hget.mono ?_;rintro e W2 ⟨rfl,g2⟩;have G2:=dD (BW.out.trans g2);have O2:=dD (OW.out.grew g2);clear g2 hget;simp only[enV];go_upto_region 6 with fail;obtain⟨px,hpx⟩:∃px,W2.heap.size=px:=⟨_,rfl⟩;obtain⟨W3,hW3⟩:∃W3,W2.alloc (.cells #[.int .i64 xk,.int .i64 xn,.bool xb] 74)=W3:=⟨_,rfl⟩;have G3:=gT hW3 G2
  have O3:Hid (zb blE W0.heap.size W3 (.slice a5 n5 c5) (PG kk)):=show zb _ _ _ _ _ by rw[<-hW3];exact O2.out.grew (za _ _)
  have P3:Hid (Box W3 px [.int .i64 xk,.int .i64 xn,.bool xb]):=show Box _ _ _ by rw[<-hW3];exact Box.top _ _ _ hpx.symm
  rw[hW3];rw[hpx];clear hW3 hpx;obtain⟨p0,p1,p2⟩:=P3.out.c3;have his:=zcp xk xn xb W3
  cases hs:enS ⟨xk,xn,xb⟩with
  | false=>
   have HN:Hid (PG (kk+1)=PG kk):=show _=_ by rw[HST'.out,hs];rfl
   rw[hs]at his;clear hs;go_wp2_with fail;refine his.mono ?_;rintro e W4 ⟨rfl,g4⟩;have G4:=dD (G3.out.trans g4);have O4:Hid (zb blE W0.heap.size W4 (.slice a5 n5 c5) (PG (kk+1))):=show zb _ _ _ _ _ by rw[HN.out];exact O3.out.grew g4
   clear g4 his p0 p1 p2;go_wp2
   go_roundg (64 -(kk+1))
   case measure=>omega
   exact⟨kk+1,a5,n5,c5,by omega,by omega,by go_num,rfl,G4.out,O4.out⟩
  | true=>
   rw[hs]at his;have HST2:Hid (PG (kk+1)=if Jo ⟨xk,xn,xb⟩=true then PG kk++ [(kk:Int)]else PG kk):=show _=_ by rw[HST'.out,hs];rfl
   clear hs;go_wp2_with fail;refine his.mono ?_;rintro e W4 ⟨rfl,g4⟩;have G4:=dD (G3.out.trans g4);have O4:=dD (O3.out.grew g4);have P4:=dD (P3.out.grew g4);clear g4 his p0 p1 p2;obtain⟨p0,p1,p2⟩:=P4.out.c3;have hcl:=zgk xk xn xb W4;rw[if_pos (show Jo ⟨xk,xn,xb⟩=true from rfl)]at HST2
   go_wp2_with fail;refine hcl.mono ?_;rintro e W5 ⟨rfl,g5⟩;have G5:=dD (G4.out.trans g5);have O5:=dD (O4.out.grew g5);clear g5 hcl p0 p1 p2;have HR1:Hid (zo blE (W5.alloc (.cells #[.int .i64 (kk:Int)] 3)) (.slice (some ⟨W5.heap.size,0,none⟩) 1 1) [(kk:Int)]):=jT blE W5 (kk:Int) _ _ rfl (by decide)
   go_wp2_with (at_builtin;refine zB (E:=blE) rfl (.tmp 21) (.tmp 23) rfl W0.heap.size _ (PG kk) rfl (O5.out.grew (za _ _)) _ [(kk:Int)] rfl HR1.out ?qb ?qc ?_)
   case qb=>
    have:=HPL.out kk
    show(_+1)*8<=_
    omega
   case qc=>
    have:=bS G5.out;simp;omega
   intro v6 W6 ow6 gr6;obtain⟨a6,c6,rfl⟩:=ow6.form;have O6:Hid (zb blE W0.heap.size W6 (.slice a6 (PG kk++ [(kk:Int)]).length c6) (PG (kk+1))):=show zb _ _ _ _ _ by rw[HST2.out];exact ow6
   have G6:Hid (zc W0 W6):=show zc _ _ from qV (G5.out.trans (za _ _)) gr6 (fun g hg=>(O5.out.lt g hg).1)
   clear ow6 gr6 HR1;go_wp2
   go_roundg (64 -(kk+1))
   case measure=>omega
   exact⟨kk+1,_,_,_,by omega,by omega,by go_num,rfl,G6.out,O6.out⟩
 have hltz:¬(kk:Int)<64:=by omega
 have:kk=64:=by omega
 subst this;have OE:Hid (zb blE w.heap.size wr (.slice a5 n5 c5) (PG 64)):=OW.out.base (bS HG0.out);have GE:=dD (HG0.out.trans BW.out);go_wp2;go_ret;exact⟨_,rfl,OE.out,GE.out⟩
theorem JU (vs:List Value) (t:List (List En)) (w:World) (hv:ZH w vs t):
  Calls Tryz.prog 90 #[.agg vs.toArray] w fun e w'=>∃v,e= .returned v/\zb blE w.heap.size w' v (jd t Jo 64)/\zc w w':=by
 have HL:Hid (vs.length=8):=hv.len;obtain⟨W0,hW0⟩:∃W0,w.alloc (.cells vs.toArray 53)=W0:=⟨_,rfl⟩;have HG0:=gA hW0
 have X0:=xA hW0
 have hcall:=zcT vs t W0 (hv.grew HG0.out);have HW0:Hid (_=W0):=hW0;clear hW0 hv
 generalize jd t Jo 64=PG at hcall⊢
 go_enter Tryz.func90,Tryz.ntmps90
 go_upto_region 1 with fail;rw[HW0.out]
 go_wp2_with (refine jA rfl (.tmp 1) rfl w.heap.size rfl X0.out HL.out ?_)
 refine hcall.mono ?_;rintro e W2 ⟨v,rfl,ow,g2⟩;have O2:Hid (zb blE w.heap.size W2 v PG):=ow.base (bS HG0.out);have G2:=dD (HG0.out.trans g2);clear ow g2 hcall;go_wp2;go_ret;exact⟨v,rfl,O2.out,G2.out⟩
theorem zhd (a b:Int) (W:World):(Instr.field 163 (.agg #[.int .i64 a,.int .i64 b]) 0).run Tryz.prog W= .ok (.int .i64 a) W:=by
 kernel_rfl
theorem Qy (s:Sp):jd s.tb Jo 64=(qh s).map fun(n:Nat)=>(n:Int):=by
 unfold jd qh zJ Jo;simp
theorem zis {s:Sp} (h8:s.tb.length=8):spE s=if ze [(wrL s.ars).1,tbW s.tb]=0 then(if s.live=false/\(0<s.ars.length\/0< (jd s.tb Jo 64).length)then 7 else 0)else ze [(wrL s.ars).1,tbW s.tb]:=by
 unfold spE;simp only[zE,zaG]
 by_cases h1:(wrL s.ars).1=0
 ·by_cases h2:tbW s.tb=0
  ·simp only[h1,h2,ne_eq,not_true,if_false,if_true];have hp:(0< (jd s.tb Jo 64).length)↔¬s.tb.all (·.isEmpty)=true:=by
    rw[Qy,List.length_map,<-zdP h2 h8,List.length_pos_iff]
   have ha:(0<s.ars.length)↔¬s.ars.isEmpty=true:=by
    rw[List.length_pos_iff];simp
   simp only[hp,ha]
   cases s.live <;> cases s.ars.isEmpty <;> cases s.tb.all (·.isEmpty) <;> simp
  simp[h1,h2]
 simp[h1]
theorem zbY (x:SpV) (s:Sp) (w:World) (hs:qL w x s):
  Calls Tryz.prog 161 #[.agg #[.bool x.live,.slice x.ar.a x.ar.n x.ar.c,.slice x.t0.a x.t0.n x.t0.c,.slice x.t1.a x.t1.n x.t1.c,.slice x.t2.a x.t2.n x.t2.c,.slice x.t3.a x.t3.n x.t3.c,.slice x.t4.a x.t4.n x.t4.c,.slice x.t5.a x.t5.n x.t5.c,.slice x.t6.a x.t6.n x.t6.c,.slice x.t7.a x.t7.n x.t7.c]] w fun e w'=>e= .returned (.int .i64 (spE s))/\zc w w':=by
 have HC1:Hid (∀W,zc w W->Calls Tryz.prog 195 #[.slice x.ar.a x.ar.n x.ar.c] W fun e w'=>e= .returned (.agg #[.int .i64 (wrL s.ars).1,.int .i64 (wrL s.ars).2])/\zc W w'):=show∀W,_ from fun W hW=>zeI _ s.ars W (hs.grew hW).ar
 have HC2:Hid (∀W,zc w W->Calls Tryz.prog 177 #[.agg #[.slice x.t0.a x.t0.n x.t0.c,.slice x.t1.a x.t1.n x.t1.c,.slice x.t2.a x.t2.n x.t2.c,.slice x.t3.a x.t3.n x.t3.c,.slice x.t4.a x.t4.n x.t4.c,.slice x.t5.a x.t5.n x.t5.c,.slice x.t6.a x.t6.n x.t6.c,.slice x.t7.a x.t7.n x.t7.c]] W fun e w'=>e= .returned (.int .i64 (tbW s.tb))/\zc W w'):=show∀W,_ from fun W hW=>zeF x.tab s.tb W (hs.grew hW).tb
 have HC3:Hid (∀W,zc w W->Calls Tryz.prog 90 #[.agg #[.slice x.t0.a x.t0.n x.t0.c,.slice x.t1.a x.t1.n x.t1.c,.slice x.t2.a x.t2.n x.t2.c,.slice x.t3.a x.t3.n x.t3.c,.slice x.t4.a x.t4.n x.t4.c,.slice x.t5.a x.t5.n x.t5.c,.slice x.t6.a x.t6.n x.t6.c,.slice x.t7.a x.t7.n x.t7.c]] W fun e w'=>∃v,e= .returned v/\zb blE W.heap.size w' v (jd s.tb Jo 64)/\zc W w'):=show∀W,_ from fun W hW=>JU x.tab s.tb W (hs.grew hW).tb
 have hlv:=hs.live;have hn:=hs.ar.n;rw[zis hs.tb.tlen,<-hlv,<-hn];clear hs;obtain⟨E0,HE0⟩:∃E0,Hid (ze [(wrL s.ars).1,tbW s.tb]=E0):=⟨_,rfl⟩;obtain⟨PL,HPL⟩:∃PL,Hid (jd s.tb Jo 64=PL):=⟨_,rfl⟩;rw[HE0.out,HPL.out];rw[HPL.out]at HC3;clear hlv hn;obtain⟨W0,hW0⟩:∃W0,w.alloc (.cells #[.bool x.live,.slice x.ar.a x.ar.n x.ar.c,.slice x.t0.a x.t0.n x.t0.c,.slice x.t1.a x.t1.n x.t1.c,.slice x.t2.a x.t2.n x.t2.c,.slice x.t3.a x.t3.n x.t3.c,.slice x.t4.a x.t4.n x.t4.c,.slice x.t5.a x.t5.n x.t5.c,.slice x.t6.a x.t6.n x.t6.c,.slice x.t7.a x.t7.n x.t7.c] 55)=W0:=⟨_,rfl⟩;have HG0:=gA hW0
 have X0:=xA hW0
 have HW0:Hid (_=W0):=hW0;clear hW0;obtain⟨Z,HZ⟩:∃Z:Int,Hid ((if E0=0 then(if x.live=false/\(0<x.ar.n\/0<PL.length)then 7 else 0)else E0)=Z):=⟨_,rfl⟩;rw[HZ.out]
 go_enter Tryz.func161,Tryz.ntmps161
 go_upto_region 1 with fail;rw[HW0.out];have hx1:=X0.out.gw 1 rfl
 have hx2:=X0.out.gw 2 rfl
 have hx3:=X0.out.gw 3 rfl
 have hx4:=X0.out.gw 4 rfl
 have hx5:=X0.out.gw 5 rfl
 have hx6:=X0.out.gw 6 rfl
 have hx7:=X0.out.gw 7 rfl
 have hx8:=X0.out.gw 8 rfl
 have hx9:=X0.out.gw 9 rfl
 have hne:Nonempty (zx W0):=⟨⟨_,zc.refl _⟩⟩;have hfd:=fun(y:zx W0)=>zhd (wrL s.ars).1 (wrL s.ars).2 y.world
 refine jX [(2,⟨fun v=>v= .agg #[.int .i64 (wrL s.ars).1,.int .i64 (wrL s.ars).2],fun v w'=>True⟩),(6,⟨fun v=>v= .int .i64 (tbW s.tb),fun v w'=>True⟩),(7,⟨fun v=>∃g,v= .slice (some ⟨g,0,none⟩) 2 2,fun v w'=>zo zg1 w' v [(wrL s.ars).1,tbW s.tb]⟩),(8,⟨fun v=>v= .int .i64 (ze [(wrL s.ars).1,tbW s.tb]),fun v w'=>True⟩)] qy (by kernel_rfl) ?hS ?hp ?_
 case hS=>
  intro x hx;simp only[mC,nM,or_false]at hx
  rcases hx with rfl | rfl | rfl | rfl
  ·exact⟨_,rfl⟩
  ·exact⟨_,rfl⟩
  ·exact⟨_,0,rfl⟩
  exact⟨_,rfl⟩
 case hp=>
  intro x hx;simp only[mC,nM,or_false]at hx
  rcases hx with rfl | rfl | rfl | rfl
  ·exact fun _ _ _ _ h=>h
  ·exact fun _ _ _ _ h=>h
  ·exact fun _ _ _ hg h=>zo.grew h hg
  exact fun _ _ _ _ h=>h
 iterate 2 (refine zm rfl rfl rfl (fun K hK=>?_);go_big_quiet_op;refine hK _ ?_;clear hK K)
 refine zM rfl rfl (fun w' hg hF=>?_) (fun v1 hv=>?_)
 ·refine zL.call [.slice x.ar.a x.ar.n x.ar.c] rfl Tryz.func195 rfl rfl rfl ?_;refine(HC1.out w' (HG0.out.trans hg)).mono ?_;rintro e w'' ⟨rfl,hg2⟩;exact⟨_,rfl,hg2,rfl,trivial⟩
 subst hv;simp only[Act.put,sB,sS,sZ];iterate 3 (refine zm rfl rfl rfl (fun K hK=>?_);go_big_quiet_op;refine hK _ ?_;clear hK K)
 refine zM rfl rfl (fun w' hg hF=>?_) (fun v1 hv=>?_)
 ·refine zL.call [.agg #[.slice x.t0.a x.t0.n x.t0.c,.slice x.t1.a x.t1.n x.t1.c,.slice x.t2.a x.t2.n x.t2.c,.slice x.t3.a x.t3.n x.t3.c,.slice x.t4.a x.t4.n x.t4.c,.slice x.t5.a x.t5.n x.t5.c,.slice x.t6.a x.t6.n x.t6.c,.slice x.t7.a x.t7.n x.t7.c]] rfl Tryz.func177 rfl rfl rfl ?_;refine(HC2.out w' (HG0.out.trans hg)).mono ?_;rintro e w'' ⟨rfl,hg2⟩;exact⟨_,rfl,hg2,rfl,trivial⟩
 subst hv;simp only[Act.put,sB,sS,sZ];refine zM rfl rfl (fun w' hg hF=>?_) (fun v1 hv=>?_)
 ·have hnew:zo zg1 (w'.alloc (.cells #[.int .i64 ((wrL s.ars).1),.int .i64 (tbW s.tb)] 43)) (.slice (some ⟨w'.heap.size,0,none⟩) 2 2) [(wrL s.ars).1,tbW s.tb]:=zeR zg1 w' [(wrL s.ars).1,tbW s.tb] _ rfl (show 2*8<=140737488355328 by decide)
  refine zL.step (v:= .slice (some ⟨w'.heap.size,0,none⟩) 2 2) (w':=w'.alloc (.cells #[.int .i64 ((wrL s.ars).1),.int .i64 (tbW s.tb)] 43)) (by simp only[execOp];go_simp) ⟨za _ _,⟨_,rfl⟩,hnew⟩
 obtain⟨g7,rfl⟩:=hv;simp only[Act.put,sB,sS,sZ];refine zM rfl rfl (fun w' hg hF=>?_) (fun v1 hv=>?_)
 ·have h7:zo zg1 w' (.slice (some ⟨g7,0,none⟩) 2 2) [(wrL s.ars).1,tbW s.tb]:=hF 7 (by kernel_rfl)
  refine zL.call [.slice (some ⟨g7,0,none⟩) 2 2] rfl Tryz.func130 rfl rfl rfl ?_;refine(zbw _ _ w' h7).mono ?_;rintro e w'' ⟨rfl,rfl⟩;exact⟨_,rfl,zc.refl _,rfl,trivial⟩
 subst hv;simp only[Act.put,sB,sS,sZ];iterate 1 (refine zm rfl rfl rfl (fun K hK=>?_);go_big_quiet_op;refine hK _ ?_;clear hK K)
 refine qU fun W3 hg1 hF=>?_
 have G3:=dD (HG0.out.trans hg1);have X3:=dD (X0.out.grew hg1);clear hg1 hF hx1 hx2 hx3 hx4 hx5 hx6 hx7 hx8 hx9 hne hfd;rw[HE0.out]
 by_cases h0:E0=0
 ·have h0e:(E0 != 0)=false:=by simp[h0]
  rw[if_pos h0]at HZ;have HE:Hid (E0=0):=h0;clear h0;obtain⟨x0,x1,x2,x3,x4,x5,x6,x7,x8,x9⟩:=X3.out.c10
  cases hlv:x.live with
  | true=>
   rw[hlv]at HZ x0;have HR:Hid (Z=0):=show _=_ by rw[<-HZ.out,if_neg (by simp)]
   clear x2 x3 x4 x5 x6 x7 x8 x9;go_wp2;go_ret;exact⟨by rw[HR.out];rfl,G3.out⟩
  | false=>
   rw[hlv]at HZ x0
   by_cases h1:0<x.ar.n
   ·have h1z:(0:Int)< (x.ar.n:Int):=by omega
    have HR:Hid (Z=7):=show _=_ by rw[<-HZ.out,if_pos ⟨rfl,.inl h1⟩]
    clear x2 x3 x4 x5 x6 x7 x8 x9;go_wp2;go_ret;exact⟨by rw[HR.out];rfl,G3.out⟩
   have h1z:¬(0:Int)< (x.ar.n:Int):=by omega
   have hc3:=HC3.out W3 G3.out;have HN1:Hid (¬0<x.ar.n):=h1;clear h1;go_wp2_with fail;refine hc3.mono ?_;clear hc3 x0 x1 x2 x3 x4 x5 x6 x7 x8 x9;rintro e W4 ⟨v,rfl,ow4,g4⟩;have HG4:=dD (G3.out.trans g4);obtain⟨va,vc,rfl⟩:=ow4.form;clear ow4 g4
   by_cases h2:0<PL.length
   ·have h2z:(0:Int)< (PL.length:Int):=by omega
    have HR:Hid (Z=7):=show _=_ by rw[<-HZ.out,if_pos (by first | exact⟨rfl,.inr h2⟩ | exact⟨trivial,.inr h2⟩)]
    go_wp2;go_ret;exact⟨by rw[HR.out];rfl,HG4.out⟩
   have h2z:¬(0:Int)< (PL.length:Int):=by omega
   have HR:Hid (Z=0):=show _=_ by rw[<-HZ.out,if_neg (fun h=>h.2.elim HN1.out h2)]
   go_wp2;go_ret;exact⟨by rw[HR.out];rfl,HG4.out⟩
 have h0e:(E0 != 0)=true:=by simp[h0]
 rw[if_neg h0]at HZ;clear h0;go_wp2;go_ret;exact⟨by rw[<-HZ.out];rfl,G3.out⟩
def zjs (W:World) (y:Addr) (x:SpV):Prop:=W.cell? y=some (.bool x.live)/\W.cell? { block:=y.block,off:=y.off+1 }=some (.slice x.ar.a x.ar.n x.ar.c)/\W.cell? { block:=y.block,off:=y.off+2 }=some (.slice x.t0.a x.t0.n x.t0.c)/\W.cell? { block:=y.block,off:=y.off+3 }=some (.slice x.t1.a x.t1.n x.t1.c)/\W.cell? { block:=y.block,off:=y.off+4 }=some (.slice x.t2.a x.t2.n x.t2.c)/\W.cell? { block:=y.block,off:=y.off+5 }=some (.slice x.t3.a x.t3.n x.t3.c)/\W.cell? { block:=y.block,off:=y.off+6 }=some (.slice x.t4.a x.t4.n x.t4.c)/\W.cell? { block:=y.block,off:=y.off+7 }=some (.slice x.t5.a x.t5.n x.t5.c)/\W.cell? { block:=y.block,off:=y.off+8 }=some (.slice x.t6.a x.t6.n x.t6.c)/\W.cell? { block:=y.block,off:=y.off+9 }=some (.slice x.t7.a x.t7.n x.t7.c)
theorem jr.sp10 {W:World} {y:Addr} {x:SpV} (h:jr W y (spv x)):zjs W y x:=⟨h 0 _ rfl,h 1 _ rfl,h 2 _ rfl,h 3 _ rfl,h 4 _ rfl,h 5 _ rfl,h 6 _ rfl,h 7 _ rfl,h 8 _ rfl,h 9 _ rfl⟩
theorem zC.spaces {w:World} {V:MaV} {m:Ma} (h:zC w V m):∃xs:List SpV,xs.length=m.sp.length/\(∀(j:Nat) x,xs[j]? =some x->∃ad,V.sp.a=some ad/\∀W,zc w W->zjs W (ad.add (j*10)) x)/\∀(i:Nat) x s,xs[i]? =some x->m.sp[i]? =some s->qL w x s:=by
 obtain⟨xs,h1,h2,h3⟩:=h.sp;refine⟨xs,h2,fun j x hj=>?_,h3⟩
 obtain⟨ad,h4,h5⟩:=h1.rowsAt j x hj;exact⟨ad,h4,fun W hW=>(h5 W hW).sp10⟩
theorem zbf (V:MaV) (m:Ma) (w:World) (hm:zC w V m):
  Calls Tryz.prog 117 #[.agg #[.slice V.f.a V.f.n V.f.c,.int .i64 m.hand,.slice V.s.a V.s.n V.s.c,.slice V.sb.a V.sb.n V.sb.c,.slice V.sq.a V.sq.n V.sq.c,.slice V.db.a V.db.n V.db.c,.slice V.dq.a V.dq.n V.dq.c,.slice V.fl.a V.fl.n V.fl.c,.int .i64 m.cnt,.slice V.ca.a V.ca.n V.ca.c,.slice V.sp.a V.sp.n V.sp.c]] w fun e w'=>e= .returned (.int .i64 (Zp m))/\zc w w':=by
 obtain⟨vf,vs,vsb,vsq,vdb,vdq,vfl,vca,⟨spa,spn,spc⟩⟩:=V;dsimp only;obtain⟨-,-,-,-,-,-,-,-,n9⟩:=hm.ns;dsimp only at n9;obtain⟨xs,hxl,hrow,hsp⟩:=hm.spaces;have HXL:Hid (xs.length=m.sp.length):=hxl;have HR:Hid (∀(j:Nat) x,xs[j]? =some x->∃ad,spa=some ad/\∀W,zc w W->zjs W (ad.add (j*10)) x):=hrow;have HSP:Hid (∀(i:Nat) x s,xs[i]? =some x->m.sp[i]? =some s->qL w x s):=hsp;have HN:Hid (m.sp.length=spn):=n9.symm;obtain⟨Z,HZ⟩:∃Z,Hid (Zp m=Z):=⟨_,rfl⟩;rw[HZ.out];have HZ2:Hid ((if 4<spn then 4 else ze (m.sp.map spE))=Z):=show _=_ by rw[<-HZ.out,<-HN.out];rfl
 clear hm hxl hrow hsp n9 HZ;obtain⟨W0,hW0⟩:∃W0,w.alloc (.cells #[.slice vf.a vf.n vf.c,.int .i64 m.hand,.slice vs.a vs.n vs.c,.slice vsb.a vsb.n vsb.c,.slice vsq.a vsq.n vsq.c,.slice vdb.a vdb.n vdb.c,.slice vdq.a vdq.n vdq.c,.slice vfl.a vfl.n vfl.c,.int .i64 m.cnt,.slice vca.a vca.n vca.c,.slice spa spn spc] 41)=W0:=⟨_,rfl⟩;have HG0:=gA hW0
 have X0:=xA hW0
 have HW0:Hid (_=W0):=hW0;clear hW0
 by_cases h4:4<spn
 ·have h4z:(4:Int)< (spn:Int):=by omega
  have HE:Hid (Z=4):=show _=_ by rw[<-HZ2.out,if_pos h4]
  go_enter Tryz.func117,Tryz.ntmps117
  go_upto_region 1 with fail;rw[HW0.out];have x10:=X0.out.c 10 rfl;go_wp2;go_ret;exact⟨by rw[HE.out];rfl,HG0.out⟩
 have h4z:¬(4:Int)< (spn:Int):=by omega
 have hs4:spn<=4:=by omega
 have HZ3:Hid (ze (m.sp.map spE)=Z):=show _=_ by rw[<-HZ2.out,if_neg h4]
 clear HZ2 h4
 go_enter Tryz.func117,Tryz.ntmps117
 go_upto_region 1 with fail;rw[HW0.out];have x10:=X0.out.c 10 rfl;go_wp2;clear x10
 go_loopg [13] spn (fun gg s13 wr=>∃kk:Nat,kk<=spn/\spn - kk<=gg/\s13= .int .i64 kk/\Hid (zc w wr)/\Hid (∀(j:Nat) s,j<kk->m.sp[j]? =some s->spE s=0))
 case atStart=>exact⟨0,nZ _,by omega,rfl,HG0.out,fun j s hj=>absurd hj (nL _)⟩
 obtain⟨kk,hkk,hgg,rfl,BW,OW⟩:=hrel;clear X0
 by_cases hlt:kk<spn
 ·have hltz:(kk:Int)< (spn:Int):=by omega
  obtain⟨s,HS⟩:∃s,Hid (m.sp[kk]? =some s):=⟨_,gE (by rw[HN.out];exact hlt)⟩
  obtain⟨x,HX⟩:∃x,Hid (xs[kk]? =some x):=⟨_,gE (by rw[HXL.out,HN.out];exact hlt)⟩
  obtain⟨ad,rfl,hl⟩:=HR.out kk x HX.out;obtain⟨d0,d1,d2,d3,d4,d5,d6,d7,d8,d9⟩:=hl wr BW.out;have hcall:=zbY x s _ ((HSP.out kk x s HX.out HS.out).grew (BW.out.trans (za wr (.cells #[.bool x.live,.slice x.ar.a x.ar.n x.ar.c,.slice x.t0.a x.t0.n x.t0.c,.slice x.t1.a x.t1.n x.t1.c,.slice x.t2.a x.t2.n x.t2.c,.slice x.t3.a x.t3.n x.t3.c,.slice x.t4.a x.t4.n x.t4.c,.slice x.t5.a x.t5.n x.t5.c,.slice x.t6.a x.t6.n x.t6.c,.slice x.t7.a x.t7.n x.t7.c] 55))));clear hl;obtain⟨e,HEE⟩:∃e,Hid (spE s=e):=⟨_,rfl⟩;rw[HEE.out]at hcall;go_upto_region 6 with fail;clear d0 d1 d2 d3 d4 d5 d6 d7 d8 d9;go_wp2_with fail;refine hcall.mono ?_;clear hcall;rintro e' W4 ⟨rfl,hg4⟩;have HG4:=dD ((BW.out.trans (za _ _)).trans hg4);clear hg4
  by_cases h0:e=0
  ·have h0e:(e != 0)=false:=by simp[h0]
   have OW':Hid (∀(j:Nat) s,j<kk+1->m.sp[j]? =some s->spE s=0):=show∀(j:Nat) s,_ from fun j s hj hs=>by
    by_cases ej:j=kk
    ·subst ej;rw[HS.out]at hs;cases hs;rw[HEE.out];exact h0
    exact OW.out j s (by omega) hs
   clear h0;go_wp2
   go_roundg (spn -(kk+1))
   case measure=>omega
   exact⟨kk+1,by omega,by omega,by go_num,HG4.out,OW'.out⟩
  have h0e:(e != 0)=true:=by simp[h0]
  have HE:Hid (Z=e):=show _=_ by rw[<-HZ3.out,j0 HS.out OW.out (by rw[HEE.out];exact h0)];exact HEE.out
  clear h0;go_wp2;go_ret;exact⟨by rw[HE.out];rfl,HG4.out⟩
 have hltz:¬(kk:Int)< (spn:Int):=by omega
 have:kk=spn:=by omega
 subst this;have HE:Hid (Z=0):=show _=_ by rw[<-HZ3.out];exact Qn fun j s hs=>OW.out j s (by rw[<-HN.out];exact(gS.1 hs).1) hs
 go_wp2;go_ret;exact⟨by rw[HE.out];rfl,BW.out⟩
def JT (l:List Ca) (k:Nat):Option Ca:=match k with | 0=>none | k+1=>l[k]?
theorem zkf {m:Ma} {p:Option Ca} {c:Ca} (h:caE m none c≠0):caE m p c=caE m none c:=by
 unfold caE at h⊢
 by_cases h1:c.file<0\/(m.fl.length:Int)<=c.file\/c.idx<0\/bkN m c.file<=c.idx\/c.fr<0\/(m.fs.length:Int)<=c.fr
 ·simp only[if_pos h1]
 simp only[if_neg h1]at h⊢
 by_cases h2:(z8 m c.fr).r=0\/(z8 m c.fr).f≠c.file\/(z8 m c.fr).x≠c.idx
 ·simp only[if_pos h2]
 simp only[if_neg h2]at h;exact absurd rfl h
theorem zeq {m:Ma} {q c:Ca} (h:caE m none c=0):caE m (some q) c=if jM c<=jM q then 2 else 0:=by
 unfold caE at h⊢
 split at h
 ·cases h
 rename_i h1
 rw[if_neg h1]
 split at h
 ·cases h
 rename_i h2
 rw[if_neg h2]
theorem zf3 {m:Ma} {l:List Ca} {k:Nat} {c:Ca} {Z:Int} (h:J1 m (JT l k) (l.drop k)=Z) (hc:l[k]? =some c) (hn:caE m (JT l k) c≠0):Z=caE m (JT l k) c:=by
 rw[qJ hc]at h;unfold J1 at h;rw[if_neg hn]at h;exact h.symm
theorem zep {m:Ma} {l:List Ca} {k:Nat} {c:Ca} {Z:Int} (h:J1 m (JT l k) (l.drop k)=Z) (hc:l[k]? =some c) (hn:caE m (JT l k) c=0):J1 m (JT l (k+1)) (l.drop (k+1))=Z:=by
 rw[qJ hc]at h;unfold J1 at h;rw[if_pos hn]at h
 show J1 m (l[k]?) _=Z
 rw[hc];exact h
theorem zb3 (V:MaV) (m:Ma) (w:World) (hm:zC w V m) (h1:zew m):
  Calls Tryz.prog 118 #[.agg #[.slice V.f.a V.f.n V.f.c,.int .i64 m.hand,.slice V.s.a V.s.n V.s.c,.slice V.sb.a V.sb.n V.sb.c,.slice V.sq.a V.sq.n V.sq.c,.slice V.db.a V.db.n V.db.c,.slice V.dq.a V.dq.n V.dq.c,.slice V.fl.a V.fl.n V.fl.c,.int .i64 m.cnt,.slice V.ca.a V.ca.n V.ca.c,.slice V.sp.a V.sp.n V.sp.c]] w fun e w'=>e= .returned (.int .i64 (zdA m))/\zc w w':=by
 have HWC:Hid (∀(c:Ca) W,zc w W->Calls Tryz.prog 162 #[.agg #[.slice V.f.a V.f.n V.f.c,.int .i64 m.hand,.slice V.s.a V.s.n V.s.c,.slice V.sb.a V.sb.n V.sb.c,.slice V.sq.a V.sq.n V.sq.c,.slice V.db.a V.db.n V.db.c,.slice V.dq.a V.dq.n V.dq.c,.slice V.fl.a V.fl.n V.fl.c,.int .i64 m.cnt,.slice V.ca.a V.ca.n V.ca.c,.slice V.sp.a V.sp.n V.sp.c],.agg #[.int .i64 c.file,.int .i64 c.idx,.int .i64 c.fr]] W fun e w'=>e= .returned (.int .i64 (caE m none c))/\zc W w'):=show∀(c:Ca) W,_ from fun c W hW=>zbk V m c W (hm.grew hW)
 obtain⟨vf,vs,vsb,vsq,vdb,vdq,vfl,⟨caa,can,cac⟩,vsp⟩:=V;dsimp only at HWC⊢;obtain⟨-,-,-,-,-,-,-,n8,-⟩:=hm.ns;dsimp only at n8;have HR:Hid (zaX w caa m.ca):=hm.cas;have HN:Hid (m.ca.length=can):=n8.symm;have hbig:can<=9223372036854775807:=by have:=hm.ca.short;omega
 have HIX:Hid (∀c p,caE m p c=0->0<=c.idx/\c.idx<100):=show∀c p,_ from fun c p h=>zke h1.st h
 obtain⟨Z,HZ⟩:∃Z,Hid (zdA m=Z):=⟨_,rfl⟩;rw[HZ.out];have HZ2:Hid (J1 m (JT m.ca 0) (m.ca.drop 0)=Z):=HZ.out;clear hm n8 HZ h1;obtain⟨W0,hW0⟩:∃W0,w.alloc (.cells #[.slice vf.a vf.n vf.c,.int .i64 m.hand,.slice vs.a vs.n vs.c,.slice vsb.a vsb.n vsb.c,.slice vsq.a vsq.n vsq.c,.slice vdb.a vdb.n vdb.c,.slice vdq.a vdq.n vdq.c,.slice vfl.a vfl.n vfl.c,.int .i64 m.cnt,.slice caa can cac,.slice vsp.a vsp.n vsp.c] 41)=W0:=⟨_,rfl⟩;have HG0:=gA hW0
 have X0:=xA hW0
 have HW0:Hid (_=W0):=hW0;clear hW0
 go_enter Tryz.func118,Tryz.ntmps118
 go_upto_region 1 with fail;rw[HW0.out];have x9:=X0.out.c 9 rfl;go_wp2;clear x9
 go_loopg [9] can (fun gg s9 wr=>∃kk:Nat,kk<=can/\can - kk<=gg/\s9= .int .i64 kk/\Hid (zc w wr)/\Hid (Box wr w.heap.size [.slice vf.a vf.n vf.c,.int .i64 m.hand,.slice vs.a vs.n vs.c,.slice vsb.a vsb.n vsb.c,.slice vsq.a vsq.n vsq.c,.slice vdb.a vdb.n vdb.c,.slice vdq.a vdq.n vdq.c,.slice vfl.a vfl.n vfl.c,.int .i64 m.cnt,.slice caa can cac,.slice vsp.a vsp.n vsp.c])/\Hid (J1 m (JT m.ca kk) (m.ca.drop kk)=Z)/\Hid (∀(j:Nat) c,j<kk->m.ca[j]? =some c->0<=c.idx/\c.idx<100))
 case atStart=>exact⟨0,nZ _,by omega,rfl,HG0.out,X0.out,HZ2.out,fun j c hj=>absurd hj (nL _)⟩
 obtain⟨kk,hkk,hgg,rfl,BW,XW,GW,OW⟩:=hrel;clear X0 HZ2 HG0
 by_cases hlt:kk<can
 ·have hltz:(kk:Int)< (can:Int):=by omega
  obtain⟨c,HC⟩:∃c,Hid (m.ca[kk]? =some c):=⟨_,gE (by rw[HN.out];exact hlt)⟩
  obtain⟨ad,rfl,hl⟩:=HR.out kk c HC.out;obtain⟨d0,d1,d2⟩:=hl wr BW.out;clear hl;go_upto_region 4 with fail;obtain⟨W1,hW1⟩:∃W1,wr.alloc (.cells #[.int .i64 c.file,.int .i64 c.idx,.int .i64 c.fr] 124)=W1:=⟨_,rfl⟩;have HG1:=gT hW1 BW
  have X1:=yA hW1 XW
  have C1:=xA hW1
  rw[hW1];clear hW1 d0 d1 d2;obtain⟨pb,HPB⟩:∃pb,Hid (wr.heap.size=pb):=⟨_,rfl⟩;rw[HPB.out]at C1⊢;have hcall:=HWC.out c W1 HG1.out;obtain⟨e,HEE⟩:∃e,Hid (caE m none c=e):=⟨_,rfl⟩;rw[HEE.out]at hcall;obtain⟨x0,x1,x2,x3,x4,x5,x6,x7,x8,x9,x10⟩:=X1.out.c11;obtain⟨c0,c1,c2⟩:=C1.out.c3;go_wp2_with fail;refine hcall.mono ?_;clear hcall x0 x1 x2 x3 x4 x5 x6 x7 x8 x9 x10 c0 c1 c2;rintro e' W2 ⟨rfl,hg2⟩;have HG2:=dD (HG1.out.trans hg2);have X2:=dD (X1.out.grew hg2);have C2:=dD (C1.out.grew hg2);clear hg2
  by_cases h0:e=0
  ·have h0e:(e != 0)=false:=by simp[h0]
   have HE0:Hid (caE m none c=0):=show _=_ by rw[HEE.out];exact h0
   have HCI:Hid (0<=c.idx/\c.idx<100):=HIX.out c none HE0.out;have OW':Hid (∀(j:Nat) c,j<kk+1->m.ca[j]? =some c->0<=c.idx/\c.idx<100):=show∀(j:Nat) c,_ from fun j c' hj hc=>by
    by_cases ej:j=kk
    ·subst ej;rw[HC.out]at hc;cases hc;exact HCI.out
    exact OW.out j c' (by omega) hc
   clear h0;go_upto_region 7 with fail
   cases kk with
   | zero=>
    have GN:Hid (J1 m (JT m.ca 1) (m.ca.drop 1)=Z):=zep GW.out HC.out HE0.out;have hz0:¬(0:Int)< ((0:Nat):Int):=by decide
    have hz1:decide ((0:Int)< ((0:Nat):Int))=false:=by decide
    go_quiet (fail);go_wp2
    go_roundg (can - 1)
    case measure=>omega
    exact⟨1,by omega,by omega,by go_num,HG2.out.trans (show Below _ _ _ from bD (bR _ _) _),X2.out.grew (show Below _ _ _ from bD (bR _ _) _),GN.out,OW'.out⟩
   | succ j=>
    obtain⟨b,HB⟩:∃b,Hid (m.ca[j]? =some b):=⟨_,gE (by rw[HN.out];omega)⟩
    have HBI:Hid (0<=b.idx/\b.idx<100):=OW.out j b (by omega) HB.out
    have hz0:(0:Int)< ((j+1:Nat):Int):=by omega
    have hz1:decide ((0:Int)< ((j+1:Nat):Int))=true:=by simp
    have hj1:((j+1:Nat):Int) - 1=(j:Int):=by omega
    have hjn:(j:Int)< (can:Int):=by omega
    obtain⟨ad',had,hl⟩:=HR.out j b HB.out;obtain rfl:ad=ad':=by cases had;rfl
    have hx9:=X2.out.gw 9 rfl
    have hc0:=C2.out.gw 0 rfl
    have hc1:=C2.out.gw 1 rfl
    have hc2:=C2.out.gw 2 rfl
    have hy0:∀y:zx W2,y.world.cell? (ad.add (j*3))=some (.int .i64 b.file):=fun y=>(hl _ (HG2.out.trans y.grew)).1
    have hy1:∀y:zx W2,y.world.cell? { block:=(ad.add (j*3)).block,off:=(ad.add (j*3)).off+1 }=some (.int .i64 b.idx):=fun y=>(hl _ (HG2.out.trans y.grew)).2.1
    have hy2:∀y:zx W2,y.world.cell? { block:=(ad.add (j*3)).block,off:=(ad.add (j*3)).off+2 }=some (.int .i64 b.fr):=fun y=>(hl _ (HG2.out.trans y.grew)).2.2
    have hne:Nonempty (zx W2):=⟨⟨_,zc.refl _⟩⟩;clear hl had;have HAK:Hid (ZY b c=decide (¬jM c<=jM b)):=zib HBI.out HCI.out;refine jX [(10,⟨fun v=>v= .bool (ZY b c),fun v w'=>True⟩)] qy (by kernel_rfl) ?hS ?hp ?_
    case hS=>
     intro x hx;simp only[mC,nM,or_false]at hx;subst hx;exact⟨_,rfl⟩
    case hp=>
     intro x hx;simp only[mC,nM,or_false]at hx;subst hx;exact fun _ _ _ _ h=>h
    iterate 10 (refine zm rfl rfl rfl (fun K hK=>?_);go_big_quiet_op;refine hK _ ?_;clear hK K)
    refine zM rfl rfl (fun w' hg hF=>?_) (fun v1 hv=>?_)
    ·refine zL.call [.agg #[.int .i64 b.file,.int .i64 b.idx,.int .i64 b.fr],.agg #[.int .i64 c.file,.int .i64 c.idx,.int .i64 c.fr]] rfl Tryz.func163 rfl rfl rfl ?_;refine(ze6 b c w').mono ?_;rintro e w'' ⟨rfl,hg3⟩;exact⟨_,rfl,hg3,rfl,trivial⟩
    subst hv;simp only[Act.put,sB,sS,sZ];iterate 2 (refine zm rfl rfl rfl (fun K hK=>?_);go_big_quiet_op;refine hK _ ?_;clear hK K)
    refine qU fun W3 hg3 hF=>?_
    have HG3:=dD (HG2.out.trans hg3);have X3:=dD (X2.out.grew hg3);clear hg3 hF hx9 hc0 hc1 hc2 hy0 hy1 hy2 hne
    cases hab:ZY b c with
    | true=>
     have GN:Hid (J1 m (JT m.ca (j+1+1)) (m.ca.drop (j+1+1))=Z):=zep GW.out HC.out (by
      have hp:JT m.ca (j+1)=some b:=HB.out;rw[hp,zeq HE0.out,if_neg];have:=HAK.out;rw[hab]at this
      simpa using this)
     go_wp2
     go_roundg (can -(j+1+1))
     case measure=>omega
     exact⟨j+1+1,by omega,by omega,by go_num,HG3.out,X3.out,GN.out,OW'.out⟩
    | false=>
     have HZE:Hid (Z=2):=show _=_ by
      have hp:JT m.ca (j+1)=some b:=HB.out;have h2:caE m (JT m.ca (j+1)) c=2:=by
       rw[hp,zeq HE0.out,if_pos];have:=HAK.out;rw[hab]at this
       simpa using this
      rw[zf3 GW.out HC.out (by rw[h2];decide),h2]
     go_wp2;go_ret;exact⟨by rw[HZE.out];rfl,HG3.out⟩
  have h0e:(e != 0)=true:=by simp[h0]
  have HZE:Hid (Z=e):=show _=_ by
   have h2:caE m (JT m.ca kk) c=e:=by rw[zkf (by rw[HEE.out];exact h0),HEE.out]
   rw[zf3 GW.out HC.out (by rw[h2];exact h0),h2]
  clear h0;go_wp2;go_ret;exact⟨by rw[HZE.out];rfl,HG2.out⟩
 have hltz:¬(kk:Int)< (can:Int):=by omega
 have:kk=can:=by omega
 subst this;have HZE:Hid (Z=0):=show _=_ by
  rw[<-GW.out,List.drop_of_length_le (by rw[HN.out];exact nR _)]
  cases JT m.ca kk <;> rfl
 go_wp2;go_ret;exact⟨by rw[HZE.out];rfl,BW.out⟩
structure QM (lo hi:Nat) (w:World) (x:SpV) (s:Sp):Prop where
 live:x.live=s.live
 ar:zb arE lo w x.ar.v s.ars
 tb:jE lo w x.tab s.tb
 arh:∀g,x.ar.v.ownBlock=some g->g<hi
 tbh:∀(i:Nat) v,x.tab[i]? =some v->∀g,v.ownBlock=some g->g<hi
theorem QM.grew {lo hi:Nat} {w w':World} {x:SpV} {s:Sp} (h:QM lo hi w x s) (k:zc w w'):QM lo hi w' x s:=⟨h.live,h.ar.grew k,h.tb.grew k,h.arh,h.tbh⟩
theorem QM.at {lo hi:Nat} {w:World} {x:SpV} {s:Sp} (h:QM lo hi w x s):qL w x s:=⟨h.live,h.ar.at,h.ar.cap,h.tb.new.now⟩
theorem jE.grown {base:Nat} {w w':World} {vs:List Value} {t:List (List En)} {g:Nat} (h:jE base w vs t) (hg:w.grownBy w' (some g)) (hn:∀(i:Nat) v,vs[i]? =some v->v.ownBlock≠some g):jE base w' vs t:=
 ⟨h.len,h.tlen,fun i v x hv hx=>(h.row i v x hv hx).grown hg (fun b hb e=>by cases e;exact hn i v hv hb),h.two⟩
theorem QM.beside {lo hi:Nat} {w w':World} {x:SpV} {s:Sp} {g:Nat} {t:TypeId} {cs:Array Value} (h:QM lo hi w x s) (hg:w.grownBy w' (some g)) (ho:w.heap[g]? =some (.cells cs t (0,0))) (h1:t≠arE.ty) (h2:t≠enE.ty):QM lo hi w' x s:=by
 have key:∀{α:Type} {E:Elt α} {b:Nat} {v:Value} {l:List α},zb E b w v l->t≠E.ty->∀k,v.ownBlock=some k->some g≠some k:=fun hr hne k hk e=>by
  cases e;obtain⟨ds,h3⟩:=hr.obj hk;rw[ho]at h3;cases h3;exact hne rfl
 refine⟨h.live,h.ar.grown hg (key h.ar h1),h.tb.grown hg (fun i v hv e=>?_),h.arh,h.tbh⟩
 obtain⟨y,hy⟩:∃y,s.tb[i]? =some y:=⟨_,gE (by rw[h.tb.tlen,<-h.tb.len];exact(gS.1 hv).1)⟩
 exact key (h.tb.row i v y hv hy) h2 g e rfl
def ZB (base:Nat) (w:World) (v:Value) (ss:List Sp):Prop:=
 ∃(xs:List SpV) (B:Nat->Nat),zb Zl base w v xs/\xs.length=ss.length/\base<=B 0/\(∀i,B i<=B (i+1))/\∀(i:Nat) x s,xs[i]? =some x->ss[i]? =some s->QM (B i) (B (i+1)) w x s
theorem ZB.grew {base:Nat} {w w':World} {v:Value} {ss:List Sp} (h:ZB base w v ss) (k:zc w w'):ZB base w' v ss:=by
 obtain⟨xs,B,h1,h2,h3,h4,h5⟩:=h;exact⟨xs,B,h1.grew k,h2,h3,h4,fun i x s hx hs=>(h5 i x s hx hs).grew k⟩
theorem ZB.base {base base':Nat} {w:World} {v:Value} {ss:List Sp} (h:ZB base w v ss) (hb:base'<=base):ZB base' w v ss:=by
 obtain⟨xs,B,h1,h2,h3,h4,h5⟩:=h;exact⟨xs,B,h1.base hb,h2,by omega,h4,h5⟩
structure zau (base:Nat) (w:World) (kk:Nat) (xs ys:List SpV) (ss:List Sp) (B:Nat->Nat):Prop where
 len:ys.length=xs.length
 own:∀(i:Nat) y s,i<kk->ys[i]? =some y->ss[i]? =some s->QM (B i) (B (i+1)) w y s
 rest:∀(i:Nat),kk<=i->ys[i]? =xs[i]?
 b0:base<=B 0
 mono:∀i,B i<=B (i+1)
 top:B kk<=w.heap.size
theorem zau.grew {base kk:Nat} {w w':World} {xs ys:List SpV} {ss:List Sp} {B:Nat->Nat} (h:zau base w kk xs ys ss B) (k:zc w w'):zau base w' kk xs ys ss B:=⟨h.len,fun i y s hi hy hs=>(h.own i y s hi hy hs).grew k,h.rest,h.b0,h.mono,nT h.top (bS k)⟩
theorem zc4 {B:Nat->Nat} (h:∀i,B i<=B (i+1)):∀{i j:Nat},i<=j->B i<=B j
 | i,0,hij=>by rw[show i=0 from by omega];exact nR _
 | i,j+1,hij=>by
  by_cases e:i=j+1
  ·subst e;exact nR _
  exact nT (zc4 h (by omega)) (h j)
theorem Zq:Zl.ty≠arE.ty/\Zl.ty≠enE.ty:=by decide
theorem zau.step {base kk:Nat} {w w':World} {xs ys:List SpV} {ss:List Sp} {B:Nat->Nat} {g:Nat} {cs:Array Value} (h:zau base w kk xs ys ss B) (hg:w.grownBy w' (some g)) (ho:w.heap[g]? =some (.cells cs Zl.ty (0,0))) (hsz:w'.heap.size=w.heap.size) {x:SpV} {s:Sp} (hx:xs[kk]? =some x) (hs:ss[kk]? =some s)
  {y:SpV} (hown:QM (B kk) w.heap.size w' y s):zau base w' (kk+1) xs (ys.set kk y) ss (fun i=>if i<=kk then B i else w.heap.size):=by
 have hk:kk<ys.length:=by rw[h.len];exact(gS.1 hx).1
 refine⟨by simp[h.len],fun i z s' hi hz hs'=>?_,fun i hi=>?_,by simpa using h.b0,fun i=>?_,by rw[if_neg (by omega),hsz];exact nR _⟩
 ·by_cases e:i=kk
  ·subst e;rw[sF hk]at hz;cases hz;rw[hs]at hs';cases hs';rw[if_pos (nR _),if_neg (by omega)]
   exact hown
  rw[sN (fun h=>e h.symm)]at hz
  have h1:=(h.own i z s' (by omega) hz hs').beside hg ho Zq.1 Zq.2
  have e1:i<=kk:=by omega
  have e2:i+1<=kk:=by omega
  simpa [e1,e2]using h1
 ·rw[sN (by omega)]
  exact h.rest i (by omega)
 by_cases e1:i+1<=kk
 ·rw[if_pos (by omega),if_pos e1]
  exact h.mono i
 rw[if_neg e1]
 by_cases e2:i<=kk
 ·rw[if_pos e2];exact nT (zc4 h.mono e2) h.top
 rw[if_neg e2];exact nR _
theorem zau.all {base:Nat} {w:World} {xs ys:List SpV} {ss:List Sp} {B:Nat->Nat} {v:Value} (h:zau base w xs.length xs ys ss B) (hl:xs.length=ss.length) (hv:zb Zl base w v ys):ZB base w v ss:=
 ⟨ys,B,hv,h.len.trans hl,h.b0,h.mono,fun i y s hy hs=>h.own i y s (by rw[<-h.len];exact(gS.1 hy).1) hy hs⟩
theorem ziq {base:Nat} {w:World} {us:List Value} {t:List (List En)} (h:jE base w us t):∃t0 t1 t2 t3 t4 t5 t6 t7:Sli,us=[t0.v,t1.v,t2.v,t3.v,t4.v,t5.v,t6.v,t7.v]:=by
 obtain⟨u0,u1,u2,u3,u4,u5,u6,u7,rfl⟩:=zj9 h.len;obtain⟨y0,y1,y2,y3,y4,y5,y6,y7,rfl⟩:=zj9 h.tlen;obtain⟨a0,c0,rfl⟩:=(h.row 0 _ _ rfl rfl).form;obtain⟨a1,c1,rfl⟩:=(h.row 1 _ _ rfl rfl).form;obtain⟨a2,c2,rfl⟩:=(h.row 2 _ _ rfl rfl).form;obtain⟨a3,c3,rfl⟩:=(h.row 3 _ _ rfl rfl).form;obtain⟨a4,c4,rfl⟩:=(h.row 4 _ _ rfl rfl).form;obtain⟨a5,c5,rfl⟩:=(h.row 5 _ _ rfl rfl).form;obtain⟨a6,c6,rfl⟩:=(h.row 6 _ _ rfl rfl).form;obtain⟨a7,c7,rfl⟩:=(h.row 7 _ _ rfl rfl).form;exact⟨⟨a0,_,c0⟩,⟨a1,_,c1⟩,⟨a2,_,c2⟩,⟨a3,_,c3⟩,⟨a4,_,c4⟩,⟨a5,_,c5⟩,⟨a6,_,c6⟩,⟨a7,_,c7⟩,rfl⟩
theorem zc0 (v:Value) (ss:List Sp) (w:World) (hv:QK w v ss):
  Calls Tryz.prog 75 #[v] w fun e w'=>∃v',e= .returned v'/\ZB w.heap.size w' v' ss/\zc w w':=by
 obtain⟨xs,k1,k2,k3⟩:=hv;have HX:Hid (zo Zl w v xs):=k1;have HL:Hid (xs.length=ss.length):=k2;have HSP:Hid (∀(i:Nat) x s,xs[i]? =some x->ss[i]? =some s->qL w x s):=k3;have hbig:=k1.short;obtain⟨a,c,rfl,_⟩:=k1.rows;clear k1 k2 k3;obtain⟨n,HN⟩:∃n,Hid (xs.length=n):=⟨_,rfl⟩;rw[HN.out]at hbig HX⊢;have hcl:=zfn _ xs w HX.out
 go_enter Tryz.func75,Tryz.ntmps75
 go_wp2_with fail;refine hcl.mono ?_;clear hcl;rintro e W1 ⟨v1,rfl,ow1,g1⟩;obtain⟨xa,xc,rfl⟩:=ow1.form;rw[HN.out]at ow1⊢;have O1:Hid (zb Zl w.heap.size W1 (.slice xa n xc) xs):=ow1;have G1:Hid (zc w W1):=g1;clear ow1 g1;go_wp2
 go_loopg [10] n (fun gg s10 wr=>∃(kk:Nat) (ys:List SpV) (B:Nat->Nat),kk<=n/\n - kk<=gg/\s10= .int .i64 kk/\Hid (zc w wr)/\Hid (zb Zl w.heap.size wr (.slice xa n xc) ys)/\Hid (zau w.heap.size wr kk xs ys ss B))
 case atStart=>exact⟨0,xs,fun _=>W1.heap.size,nZ _,by omega,rfl,G1.out,O1.out,⟨rfl,fun i y f hi=>absurd hi (nL _),fun i _=>rfl,bS G1.out,fun i=>nR _,nR _⟩⟩
 obtain⟨kk,ys,B,hkk,hgg,rfl,BW,OW,HH⟩:=hrel;clear O1 G1
 by_cases hlt:kk<n
 ·have hltz:(kk:Int)< (n:Int):=by omega
  obtain⟨x,HXK⟩:∃x,Hid (xs[kk]? =some x):=⟨_,gE (by rw[HN.out];exact hlt)⟩
  obtain⟨s,HSK⟩:∃s,Hid (ss[kk]? =some s):=⟨_,gE (by rw[<-HL.out,HN.out];exact hlt)⟩
  have HAT:Hid (qL w x s):=HSP.out kk x s HXK.out HSK.out;have HY:Hid (ys[kk]? =some x):=show _=_ by rw[HH.out.rest kk (nR _)];exact HXK.out
  have HYL:Hid (ys.length=n):=show _=_ by rw[HH.out.len,HN.out]
  obtain⟨g,xc',heq⟩:=OW.out.formS (by rw[HYL.out];omega)
  rw[HYL.out]at heq;cases heq;have hce:zjs wr ((Addr.mk g 0 none).add (kk*10)) x:=(OW.out.one HY.out).sp10;rw[Addr.add_lit,zA]at hce;obtain⟨d0,d1,d2,d3,d4,d5,d6,d7,d8,d9⟩:=hce;have HGB:Hid (w.heap.size<=g):=show _<=_ from(OW.out.lt g rfl).1
  go_upto_region 5 with fail;clear d0 d1 d2 d3 d4 d5 d6 d7 d8 d9;obtain⟨W2,hW2⟩:∃W2,wr.alloc (.cells #[.bool x.live,.slice x.ar.a x.ar.n x.ar.c,.slice x.t0.a x.t0.n x.t0.c,.slice x.t1.a x.t1.n x.t1.c,.slice x.t2.a x.t2.n x.t2.c,.slice x.t3.a x.t3.n x.t3.c,.slice x.t4.a x.t4.n x.t4.c,.slice x.t5.a x.t5.n x.t5.c,.slice x.t6.a x.t6.n x.t6.c,.slice x.t7.a x.t7.n x.t7.c] 55)=W2:=⟨_,rfl⟩;have HG2:=gT hW2 BW
  have S2:=xA hW2
  have OW2:Hid (zb Zl w.heap.size W2 (.slice (some ⟨g,0,none⟩) n xc) ys):=show zb _ _ _ _ _ by rw[<-hW2];exact OW.out.grew (za _ _)
  have H2:Hid (zau w.heap.size W2 kk xs ys ss B):=show zau _ _ _ _ _ _ _ by rw[<-hW2];exact HH.out.grew (za _ _)
  have HGL:Hid (g<wr.heap.size):=show _<_ from(OW.out.lt g rfl).2
  rw[hW2];clear hW2;obtain⟨pb,HPB⟩:∃pb,Hid (wr.heap.size=pb):=⟨_,rfl⟩;rw[HPB.out]at S2 HGL⊢;have s1:=S2.out.c 1 rfl;have hca:=zfp (.slice x.ar.a x.ar.n x.ar.c) s.ars W2 (HAT.out.ar.grew HG2.out);go_wp2_with fail;refine hca.mono ?_;clear hca s1;rintro e W3 ⟨v3,rfl,ow3,g3⟩;have HCP:Hid (Cap v3):=ow3.cap;obtain⟨ra,rc,rfl⟩:=ow3.form;obtain⟨rn,HRN⟩:∃rn,Hid (s.ars.length=rn):=⟨_,rfl⟩;rw[HRN.out]at ow3⊢;have A3:Hid (zb arE W2.heap.size W3 (.slice ra rn rc) s.ars):=ow3;have HG3:=dD (HG2.out.trans g3);have S3:=dD (S2.out.grew g3);have OW3:=dD (OW2.out.grew g3);have H3:=dD (H2.out.grew g3);have HB2:Hid (B kk<=W2.heap.size):=H2.out.top;have HS2:Hid (W2.heap.size<=W3.heap.size):=show _<=_ from bS g3
  clear ow3 g3
  go_wp2_with (refine zu (E:=Zl) rfl (.tmp 21) (.tmp 19) 50 rfl w.heap.size _ ys OW3.out g kk 1 rfl x { x with ar:=⟨ra,rn,rc⟩ } HY.out [.slice ra rn rc] ?s1 rfl ?s2 ?s3 ⟨g,kk*10+1,none⟩ rfl rfl (.slice ra rn rc) rfl rfl ?_)
  case s1=>kernel_rfl
  case s2=>show 1+1<=10;omega
  case s3=>simp;rfl
  intro W4 ow4 gr4 sz4;have HK4:Hid (∃cs,W3.heap[g]? =some (.cells cs Zl.ty (0,0))):=OW3.out.obj rfl;have HG4:Hid (zc w W4):=show zc _ _ from zg HG3.out gr4 HGB.out
  have S4:Hid (Box W4 pb [.bool x.live,.slice x.ar.a x.ar.n x.ar.c,.slice x.t0.a x.t0.n x.t0.c,.slice x.t1.a x.t1.n x.t1.c,.slice x.t2.a x.t2.n x.t2.c,.slice x.t3.a x.t3.n x.t3.c,.slice x.t4.a x.t4.n x.t4.c,.slice x.t5.a x.t5.n x.t5.c,.slice x.t6.a x.t6.n x.t6.c,.slice x.t7.a x.t7.n x.t7.c]):=S3.out.grown gr4 (by have:=HGL.out;omega)
  have OW4:Hid (zb Zl w.heap.size W4 (.slice (some ⟨g,0,none⟩) n xc) (ys.set kk { x with ar:=⟨ra,rn,rc⟩ })):=ow4;have A4:Hid (zb arE W2.heap.size W4 (.slice ra rn rc) s.ars):=A3.out.grown gr4 (fun b hb e=>by
   cases e;exact OW3.out.apart A3.out Zq.1 g rfl hb)
  have H4:Hid (∀(i:Nat) y s',i<kk->ys[i]? =some y->ss[i]? =some s'->QM (B i) (B (i+1)) W4 y s'):=show∀(i:Nat) y s',_ from fun i y s' hi hy hs=>by
   obtain⟨cs,hcs⟩:=HK4.out;exact(H3.out.own i y s' hi hy hs).beside gr4 hcs Zq.1 Zq.2
  have HS4:Hid (W4.heap.size=W3.heap.size):=sz4;clear ow4 gr4 sz4;have hct:=zhj x.tab s.tb W4 (HAT.out.grew HG4.out).tb;have hct':Calls Tryz.prog 114 #[.agg #[.slice x.t0.a x.t0.n x.t0.c,.slice x.t1.a x.t1.n x.t1.c,.slice x.t2.a x.t2.n x.t2.c,.slice x.t3.a x.t3.n x.t3.c,.slice x.t4.a x.t4.n x.t4.c,.slice x.t5.a x.t5.n x.t5.c,.slice x.t6.a x.t6.n x.t6.c,.slice x.t7.a x.t7.n x.t7.c]] W4 fun e w'=>∃us,e= .returned (.agg us.toArray)/\jE (W4.heap.size+2) w' us s.tb/\zc W4 w'/\W4.heap.size+2<=w'.heap.size:=hct
  clear hct;have s2:=S4.out.c 2 rfl;have s3:=S4.out.c 3 rfl;have s4:=S4.out.c 4 rfl;have s5:=S4.out.c 5 rfl;have s6:=S4.out.c 6 rfl;have s7:=S4.out.c 7 rfl;have s8:=S4.out.c 8 rfl;have s9:=S4.out.c 9 rfl;go_wp2_with fail;refine hct'.mono ?_;clear hct' s2 s3 s4 s5 s6 s7 s8 s9;rintro e W5 ⟨us,rfl,ot5,g5,_⟩;obtain⟨t0,t1,t2,t3,t4,t5,t6,t7,rfl⟩:=ziq ot5;have T5:Hid (jE (W4.heap.size+2) W5 [t0.v,t1.v,t2.v,t3.v,t4.v,t5.v,t6.v,t7.v] s.tb):=ot5;have HG5:=dD (HG4.out.trans g5);have OW5:=dD (OW4.out.grew g5);have A5:=dD (A4.out.grew g5);have H5:Hid (∀(i:Nat) y s',i<kk->ys[i]? =some y->ss[i]? =some s'->QM (B i) (B (i+1)) W5 y s'):=show∀(i:Nat) y s',_ from fun i y s' hi hy hs=>(H4.out i y s' hi hy hs).grew g5
  have HS5:Hid (W4.heap.size<=W5.heap.size):=show _<=_ from bS g5
  clear ot5 g5;have HYS:Hid ((ys.set kk { x with ar:=⟨ra,rn,rc⟩ })[kk]? =some { x with ar:=⟨ra,rn,rc⟩ }):=show _=_ from sF (by rw[HYL.out];exact hlt)
  go_wp2_with (refine zu (E:=Zl) rfl (.tmp 28) (.tmp 26) 53 rfl w.heap.size _ _ OW5.out g kk 2 rfl { x with ar:=⟨ra,rn,rc⟩ } ⟨x.live,⟨ra,rn,rc⟩,t0,t1,t2,t3,t4,t5,t6,t7⟩ HYS.out [t0.v,t1.v,t2.v,t3.v,t4.v,t5.v,t6.v,t7.v] ?s1 rfl ?s2 ?s3 ⟨g,kk*10+2,none⟩ rfl rfl _ rfl rfl ?_)
  case s1=>kernel_rfl
  case s2=>show 2+8<=10;omega
  case s3=>
   intro u hu;simp only[mC,nM,or_false]at hu
   rcases hu with rfl | rfl | rfl | rfl | rfl | rfl | rfl | rfl <;> rfl
  intro W6 ow6 gr6 sz6;have HK6:Hid (∃cs,W5.heap[g]? =some (.cells cs Zl.ty (0,0))):=OW5.out.obj rfl;have HG6:Hid (zc w W6):=show zc _ _ from zg HG5.out gr6 HGB.out
  have OW6:Hid (zb Zl w.heap.size W6 (.slice (some ⟨g,0,none⟩) n xc) (ys.set kk ⟨x.live,⟨ra,rn,rc⟩,t0,t1,t2,t3,t4,t5,t6,t7⟩)):=ow6;have HF6:Hid (zau w.heap.size W6 (kk+1) xs (ys.set kk ⟨x.live,⟨ra,rn,rc⟩,t0,t1,t2,t3,t4,t5,t6,t7⟩) ss (fun i=>if i<=kk then B i else W5.heap.size)):=show zau _ _ _ _ _ _ _ by
   obtain⟨cs,hcs⟩:=HK6.out;have h5:zau w.heap.size W5 kk xs ys ss B:=⟨HH.out.len,H5.out,HH.out.rest,HH.out.b0,HH.out.mono,by have:=HB2.out;have:=HS2.out;have:=HS4.out;have:=HS5.out;omega⟩
   refine h5.step gr6 hcs sz6 HXK.out HSK.out ?_;have own5:QM (B kk) W5.heap.size W5 ⟨x.live,⟨ra,rn,rc⟩,t0,t1,t2,t3,t4,t5,t6,t7⟩ s:=⟨HAT.out.live,A5.out.base HB2.out,T5.out.base (by have:=HB2.out;have:=HS2.out;have:=HS4.out;omega),fun b hb=>(A5.out.lt b hb).2,fun i u hu b hb=>by
    obtain⟨y,hy⟩:∃y,s.tb[i]? =some y:=⟨_,gE (by rw[T5.out.tlen,<-T5.out.len];exact(gS.1 hu).1)⟩
    exact((T5.out.row i u y hu hy).lt b hb).2⟩
   exact own5.beside gr6 hcs Zq.1 Zq.2
  clear ow6 gr6 sz6;go_wp2
  go_roundg (n -(kk+1))
  case measure=>omega
  exact⟨kk+1,_,_,by omega,by omega,by go_num,HG6.out,OW6.out,HF6.out⟩
 have hltz:¬(kk:Int)< (n:Int):=by omega
 have:kk=n:=by omega
 subst this;have HA:Hid (ZB w.heap.size wr (.slice xa kk xc) ss):=show ZB _ _ _ _ by
  have h1:=HH.out;rw[<-HN.out]at h1;exact h1.all HL.out OW.out
 go_wp2;go_ret;exact⟨_,rfl,HA.out,BW.out⟩
theorem zbP (v:Value) (fs:List Fr) (w:World) (hv:zY w v fs):
  Calls Tryz.prog 108 #[v] w fun e w'=>∃v',e= .returned v'/\zh w.heap.size w' v' fs/\zc w w':=by
 have HV:Hid (zY w v fs):=hv;obtain⟨⟨a,c,rfl,hnone,hcells⟩,hbytes⟩:=hv;have q22:∀(w:World) (a:Option Addr) (n c n' c':Nat),(binOp .eql 26 (.slice a n c) (.slice none n' c')).run Tryz.prog w= .ok (.bool a.isNone) w:=fun w a n c n' c'=>Lib.run_eql_slice_nil w _ _ a n c n' c' Tryz.underlying26
 cases a with
 | none=>
  have hps:=hnone rfl;subst hps;clear hcells hnone hbytes HV
  go_enter Tryz.func108,Tryz.ntmps108
  go_wp2;go_ret;exact⟨_,rfl,zh.nil _ _,zc.refl w⟩
 | some x=>
  have HB:Hid (fs.length*40<=140737488355328):=hbytes;clear hcells hnone hbytes
  go_enter Tryz.func108,Tryz.ntmps108
  go_wp2_with (at_builtin;refine J0 rfl (.tmp 5) (.tmp 6) rfl w.heap.size _ [] rfl (zh.made w) _ fs rfl (HV.out.grew (za _ _)) ?qb (by simp) ?_)
  case qb=>rw[List.length_nil,zA];exact HB.out
  intro v' w1 hown hgrow;go_wp2;go_ret;exact⟨v',rfl,by simpa using hown,((bR _ w).alloc (nR _) _).grown hgrow (by simp) (by intro k hk;simp[Value.ownBlock]at hk;omega)⟩
theorem zcn (a:Option Addr) (c:Nat) (fs:List Fr) (h:Int) (w:World) (hv:zY w (.slice a fs.length c) fs):
  Calls Tryz.prog 70 #[.agg #[.slice a fs.length c,.int .i64 h]] w fun e w'=>∃b,e= .returned (.agg #[b,.int .i64 h])/\zh w.heap.size w' b fs/\zc w w':=by
 have HV:Hid (zY w (.slice a fs.length c) fs):=hv;clear hv;obtain⟨n,HN⟩:∃n,Hid (fs.length=n):=⟨_,rfl⟩;rw[HN.out]at HV⊢
 go_enter Tryz.func70,Tryz.ntmps70
 go_wp2;obtain⟨W1,hW⟩:∃W1,(w.alloc (.cells #[.slice a n c,.int .i64 h] 28)).alloc (.cells #[.slice none 0 0,.int .i64 0] 28)=W1:=⟨_,rfl⟩;have hg1:=gD2 hW
 have hsz:Hid (W1.heap.size=w.heap.size+2):=show W1.heap.size=_ by rw[<-hW];simp
 have X0:=x2a hW
 have X1:=x2b hW
 rw[hW];clear hW;have hx0:∀x:zx W1,x.world.cell? ⟨w.heap.size,0,none⟩=some (.slice a n c):=fun x=>(X0.out.grew x.grew).c 0 rfl
 have hx1:∀x:zx W1,x.world.cell? ⟨w.heap.size,1,none⟩=some (.int .i64 h):=fun x=>(X0.out.grew x.grew).c 1 rfl
 have hne:Nonempty (zx W1):=⟨⟨_,zc.refl _⟩⟩;refine Qv 6 [(2,⟨fun v=>∃a n c,v= .slice a n c,fun v w'=>zh (w.heap.size+2) w' v fs⟩)] qy (by kernel_rfl) rfl rfl (by decide) ?_ ?_ ?_
 ·intro x hx
  simp at hx
  subst hx;exact⟨_,none,0,0,rfl⟩
 ·intro x hx
  simp at hx
  subst hx;intro v w1 w2 hg h;exact h.grew hg
 simp only[List.take,List.drop];iterate 2 (refine zm rfl rfl rfl (fun K hK=>?_);go_big_quiet_op;refine hK _ ?_;clear hK K)
 refine zM rfl rfl (fun w' hg hF=>?_) (fun v1 hv=>?_)
 ·refine zL.call [.slice a n c] rfl Tryz.func108 rfl rfl rfl ?_;refine(zbP _ fs w' (HV.out.grew (hg1.out.trans hg))).mono ?_;rintro e w'' ⟨v2,rfl,hb,hg2⟩;obtain⟨a2,c2,rfl⟩:=hb.form;exact⟨_,rfl,hg2,⟨_,_,_,rfl⟩,hb.base (by have:=bS hg;rw[hsz.out]at this;exact this)⟩
 obtain⟨a1,n1,c1,rfl⟩:=hv;simp only[Act.put,sB,sS,sZ];iterate 3 (refine zm rfl rfl rfl (fun K hK=>?_);go_big_quiet_op;refine hK _ ?_;clear hK K)
 refine qU fun w' hg hF=>?_
 have ow1:Hid (zh (w.heap.size+2) w' (.slice a1 n1 c1) fs):=hF 2;have X2:=X1.out.grew hg;have m2:=X2.c 0 rfl;have m3:=X2.c 1 rfl;have g2:=X2.f;have HG:=dD (hg1.out.trans hg);clear hF hx0 hx1 hg hne X2;go_wp2;refine bodyPost_ret (v:= .agg #[.slice a1 n1 c1,.int .i64 h]) (by simp[results,Tryz.results70,go_sem, *]) rfl ⟨_,rfl,((ow1.out.setCell (by simp) _).setCell (by simp) _).base (by omega),?_⟩
 exact Below.setCell (Below.setCell HG.out (p:=⟨w.heap.size+1,0,none⟩) (by simp) _) (p:=⟨w.heap.size+1,1,none⟩) (by simp) _
end
end Go.Proofs.YtdgccecjbpgmfaaGreat
