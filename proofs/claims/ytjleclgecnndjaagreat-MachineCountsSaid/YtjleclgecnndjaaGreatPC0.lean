import Derived.Orders
import Derived.Below
import Derived.Deep.QuietTactic
import Derived.BigQuiet
import Derived.Test.YtjleclgecnndjaaGreatProg
import Derived.WalkKit
import Derived.Deep.LoopGhost
import Derived.Deep.Slices
import Derived.Laws.AppendOwn
import Derived.Lib.Walk
import Derived.Lib.SliceRun
import Derived.Laws.CopyRow
import Derived.Laws.CopyOwn
import Derived.Laws.MakeOwn
import Derived.Laws.OwnMore
import Derived.Shelf.Abstract
import Derived.WalkSmall
import Derived.Deep.Cut
import Derived.ChangeKeysEq
import Derived.Laws.StructEq
import Derived.ArgAppend
namespace Go.Proofs.YtjleclgecnndjaaGreat
set_option maxRecDepth 100000
set_option maxHeartbeats 4000000
section
structure Pg where
 (b0 b1 b2 b3 b4 b5 b6 b7 : Int)
structure Fr where
 p : Pg
 r : Int
 u : Bool
 d : Bool
 f : Int
 x : Int
def pg0 : Pg:=⟨0,0,0,0,0,0,0,0⟩
def fr0 : Fr:=⟨pg0,0,false,false,0,0⟩
def frF : Fr:=⟨pg0,0,false,false,-1,0⟩
def pgEqB (p q : Pg) : Bool:=(p.b0 == q.b0) && (p.b1 == q.b1) && (p.b2 == q.b2) && (p.b3 == q.b3) && (p.b4 == q.b4) && (p.b5 == q.b5) && (p.b6 == q.b6) && (p.b7 == q.b7)
theorem pgEqB_iff (p q : Pg) : pgEqB p q = true↔p = q:=by
 obtain ⟨a0,a1,a2,a3,a4,a5,a6,a7⟩:=p;obtain ⟨c0,c1,c2,c3,c4,c5,c6,c7⟩:=q
 simp [pgEqB,and_assoc]
def frEqB (a b : Fr) : Bool:=pgEqB a.p b.p && (a.r == b.r) && (a.u == b.u) && (a.d == b.d) && (a.f == b.f) && (a.x == b.x)
theorem frEqB_iff (a b : Fr) : frEqB a b = true↔a = b:=by
 obtain ⟨p,r,u,d,f,x⟩:=a;obtain ⟨p',r',u',d',f',x'⟩:=b
 simp [frEqB,pgEqB_iff,and_assoc]
def inB (m n : Int) : Bool:=decide (0≤m) && decide (m < n)
def frW (a : Fr) : Int:=if (inB a.r 1001 && inB a.x 12) = false then 3 else if (!(a.f == -1) && !inB a.f 5) = true then 3 else if (a.r == 0 && !frEqB a frF || a.f == -1 && !(a.x == 0)) = true then 7 else 0
def frsW : List Fr→Int
 | []=>0
 | a :: l=>if frW a = 0 then frsW l else frW a
def memW (fs : List Fr) (h : Int) : Int:=if 40 < fs.length then 4 else if frsW fs = 0 then (if inB h (max fs.length 1) then 0 else 3) else frsW fs
def badS (z : Int) : Bool:=decide (z < 0) || decide (1000 < z)
def slW (s : List Int) : Int:=if 60 < s.length then 4 else if s.any badS then 3 else 0
def dkInB (at_ : Int) (n : Nat) : Bool:=decide (0≤at_) && decide (at_ < n)
def wrongL (n : Nat) (qs : List (Int × List Int)) : Int:=if 80 < n then 4 else if 400 < qs.length then 4 else if qs.any (fun q=>!dkInB q.1 n) then 3 else 0
def wrongAtL (n : Nat) (qs : List (Int × List Int)) (m : Int) : Int:=if wrongL n qs = 0 then (if dkInB m n then 0 else 3) else wrongL n qs
def zero8 : List Int:=[0,0,0,0,0,0,0,0]
def readL (ps : List (List Int)) (qs : List (Int × List Int)) (m : Int) : List Int :=
 if wrongAtL ps.length qs m = 0 then (match qs.reverse.find? (fun q=>q.1 == m) with | some q=>q.2 | none=>ps.getD m.toNat zero8) else zero8
structure Fl where
 size : Int
 bl : List Int
def cntP (n : Int) : Int:=if n < 1 then 0 else (n - 1) / 8 + 1
def giveE (cnt : Int) (g : List Int) (b : Int) : Int:=if b = -1 then 0 else if 0≤b∧b < cnt then (if g.contains b then 7 else 0) else 3
def giveG (g : List Int) (b : Int) : List Int:=if b = -1 then g else b :: g
def blW (cnt : Int) : List Int→List Int→Int
 | _,[]=>0
 | g,b :: l=>if giveE cnt g b = 0 then blW cnt (giveG g b) l else giveE cnt g b
def blG (g : List Int) (l : List Int) : List Int:=l.foldl giveG g
def flW (cnt : Int) (g : List Int) (f : Fl) : Int:=if 0≤f.size∧f.size≤96 then (if (f.bl.length : Int) = cntP f.size then blW cnt g f.bl else 2) else 3
def flsW (cnt : Int) : List Int→List Fl→Int
 | _,[]=>0
 | g,f :: l=>if flW cnt g f = 0 then flsW cnt (blG g f.bl) l else flW cnt g f
def stW (fs : List Fl) (cnt : Int) : Int:=if fs.length≤5∧0≤cnt∧cnt≤80 then flsW cnt [] fs else 4
def usedB (fs : List Fl) (b : Int) : Bool:=fs.any fun f=>f.bl.contains b
theorem cntP_nat {n : Int} (h0 : 0≤n) (h1 : n≤96) : 0≤cntP n∧cntP n≤12:=by
 unfold cntP
 split <;> omega
theorem giveE_cases (cnt : Int) (g : List Int) (b : Int) :
  (b = -1∧giveE cnt g b = 0∧giveG g b = g) ∨
  (b≠-1∧¬ (0≤b∧b < cnt)∧giveE cnt g b = 3) ∨
  (∃ i : Nat,b = (i : Int)∧b < cnt∧g.contains b = true∧giveE cnt g b = 7) ∨
  (∃ i : Nat,b = (i : Int)∧b < cnt∧g.contains b = false∧giveE cnt g b = 0∧giveG g b = b :: g):=by
 by_cases h1 : b = -1
 ·exact .inl ⟨h1,by unfold giveE; rw [if_pos h1],by unfold giveG; rw [if_pos h1]⟩
 ·by_cases h2 : 0≤b∧b < cnt
  ·obtain ⟨i,hi⟩ : ∃ i : Nat,b = (i : Int):=⟨b.toNat,by omega⟩
   cases h3 : g.contains b with
   | true=>exact .inr (.inr (.inl ⟨i,hi,h2.2,rfl,by unfold giveE; rw [if_neg h1,if_pos h2,if_pos h3]⟩))
   | false=>exact .inr (.inr (.inr ⟨i,hi,h2.2,rfl,by unfold giveE; rw [if_neg h1,if_pos h2,if_neg (by rw [h3]; decide)],by unfold giveG; rw [if_neg h1]⟩))
  ·exact .inr (.inl ⟨h1,h2,by unfold giveE; rw [if_neg h1,if_neg h2]⟩)
theorem giveE_range (cnt : Int) (g : List Int) (b : Int) : giveE cnt g b = 0∨giveE cnt g b = 3∨giveE cnt g b = 7:=by
 rcases giveE_cases cnt g b with ⟨_,h,_⟩ | ⟨_,_,h⟩ | ⟨_,_,_,_,h⟩ | ⟨_,_,_,_,h,_⟩ <;> omega
theorem blW_range (cnt : Int) : ∀ (l g : List Int),blW cnt g l = 0∨blW cnt g l = 3∨blW cnt g l = 7
 | [],g => .inl rfl
 | b :: l,g=>by
  unfold blW
  split
  ·exact blW_range cnt l _
  ·exact giveE_range cnt g b
theorem flW_range (cnt : Int) (g : List Int) (f : Fl) : 0≤flW cnt g f∧flW cnt g f≤7:=by
 have:=blW_range cnt f.bl g;unfold flW
 split
 ·split <;> omega
 ·omega
theorem flsW_range (cnt : Int) : ∀ (l : List Fl) (g : List Int),0≤flsW cnt g l∧flsW cnt g l≤7
 | [],g=>by simp [flsW]
 | f :: l,g=>by
  unfold flsW
  split
  ·exact flsW_range cnt l _
  ·exact flW_range cnt g f
def real (l : List Int) : List Int:=l.filter (·≠-1)
theorem mem_blG (b : Int) (hb : b≠-1) : ∀ (l g : List Int),b∈blG g l↔b∈g∨b∈l
 | [],g=>by simp [blG]
 | c :: l,g=>by
  have ih:=mem_blG b hb l (giveG g c);unfold blG at ih ⊢;rw [List.foldl_cons,ih];unfold giveG
  split
  ·rename_i h
   simp;constructor
   ·rintro (h | h) <;> simp [h]
   ·rintro (h1 | h1 | h1)
    ·exact .inl h1
    ·exact absurd (h1.trans h) hb
    ·exact .inr h1
  ·simp;constructor
   ·rintro ((h | h) | h) <;> simp [h]
   ·rintro (h | h | h) <;> simp [h]
theorem blW_zero (cnt : Int) : ∀ (l g : List Int),blW cnt g l = 0↔(∀ b∈l,b = -1∨(0≤b∧b < cnt))∧(∀ b∈l,b≠-1→b ∉ g)∧(real l).Nodup
 | [],g=>by simp [blW,real]
 | b :: l,g=>by
  unfold blW
  rcases giveE_cases cnt g b with ⟨h1,h2,h3⟩ | ⟨h1,h2,h3⟩ | ⟨i,h1,h2,h3,h4⟩ | ⟨i,h1,h2,h3,h4,h5⟩
  ·rw [if_pos h2,h3,blW_zero cnt l g];subst h1
   simp [real]
  ·rw [if_neg (by omega),h3]
   constructor
   ·intro h; omega
   ·rintro ⟨h,_⟩
    rcases h b (by simp) with h | h
    ·exact absurd h h1
    ·exact absurd h h2
  ·rw [if_neg (by omega),h4]
   constructor
   ·intro h; omega
   ·rintro ⟨_,h,_⟩;exact absurd (by simpa using h3) (h b (by simp) (by omega))
  ·rw [if_pos h4,h5,blW_zero cnt l (b :: g)];have hb : b≠-1:=by omega
   have hg : b ∉ g:=by simpa using h3
   constructor
   ·rintro ⟨k1,k2,k3⟩;refine ⟨fun c hc=>?_,fun c hc h=>?_,?_⟩
    ·rcases List.mem_cons.1 hc with rfl | hc
     ·exact .inr ⟨by omega,h2⟩
     ·exact k1 c hc
    ·rcases List.mem_cons.1 hc with rfl | hc
     ·exact hg
     ·exact fun h'=>k2 c hc h (by simp [h'])
    ·unfold real;rw [List.filter_cons_of_pos (by simpa using hb)]
     refine List.nodup_cons.2 ⟨fun h=>?_,k3⟩
     obtain ⟨h',_⟩:=List.mem_filter.1 h;exact k2 b h' hb (by simp)
   ·rintro ⟨k1,k2,k3⟩;unfold real at k3;rw [List.filter_cons_of_pos (by simpa using hb)] at k3
    obtain ⟨k4,k5⟩:=List.nodup_cons.1 k3;refine ⟨fun c hc=>k1 c (by simp [hc]),fun c hc h h'=>?_,k5⟩
    rcases List.mem_cons.1 h' with rfl | h'
    ·exact k4 (List.mem_filter.2 ⟨hc,by simpa using hb⟩)
    ·exact k2 c (by simp [hc]) h h'
def FlOk (cnt : Int) (f : Fl) : Prop:=(0≤f.size∧f.size≤96)∧(f.bl.length : Int) = cntP f.size∧∀ b∈f.bl,b = -1∨(0≤b∧b < cnt)
def allB (fs : List Fl) : List Int:=fs.flatMap fun f=>f.bl
theorem flW_zero (cnt : Int) (g : List Int) (f : Fl) : flW cnt g f = 0↔FlOk cnt f∧(∀ b∈f.bl,b≠-1→b ∉ g)∧(real f.bl).Nodup:=by
 unfold flW FlOk;constructor
 ·intro h
  split at h
  ·rename_i h1
   split at h
   ·rename_i h2
    have:=(blW_zero cnt f.bl g).1 h;exact ⟨⟨h1,h2,this.1⟩,this.2⟩
   ·omega
  ·omega
 ·rintro ⟨⟨h1,h2,h3⟩,h4⟩;rw [if_pos h1,if_pos h2];exact (blW_zero cnt f.bl g).2 ⟨h3,h4⟩
theorem flsW_zero (cnt : Int) : ∀ (fs : List Fl) (g : List Int),flsW cnt g fs = 0↔(∀ f∈fs,FlOk cnt f)∧(∀ b∈allB fs,b≠-1→b ∉ g)∧(real (allB fs)).Nodup
 | [],g=>by simp [flsW,allB,real]
 | f :: l,g=>by
  unfold flsW;have key : (flW cnt g f = 0∧flsW cnt (blG g f.bl) l = 0)↔(∀ f'∈f :: l,FlOk cnt f')∧(∀ b∈allB (f :: l),b≠-1→b ∉ g)∧(real (allB (f :: l))).Nodup:=by
   rw [flW_zero,flsW_zero cnt l];unfold allB real;rw [List.flatMap_cons,List.filter_append,List.nodup_append];constructor
   ·rintro ⟨⟨h1,h2,h3⟩,h4,h5,h6⟩;refine ⟨fun f' hf=>?_,fun b hb hb1=>?_,h3,h6,fun a ha b hb=>?_⟩
    ·rcases List.mem_cons.1 hf with rfl | hf
     ·exact h1
     ·exact h4 f' hf
    ·rcases List.mem_append.1 hb with hb | hb
     ·exact h2 b hb hb1
     ·exact fun h=>h5 b hb hb1 ((mem_blG b hb1 _ _).2 (.inl h))
    ·rintro rfl;obtain ⟨ha1,ha2⟩:=List.mem_filter.1 ha;obtain ⟨hb1,_⟩:=List.mem_filter.1 hb;have hn : a≠-1:=by simpa using ha2
     exact h5 a hb1 hn ((mem_blG a hn _ _).2 (.inr ha1))
   ·rintro ⟨h1,h2,h3,h4,h5⟩;refine ⟨⟨h1 f (by simp),fun b hb=>h2 b (List.mem_append.2 (.inl hb)),h3⟩,fun f' hf=>h1 f' (by simp [hf]),fun b hb hb1 h=>?_,h4⟩
    rcases (mem_blG b hb1 _ _).1 h with h | h
    ·exact h2 b (List.mem_append.2 (.inr hb)) hb1 h
    ·exact h5 b (List.mem_filter.2 ⟨h,by simpa using hb1⟩) b (List.mem_filter.2 ⟨hb,by simpa using hb1⟩) rfl
  split
  ·rename_i h
   rw [←key];exact ⟨fun h'=>⟨h,h'⟩,fun h'=>h'.2⟩
  ·rename_i h
   rw [←key];exact ⟨fun h'=>absurd h' h,fun h'=>absurd h'.1 h⟩
theorem stW_zero (fs : List Fl) (cnt : Int) : stW fs cnt = 0↔(fs.length≤5∧0≤cnt∧cnt≤80)∧(∀ f∈fs,FlOk cnt f)∧(real (allB fs)).Nodup:=by
 unfold stW
 split
 ·rename_i h
  rw [flsW_zero]
  simp [h]
 ·rename_i h
  simp [h]
theorem used_iff (fs : List Fl) (b : Int) : usedB fs b = true↔b∈allB fs:=by
 simp [usedB,allB]
structure En where
 kind : Int
 n : Int
 wr : Bool
def en0 : En:=⟨0,0,false⟩
def enS (e : En) : Bool:=e.kind != 0
def enW (e : En) : Int :=
 if 0≤e.kind∧e.kind≤2 then
  (if 0≤e.n∧e.n≤59∧(e.kind = 1→e.n≤39) then
   (if (e.kind = 0∧(e.n≠0∨e.wr = true))∨(e.kind = 2∧e.wr = true) then 7 else 0)
  else 3)
 else 1
def esW : List En→Int
 | []=>0
 | e :: l=>if enW e = 0 then esW l else enW e
def anyS (l : List En) : Bool:=l.any enS
def haW (h : List En) : Int:=if h.length = 0 then 0 else if h.length = 8 then (if esW h = 0 then (if anyS h = true then 0 else 2) else esW h) else 2
def tbW : List (List En)→Int
 | []=>0
 | h :: t=>if haW h = 0 then tbW t else haW h
def getN (t : List (List En)) (i k : Nat) : En:=((t[i]?.getD [])[k]?).getD en0
def getT (t : List (List En)) (n : Int) : En:=if 0≤n∧n < 64 then getN t (n.toNat / 8) (n.toNat % 8) else en0
def mk (l : List En) : List En:=if anyS l = true then l else []
def none8 : List (List En):=List.replicate 8 []
def chunk (l : List En) (i : Nat) : List En:=(List.range 8).map fun k=>l[8 * i + k]?.getD en0
def tableOf (l : List En) : List (List En):=(List.range 8).map fun i=>mk (chunk l i)
def pagesTo (t : List (List En)) (f : En→Bool) (m : Nat) : List Int:=((List.range m).filter fun n=>enS (getN t (n / 8) (n % 8)) && f (getN t (n / 8) (n % 8))).map fun (n : Nat)=>(n : Int)
theorem enW_zero {e : En} (h : enW e = 0) : (0≤e.kind∧e.kind≤2)∧(0≤e.n∧e.n≤59∧(e.kind = 1→e.n≤39))∧¬ ((e.kind = 0∧(e.n≠0∨e.wr = true))∨(e.kind = 2∧e.wr = true)):=by
 unfold enW at h
 by_cases h1 : 0≤e.kind∧e.kind≤2
 ·rw [if_pos h1] at h
  by_cases h2 : 0≤e.n∧e.n≤59∧(e.kind = 1→e.n≤39)
  ·rw [if_pos h2] at h
   by_cases h3 : (e.kind = 0∧(e.n≠0∨e.wr = true))∨(e.kind = 2∧e.wr = true)
   ·rw [if_pos h3] at h;omega
   ·exact ⟨h1,h2,h3⟩
  ·rw [if_neg h2] at h;omega
 ·rw [if_neg h1] at h;omega
theorem enW_of {e : En} (h1 : 0≤e.kind∧e.kind≤2) (h2 : 0≤e.n∧e.n≤59∧(e.kind = 1→e.n≤39)) (h3 : ¬ ((e.kind = 0∧(e.n≠0∨e.wr = true))∨(e.kind = 2∧e.wr = true))) : enW e = 0:=by
 unfold enW;rw [if_pos h1,if_pos h2,if_neg h3]
theorem enW_0 : enW en0 = 0:=by decide
theorem en_none {e : En} (h : enW e = 0) (hs : enS e = false) : e = en0:=by
 obtain ⟨h1,h2,h3⟩:=enW_zero h;obtain ⟨k,n,w⟩:=e
 simp [enS] at hs
 subst hs
 simp at h3
 obtain ⟨rfl,h4⟩:=h3;cases w
 ·rfl
 ·simp at h4
theorem esW_zero {l : List En} : esW l = 0↔∀ e∈l,enW e = 0:=by
 induction l with
 | nil=>simp [esW]
 | cons e l ih =>
  unfold esW
  by_cases h : enW e = 0
  ·rw [if_pos h,ih]
   simp [h]
  ·rw [if_neg h]
   simp [h]
def HaOk (h : List En) : Prop:=h = []∨(h.length = 8∧(∀ e∈h,enW e = 0)∧anyS h = true)
theorem haW_zero {h : List En} : haW h = 0↔HaOk h:=by
 unfold haW HaOk
 by_cases h0 : h.length = 0
 ·rw [if_pos h0];have : h = []:=List.length_eq_zero_iff.1 h0
  simp [this]
 ·have hn : h≠[]:=fun e=>h0 (by rw [e]; rfl)
  rw [if_neg h0]
  by_cases h8 : h.length = 8
  ·rw [if_pos h8]
   by_cases h1 : esW h = 0
   ·rw [if_pos h1];have h2:=esW_zero.1 h1
    by_cases h3 : anyS h = true
    ·rw [if_pos h3]
     simp [h8,h3,hn]
     exact h2
    ·rw [if_neg h3]
     simp [hn,h3]
   ·rw [if_neg h1];simp only [h1,hn,false_or,false_iff];exact fun h=>h1 (esW_zero.2 h.2.1)
  ·rw [if_neg h8]
   simp [hn,h8]
theorem tbW_zero {t : List (List En)} : tbW t = 0↔∀ h∈t,HaOk h:=by
 induction t with
 | nil=>simp [tbW]
 | cons h t ih =>
  unfold tbW
  by_cases h0 : haW h = 0
  ·rw [if_pos h0,ih]
   simp [haW_zero.1 h0]
  ·rw [if_neg h0];simp only [h0,List.mem_cons,forall_eq_or_imp,false_iff];exact fun hh=>h0 (haW_zero.2 hh.1)
theorem HaOk.get {h : List En} (hh : HaOk h) (k : Nat) : enW (h[k]?.getD en0) = 0:=by
 rcases hh with rfl | ⟨_,h2,_⟩
 ·exact enW_0
 ·cases hq : h[k]? with
  | none=>exact enW_0
  | some x=>exact h2 x (List.mem_of_getElem? hq)
theorem mk_get (l : List En) (hl : ∀ e∈l,enW e = 0) (k : Nat) : (mk l)[k]?.getD en0 = l[k]?.getD en0:=by
 unfold mk
 by_cases h : anyS l = true
 ·rw [if_pos h]
 ·rw [if_neg h]
  cases hq : l[k]? with
  | none=>simp
  | some x =>
   have hm:=List.mem_of_getElem? hq;have : enS x = false:=by
    cases hs : enS x with
    | false=>rfl
    | true=>exact absurd (List.any_eq_true.2 ⟨x,hm,hs⟩) h
   simp [en_none (hl x hm) this]
theorem mk_ok {l : List En} (h8 : l.length = 8) (hl : ∀ e∈l,enW e = 0) : HaOk (mk l):=by
 unfold mk
 by_cases h : anyS l = true
 ·rw [if_pos h];exact .inr ⟨h8,hl,h⟩
 ·rw [if_neg h];exact .inl rfl
theorem pagesTo_succ (t : List (List En)) (f : En→Bool) (m : Nat) : pagesTo t f (m + 1) = if enS (getN t (m / 8) (m % 8)) && f (getN t (m / 8) (m % 8)) then pagesTo t f m ++ [(m : Int)] else pagesTo t f m:=by
 unfold pagesTo;rw [List.range_succ,List.filter_append,List.map_append]
 split
 ·rename_i h
  simp [h]
 ·rename_i h
  simp [h]
theorem pagesTo_len (t : List (List En)) (f : En→Bool) : ∀ m,(pagesTo t f m).length≤m
 | 0=>by simp [pagesTo]
 | m + 1=>by
  rw [pagesTo_succ];have:=pagesTo_len t f m
  split
  ·simp; omega
  ·omega
structure Ar where
 fr : Int
 tz : Int
 rd : Bool
 wr : Bool
 sh : Bool
 file : Int
 base : Int
structure On where
 is : Bool
 rd : Bool
 wr : Bool
 sh : Bool
 file : Int
 page : Int
def on0 : On:=⟨false,false,false,false,0,0⟩
def ar0 : Ar:=⟨0,0,false,false,false,0,0⟩
def ArOk (a : Ar) : Prop:=0≤a.fr∧a.fr < a.tz∧a.tz≤64∧-1≤a.file∧a.file < 5∧0≤a.base∧(a.file < 0→a.base = 0∧a.sh = false)∧(0≤a.file→a.base≤12 - (a.tz - a.fr))
def arW (a : Ar) : Int :=
 if a.fr < 0∨a.tz≤a.fr∨64 < a.tz∨a.file < -1∨5≤a.file∨a.base < 0 then 3
 else if a.file < 0 then (if a.base≠0∨a.sh = true then 7 else 0)
 else if 12 - (a.tz - a.fr) < a.base then 7 else 0
theorem arW_zero {a : Ar} : arW a = 0↔ArOk a:=by
 unfold arW ArOk;obtain ⟨fr,tz,rd,wr,sh,file,base⟩:=a;simp only;constructor
 ·intro h
  (repeat' split at h) <;> first | omega | skip
  ·rename_i h1 h2 h3
   cases sh
   ·simp at h3 ⊢
    omega
   ·simp at h3
 ·intro ⟨h1,h2,h3,h4,h5,h6,h7,h8⟩;rw [if_neg (by omega)]
  by_cases h9 : file < 0
  ·rw [if_pos h9,if_neg (by rintro (h | h); exact h (h7 h9).1; rw [(h7 h9).2] at h; cases h)]
  ·rw [if_neg h9,if_neg (by omega)]
def goB (a b : Ar) : Bool:=decide (a.fr = b.tz) && (a.rd == b.rd) && (a.wr == b.wr) && (a.sh == b.sh) && decide (a.file = b.file) && decide (a.base = if 0≤b.file then b.base + (b.tz - b.fr) else b.base)
theorem goB_iff {a b : Ar} : goB a b = true↔a.fr = b.tz∧a.rd = b.rd∧a.wr = b.wr∧a.sh = b.sh∧a.file = b.file∧a.base = if 0≤b.file then b.base + (b.tz - b.fr) else b.base:=by
 simp [goB,and_assoc]
def Link (b a : Ar) : Prop:=b.tz≤a.fr∧goB a b = false
def CanP : Option Ar→List Ar→Prop
 | _,[]=>True
 | p,a :: l=>ArOk a∧(∀ b,p = some b→Link b a)∧CanP (some a) l
def arIn (a : Ar) (n : Nat) : Bool:=decide (a.fr≤(n : Int)) && decide ((n : Int) < a.tz)
theorem arIn_iff {a : Ar} {n : Nat} : arIn a n = true↔a.fr≤(n : Int)∧(n : Int) < a.tz:=by simp [arIn]
theorem arIn_no {a : Ar} {n : Nat} (h : ¬ (a.fr≤(n : Int)∧(n : Int) < a.tz)) : arIn a n = false:=by
 cases hb : arIn a n with
 | false=>rfl
 | true=>exact absurd (arIn_iff.1 hb) h
def oneOf (a : Ar) (n : Nat) : On:=⟨true,a.rd,a.wr,a.sh,a.file,if 0≤a.file then a.base + ((n : Int) - a.fr) else 0⟩
def onAt : List Ar→Nat→On
 | [],_=>on0
 | a :: l,n=>if arIn a n = true then oneOf a n else onAt l n
def arOf (n : Nat) (x : On) : Ar:=if x.is = true then ⟨n,n + 1,x.rd,x.wr,x.sh,x.file,x.page⟩ else ar0
theorem CanP.low : ∀ {l : List Ar} {p : Option Ar} {a : Ar} {n : Nat},CanP p l→p = some a→(n : Int) < a.tz→onAt l n = on0
 | [],_,_,_,_,_,_=>rfl
 | b :: l,p,a,n,h,hp,hn=>by
  have h1:=h.2.1 a hp;have h2:=h.1;unfold Link at h1;unfold ArOk at h2;unfold onAt;rw [if_neg (by rw [arIn_iff]; omega)]
  exact h.2.2.low rfl (by omega)
theorem CanP.head {l : List Ar} {p : Option Ar} {a : Ar} {n : Nat} (h : CanP p (a :: l)) (hn : (n : Int) < a.fr) : onAt (a :: l) n = on0:=by
 have h2:=h.1;unfold ArOk at h2;unfold onAt;rw [if_neg (by rw [arIn_iff]; omega)]
 exact h.2.2.low rfl (by omega)
theorem onAt_in {a : Ar} {l : List Ar} {n : Nat} (h : a.fr≤(n : Int)) (h' : (n : Int) < a.tz) : onAt (a :: l) n = oneOf a n:=by
 unfold onAt;rw [if_pos (by rw [arIn_iff]; omega)]
theorem onAt_out {a : Ar} {l : List Ar} {n : Nat} (h : (n : Int) < a.fr∨a.tz≤(n : Int)) : onAt (a :: l) n = onAt l n:=by
 rw [onAt,if_neg (by rw [arIn_iff]; omega)]
theorem oneOf_is (a : Ar) (n : Nat) : (oneOf a n).is = true:=rfl
theorem on_ne {a : Ar} {n : Nat} (h : oneOf a n = on0) : False:=by
 have:=congrArg On.is h
 simp [on0,oneOf] at this
theorem CanP.next {l : List Ar} {a b : Ar} {n : Nat} (h : CanP (some a) l) (hn : (n : Int) = a.tz) (hb : onAt l n = oneOf b n) : ∃ c m,l = c :: m∧c.fr = (n : Int)∧oneOf c n = oneOf b n∧Link a c:=by
 cases l with
 | nil=>exact (on_ne hb.symm).elim
 | cons c m =>
  have h1:=h.2.1 a rfl;have h3:=h.1;unfold ArOk at h3
  by_cases h2 : (n : Int) < c.fr
  ·rw [h.head h2] at hb;exact (on_ne hb.symm).elim
  ·have : c.fr = (n : Int):=by unfold Link at h1; omega
   rw [onAt_in (by omega) (by omega)] at hb
   exact ⟨c,m,rfl,this,hb,h1⟩
theorem oneOf_eq {a b : Ar} {n : Nat} (h : oneOf a n = oneOf b n) : a.rd = b.rd∧a.wr = b.wr∧a.sh = b.sh∧a.file = b.file∧(0≤a.file→a.base + ((n : Int) - a.fr) = b.base + ((n : Int) - b.fr)):=by
 unfold oneOf at h;simp only [On.mk.injEq,true_and] at h;obtain ⟨h1,h2,h3,h4,h5⟩:=h;refine ⟨h1,h2,h3,h4,fun h6=>?_⟩
 rw [if_pos h6,if_pos (by omega)] at h5
 exact h5
theorem ext_to {p : Option Ar} {l m : List Ar} {a b : Ar} (ha : CanP p (a :: l)) (hb : CanP p (b :: m)) (he : ∀ n : Nat,n < 64→onAt (a :: l) n = onAt (b :: m) n) (hf : a.fr = b.fr) (h1 : a.rd = b.rd∧a.wr = b.wr∧a.sh = b.sh∧a.file = b.file∧a.base = b.base) : ¬ a.tz < b.tz:=by
 intro hlt;have h2:=ha.1;have h3:=hb.1;unfold ArOk at h2 h3;obtain ⟨n,hn⟩ : ∃ n : Nat,(n : Int) = a.tz:=⟨a.tz.toNat,by omega⟩
 have h4:=he n (by omega)
 rw [onAt_out (by omega),onAt_in (a:=b) (by omega) (by omega)] at h4
 obtain ⟨c,k,rfl,h5,h6,h7⟩:=ha.2.2.next hn h4;obtain ⟨g1,g2,g3,g4,g5⟩:=oneOf_eq h6;have h8:=ha.2.2.1;unfold ArOk at h8;have : goB c a = true:=by
  rw [goB_iff];refine ⟨by omega,by rw [g1,h1.1],by rw [g2,h1.2.1],by rw [g3,h1.2.2.1],by omega,?_⟩
  split <;> omega
 rw [h7.2] at this;cases this
theorem can_ext : ∀ {l m : List Ar} {p : Option Ar},CanP p l→CanP p m→(∀ n : Nat,n < 64→onAt l n = onAt m n)→l = m
 | [],[],_,_,_,_=>rfl
 | [],b :: m,_,_,hm,he=>by
  have h3:=hm.1;unfold ArOk at h3;have:=he b.fr.toNat (by omega)
  rw [onAt_in (a:=b) (by omega) (by omega)] at this
  exact (on_ne this.symm).elim
 | a :: l,[],_,hl,_,he=>by
  have h3:=hl.1;unfold ArOk at h3;have:=he a.fr.toNat (by omega)
  rw [onAt_in (a:=a) (by omega) (by omega)] at this
  exact (on_ne this).elim
 | a :: l,b :: m,p,hl,hm,he=>by
  have h2:=hl.1;have h3:=hm.1;unfold ArOk at h2 h3;have hf : a.fr = b.fr:=by
   rcases Int.lt_trichotomy a.fr b.fr with h | h | h
   ·have:=he a.fr.toNat (by omega)
    rw [onAt_in (a:=a) (by omega) (by omega),hm.head (by omega)] at this
    exact (on_ne this).elim
   ·exact h
   ·have:=he b.fr.toNat (by omega)
    rw [onAt_in (a:=b) (by omega) (by omega),hl.head (by omega)] at this
    exact (on_ne this.symm).elim
  have h4:=he a.fr.toNat (by omega)
  rw [onAt_in (a:=a) (by omega) (by omega),onAt_in (a:=b) (by omega) (by omega)] at h4
  obtain ⟨g1,g2,g3,g4,g5⟩:=oneOf_eq h4;have hb : a.base = b.base:=by
   rcases Int.lt_or_le a.file 0 with h | h
   ·omega
   ·have:=g5 h; omega
  have ht : a.tz = b.tz:=by
   have t1:=ext_to hl hm he hf ⟨g1,g2,g3,g4,hb⟩;have t2:=ext_to hm hl (fun n hn=>(he n hn).symm) hf.symm ⟨g1.symm,g2.symm,g3.symm,g4.symm,hb.symm⟩
   omega
  have hab : a = b:=by
   obtain ⟨_,_,_,_,_,_,_⟩:=a;obtain ⟨_,_,_,_,_,_,_⟩:=b;simp only at hf ht g1 g2 g3 g4 hb;subst hf ht g1 g2 g3 g4 hb;rfl
  subst hab;have : l = m:=can_ext hl.2.2 hm.2.2 fun n hn=>by
   by_cases h : (n : Int) < a.tz
   ·rw [hl.2.2.low rfl h,hm.2.2.low rfl h]
   ·have:=he n hn;rw [onAt_out (by omega),onAt_out (by omega)] at this
    exact this
  rw [this]
def lastP (p : Option Ar) (l : List Ar) : Option Ar:=match l.getLast? with | some b=>some b | none=>p
theorem lastP_cons (p : Option Ar) (a : Ar) (l : List Ar) : lastP p (a :: l) = lastP (some a) l:=by
 unfold lastP
 cases l with
 | nil=>simp
 | cons b m=>simp [List.getLast?_cons]
theorem canP_snoc {x : Ar} : ∀ {l : List Ar} {p : Option Ar},CanP p (l ++ [x])↔CanP p l∧ArOk x∧∀ b,lastP p l = some b→Link b x
 | [],p=>by simp [CanP,lastP]
 | a :: l,p=>by
  simp only [List.cons_append,CanP,lastP_cons,canP_snoc (l:=l) (p:=some a),and_assoc]
theorem onAt_snoc {x : Ar} {n : Nat} : ∀ {l : List Ar},onAt l n = on0∨arIn x n = false→onAt (l ++ [x]) n = if arIn x n = true then oneOf x n else onAt l n
 | [],_=>by simp [onAt]
 | a :: l,h=>by
  simp only [List.cons_append,onAt]
  by_cases h1 : arIn a n = true
  ·rcases h with h | h
   ·rw [onAt,if_pos h1] at h;exact (on_ne h).elim
   ·simp [h1,h]
  ·rw [if_neg h1,if_neg h1];exact onAt_snoc (h.imp (fun h=>by rwa [onAt,if_neg h1] at h) id)
theorem onAt_none {n : Nat} : ∀ {l : List Ar},(∀ a∈l,arIn a n = false)→onAt l n = on0
 | [],_=>rfl
 | a :: l,h=>by
  rw [onAt,if_neg (by rw [h a (by simp)]; simp)]
  exact onAt_none fun b hb=>h b (by simp [hb])
theorem onAt_some {n : Nat} : ∀ {l : List Ar},(onAt l n).is = true→∃ (i : Nat) (a : Ar),l[i]? = some a∧arIn a n = true∧onAt l n = oneOf a n
 | [],h=>by cases h
 | a :: l,h=>by
  by_cases h1 : arIn a n = true
  ·exact ⟨0,a,rfl,h1,by rw [onAt,if_pos h1]⟩
  ·rw [onAt,if_neg h1] at h;obtain ⟨i,b,h2,h3,h4⟩:=onAt_some h;exact ⟨i + 1,b,h2,h3,by rw [onAt,if_neg h1,h4]⟩
theorem onAt_no {n : Nat} : ∀ {l : List Ar},(onAt l n).is = false→onAt l n = on0
 | [],_=>rfl
 | a :: l,h=>by
  by_cases h1 : arIn a n = true
  ·rw [onAt,if_pos h1] at h;cases h
  ·rw [onAt,if_neg h1] at h ⊢;exact onAt_no h
theorem CanP.all {l : List Ar} : ∀ {p : Option Ar},CanP p l→∀ a∈l,ArOk a:=by
 induction l with
 | nil=>intro p _ a ha; cases ha
 | cons b l ih =>
  intro p h x hx
  rcases List.mem_cons.1 hx with e | hx
  ·rw [e]; exact h.1
  ·exact ih h.2.2 _ hx
def Good (f : Nat→On) : Prop:=∀ k : Nat,k < 64→((f k).is = false→f k = on0)∧((f k).is = true→ArOk (arOf k (f k)))
theorem oneOf_ok {a : Ar} {n : Nat} (h : ArOk a) (hn : arIn a n = true) : ArOk (arOf n (oneOf a n)):=by
 have:=arIn_iff.1 hn;unfold ArOk at h ⊢;unfold arOf;rw [if_pos (oneOf_is a n)];unfold oneOf;refine ⟨by simp,by simp; omega,by simp; omega,h.2.2.2.1,h.2.2.2.2.1,?_,fun h1=>⟨?_,(h.2.2.2.2.2.2.1 h1).2⟩,fun h1=>?_⟩
 ·simp only
  split <;> omega
 ·simp only at h1 ⊢;rw [if_neg (by omega)]
 ·simp only at h1 ⊢;rw [if_pos h1];omega
theorem CanP.good {l : List Ar} {p : Option Ar} (h : CanP p l) : Good (onAt l):=fun k _=>⟨onAt_no,fun h1=>by
 obtain ⟨i,a,h2,h3,h4⟩:=onAt_some h1;rw [h4];exact oneOf_ok (h.all a (List.mem_of_getElem? h2)) h3⟩
def J (f : Nat→On) (n : Nat) (acc : List Ar) : Prop:=CanP none acc∧(∀ a∈acc,a.tz≤(n : Int))∧∀ k : Nat,onAt acc k = if k < n then f k else on0
theorem J.zero (f : Nat→On) : J f 0 []:=⟨trivial,by simp,fun k=>by simp [onAt]⟩
theorem J.skip {f : Nat→On} {n : Nat} {acc : List Ar} (h : J f n acc) (h0 : f n = on0) : J f (n + 1) acc:=by
 refine ⟨h.1,fun a ha=>by have:=h.2.1 a ha; omega,fun k=>?_⟩
 rw [h.2.2 k]
 by_cases h1 : k < n
 ·rw [if_pos h1,if_pos (by omega)]
 ·rw [if_neg h1]
  by_cases h2 : k = n
  ·subst h2; rw [if_pos (by omega),h0]
  ·rw [if_neg (by omega)]
theorem arOf_one (n : Nat) (x : On) (h : x.is = true) (hp : x.file < 0→x.page = 0) : oneOf (arOf n x) n = x:=by
 unfold arOf;rw [if_pos h];unfold oneOf;obtain ⟨_,_,_,_,_,_⟩:=x;simp only at h hp ⊢;subst h;simp only [On.mk.injEq,true_and]
 split
 ·omega
 ·exact (hp (by omega)).symm
theorem arOf_in {n k : Nat} {x : On} (h : x.is = true) : arIn (arOf n x) k = true↔k = n:=by
 rw [arIn_iff];unfold arOf;rw [if_pos h];simp only;omega
theorem J.new {f : Nat→On} {n : Nat} {acc : List Ar} (h : J f n acc) (hg : Good f) (hn : n < 64) (hs : (f n).is = true) (hl : ∀ b,acc.getLast? = some b→goB (arOf n (f n)) b = false) : J f (n + 1) (acc ++ [arOf n (f n)]):=by
 have hok:=(hg n hn).2 hs;have hone : oneOf (arOf n (f n)) n = f n:=arOf_one n _ hs fun hf=>by
  unfold ArOk arOf at hok;rw [if_pos hs] at hok;exact (hok.2.2.2.2.2.2.1 hf).1
 refine ⟨canP_snoc.2 ⟨h.1,hok,fun b hb=>?_⟩,fun a ha=>?_,fun k=>?_⟩
 ·have hb' : acc.getLast? = some b:=by
   unfold lastP at hb
   split at hb
   ·rename_i h1; rw [h1]; exact hb
   ·cases hb
  refine ⟨?_,hl b hb'⟩;have:=h.2.1 b (List.mem_of_getLast? hb');unfold arOf;rw [if_pos hs];exact this
 ·rcases List.mem_append.1 ha with ha | ha
  ·have:=h.2.1 a ha; omega
  ·rw [List.mem_singleton] at ha;subst ha;unfold arOf;rw [if_pos hs];simp
 ·have h1:=h.2.2 k;rw [onAt_snoc]
  ·by_cases e : k = n
   ·subst e;rw [if_pos ((arOf_in hs).2 rfl),if_pos (by omega),hone]
   ·rw [if_neg (fun h2=>e ((arOf_in hs).1 h2)),h1]
    by_cases h3 : k < n
    ·rw [if_pos h3,if_pos (by omega)]
    ·rw [if_neg h3,if_neg (by omega)]
  ·by_cases e : k = n
   ·left; rw [h1,if_neg (by omega)]
   ·right
    cases h4 : arIn (arOf n (f n)) k with
    | false=>rfl
    | true=>exact absurd ((arOf_in hs).1 h4) e
theorem J.ext {f : Nat→On} {n : Nat} {i : List Ar} {b : Ar} (h : J f n (i ++ [b])) (hg : Good f) (hn : n < 64) (hs : (f n).is = true) (hgo : goB (arOf n (f n)) b = true) : J f (n + 1) (i ++ [{ b with tz:=(n : Int) + 1 }]):=by
 have hok:=(hg n hn).2 hs;obtain ⟨h1,h2,h3⟩:=h;obtain ⟨c1,c2,c3⟩:=canP_snoc.1 h1;have hgo':=goB_iff.1 hgo;unfold arOf at hgo' hok;rw [if_pos hs] at hgo' hok;simp only at hgo';obtain ⟨g1,g2,g3,g4,g5,g6⟩:=hgo';have c2':=c2;unfold ArOk at c2' hok;simp only at hok;have hlow : ∀ k : Nat,b.fr≤(k : Int)→onAt i k = on0:=fun k hk=>by
  refine onAt_none fun a ha=>arIn_no ?_
  have : a.tz≤b.fr:=by
   have hstep : ∀ (l : List Ar) (p : Option Ar),CanP p l→∀ x∈l,∀ y,lastP p l = some y→x.tz≤y.tz:=by
    intro l
    induction l with
    | nil=>intro p _ x hx; cases hx
    | cons c m ih =>
     intro p hc x hx y hy;rw [lastP_cons] at hy
     rcases List.mem_cons.1 hx with rfl | hx
     ·cases m with
      | nil=>simp [lastP] at hy; subst hy; exact Int.le_refl _
      | cons d k' =>
       have q1:=ih (some x) hc.2.2 d (by simp) y hy
       have q2:=hc.2.2.2.1 x rfl;have q3:=hc.2.2.1;unfold Link at q2;unfold ArOk at q3;omega
     ·exact ih (some c) hc.2.2 x hx y hy
   cases hlast : lastP none i with
   | none =>
    unfold lastP at hlast
    cases i with
    | nil=>cases ha
    | cons _ _=>simp [List.getLast?_cons] at hlast
   | some y =>
    have q1:=hstep i none c1 a ha y hlast;have q2:=(c3 y hlast).1;omega
  omega
 refine ⟨canP_snoc.2 ⟨c1,?_,fun y hy=>?_⟩,fun a ha=>?_,fun k=>?_⟩
 ·unfold ArOk;simp only;refine ⟨by omega,by omega,by omega,by omega,by omega,by omega,fun h=>c2'.2.2.2.2.2.2.1 h,fun h=>?_⟩
  rw [if_pos h] at g6;omega
 ·exact ⟨(c3 y hy).1,(c3 y hy).2⟩
 ·rcases List.mem_append.1 ha with ha | ha
  ·have:=h2 a (by simp [ha]); omega
  ·rw [List.mem_singleton] at ha;subst ha;simp
 ·have e1:=h3 k;rw [onAt_snoc (by
   by_cases hk : b.fr≤(k : Int)
   ·exact .inl (hlow k hk)
   ·exact .inr (arIn_no (by omega)))] at e1
  rw [onAt_snoc (by
   by_cases hk : b.fr≤(k : Int)
   ·exact .inl (hlow k hk)
   ·exact .inr (arIn_no (by simp only; omega)))]
  by_cases hk : k = n
  ·subst hk;rw [if_pos (by rw [arIn_iff]; simp only; omega),if_pos (by omega)]
   unfold oneOf;simp only;have hx:=hok.2.2.2.2.2.2.1
   revert hs g2 g3 g4 g5 g6 hx
   generalize f k = x
   obtain ⟨_,_,_,_,_,_⟩:=x;intro hs g2 g3 g4 g5 g6 hx;simp only at hs g2 g3 g4 g5 g6 hx ⊢;subst hs g2 g3 g4;simp only [On.mk.injEq,true_and];refine ⟨g5.symm,?_⟩
   split
   ·rename_i h; rw [if_pos h] at g6; omega
   ·exact (hx (by omega)).1.symm
  ·have e2 : arIn { b with tz:=(n : Int) + 1 } k = arIn b k:=by
    unfold arIn;simp only
    congr 1
    apply decide_eq_decide.2
    omega
   rw [e2];have e3 : oneOf { b with tz:=(n : Int) + 1 } k = oneOf b k:=rfl;rw [e3,e1]
   by_cases h5 : k < n
   ·rw [if_pos h5,if_pos (by omega)]
   ·rw [if_neg h5,if_neg (by omega)]
def joinN (f : Nat→On) : Nat→List Ar
 | 0=>[]
 | n + 1 =>
  if (f n).is = true then
   match (joinN f n).getLast? with
   | some b=>if goB (arOf n (f n)) b = true then (joinN f n).dropLast ++ [{ b with tz:=(n : Int) + 1 }] else joinN f n ++ [arOf n (f n)]
   | none=>joinN f n ++ [arOf n (f n)]
  else joinN f n
theorem snoc_of {l : List Ar} {b : Ar} (h : l.getLast? = some b) : l = l.dropLast ++ [b]:=by
 cases l with
 | nil=>cases h
 | cons a m =>
  rw [List.getLast?_eq_some_getLast (List.cons_ne_nil a m)] at h;cases h;exact (List.dropLast_concat_getLast _).symm
theorem joinN_J {f : Nat→On} (hg : Good f) : ∀ n : Nat,n≤64→J f n (joinN f n)
 | 0,_=>J.zero f
 | n + 1,hn=>by
  have ih:=joinN_J hg n (by omega)
  unfold joinN
  by_cases hs : (f n).is = true
  ·rw [if_pos hs]
   cases hl : (joinN f n).getLast? with
   | none=>exact ih.new hg (by omega) hs (fun b hb=>by rw [hl] at hb; cases hb)
   | some b =>
    simp only
    by_cases hgo : goB (arOf n (f n)) b = true
    ·rw [if_pos hgo];rw [snoc_of hl] at ih;exact ih.ext hg (by omega) hs hgo
    ·rw [if_neg hgo];refine ih.new hg (by omega) hs (fun c hc=>?_)
     rw [hl] at hc;cases hc
     simpa using hgo
  ·rw [if_neg hs];exact ih.skip ((hg n (by omega)).1 (by simpa using hs))
def joinL (f : Nat→On) : List Ar:=joinN f 64
theorem joinL_J {f : Nat→On} (hg : Good f) : J f 64 (joinL f):=joinN_J hg 64 (Nat.le_refl _)
theorem J.all {f : Nat→On} {acc : List Ar} (h : J f 64 acc) (hg : Good f) : acc = joinL f :=
 can_ext h.1 (joinL_J hg).1 fun n _=>by rw [h.2.2,(joinL_J hg).2.2]
theorem joinL_can {f : Nat→On} (hg : Good f) : CanP none (joinL f):=(joinL_J hg).1
theorem joinL_at {f : Nat→On} (hg : Good f) {k : Nat} (hk : k < 64) : onAt (joinL f) k = f k:=by rw [(joinL_J hg).2.2,if_pos hk]
theorem joinL_of {f : Nat→On} {l : List Ar} (hg : Good f) (hl : CanP none l) (he : ∀ k,k < 64→f k = onAt l k) : joinL f = l :=
 can_ext (joinL_can hg) hl fun n hn=>by rw [joinL_at hg hn,he n hn]
theorem J.len {f : Nat→On} {n : Nat} {acc : List Ar} (h : J f n acc) : acc.length≤n:=by
 have key : ∀ (l : List Ar) (p : Option Ar) (c : Int),CanP p l→(∀ b,p = some b→c≤b.tz)→(p = none→c≤0)→(∀ a∈l,a.tz≤(n : Int))→c≤n→c + l.length≤n:=by
  intro l
  induction l with
  | nil=>intro p c _ _ _ _ hc; simpa using hc
  | cons a l ih =>
   intro p c hl hp hp0 ha hc;have h1:=hl.1;unfold ArOk at h1;have h2 : c≤a.fr:=by
    cases p with
    | none=>have:=hp0 rfl; omega
    | some b=>have:=hp b rfl; have:=(hl.2.1 b rfl).1; omega
   have h3:=ih (some a) (c + 1) hl.2.2 (fun b hb=>by cases hb; omega) (fun hb=>by cases hb) (fun x hx=>ha x (by simp [hx])) (by have:=ha a (by simp); omega)
   rw [List.length_cons];omega
 have:=key acc none 0 h.1 (fun b hb=>by cases hb) (fun _=>by omega) h.2.1 (by omega)
 omega
def goJ (x y : On) : Bool:=y.is == x.is && y.rd == x.rd && y.wr == x.wr && y.sh == x.sh && decide (y.file = x.file) && decide ((if 0≤x.file then y.page + 1 else y.page) = x.page)
theorem goJ_iff {x y : On} : goJ x y = true↔y.is = x.is∧y.rd = x.rd∧y.wr = x.wr∧y.sh = x.sh∧y.file = x.file∧(if 0≤x.file then y.page + 1 else y.page) = x.page:=by
 simp [goJ,and_assoc]
theorem last_to : ∀ (l : List Ar) (p : Option Ar),CanP p l→∀ x∈l,∀ y,lastP p l = some y→x = y∨x.tz≤y.fr
 | [],_,_,_,hx,_,_=>by cases hx
 | c :: m,p,hc,x,hx,y,hy=>by
  rw [lastP_cons] at hy
  rcases List.mem_cons.1 hx with e | hx
  ·cases m with
   | nil=>simp [lastP] at hy; left; rw [e,hy]
   | cons d k' =>
    right;have q2:=hc.2.2.2.1 c rfl;have q3:=hc.2.2.1;unfold Link at q2;unfold ArOk at q3;rw [e]
    rcases last_to (d :: k') (some c) hc.2.2 d (by simp) y hy with q1 | q1
    ·rw [←q1]; exact q2.1
    ·omega
  ·exact last_to m (some c) hc.2.2 x hx y hy
theorem J.last {f : Nat→On} {n : Nat} {acc : List Ar} (h : J f (n + 1) acc) (hs : (f n).is = true) : ∃ b,acc.getLast? = some b∧b.tz = (n : Int) + 1∧f n = oneOf b n∧ArOk b:=by
 have h1:=h.2.2 n;rw [if_pos (by omega)] at h1
 obtain ⟨i,a,h2,h3,h4⟩:=onAt_some (l:=acc) (n:=n) (by rw [h1]; exact hs)
 have h5:=arIn_iff.1 h3;have ha:=List.mem_of_getElem? h2;have h6:=h.2.1 a ha;have hto : a.tz = (n : Int) + 1:=by omega
 cases hl : acc.getLast? with
 | none=>rw [List.getLast?_eq_none_iff] at hl; rw [hl] at ha; cases ha
 | some y =>
  have hy : lastP none acc = some y:=by unfold lastP; rw [hl]
  have hay : a = y:=by
   rcases last_to acc none h.1 a ha y hy with q | q
   ·exact q
   ·have q1:=h.1.all y (List.mem_of_getLast? hl);have q2:=h.2.1 y (List.mem_of_getLast? hl);unfold ArOk at q1;omega
  subst hay;exact ⟨a,rfl,hto,by rw [←h1,h4],h.1.all a ha⟩
theorem J.go {f : Nat→On} {n : Nat} {acc : List Ar} (h : J f (n + 1) acc) (hs : (f (n + 1)).is = true) : (goJ (f (n + 1)) (f n) = true→∃ b,acc.getLast? = some b∧goB (arOf (n + 1) (f (n + 1))) b = true)∧(goJ (f (n + 1)) (f n) = false→∀ b,acc.getLast? = some b→goB (arOf (n + 1) (f (n + 1))) b = false):=by
 constructor
 ·intro hg;obtain ⟨g1,g2,g3,g4,g5,g6⟩:=goJ_iff.1 hg;obtain ⟨b,h1,h2,h3,h4⟩:=h.last (by rw [g1]; exact hs)
  refine ⟨b,h1,goB_iff.2 ?_⟩;unfold arOf;rw [if_pos hs];rw [h3] at g2 g3 g4 g5 g6;unfold oneOf at g2 g3 g4 g5 g6;unfold ArOk at h4;simp only at g2 g3 g4 g5 g6 ⊢;refine ⟨by omega,g2.symm,g3.symm,g4.symm,g5.symm,?_⟩
  rw [←g5] at g6
  by_cases h7 : 0≤b.file
  ·rw [if_pos h7,if_pos h7] at g6;rw [if_pos h7];omega
  ·rw [if_neg h7,if_neg h7] at g6;rw [if_neg h7];omega
 ·intro hg b hb
  cases hq : goB (arOf (n + 1) (f (n + 1))) b with
  | false=>rfl
  | true =>
   exfalso;have hq':=goB_iff.1 hq;unfold arOf at hq';rw [if_pos hs] at hq';simp only at hq';obtain ⟨q1,q2,q3,q4,q5,q6⟩:=hq';have hmem:=List.mem_of_getLast? hb;have hbk:=h.1.all b hmem;have hbk':=hbk;unfold ArOk at hbk';have hin : (f n).is = true:=by
    have e1:=h.2.2 n;rw [if_pos (by omega)] at e1
    cases hz : (f n).is with
    | true=>rfl
    | false =>
     exfalso;have : ∀ (l : List Ar),b∈l→(onAt l n).is = true:=by
      intro l
      induction l with
      | nil=>intro hx; cases hx
      | cons c m ih =>
       intro hx
       by_cases hc : arIn c n = true
       ·rw [onAt,if_pos hc]; rfl
       ·rw [onAt,if_neg hc]
        rcases List.mem_cons.1 hx with e | hx
        ·subst e;exact absurd (arIn_iff.2 (by omega)) hc
        ·exact ih hx
     have:=this acc hmem;rw [e1,hz] at this;cases this
   obtain ⟨b',h1,h2,h3,h4⟩:=h.last hin;rw [hb] at h1;cases h1;have : goJ (f (n + 1)) (f n) = true:=by
    rw [goJ_iff,h3];unfold oneOf;simp only;refine ⟨hs.symm,q2.symm,q3.symm,q4.symm,q5.symm,?_⟩;rw [q5]
    by_cases h7 : 0≤b.file
    ·rw [if_pos h7] at q6;rw [if_pos h7,if_pos h7];omega
    ·rw [if_neg h7] at q6;rw [if_neg h7,if_neg h7];omega
   rw [this] at hg;cases hg
theorem J.first {f : Nat→On} {acc : List Ar} (h : J f 0 acc) : acc = []:=List.length_eq_zero_iff.1 (by have:=h.len; omega)
def wrGo : Option Ar→List Ar→Nat→Int × Int
 | _,[],_=>(0,0)
 | p,a :: l,i =>
  if arW a≠0 then (arW a,i)
  else match p with
   | some b=>if a.fr < b.tz∨goB a b = true then (2,i) else wrGo (some a) l (i + 1)
   | none=>wrGo (some a) l (i + 1)
def wrL (l : List Ar) : Int × Int:=if 16 < l.length then (4,0) else wrGo none l 0
theorem wrGo_zero : ∀ {l : List Ar} {p : Option Ar} {i : Nat},(wrGo p l i).1 = 0↔CanP p l
 | [],p,i=>by simp [wrGo,CanP]
 | a :: l,p,i=>by
  unfold wrGo CanP
  by_cases h : arW a = 0
  ·rw [if_neg (fun h'=>h' h)]
   cases p with
   | none=>simp [wrGo_zero (l:=l),arW_zero.1 h]
   | some b =>
    simp only
    by_cases h2 : a.fr < b.tz∨goB a b = true
    ·rw [if_pos h2];simp only [Option.some.injEq,forall_eq'];constructor
     ·intro h3; exact absurd h3 (by decide)
     ·rintro ⟨_,⟨h3,h4⟩,_⟩
      rcases h2 with h2 | h2
      ·omega
      ·rw [h4] at h2; cases h2
    ·rw [if_neg h2,wrGo_zero];simp only [Option.some.injEq,forall_eq',arW_zero.1 h,true_and];constructor
     ·intro h3;exact ⟨⟨by omega,by cases hq : goB a b with | false=>rfl | true=>exact absurd (.inr hq) h2⟩,h3⟩
     ·exact fun h3=>h3.2
  ·rw [if_pos h];constructor
   ·intro h1; exact absurd h1 h
   ·intro h1; exact absurd (arW_zero.2 h1.1) h
theorem wrL_zero {l : List Ar} : (wrL l).1 = 0↔l.length≤16∧CanP none l:=by
 unfold wrL
 by_cases h : 16 < l.length
 ·rw [if_pos h];constructor
  ·intro h1; exact absurd h1 (by decide)
  ·intro h1; omega
 ·rw [if_neg h,wrGo_zero];exact ⟨fun h1=>⟨by omega,h1⟩,fun h1=>h1.2⟩
def mapF (l : List Ar) (a : Ar) : Nat→On:=fun k=>if arIn a k = true then oneOf a k else onAt l k
def within (s n : Int) (k : Nat) : Bool:=decide (s≤(k : Int)) && decide ((k : Int) < s + n)
theorem within_iff {s n : Int} {k : Nat} : within s n k = true↔s≤(k : Int)∧(k : Int) < s + n:=by simp [within]
def fewL (f : Nat→On) : List Ar × Int:=if 16 < (joinL f).length then ([],4) else (joinL f,0)
def hitB (l : List Ar) (s n : Int) : Bool:=(List.range 64).any fun k=>within s n k && (onAt l k).is
def mapA (l : List Ar) (a : Ar) : List Ar × Int:=if (wrL l).1≠0 then ([],(wrL l).1) else if arW a≠0 then ([],arW a) else if hitB l a.fr (a.tz - a.fr) = true then ([],6) else fewL (mapF l a)
theorem hitB_iff {l : List Ar} {s n : Int} : hitB l s n = true↔∃ k : Nat,k < 64∧(s≤(k : Int)∧(k : Int) < s + n)∧(onAt l k).is = true:=by
 simp [hitB,within]
theorem hitB_no {l : List Ar} {s n : Int} : hitB l s n = false↔∀ k : Nat,k < 64→(s≤(k : Int)∧(k : Int) < s + n)→(onAt l k).is = false:=by
 simp only [hitB,List.any_eq_false,List.mem_range,Bool.and_eq_true,within_iff,not_and,Bool.not_eq_true]
theorem mapF_good {l : List Ar} {a : Ar} (hl : CanP none l) (ha : ArOk a) : Good (mapF l a):=fun k hk=>by
 unfold mapF
 by_cases h : arIn a k = true
 ·rw [if_pos h];exact ⟨fun h1=>(by cases h1),fun _=>oneOf_ok ha h⟩
 ·rw [if_neg h];exact hl.good k hk
theorem fewL_ok {f : Nat→On} (h : (fewL f).2 = 0) : fewL f = (joinL f,0)∧(joinL f).length≤16:=by
 unfold fewL at h ⊢
 by_cases h1 : 16 < (joinL f).length
 ·rw [if_pos h1] at h;exact absurd h (by decide)
 ·rw [if_neg h1];exact ⟨rfl,by omega⟩
theorem wr_of {f : Nat→On} (hg : Good f) (h : (joinL f).length≤16) : (wrL (joinL f)).1 = 0:=wrL_zero.2 ⟨h,joinL_can hg⟩
theorem mapA_ok {l : List Ar} {a : Ar} (h : (mapA l a).2 = 0) : (wrL l).1 = 0∧arW a = 0∧hitB l a.fr (a.tz - a.fr) = false∧(joinL (mapF l a)).length≤16∧(mapA l a).1 = joinL (mapF l a):=by
 unfold mapA at h ⊢
 by_cases h1 : (wrL l).1 = 0
 ·rw [if_neg (fun h'=>h' h1)] at h ⊢
  by_cases h2 : arW a = 0
  ·rw [if_neg (fun h'=>h' h2)] at h ⊢
   cases h3 : hitB l a.fr (a.tz - a.fr) with
   | true=>rw [h3,if_pos rfl] at h; exact absurd h (by decide)
   | false =>
    rw [h3,if_neg (by decide)] at h
    rw [if_neg (by decide)]
    obtain ⟨h4,h5⟩:=fewL_ok h;exact ⟨h1,h2,rfl,h5,by rw [h4]⟩
  ·rw [if_pos h2] at h; exact absurd h h2
 ·rw [if_pos h1] at h; exact absurd h h1
theorem two_go {a b : Ar} (hb : ArOk b) (ha : ArOk a) (hf : b.tz≤a.fr) : decide ((joinL (onAt [b,a])).length < 2) = goB a b:=by
 have ha':=ha;have hb':=hb;unfold ArOk at ha' hb';have hgood : Good (onAt [b,a]):=fun k _=>⟨onAt_no,fun h1=>by
  obtain ⟨i,c,h2,h3,h4⟩:=onAt_some h1;rw [h4];have : c = b∨c = a:=by simpa using List.mem_of_getElem? h2
  rcases this with e | e <;> subst e
  ·exact oneOf_ok hb h3
  ·exact oneOf_ok ha h3⟩
 cases hg : goB a b with
 | true =>
  obtain ⟨g1,g2,g3,g4,g5,g6⟩:=goB_iff.1 hg;have hc : CanP none [{ b with tz:=a.tz }]:=by
   refine ⟨?_,fun x hx=>(by cases hx),trivial⟩
   unfold ArOk;simp only;refine ⟨by omega,by omega,by omega,by omega,by omega,by omega,hb'.2.2.2.2.2.2.1,fun h=>?_⟩
   rw [if_pos h] at g6;omega
  rw [joinL_of hgood hc fun k hk=>?_]
  ·rfl
  ·have e3 : oneOf { b with tz:=a.tz } k = oneOf b k:=rfl;simp only [onAt]
   by_cases h1 : arIn b k = true
   ·have:=arIn_iff.1 h1;rw [if_pos h1,if_pos (arIn_iff.2 (by simp only; omega)),e3]
   ·have h1' : ¬ (b.fr≤(k : Int)∧(k : Int) < b.tz):=fun h=>h1 (arIn_iff.2 h)
    rw [if_neg h1]
    by_cases h2 : arIn a k = true
    ·have h2':=arIn_iff.1 h2;rw [if_pos h2,if_pos (arIn_iff.2 (by simp only; omega)),e3]
     unfold oneOf;rw [g2,g3,g4,g5,g6]
     by_cases h7 : 0≤b.file
     ·rw [if_pos h7,if_pos h7,if_pos h7]
      congr 1
      omega
     ·rw [if_neg h7,if_neg h7]
    ·have h2' : ¬ (a.fr≤(k : Int)∧(k : Int) < a.tz):=fun h=>h2 (arIn_iff.2 h)
     rw [if_neg h2,if_neg (fun h=>by have:=arIn_iff.1 h; simp only at this; omega)]
 | false =>
  have hc : CanP none [b,a]:=⟨hb,fun x hx=>(by cases hx),ha,fun x hx=>(by cases hx; exact ⟨hf,hg⟩),trivial⟩
  rw [joinL_of hgood hc fun _ _=>rfl]
  rfl
structure Sp where
 live : Bool
 ars : List Ar
 tb : List (List En)
structure Ca where
 file : Int
 idx : Int
 fr : Int
structure Ma where
 fs : List Fr
 hand : Int
 sl : List Int
 sb : List (List Int)
 sq : List (Int × List Int)
 db : List (List Int)
 dq : List (Int × List Int)
 fl : List Fl
 cnt : Int
 ca : List Ca
 sp : List Sp
def firstE : List Int→Int
 | []=>0
 | e :: l=>if e = 0 then firstE l else e
theorem firstE_zero : ∀ {l : List Int},firstE l = 0↔∀ e∈l,e = 0
 | []=>by simp [firstE]
 | e :: l=>by
  unfold firstE
  by_cases h : e = 0
  ·rw [if_pos h,firstE_zero]
   simp [h]
  ·rw [if_neg h]
   simp [h]
def blockE (m : Ma) : Int:=if (List.range m.db.length).any (fun (b : Nat)=>!usedB m.fl (b : Int) && !(m.db.getD b [] == zero8)) = true then 7 else 0
def queueE (m : Ma) : Int:=if m.dq.any (fun q=>!usedB m.fl q.1) = true then 7 else 0
def spE (s : Sp) : Int:=if (wrL s.ars).1≠0 then (wrL s.ars).1 else if tbW s.tb≠0 then tbW s.tb else if (!s.live && (!s.ars.isEmpty || !s.tb.all (·.isEmpty))) = true then 7 else 0
def fitE (m : Ma) : Int:=if m.sl.length≠m.sb.length∨m.cnt≠(m.db.length : Int) then 7 else 0
def partE (m : Ma) : Int:=firstE [memW m.fs m.hand,slW m.sl,wrongL m.sb.length m.sq,wrongL m.db.length m.dq,stW m.fl m.cnt,fitE m,blockE m,queueE m,if 4 < m.sp.length then 4 else 0,firstE (m.sp.map spE)]
def bkN (m : Ma) (file : Int) : Int:=((m.fl.getD file.toNat ⟨0,[]⟩).bl.length : Nat)
def frAt (m : Ma) (k : Int) : Fr:=m.fs.getD k.toNat frF
def keyC (c : Ca) : Int:=100 * c.file + c.idx
def caE (m : Ma) (p : Option Ca) (c : Ca) : Int :=
 if c.file < 0∨(m.fl.length : Int)≤c.file∨c.idx < 0∨bkN m c.file≤c.idx∨c.fr < 0∨(m.fs.length : Int)≤c.fr then 3
 else if (frAt m c.fr).r = 0∨(frAt m c.fr).f≠c.file∨(frAt m c.fr).x≠c.idx then 7
 else match p with | some q=>(if keyC c≤keyC q then 2 else 0) | none=>0
def caGo (m : Ma) : Option Ca→List Ca→Int
 | _,[]=>0
 | p,c :: l=>if caE m p c = 0 then caGo m (some c) l else caE m p c
def entE (m : Ma) (x : On) (e : En) : Int :=
 if x.is = false then 5
 else if e.kind = 2 then (if (m.sl.length : Int)≤e.n∨x.sh = true then 7 else 0)
 else if (m.fs.length : Int)≤e.n then 3
 else if (¬ (frAt m e.n).f = -1∧¬ (0≤x.file∧(frAt m e.n).f = x.file∧(frAt m e.n).x = x.page))∨(x.sh = true∧¬ (0≤x.file∧(frAt m e.n).f = x.file∧(frAt m e.n).x = x.page))∨(e.wr = true∧x.wr = false)∨(e.wr = true∧(0≤x.file∧(frAt m e.n).f = x.file∧(frAt m e.n).x = x.page)∧x.sh = false)∨(e.wr = true∧(frAt m e.n).f = -1∧1 < (frAt m e.n).r) then 7 else 0
def flatN (s : Sp) (n : Nat) : En:=getN s.tb (n / 8) (n % 8)
def spEnt (m : Ma) (s : Sp) : Int:=firstE ((List.range 64).map fun n=>if (flatN s n).kind = 0 then 0 else entE m (onAt s.ars n) (flatN s n))
def isE (e : En) (kind k : Int) : Bool:=decide (e.kind = kind) && decide (e.n = k)
def cntTo (f : Nat→En) (kind k : Int) : Nat→Nat
 | 0=>0
 | n + 1=>cntTo f kind k n + (isE (f n) kind k).toNat
def holdN (T : List (Nat→En)) (kind k : Int) : Nat:=(T.map fun f=>cntTo f kind k 64).sum
def holders (m : Ma) (kind k : Int) : Nat:=holdN (m.sp.map flatN) kind k
def cachedN (ca : List Ca) (k : Int) : Nat:=ca.countP fun c=>decide (c.fr = k)
def frE (m : Ma) (k : Nat) : Int:=if (frAt m k).r≠((holders m 1 k + cachedN m.ca k : Nat) : Int)∨(0≤(frAt m k).f∧cachedN m.ca k = 0) then 7 else 0
def sloE (m : Ma) (k : Nat) : Int:=if m.sl.getD k 0≠(holders m 2 k : Int) then 7 else 0
def maW (m : Ma) : Int:=firstE [partE m,caGo m none m.ca,firstE (m.sp.map (spEnt m)),firstE ((List.range m.fs.length).map (frE m)),firstE ((List.range m.sl.length).map (sloE m))]
theorem counts_frames {m : Ma} {k : Nat} {f : Fr} {n : Int} (h : maW m = 0) (hf : m.fs[k]? = some f) (hn : n≠0) : maW { m with fs:=m.fs.set k { f with r:=f.r + n } }≠0:=by
 intro h';have hk:=(List.getElem?_eq_some_iff.1 hf).1;unfold maW at h h';rw [firstE_zero] at h h';have h1:=firstE_zero.1 (h _ (by simp : firstE ((List.range m.fs.length).map (frE m))∈_)) (frE m k) (List.mem_map.2 ⟨k,List.mem_range.2 hk,rfl⟩)
 have h2:=firstE_zero.1 (h' (firstE ((List.range (m.fs.set k { f with r:=f.r + n }).length).map (frE { m with fs:=m.fs.set k { f with r:=f.r + n } }))) (by simp)) (frE { m with fs:=m.fs.set k { f with r:=f.r + n } } k) (List.mem_map.2 ⟨k,List.mem_range.2 (by simpa using hk),rfl⟩)
 unfold frE at h1 h2;have e1 : frAt m k = f:=by unfold frAt; rw [Int.toNat_natCast,List.getD_eq_getElem?_getD,hf]; rfl
 have e2 : frAt { m with fs:=m.fs.set k { f with r:=f.r + n } } k = { f with r:=f.r + n }:=by
  unfold frAt;simp only;rw [Int.toNat_natCast,List.getD_eq_getElem?_getD,List.getElem?_set_self hk];rfl
 rw [e1] at h1;rw [e2] at h2;have e3 : holders { m with fs:=m.fs.set k { f with r:=f.r + n } } 1 k = holders m 1 k:=rfl;rw [e3] at h2;simp only at h2
 split at h1
 ·cases h1
 ·rename_i g1
  split at h2
  ·cases h2
  ·rename_i g2
   omega
theorem counts_slots {m : Ma} {k : Nat} {z n : Int} (h : maW m = 0) (hz : m.sl[k]? = some z) (hn : n≠0) : maW { m with sl:=m.sl.set k (z + n) }≠0:=by
 intro h';have hk:=(List.getElem?_eq_some_iff.1 hz).1;unfold maW at h h';rw [firstE_zero] at h h';have h1:=firstE_zero.1 (h _ (by simp : firstE ((List.range m.sl.length).map (sloE m))∈_)) (sloE m k) (List.mem_map.2 ⟨k,List.mem_range.2 hk,rfl⟩)
 have h2:=firstE_zero.1 (h' (firstE ((List.range (m.sl.set k (z + n)).length).map (sloE { m with sl:=m.sl.set k (z + n) }))) (by simp)) (sloE { m with sl:=m.sl.set k (z + n) } k) (List.mem_map.2 ⟨k,List.mem_range.2 (by simpa using hk),rfl⟩)
 unfold sloE at h1 h2;have e3 : holders { m with sl:=m.sl.set k (z + n) } 2 k = holders m 2 k:=rfl;rw [e3] at h2;simp only [List.getD_eq_getElem?_getD,hz,List.getElem?_set_self hk,Option.getD_some] at h1 h2
 split at h1
 ·cases h1
 ·split at h2
  ·cases h2
  ·omega
def updF (f : Nat→En) (n : Nat) (e : En) : Nat→En:=fun j=>if j = n then e else f j
theorem cnt_upd (f : Nat→En) {n : Nat} (e : En) (kind k : Int) : ∀ m : Nat,cntTo (updF f n e) kind k m + (if n < m then (isE (f n) kind k).toNat else 0) = cntTo f kind k m + (if n < m then (isE e kind k).toNat else 0)
 | 0=>by simp [cntTo]
 | m + 1=>by
  have ih:=cnt_upd f e kind k (n:=n) m;unfold cntTo
  by_cases h : n = m
  ·subst h;rw [if_neg (Nat.lt_irrefl _),if_neg (Nat.lt_irrefl _)] at ih;rw [if_pos (Nat.lt_succ_self _),if_pos (Nat.lt_succ_self _)];have : updF f n e n = e:=by unfold updF; rw [if_pos rfl]
   rw [this];omega
  ·have : updF f n e m = f m:=by unfold updF; rw [if_neg (fun h'=>h h'.symm)]
   rw [this]
   by_cases h2 : n < m
   ·rw [if_pos h2,if_pos h2] at ih;rw [if_pos (by omega),if_pos (by omega)]
    omega
   ·rw [if_neg h2,if_neg h2] at ih;rw [if_neg (by omega),if_neg (by omega)]
    omega
theorem hold_upd : ∀ {T : List (Nat→En)} {p : Nat} {f : Nat→En} {n : Nat} (e : En) (kind k : Int),T[p]? = some f→n < 64→holdN (T.set p (updF f n e)) kind k + (isE (f n) kind k).toNat = holdN T kind k + (isE e kind k).toNat
 | [],p,f,n,e,kind,k,h,_=>by simp at h
 | g :: T,0,f,n,e,kind,k,h,hn=>by
  simp at h
  subst h;have:=cnt_upd g e kind k (n:=n) 64;rw [if_pos hn,if_pos hn] at this;simp only [List.set_cons_zero,holdN,List.map_cons,List.sum_cons];omega
 | g :: T,p + 1,f,n,e,kind,k,h,hn=>by
  have ih:=hold_upd (T:=T) (p:=p) (f:=f) (n:=n) e kind k (by simpa using h) hn
  simp only [List.set_cons_succ,holdN,List.map_cons,List.sum_cons] at ih ⊢;omega
theorem cnt_le (f : Nat→En) (kind k : Int) : ∀ m : Nat,cntTo f kind k m≤m
 | 0=>Nat.le_refl _
 | m + 1=>by
  have:=cnt_le f kind k m;unfold cntTo
  cases isE (f m) kind k <;> simp <;> omega
theorem hold_le : ∀ (T : List (Nat→En)) (kind k : Int),holdN T kind k≤64 * T.length
 | [],_,_=>by simp [holdN]
 | f :: T,kind,k=>by
  have h1:=cnt_le f kind k 64;have h2:=hold_le T kind k;simp only [holdN,List.map_cons,List.sum_cons,List.length_cons] at h2 ⊢;omega
theorem isE_none (kind k : Int) (h : kind≠0) : isE en0 kind k = false:=by
 have : ¬ en0.kind = kind:=fun e=>h e.symm
 simp [isE,this]
theorem hold_pos {T : List (Nat→En)} {p : Nat} {f : Nat→En} {n : Nat} {kind k : Int} (hT : T[p]? = some f) (hn : n < 64) (h : isE (f n) kind k = true) (hk : kind≠0) : 1≤holdN T kind k:=by
 have:=hold_upd en0 kind k hT hn;rw [h,isE_none kind k hk] at this
 simp at this
 omega
theorem hold_two {T : List (Nat→En)} {p q : Nat} {f g : Nat→En} {n j : Nat} {kind k : Int} (hT : T[p]? = some f) (hn : n < 64) (h : isE (f n) kind k = true) (hq : T[q]? = some g) (hj : j < 64) (h' : isE (g j) kind k = true) (hne : p≠q∨n≠j) (hk : kind≠0) : 2≤holdN T kind k:=by
 have h1:=hold_upd en0 kind k hT hn;rw [h,isE_none kind k hk] at h1
 simp at h1
 have hp:=(List.getElem?_eq_some_iff.1 hT).1
 by_cases e : q = p
 ·subst e;rw [hT] at hq;cases hq;have h2 : 1≤holdN (T.set q (updF f n en0)) kind k:=by
   refine hold_pos (p:=q) (f:=updF f n en0) (n:=j) (List.getElem?_set_self hp) hj ?_ hk;have : j≠n:=fun e=>(hne.resolve_left (fun h=>h rfl)) e.symm
   unfold updF;rw [if_neg this];exact h'
  omega
 ·have h2 : 1≤holdN (T.set p (updF f n en0)) kind k:=hold_pos (p:=q) (f:=g) (n:=j) (by rw [List.getElem?_set_ne (fun h=>e h.symm)]; exact hq) hj h' hk
  omega
theorem hold_snoc (T : List (Nat→En)) (kind k : Int) (hk : kind≠0) : holdN (T ++ [fun _=>en0]) kind k = holdN T kind k:=by
 have : ∀ m,cntTo (fun _=>en0) kind k m = 0:=by
  intro m
  induction m with
  | zero=>rfl
  | succ m ih =>
   unfold cntTo;rw [ih,isE_none kind k hk];rfl
 simp [holdN,this]
end
section
open Go.RowKit
def Grew (w w' : World) : Prop:=Below w.heap.size w w'
theorem Grew.refl (w : World) : Grew w w:=Below.refl _ _
theorem Grew.trans {a b c : World} (h : Grew a b) (k : Grew b c) : Grew a c:=Below.trans h (k.mono h.size)
structure Spec where
 pv : Value→Prop
 post : Value→World→Prop
def Does (P : Program) (o : Oper) (a : Act) (w : World) (K : Value→World→Prop) : Prop :=
 match (execOp a.eval o).run P w with
 | .ok (.value v) w'=>K v w'
 | .ok .skip w'=>K undef w'
 | .ok (.enter f args) w'=>Calls P f args w' fun e w''=>∃ v,e = .returned v∧K v w''
 | _=>False
theorem Does.wp {P : Program} {o : Oper} {a : Act} {w : World} {K : Value→World→Prop} {next : Act→World→Prop} {Q : Exit→Act→World→Prop}
  (h : Does P o a w K) (hn : ∀ v w',K v w'→next (a.put o.dst v) w') : o.wp P a w next Q:=by
 unfold Does at h;unfold Oper.wp
 generalize (execOp a.eval o).run P w = r at *
 cases r with
 | ok n w' =>
  cases n <;> simp only [Oper.upon] at h ⊢
  case value v=>exact hn _ _ h
  case skip=>exact hn _ _ h
  case enter f args=>exact h.mono fun e w'' ⟨v,he,hk⟩=>by subst he; exact hn _ _ hk
 | halt x w'=>simp only at h
def edge (ops : Array Oper) (i j : Nat) : Bool:=((ops[j]?).map fun o=>o.after.any fun e=>Region.binds .any e && e.on == i).getD false
def anc (ops : Array Oper) : Nat→Nat→Nat→Bool
 | 0,_,_=>false
 | f + 1,i,j=>edge ops i j || (List.range j).any fun k=>edge ops k j && anc ops f i k
def fset (F : Nat→World→Prop) (k : Nat) (p : World→Prop) : Nat→World→Prop:=fun i=>if i = k then p else F i
section
variable (P : Program) (ops : Array Oper) (w0 : World) (S : Nat→Option Spec)
def Clause (i : Nat) (F : Nat→World→Prop) (a : Act) (K : (Nat→World→Prop)→Act→Prop) : Prop :=
 match ops[i]? with
 | none=>False
 | some o =>
  if Region.wanted o (yielded ops a.tmps) then
   match S i with
   | none=>∃ v,(∀ w,Grew w0 w→(∀ m,anc ops 3 m i = true→F m w)→(execOp a.eval o).run P w = .ok (.value v) w)∧K F (a.put o.dst v)
   | some s=>(∀ w,Grew w0 w→(∀ m,anc ops 3 m i = true→F m w)→Does P o a w fun v w'=>Grew w w'∧s.pv v∧s.post v w')∧∀ v,s.pv v→K (fset F i (s.post v)) (a.put o.dst v)
  else K F (a.put o.dst undef)
def LexR (Q : Act→World→Prop) : List Nat→(Nat→World→Prop)→Act→Prop
 | [],F,a=>∀ w,Grew w0 w→(∀ i,F i w)→Q a w
 | i :: l,F,a=>Clause P ops w0 S i F a (LexR Q l)
end
section
variable {P : Program} {ops : Array Oper} {w0 : World} {S : Nat→Option Spec}
theorem fset_other {F : Nat→World→Prop} {k m : Nat} {p : World→Prop} (h : m≠k) : fset F k p m = F m:=by simp [fset,h]
theorem fset_comm {F : Nat→World→Prop} {i j : Nat} {p q : World→Prop} (h : i≠j) : fset (fset F i p) j q = fset (fset F j q) i p:=by
 funext m
 simp only [fset]
 by_cases h1 : m = j
 ·by_cases h2 : m = i
  ·omega
  ·simp [h1]; intro h3; omega
 ·simp [h1]
theorem Clause.mono {i : Nat} {F : Nat→World→Prop} {a : Act} {K K' : (Nat→World→Prop)→Act→Prop}
  (h : ∀ F' a',(∀ m,m≠i→F' m = F m)→K F' a'→K' F' a') (hc : Clause P ops w0 S i F a K) : Clause P ops w0 S i F a K':=by
 unfold Clause at *
 split
 ·rename_i ho; simp only [ho] at hc
 ·rename_i o ho
  simp only [ho] at hc
  split
  ·rename_i hw
   simp only [hw,if_true] at hc
   split
   ·rename_i hs
    simp only [hs] at hc;obtain ⟨v,h1,h2⟩:=hc;exact ⟨v,h1,h _ _ (fun _ _=>rfl) h2⟩
   ·rename_i s hs
    simp only [hs] at hc;exact ⟨hc.1,fun v hv=>h _ _ (fun m hm=>fset_other hm) (hc.2 v hv)⟩
  ·rename_i hw
   simp only [hw] at hc;exact h _ _ (fun _ _=>rfl) hc
theorem Clause.swap {i j : Nat} {oi oj : Oper} {F : Nat→World→Prop} {a : Act} {K : (Nat→World→Prop)→Act→Prop} {w : World}
  (hi : ops[i]? = some oi) (hj : ops[j]? = some oj) (hne : i≠j) (hap : oi.apart ops oj = true)
  (hsi : ∀ cs b,oi.op≠.select cs b) (hsj : ∀ cs b,oj.op≠.select cs b)
  (hij : anc ops 3 i j = false) (hji : anc ops 3 j i = false) (hS : ∀ s,S i = some s→∃ v,s.pv v)
  (hw0 : Grew w0 w) (hF : ∀ m,anc ops 3 m j = true→F m w)
  (h : Clause P ops w0 S i F a fun F' a'=>Clause P ops w0 S j F' a' K) : Clause P ops w0 S j F a fun F' a'=>Clause P ops w0 S i F' a' K:=by
 obtain ⟨h1,h2,h3⟩:=Oper.apart_spec hap;have ei : ∀ v,execOp (a.put oj.dst v).eval oi = execOp a.eval oi:=fun v=>execOp_put oi hsi a oj.dst v h3
 have ej : ∀ v,execOp (a.put oi.dst v).eval oj = execOp a.eval oj:=fun v=>execOp_put oj hsj a oi.dst v h1
 have wi : ∀ v,Region.wanted oi (yielded ops (a.put oj.dst v).tmps) = Region.wanted oi (yielded ops a.tmps):=fun v=>wanted_put oi a oj.dst v h3
 have wj : ∀ v,Region.wanted oj (yielded ops (a.put oi.dst v).tmps) = Region.wanted oj (yielded ops a.tmps):=fun v=>wanted_put oj a oi.dst v h1
 have di : ∀ v w K,Does P oi (a.put oj.dst v) w K = Does P oi a w K:=fun v w K=>by unfold Does; rw [ei]
 have dj : ∀ v w K,Does P oj (a.put oi.dst v) w K = Does P oj a w K:=fun v w K=>by unfold Does; rw [ej]
 have pc : ∀ v u,(a.put oi.dst v).put oj.dst u = (a.put oj.dst u).put oi.dst v:=fun v u=>Act.put_comm a v u h2
 have fi : ∀ p,(fun m=>anc ops 3 m i = true→fset F j p m w = F m w) = fun _=>True:=fun p=>by
  funext m
  simp only [eq_iff_iff,iff_true];intro hm;rw [fset_other (fun e=>by subst e; rw [hji] at hm; cases hm)]
 have faci : ∀ p w',(∀ m,anc ops 3 m i = true→fset F j p m w')↔(∀ m,anc ops 3 m i = true→F m w'):=fun p w'=>by
  constructor <;> intro hh m hm <;> have:=hh m hm
  ·rwa [fset_other (fun e=>by subst e; rw [hji] at hm; cases hm)] at this
  ·rwa [fset_other (fun e=>by subst e; rw [hji] at hm; cases hm)]
 have facj : ∀ p w',(∀ m,anc ops 3 m j = true→fset F i p m w')↔(∀ m,anc ops 3 m j = true→F m w'):=fun p w'=>by
  constructor <;> intro hh m hm <;> have:=hh m hm
  ·rwa [fset_other (fun e=>by subst e; rw [hij] at hm; cases hm)] at this
  ·rwa [fset_other (fun e=>by subst e; rw [hij] at hm; cases hm)]
 clear fi;unfold Clause at h ⊢;simp only [hi,hj,ei,ej,wi,wj,di,dj,pc] at h ⊢
 cases hwi : Region.wanted oi (yielded ops a.tmps) <;> cases hwj : Region.wanted oj (yielded ops a.tmps) <;>
  simp only [hwi,hwj,if_true,if_false,Bool.false_eq_true] at h ⊢
 ·exact h
 ·cases hsj' : S j with
  | none=>simp only [hsj'] at h ⊢; exact h
  | some s=>simp only [hsj'] at h ⊢; exact h
 ·cases hsi' : S i with
  | none=>simp only [hsi'] at h ⊢; exact h
  | some s=>simp only [hsi'] at h ⊢; exact h
 ·cases hsi' : S i with
  | none =>
   simp only [hsi'] at h;obtain ⟨vi,hri,h⟩:=h
   cases hsj' : S j with
   | none =>
    simp only [hsj'] at h ⊢;obtain ⟨vj,hrj,h⟩:=h;exact ⟨vj,hrj,vi,hri,h⟩
   | some s =>
    simp only [hsj'] at h ⊢;exact ⟨h.1,fun vj hvj=>⟨vi,fun w' hw' hf=>hri w' hw' ((faci _ _).1 hf),h.2 vj hvj⟩⟩
  | some si =>
   simp only [hsi'] at h;obtain ⟨hdi,h⟩:=h;obtain ⟨v1,hv1⟩:=hS si hsi'
   cases hsj' : S j with
   | none =>
    simp only [hsj'] at h ⊢;obtain ⟨vj,hrj,_⟩:=h v1 hv1;refine ⟨vj,fun w' hw' hf=>hrj w' hw' ((facj _ _).2 hf),hdi,fun vi hvi=>?_⟩
    obtain ⟨vj',hrj',hl⟩:=h vi hvi;have e1:=hrj w hw0 ((facj _ _).2 hF);have e2:=hrj' w hw0 ((facj _ _).2 hF);rw [e1] at e2;simp only [Result.ok.injEq,Next.value.injEq,and_true] at e2;subst e2;exact hl
   | some sj =>
    simp only [hsj'] at h ⊢;refine ⟨fun w' hw' hf=>(h v1 hv1).1 w' hw' ((facj _ _).2 hf),fun vj hvj=>⟨fun w' hw' hf=>hdi w' hw' ((faci _ _).1 hf),fun vi hvi=>?_⟩⟩
    have:=(h vi hvi).2 vj hvj;rwa [fset_comm hne] at this
theorem LexR.commute {Q : Act→World→Prop} {j : Nat} {oj : Oper} {w : World} (hj : ops[j]? = some oj) (hw0 : Grew w0 w)
  (hsel : ∀ (k : Nat) (o : Oper) cs b,ops[k]? = some o→o.op≠.select cs b) (hS : ∀ k s,S k = some s→∃ v,s.pv v) :
  ∀ (l : List Nat) (F : Nat→World→Prop) (a : Act),l.Nodup→j∈l →
   (∀ i∈l,i≠j→∃ oi,ops[i]? = some oi∧(i < j→oi.apart ops oj = true)∧anc ops 3 i j = false∧(i < j→anc ops 3 j i = false)) →
   (l.Pairwise (· < ·))→(∀ m,anc ops 3 m j = true→F m w)→LexR P ops w0 S Q l F a→LexR P ops w0 S Q (j :: l.filter (· != j)) F a
 | [],_,_,_,hm,_,_,_,_=>by cases hm
 | i :: l,F,a,hnd,hm,hall,hsorted,hF,h=>by
  by_cases hij : i = j
  ·subst hij;have : (i :: l).filter (· != i) = l:=by
    rw [List.filter_cons];simp only [bne_self_eq_false,Bool.false_eq_true,if_false];refine List.filter_eq_self.2 fun x hx=>?_
    have : x≠i:=fun e=>(List.nodup_cons.1 hnd).1 (e ▸ hx)
    simpa using this
   rw [this];exact h
  ·have hjl : j∈l:=by
    rcases List.mem_cons.1 hm with e | e
    ·exact absurd e.symm hij
    ·exact e
   have hlt : i < j:=(List.pairwise_cons.1 hsorted).1 j hjl;obtain ⟨oi,hoi,hap,haij,haji⟩:=hall i (by simp) hij
   have hf : (i :: l).filter (· != j) = i :: l.filter (· != j):=by
    rw [List.filter_cons];have : (i != j) = true:=by simpa using hij
    simp [this]
   rw [hf];refine Clause.swap hoi hj hij (hap hlt) (fun cs b=>hsel i oi cs b hoi) (fun cs b=>hsel j oj cs b hj) haij (haji hlt) (hS i) hw0 hF ?_
   refine Clause.mono (fun F' a' hF' hl=>?_) h
   refine LexR.commute hj hw0 hsel hS l F' a' (List.nodup_cons.1 hnd).2 hjl (fun k hk=>hall k (by simp [hk])) (List.pairwise_cons.1 hsorted).2 (fun m hma=>?_) hl
   rw [hF' m (fun e=>by subst e; rw [haij] at hma; cases hma)]
   exact hF m hma
def laxB (ops : Array Oper) : Bool :=
 Region.noSelect ops && (List.range ops.size).all fun j=>match ops[j]? with
  | none=>false
  | some oj=>oj.after.all (fun e=>!Region.binds .any e || decide (e.on < j)) && (List.range j).all fun i=>edge ops i j || (match ops[i]? with | some oi=>oi.apart ops oj | none=>false)
def unlisted (ops : Array Oper) (listed : Array Bool) : List Nat:=(List.range ops.size).filter fun i=>listed.getD i true == false
theorem edge_of {i j : Nat} {o : Oper} (ho : ops[j]? = some o) : edge ops i j = true↔∃ e∈o.after,Region.binds .any e = true∧e.on = i:=by
 unfold edge;rw [ho,Option.map_some,Option.getD_some,Array.any_eq_true'];simp
theorem laxB_spec (hB : laxB ops = true) {j : Nat} {oj : Oper} (hj : ops[j]? = some oj) :
  (∀ i,edge ops i j = true→i < j)∧∀ i,i < j→edge ops i j = true∨∃ oi,ops[i]? = some oi∧oi.apart ops oj = true:=by
 simp only [laxB,Bool.and_eq_true,List.all_eq_true,List.mem_range] at hB;have h:=hB.2 j (Array.getElem?_eq_some_iff.1 hj).1;simp only [hj,Bool.and_eq_true,List.all_eq_true,List.mem_range] at h;refine ⟨fun i hi=>?_,fun i hi=>?_⟩
 ·obtain ⟨e,he,hb,rfl⟩:=(edge_of hj).1 hi;have:=Array.all_eq_true_iff_forall_mem.1 h.1 e he
  simpa [hb] using this
 ·have:=h.2 i hi;rw [Bool.or_eq_true] at this
  rcases this with h1 | h1
  ·exact Or.inl h1
  ·right
   cases ho : ops[i]? with
   | none=>simp [ho] at h1
   | some oi=>simp only [ho] at h1; exact ⟨oi,rfl,h1⟩
theorem edge_some {i j : Nat} (h : edge ops i j = true) : ∃ oj,ops[j]? = some oj:=by
 cases hj : ops[j]? with
 | none=>simp [edge,hj] at h
 | some oj=>exact ⟨oj,rfl⟩
theorem anc_lt (hB : laxB ops = true) : ∀ (f i j : Nat),anc ops f i j = true→i < j
 | 0,_,_,h=>by simp [anc] at h
 | f + 1,i,j,h=>by
  simp only [anc,Bool.or_eq_true,List.any_eq_true,List.mem_range,Bool.and_eq_true] at h
  rcases h with h | ⟨k,hk,_,h⟩
  ·obtain ⟨oj,hj⟩:=edge_some h;exact (laxB_spec hB hj).1 i h
  ·have:=anc_lt hB f i k h;omega
def closed (ops : Array Oper) (listed : Array Bool) : Prop:=∀ i j,listed.getD j false = true→edge ops i j = true→listed.getD i false = true
theorem anc_listed {listed : Array Bool} (hc : closed ops listed) : ∀ (f i j : Nat),(∀ k,edge ops k j = true→listed.getD k false = true)→anc ops f i j = true→listed.getD i false = true
 | 0,_,_,_,h=>by simp [anc] at h
 | f + 1,i,j,hj,h=>by
  simp only [anc,Bool.or_eq_true,List.any_eq_true,List.mem_range,Bool.and_eq_true] at h
  rcases h with h | ⟨k,_,hkj,h⟩
  ·exact hj i h
  ·exact anc_listed hc f i k (fun m hm=>hc m k (hj k hkj) hm) h
theorem getD_flip {listed : Array Bool} {i : Nat} (h : listed.getD i true = false) : listed.getD i false = false:=by
 rcases Nat.lt_or_ge i listed.size with h' | h'
 ·simp [h'] at h ⊢; exact h
 ·simp [Array.getElem?_eq_none h'] at h
theorem unlisted_set {listed : Array Bool} {j : Nat} (hsz : listed.size = ops.size) (hj : j < ops.size) :
  unlisted ops (listed.setIfInBounds j true) = (unlisted ops listed).filter (· != j):=by
 unfold unlisted;rw [List.filter_filter];refine List.filter_congr fun i hi=>?_
 by_cases h : j = i
 ·subst h
  simp [hsz,hj]
 ·rw [getD_set_ne true h];have : (i != j) = true:=by simpa using Ne.symm h
  rw [this,Bool.true_and]
theorem wpAny_of_lexR {Q : Act→World→Prop} {Q' : Exit→Act→World→Prop} (hB : laxB ops = true) (hS : ∀ k s,S k = some s→∃ v,s.pv v)
  (hp : ∀ k s,S k = some s→∀ v w w',Grew w w'→s.post v w→s.post v w') (hQ : ∀ a w,Q a w→Q' .normal a w) :
  ∀ (fuel : Nat) (listed : Array Bool) (F : Nat→World→Prop) (a : Act) (w : World),listed.size = ops.size→(unlisted ops listed).length = fuel→closed ops listed→Grew w0 w →
   (∀ i,F i w)→(∀ i w w',Grew w w'→F i w→F i w')→LexR P ops w0 S Q (unlisted ops listed) F a→wpAny P .any ops Q' fuel listed a w:=by
 have hsel:=Region.noSelect_spec (ops:=ops) (by simp only [laxB,Bool.and_eq_true] at hB; exact hB.1)
 intro fuel
 induction fuel with
 | zero =>
  intro listed F a w hsz hl hc hw hF hFp h;have hnil : unlisted ops listed = []:=List.eq_nil_of_length_eq_zero hl;rw [hnil] at h;refine ⟨?_,hQ _ _ (h w hw hF)⟩
  cases hr : Region.ready .any ops listed with
  | nil=>rfl
  | cons x xs =>
   have hx : x∈Region.ready .any ops listed:=by rw [hr]; simp
   obtain ⟨h0,o,ho,_⟩:=mem_ready.1 hx;have : x∈unlisted ops listed:=List.mem_filter.2 ⟨List.mem_range.2 (Array.getElem?_eq_some_iff.1 ho).1,by simp only [h0,beq_self_eq_true]⟩
   rw [hnil] at this;cases this
 | succ fuel ih =>
  intro listed F a w hsz hl hc hw hF hFp h;refine ⟨fun hr=>?_,fun j hj=>?_⟩
  ·exfalso
   cases hu : unlisted ops listed with
   | nil=>simp [hu] at hl
   | cons x xs =>
    have hx : x∈unlisted ops listed:=by rw [hu]; simp
    have hx':=List.mem_filter.1 hx;have hxs : x < ops.size:=List.mem_range.1 hx'.1;have ho : ops[x]? = some ops[x]:=Array.getElem?_eq_getElem hxs;have hsorted : (unlisted ops listed).Pairwise (· < ·):=List.Pairwise.filter _ List.pairwise_lt_range;have : x∈Region.ready .any ops listed:=by
     refine mem_ready.2 ⟨by simpa using hx'.2,ops[x],ho,fun e he hb=>?_⟩
     have hed : edge ops e.on x = true:=(edge_of ho).2 ⟨e,he,hb,rfl⟩;have hlt:=(laxB_spec hB ho).1 _ hed
     cases hg : listed.getD e.on true with
     | true =>
      have : e.on < listed.size:=by omega
      simp [this] at hg ⊢
      exact hg
     | false =>
      have hmem : e.on∈unlisted ops listed:=List.mem_filter.2 ⟨List.mem_range.2 (by omega),by simp only [hg,beq_self_eq_true]⟩
      rw [hu] at hmem hsorted
      rcases List.mem_cons.1 hmem with e1 | e1
      ·omega
      ·have:=(List.pairwise_cons.1 hsorted).1 _ e1;omega
    rw [hr] at this;cases this
  ·obtain ⟨h0,oj,hoj,hall⟩:=mem_ready.1 hj;have hjs : j < ops.size:=(Array.getElem?_eq_some_iff.1 hoj).1;have hju : j∈unlisted ops listed:=List.mem_filter.2 ⟨List.mem_range.2 hjs,by simp only [h0,beq_self_eq_true]⟩
   have hdir : ∀ k,edge ops k j = true→listed.getD k false = true:=fun k hk=>by
    obtain ⟨e,he,hb,rfl⟩:=(edge_of hoj).1 hk;exact hall e he hb
   have hnd : (unlisted ops listed).Nodup:=List.Pairwise.filter _ List.nodup_range;have hsorted : (unlisted ops listed).Pairwise (· < ·):=List.Pairwise.filter _ List.pairwise_lt_range;have hcm:=LexR.commute hoj hw hsel hS (unlisted ops listed) F a hnd hju (fun i hi hij=>by
    have hi':=List.mem_filter.1 hi;have hun : listed.getD i false = false:=getD_flip (by simpa using hi'.2)
    have his : i < ops.size:=List.mem_range.1 hi'.1;have hoi : ops[i]? = some ops[i]:=Array.getElem?_eq_getElem his;refine ⟨ops[i],hoi,fun hlt=>?_,?_,fun hlt=>?_⟩
    ·rcases (laxB_spec hB hoj).2 i hlt with he | ⟨oi,hoi',hap⟩
     ·have:=hdir i he;rw [hun] at this;cases this
     ·rw [hoi] at hoi';cases hoi';exact hap
    ·cases ha : anc ops 3 i j with
     | false=>rfl
     | true =>
      have:=anc_listed hc 3 i j hdir ha;rw [hun] at this;cases this
    ·cases ha : anc ops 3 j i with
     | false=>rfl
     | true =>
      have:=anc_lt hB 3 j i ha
      omega) hsorted (fun m _=>hF m) h
   have hsz' : (listed.setIfInBounds j true).size = ops.size:=by simp [hsz]
   have hlen' : (unlisted ops (listed.setIfInBounds j true)).length = fuel:=by
    rw [unlisted_set hsz hjs];have he : (unlisted ops listed).filter (· != j) = (unlisted ops listed).erase j:=by
     rw [List.Nodup.erase_eq_filter hnd]
    rw [he,List.length_erase_of_mem hju];omega
   have hc' : closed ops (listed.setIfInBounds j true):=fun i k hk hik=>by
    by_cases hkj : j = k
    ·subst hkj;exact getD_set_true (hdir i hik)
    ·rw [getD_set_ne false hkj] at hk;exact getD_set_true (hc i k hk hik)
   unfold wpOp;simp only [hoj];simp only [LexR,Clause,hoj] at hcm;rw [←unlisted_set hsz hjs] at hcm
   split
   ·rename_i hwant
    simp only [hwant,if_true] at hcm;refine .inl ?_
    cases hs : S j with
    | none =>
     simp only [hs] at hcm;obtain ⟨v,hrun,hk⟩:=hcm;have hr:=hrun w hw (fun m _=>hF m)
     unfold Oper.wp;rw [hr];exact ih _ F _ w hsz' hlen' hc' hw hF hFp hk
    | some s =>
     simp only [hs] at hcm;refine (hcm.1 w hw (fun m _=>hF m)).wp fun v w' ⟨hg,hpv,hpost⟩=>?_
     refine ih _ (fset F j (s.post v)) _ w' hsz' hlen' hc' (hw.trans hg) (fun i=>?_) (fun i x y hxy hx=>?_) (hcm.2 v hpv)
     ·unfold fset
      split
      ·exact hpost
      ·exact hFp i w w' hg (hF i)
     ·unfold fset at *
      split
      ·rename_i he; simp only [he,if_true] at hx; exact hp j s hs v x y hxy hx
      ·rename_i he; simp only [he,if_false] at hx; exact hFp i x y hxy hx
   ·rename_i hwant
    simp only [hwant] at hcm;exact ih _ F _ w hsz' hlen' hc' hw hF hFp hcm
theorem wp_region_lax {id : Nat} {Q : Exit→Act→World→Prop} {a : Act} {w : World} {l : List Oper} (S : List (Nat × Spec)) (hm : P.follows .mixedOrders = true) (hB : laxB l.toArray = true)
  (hS : ∀ x∈S,∃ v,x.2.pv v) (hp : ∀ x∈S,∀ v w w',Grew w w'→x.2.post v w→x.2.post v w')
  (h : LexR P l.toArray w (fun k=>S.lookup k) (fun a w=>Q .normal a w) (List.range l.length) (fun _ _=>True) a) : (Code.region id l.toArray true).wp P Q a w:=by
 have hlook : ∀ (S : List (Nat × Spec)) k s,S.lookup k = some s→∃ x∈S,x.2 = s:=by
  intro S
  induction S with
  | nil=>intro k s h; simp at h
  | cons x S ih =>
   intro k s h;rw [List.lookup_cons] at h
   split at h
   ·exact ⟨x,by simp,by simpa using h⟩
   ·obtain ⟨y,hy,he⟩:=ih k s h; exact ⟨y,by simp [hy],he⟩
 refine wp_region_any hm ?_;have hu : unlisted l.toArray (Array.replicate l.toArray.size false) = List.range l.length:=by
  unfold unlisted;refine (List.filter_eq_self.2 fun i hi=>?_).trans (by simp)
  have : i < l.length:=by simpa using hi
  simp [this]
 refine wpAny_of_lexR (w0:=w) (S:=fun k=>S.lookup k) (F:=fun _ _=>True) hB (fun k s hs=>?_) (fun k s hs=>?_) (Q:=fun a w=>Q .normal a w) (fun _ _ h=>h) _ _ a _ (by simp) (by rw [hu]; simp) (fun i j hj _=>?_)
  (show Below _ _ _ from (Below.refl _ _).drew) (fun _=>trivial) (fun _ _ _ _ _=>trivial) (by rw [hu]; exact h)
 ·obtain ⟨x,hx,rfl⟩:=hlook S k s hs; exact hS x hx
 ·obtain ⟨x,hx,rfl⟩:=hlook S k s hs; exact hp x hx
 ·exfalso;rw [Array.getD_eq_getD_getElem?,Array.getElem?_replicate] at hj
  split at hj <;> simp at hj
end
structure GrownW (w0 : World) where
 world : World
 grew : Grew w0 world
def tame (o : Oper) : Bool :=
 match o.op with
 | .move _ | .assign _ | .pick .. | .build .. | .load .. | .binOp .. | .unOp .. | .convert .. | .fieldAddr .. | .field .. | .indexAddr .. | .index .. | .extract .. | .slice .. | .lookup ..=>true
 | .call { callee:= .builtin .len,.. } | .call { callee:= .builtin .cap,.. } | .call { callee:= .builtin .max,.. } | .call { callee:= .builtin .min,.. }=>true
 | _=>false
theorem value_only {P : Program} {α : Type} {s : Sem α} {g : α→Value} {w w' : World} {n : Next} : (s >>= fun v=>pure (Next.value (g v))).run P w = .ok n w'→∃ v,n = .value v:=by
 intro h;rw [Sem.run_bind] at h
 cases hs : s.run P w with
 | ok x w1=>simp [hs,Result.andThen,Sem.run_pure] at h; exact ⟨_,h.1.symm⟩
 | halt x w1=>simp [hs,Result.andThen] at h
section
variable {P : Program} {ops : Array Oper} {w0 : World} {S : Nat→Option Spec} {Q : Act→World→Prop}
variable (P ops w0 S Q) in
def wpLax : List Oper→Nat→(Nat→World→Prop)→Act→Prop
 | [],_,F,a=>∀ w,Grew w0 w→(∀ i,F i w)→Q a w
 | o :: rest,k,F,a =>
  if Region.wanted o (yielded ops a.tmps) then
   match S k with
   | none=>∃ v,(∀ w,Grew w0 w→(∀ m,anc ops 3 m k = true→F m w)→(execOp a.eval o).run P w = .ok (.value v) w)∧wpLax rest (k + 1) F (a.put o.dst v)
   | some s=>(∀ w,Grew w0 w→(∀ m,anc ops 3 m k = true→F m w)→Does P o a w fun v w'=>Grew w w'∧s.pv v∧s.post v w')∧∀ v,s.pv v→wpLax rest (k + 1) (fset F k (s.post v)) (a.put o.dst v)
  else wpLax rest (k + 1) F (a.put o.dst undef)
theorem lexR_of_lax : ∀ (l : List Oper) (k : Nat) (F : Nat→World→Prop) (a : Act),(∀ j,l[j]? = ops[k + j]?∨l.length≤j)→wpLax P ops w0 S Q l k F a→LexR P ops w0 S Q (List.range' k l.length) F a
 | [],_,_,_,_,h=>h
 | o :: l,k,F,a,hl,h=>by
  have h0 : ops[k]? = some o:=by
   rcases hl 0 with e | e
   ·simpa using e.symm
   ·simp at e
  have hnext : ∀ j,l[j]? = ops[k + 1 + j]?∨l.length≤j:=fun j=>by
   rcases hl (j + 1) with e | e
   ·left; rw [List.getElem?_cons_succ] at e; rw [e]; congr 1; omega
   ·right; simpa using e
  simp only [List.length_cons,List.range'_succ,LexR,Clause,h0];unfold wpLax at h
  split
  ·rename_i hw
   simp only [hw,if_true] at h
   cases hs : S k with
   | none =>
    simp only [hs] at h;obtain ⟨v,h1,h2⟩:=h;exact ⟨v,h1,lexR_of_lax l (k + 1) _ _ hnext h2⟩
   | some s =>
    simp only [hs] at h;exact ⟨h.1,fun v hv=>lexR_of_lax l (k + 1) _ _ hnext (h.2 v hv)⟩
  ·rename_i hw
   simp only [hw] at h;exact lexR_of_lax l (k + 1) _ _ hnext h
variable (P ops w0 S Q) in
structure WLax (l : List Oper) (k : Nat) (F : Nat→World→Prop) (a : Act) : Prop where
 out : wpLax P ops w0 S Q l k F a
theorem wp_lax {id : Nat} {Q : Exit→Act→World→Prop} {a : Act} {w : World} {l : List Oper} (S : List (Nat × Spec)) (hm : P.follows .mixedOrders = true) (hB : laxB l.toArray = true)
  (hS : ∀ x∈S,∃ v,x.2.pv v) (hp : ∀ x∈S,∀ v w w',Grew w w'→x.2.post v w→x.2.post v w')
  (h : WLax P l.toArray w (fun k=>S.lookup k) (fun a w=>Q .normal a w) l 0 (fun _ _=>True) a) : (Code.region id l.toArray true).wp P Q a w:=by
 refine wp_region_lax S hm hB hS hp ?_;have:=lexR_of_lax (ops:=l.toArray) l 0 _ a (fun j=>by simp) h.out
 rwa [List.range_eq_range']
variable {o : Oper} {rest : List Oper} {k : Nat} {F : Nat→World→Prop} {a : Act}
theorem tame_value (ht : tame o = true) {ρ : Operand→Value} {w w' : World} {n : Next} : (execOp ρ o).run P w = .ok n w'→∃ v,n = .value v:=by
 obtain ⟨dst,op,type,pos,after,guard⟩:=o
 cases op <;> simp only [tame,Bool.false_eq_true] at ht <;> simp only [execOp]
 all_goals first
  | exact value_only (g:=id)
  | exact value_only
  | (intro h; simp [Sem.run_pure] at h; exact ⟨_,h.1.symm⟩)
  | skip
 rename_i c
 obtain ⟨callee,as1,ts⟩:=c
 cases callee with
 | value _=>simp at ht
 | invoke _ _=>simp at ht
 | builtin b =>
  cases b <;> simp only [Bool.false_eq_true] at ht <;> simp only [resolve,pure_bind,invoke,builtin] <;> exact value_only (g:=id)
theorem lax_quiet (ht : tame o = true) (hw : Region.wanted o (yielded ops a.tmps) = true) (hS : S k = none)
  (h : ∀ K : Act→Prop,(∀ a,WLax P ops w0 S Q rest (k + 1) F a→K a)→o.quiet P a (fun w'=>∃ x : GrownW w0,w' = x.world) K) : WLax P ops w0 S Q (o :: rest) k F a:=by
 obtain ⟨v,h1,h2⟩:=h _ fun _ h=>h
 constructor;unfold wpLax;rw [if_pos hw];simp only [hS];refine ⟨v,fun w hg _=>?_,h2.out⟩
 have h3:=h1 w ⟨⟨w,hg⟩,rfl⟩;unfold Oper.quietAt at h3;have hne:=fun n w'=>@tame_value P o ht a.eval w w' n
 generalize (execOp a.eval o).run P w = r at *
 cases r with
 | ok n w' =>
  cases n <;> simp only [Oper.quietUpon] at h3
  case value u=>rw [h3.1,h3.2]
  case skip=>obtain ⟨_,he⟩:=hne _ _ rfl; cases he
  case enter f args=>obtain ⟨_,he⟩:=hne _ _ rfl; cases he
 | halt x w'=>simp only [Oper.quietUpon] at h3
theorem lax_skip (hw : Region.wanted o (yielded ops a.tmps) = false) (h : WLax P ops w0 S Q rest (k + 1) F (a.put o.dst undef)) : WLax P ops w0 S Q (o :: rest) k F a:=by
 constructor;unfold wpLax;rw [if_neg (by rw [hw]; exact Bool.false_ne_true)]
 exact h.out
theorem lax_spec {s : Spec} (hw : Region.wanted o (yielded ops a.tmps) = true) (hS : S k = some s)
  (h : ∀ w,Grew w0 w→(∀ m,anc ops 3 m k = true→F m w)→Does P o a w fun v w'=>Grew w w'∧s.pv v∧s.post v w')
  (hn : ∀ v,s.pv v→WLax P ops w0 S Q rest (k + 1) (fset F k (s.post v)) (a.put o.dst v)) : WLax P ops w0 S Q (o :: rest) k F a:=by
 constructor;unfold wpLax;rw [if_pos hw];simp only [hS];exact ⟨h,fun v hv=>(hn v hv).out⟩
theorem lax_nil (h : ∀ w,Grew w0 w→(∀ i,F i w)→Q a w) : WLax P ops w0 S Q [] k F a:=⟨h⟩
theorem Does.call {w : World} {K : Value→World→Prop} {f : FuncId} {xs : List Operand} {ts : Array TypeId} {fn : Func} (args : List Value)
  (ho : o.op = .call { callee := .value (.func f), args := xs.toArray, argTypes := ts }) (hf : P.funcs[f]? = some fn) (hb : fn.body.isNone = false) (hn : (fn.name == "runtime.NumGoroutine") = false)
  (ha : xs.map a.eval = args) (h : Calls P f args.toArray w fun e w'=>∃ v,e = .returned v∧K v w') : Does P o a w K:=by
 have hr : (execOp a.eval o).run P w = .ok (.enter f args.toArray) w:=by
  have he : a.eval (.func f) = .func (.func f) #[] #[] := rfl;simp only [execOp, ho, resolve, he, List.map_toArray, ha, Deferred.ofValue, pure_bind, invoke];have hn' : fn.name ≠ "runtime.NumGoroutine" := by simpa using hn
  have hb' : fn.body≠none:=fun e=>by rw [e] at hb; cases hb
  simp [callFunc,hf,hb',hn',program,Sem.run_bind,Sem.run]
 unfold Does;rw [hr];exact h
end
def laxTB (ops : Array Oper) (T : Nat) : Bool :=
 Region.noSelect ops && decide (T≤ops.size) && (List.range ops.size).all fun j=>match ops[j]? with
  | none=>false
  | some oj=>oj.after.all (fun e=>!Region.binds .any e || decide (e.on < j)) &&
    (if j < T then (List.range j).all fun i=>edge ops i j || (match ops[i]? with | some oi=>oi.apart ops oj | none=>false) else (List.range j).all fun i=>anc ops j i j)
def unlistedT (listed : Array Bool) (T : Nat) : List Nat:=(List.range T).filter fun i=>listed.getD i true == false
section
variable {P : Program} {ops : Array Oper} {w0 : World} {S : Nat→Option Spec} {T : Nat}
theorem laxTB_edge (hB : laxTB ops T = true) {j : Nat} {oj : Oper} (hj : ops[j]? = some oj) : ∀ i,edge ops i j = true→i < j:=by
 simp only [laxTB,Bool.and_eq_true,List.all_eq_true,List.mem_range] at hB;have h:=hB.2 j (Array.getElem?_eq_some_iff.1 hj).1;simp only [hj,Bool.and_eq_true] at h;intro i hi;obtain ⟨e,he,hb,rfl⟩:=(edge_of hj).1 hi;have:=Array.all_eq_true_iff_forall_mem.1 h.1 e he
 simpa [hb] using this
theorem laxTB_apart (hB : laxTB ops T = true) {j : Nat} {oj : Oper} (hj : ops[j]? = some oj) (hT : j < T) : ∀ i,i < j→edge ops i j = true∨∃ oi,ops[i]? = some oi∧oi.apart ops oj = true:=by
 simp only [laxTB,Bool.and_eq_true,List.all_eq_true,List.mem_range] at hB;have h:=hB.2 j (Array.getElem?_eq_some_iff.1 hj).1;simp only [hj,Bool.and_eq_true,if_pos hT,List.all_eq_true,List.mem_range] at h;intro i hi;have:=h.2 i hi;rw [Bool.or_eq_true] at this
 rcases this with h1 | h1
 ·exact Or.inl h1
 ·right
  cases ho : ops[i]? with
  | none=>simp [ho] at h1
  | some oi=>simp only [ho] at h1; exact ⟨oi,rfl,h1⟩
theorem laxTB_last (hB : laxTB ops T = true) {j : Nat} {oj : Oper} (hj : ops[j]? = some oj) (hT : T≤j) : ∀ i,i < j→anc ops j i j = true:=by
 simp only [laxTB,Bool.and_eq_true,List.all_eq_true,List.mem_range] at hB;have h:=hB.2 j (Array.getElem?_eq_some_iff.1 hj).1;simp only [hj,Bool.and_eq_true,if_neg (Nat.not_lt.2 hT),List.all_eq_true,List.mem_range] at h;exact h.2
theorem ancT_lt (hB : laxTB ops T = true) : ∀ (f i j : Nat),anc ops f i j = true→i < j
 | 0,_,_,h=>by simp [anc] at h
 | f + 1,i,j,h=>by
  simp only [anc,Bool.or_eq_true,List.any_eq_true,List.mem_range,Bool.and_eq_true] at h
  rcases h with h | ⟨k,hk,_,h⟩
  ·obtain ⟨oj,hj⟩:=edge_some h;exact laxTB_edge hB hj i h
  ·have:=ancT_lt hB f i k h;omega
theorem unlistedT_set {listed : Array Bool} {j : Nat} (hl : j < listed.size) : unlistedT (listed.setIfInBounds j true) T = (unlistedT listed T).filter (· != j):=by
 unfold unlistedT;rw [List.filter_filter];refine List.filter_congr fun i hi=>?_
 by_cases h : j = i
 ·subst h
  simp [hl]
 ·rw [getD_set_ne true h];have : (i != j) = true:=by simpa using Ne.symm h
  rw [this,Bool.true_and]
theorem getD_up {listed : Array Bool} {i : Nat} (hi : i < listed.size) (h : listed.getD i true = true) : listed.getD i false = true:=by
 simp [hi] at h ⊢; exact h
theorem wpAny_last {Q : Exit→Act→World→Prop} (hB : laxTB ops T = true) : ∀ (m : Nat) (l : List Oper) (k : Nat) (listed : Array Bool) (a : Act) (w : World),T≤k→listed.size = ops.size→k + m = ops.size→l.length = m→(∀ j,l[j]? = ops[k + j]?) →
  (∀ i,i < k→listed.getD i true = true)→(∀ i,k≤i→i < ops.size→listed.getD i true = false)→wpList P ops Q l a w→wpAny P .any ops Q m listed a w:=by
 intro m
 induction m with
 | zero =>
  intro l k listed a w hT hsz hk hl hops hin hout h;have : l = []:=List.eq_nil_of_length_eq_zero hl;subst this;refine ⟨?_,h⟩
  cases hr : Region.ready .any ops listed with
  | nil=>rfl
  | cons x xs =>
   have hx : x∈Region.ready .any ops listed:=by rw [hr]; simp
   obtain ⟨h0,o,ho,_⟩:=mem_ready.1 hx;have hxs:=(Array.getElem?_eq_some_iff.1 ho).1;rw [hin x (by omega)] at h0
   cases h0
 | succ m ih =>
  intro l k listed a w hT hsz hk hl hops hin hout h;obtain ⟨o,l',rfl⟩ : ∃ o l',l = o :: l':=by
   cases l with
   | nil=>simp at hl
   | cons o l'=>exact ⟨o,l',rfl⟩
  have hok : ops[k]? = some o:=by have:=hops 0; simpa using this.symm
  have hkr : k∈Region.ready .any ops listed:=by
   refine mem_ready.2 ⟨hout k (Nat.le_refl _) (by omega),o,hok,fun e he hb=>?_⟩
   have hlt:=laxTB_edge hB hok e.on ((edge_of hok).2 ⟨e,he,hb,rfl⟩);exact getD_up (by omega) (hin e.on hlt)
  refine ⟨fun hr=>?_,fun j hj=>?_⟩
  ·rw [hr] at hkr;cases hkr
  ·obtain ⟨h0,oj,hoj,hall⟩:=mem_ready.1 hj;have hjs:=(Array.getElem?_eq_some_iff.1 hoj).1;have hjk : k≤j:=by
    rcases Nat.lt_or_ge j k with h1 | h1
    ·rw [hin j h1] at h0; cases h0
    ·exact h1
   have hj' : j = k:=by
    rcases Nat.lt_or_ge k j with h1 | h1
    ·exfalso;have ha:=laxTB_last hB hoj (by omega) k h1
     have hc : closed ops listed:=fun i q hq hiq=>by
      obtain ⟨oq,hoq⟩:=edge_some hiq;have hlt:=laxTB_edge hB hoq i hiq;have hqk : q < k:=by
       rcases Nat.lt_or_ge q k with h2 | h2
       ·exact h2
       ·have:=getD_flip (hout q h2 (Array.getElem?_eq_some_iff.1 hoq).1);rw [this] at hq; cases hq
      exact getD_up (by omega) (hin i (by omega))
     have:=anc_listed hc j k j (fun q hq=>by
      obtain ⟨e,he,hb,rfl⟩:=(edge_of hoj).1 hq;exact hall e he hb) ha
     rw [getD_flip (hout k (Nat.le_refl _) (by omega))] at this
     cases this
    ·omega
   subst hj';rw [hok] at hoj;cases hoj;unfold wpList at h;unfold wpOp;simp only [hok];have hnext : ∀ a w,wpList P ops Q l' a w→wpAny P .any ops Q m (listed.setIfInBounds j true) a w:=fun a w h' =>
    ih l' (j + 1) _ a w (by omega) (by simp [hsz]) (by omega) (by simpa using hl) (fun q=>by have:=hops (q + 1); rw [List.getElem?_cons_succ] at this; rw [this]; congr 1; omega)
     (fun i hi=>by
      by_cases e : j = i
      ·subst e
       simp [show j < listed.size by omega]
      ·rw [getD_set_ne true e]; exact hin i (by omega))
     (fun i hi hi'=>by rw [getD_set_ne true (by omega)]; exact hout i (by omega) hi') h'
   split
   ·rename_i hw
    rw [if_pos hw] at h
    rcases h with h | h
    ·exact .inl (Oper.wp_mono hnext h)
    ·exact .inr h
   ·rename_i hw
    rw [if_neg hw] at h;exact hnext _ _ h
theorem wpAny_of_lexT {Q : Act→World→Prop} {Q' : Exit→Act→World→Prop} {l : List Oper} {m : Nat} (hB : laxTB ops T = true) (hTl : T + m = ops.size) (hll : l.length = m) (hops : ∀ j,l[j]? = ops[T + j]?) (hS : ∀ k s,S k = some s→∃ v,s.pv v)
  (hp : ∀ k s,S k = some s→∀ v w w',Grew w w'→s.post v w→s.post v w') (hQ : ∀ a w,Q a w→wpList P ops Q' l a w) :
  ∀ (fuel : Nat) (listed : Array Bool) (F : Nat→World→Prop) (a : Act) (w : World),listed.size = ops.size→(∀ i,T≤i→i < ops.size→listed.getD i true = false)→(unlistedT listed T).length = fuel→closed ops listed→Grew w0 w →
   (∀ i,F i w)→(∀ i w w',Grew w w'→F i w→F i w')→LexR P ops w0 S Q (unlistedT listed T) F a→wpAny P .any ops Q' (fuel + m) listed a w:=by
 have hsel:=Region.noSelect_spec (ops:=ops) (by simp only [laxTB,Bool.and_eq_true] at hB; exact hB.1.1)
 intro fuel
 induction fuel with
 | zero =>
  intro listed F a w hsz hout hl hc hw hF hFp h;have hnil : unlistedT listed T = []:=List.eq_nil_of_length_eq_zero hl;rw [hnil] at h;rw [Nat.zero_add];refine wpAny_last hB m l T listed a w (Nat.le_refl _) hsz hTl hll hops (fun i hi=>?_) hout (hQ _ _ (h w hw hF))
  cases hg : listed.getD i true with
  | true=>rfl
  | false =>
   have : i∈unlistedT listed T:=List.mem_filter.2 ⟨List.mem_range.2 hi,by simp only [hg,beq_self_eq_true]⟩
   rw [hnil] at this;cases this
 | succ fuel ih =>
  intro listed F a w hsz hout hl hc hw hF hFp h;rw [Nat.add_right_comm];refine ⟨fun hr=>?_,fun j hj=>?_⟩
  ·exfalso
   cases hu : unlistedT listed T with
   | nil=>simp [hu] at hl
   | cons x xs =>
    have hx : x∈unlistedT listed T:=by rw [hu]; simp
    have hx':=List.mem_filter.1 hx;have hxT : x < T:=List.mem_range.1 hx'.1;have hxs : x < ops.size:=by omega
    have ho : ops[x]? = some ops[x]:=Array.getElem?_eq_getElem hxs;have hsorted : (unlistedT listed T).Pairwise (· < ·):=List.Pairwise.filter _ List.pairwise_lt_range;have : x∈Region.ready .any ops listed:=by
     refine mem_ready.2 ⟨by simpa using hx'.2,ops[x],ho,fun e he hb=>?_⟩
     have hed : edge ops e.on x = true:=(edge_of ho).2 ⟨e,he,hb,rfl⟩;have hlt:=laxTB_edge hB ho _ hed
     cases hg : listed.getD e.on true with
     | true=>exact getD_up (by omega) hg
     | false =>
      have hmem : e.on∈unlistedT listed T:=List.mem_filter.2 ⟨List.mem_range.2 (by omega),by simp only [hg,beq_self_eq_true]⟩
      rw [hu] at hmem hsorted
      rcases List.mem_cons.1 hmem with e1 | e1
      ·omega
      ·have:=(List.pairwise_cons.1 hsorted).1 _ e1;omega
    rw [hr] at this;cases this
  ·obtain ⟨h0,oj,hoj,hall⟩:=mem_ready.1 hj;have hjs : j < ops.size:=(Array.getElem?_eq_some_iff.1 hoj).1;have hdir : ∀ k,edge ops k j = true→listed.getD k false = true:=fun k hk=>by
    obtain ⟨e,he,hb,rfl⟩:=(edge_of hoj).1 hk;exact hall e he hb
   have hjT : j < T:=by
    rcases Nat.lt_or_ge j T with h1 | h1
    ·exact h1
    ·exfalso
     cases hu : unlistedT listed T with
     | nil=>simp [hu] at hl
     | cons x xs =>
      have hx : x∈unlistedT listed T:=by rw [hu]; simp
      have hx':=List.mem_filter.1 hx;have hxT : x < T:=List.mem_range.1 hx'.1;have:=anc_listed hc j x j hdir (laxTB_last hB hoj h1 x (by omega))
      rw [getD_flip (by simpa using hx'.2)] at this
      cases this
   have hju : j∈unlistedT listed T:=List.mem_filter.2 ⟨List.mem_range.2 hjT,by simp only [h0,beq_self_eq_true]⟩
   have hnd : (unlistedT listed T).Nodup:=List.Pairwise.filter _ List.nodup_range;have hsorted : (unlistedT listed T).Pairwise (· < ·):=List.Pairwise.filter _ List.pairwise_lt_range;have hcm:=LexR.commute hoj hw hsel hS (unlistedT listed T) F a hnd hju (fun i hi hij=>by
    have hi':=List.mem_filter.1 hi;have hun : listed.getD i false = false:=getD_flip (by simpa using hi'.2)
    have his : i < ops.size:=by have:=List.mem_range.1 hi'.1; omega
    have hoi : ops[i]? = some ops[i]:=Array.getElem?_eq_getElem his;refine ⟨ops[i],hoi,fun hlt=>?_,?_,fun hlt=>?_⟩
    ·rcases laxTB_apart hB hoj hjT i hlt with he | ⟨oi,hoi',hap⟩
     ·have:=hdir i he;rw [hun] at this;cases this
     ·rw [hoi] at hoi';cases hoi';exact hap
    ·cases ha : anc ops 3 i j with
     | false=>rfl
     | true =>
      have:=anc_listed hc 3 i j hdir ha;rw [hun] at this;cases this
    ·cases ha : anc ops 3 j i with
     | false=>rfl
     | true =>
      have:=ancT_lt hB 3 j i ha
      omega) hsorted (fun m _=>hF m) h
   have hsz' : (listed.setIfInBounds j true).size = ops.size:=by simp [hsz]
   have hout' : ∀ i,T≤i→i < ops.size→(listed.setIfInBounds j true).getD i true = false:=fun i hi hi'=>by rw [getD_set_ne true (by omega)]; exact hout i hi hi'
   have hlen' : (unlistedT (listed.setIfInBounds j true) T).length = fuel:=by
    rw [unlistedT_set (by omega)]
    have he : (unlistedT listed T).filter (· != j) = (unlistedT listed T).erase j:=by
     rw [List.Nodup.erase_eq_filter hnd]
    rw [he,List.length_erase_of_mem hju];omega
   have hc' : closed ops (listed.setIfInBounds j true):=fun i k hk hik=>by
    by_cases hkj : j = k
    ·subst hkj;exact getD_set_true (hdir i hik)
    ·rw [getD_set_ne false hkj] at hk;exact getD_set_true (hc i k hk hik)
   unfold wpOp;simp only [hoj];simp only [LexR,Clause,hoj] at hcm;rw [←unlistedT_set (by omega)] at hcm
   split
   ·rename_i hwant
    simp only [hwant,if_true] at hcm;refine .inl ?_
    cases hs : S j with
    | none =>
     simp only [hs] at hcm;obtain ⟨v,hrun,hk⟩:=hcm;have hr:=hrun w hw (fun m _=>hF m)
     unfold Oper.wp;rw [hr];exact ih _ F _ w hsz' hout' hlen' hc' hw hF hFp hk
    | some s =>
     simp only [hs] at hcm;refine (hcm.1 w hw (fun m _=>hF m)).wp fun v w' ⟨hg,hpv,hpost⟩=>?_
     refine ih _ (fset F j (s.post v)) _ w' hsz' hout' hlen' hc' (hw.trans hg) (fun i=>?_) (fun i x y hxy hx=>?_) (hcm.2 v hpv)
     ·unfold fset
      split
      ·exact hpost
      ·exact hFp i w w' hg (hF i)
     ·unfold fset at *
      split
      ·rename_i he; simp only [he,if_true] at hx; exact hp j s hs v x y hxy hx
      ·rename_i he; simp only [he,if_false] at hx; exact hFp i x y hxy hx
   ·rename_i hwant
    simp only [hwant] at hcm;exact ih _ F _ w hsz' hout' hlen' hc' hw hF hFp hcm
theorem wp_lax_tail {id : Nat} {Q : Exit→Act→World→Prop} {a : Act} {w : World} {L l r : List Oper} (T : Nat) (S : List (Nat × Spec)) (hm : P.follows .mixedOrders = true) (hB : laxTB L.toArray T = true) (hl : L.take T = l) (hr : L.drop T = r) (hT : T≤L.length)
  (hS : ∀ x∈S,∃ v,x.2.pv v) (hp : ∀ x∈S,∀ v w w',Grew w w'→x.2.post v w→x.2.post v w')
  (h : WLax P L.toArray w (fun k=>S.lookup k) (fun a w=>wpList P L.toArray Q r a w) l 0 (fun _ _=>True) a) : (Code.region id L.toArray true).wp P Q a w:=by
 have hlook : ∀ (S : List (Nat × Spec)) k s,S.lookup k = some s→∃ x∈S,x.2 = s:=by
  intro S
  induction S with
  | nil=>intro k s h; simp at h
  | cons x S ih =>
   intro k s h;rw [List.lookup_cons] at h
   split at h
   ·exact ⟨x,by simp,by simpa using h⟩
   ·obtain ⟨y,hy,he⟩:=ih k s h; exact ⟨y,by simp [hy],he⟩
 have hlT : l.length = T:=by rw [←hl,List.length_take]; omega
 have hrT : r.length = L.length - T:=by rw [←hr,List.length_drop]
 refine wp_region_any hm ?_;have hu : unlistedT (Array.replicate L.toArray.size false) T = List.range T:=by
  unfold unlistedT;refine List.filter_eq_self.2 fun i hi=>?_
  have : i < T:=by simpa using hi
  simp [show i < L.length by omega]
 have h':=lexR_of_lax (ops:=L.toArray) l 0 _ a (fun j=>by
  rcases Nat.lt_or_ge j T with hj | hj
  ·left; rw [←hl,List.getElem?_take_of_lt hj]; simp
  ·right; omega) h.out
 rw [hlT,←List.range_eq_range'] at h';have hfin:=wpAny_of_lexT (P:=P) (w0:=w) (S:=fun k=>S.lookup k) (F:=fun _ _=>True) (ops:=L.toArray) (T:=T) (l:=r) (m:=L.length - T) (Q:=fun a w=>wpList P L.toArray Q r a w) (Q':=Q) hB (by simp; omega) hrT (fun j=>by rw [←hr,List.getElem?_drop]; simp) (fun k s hs=>by obtain ⟨x,hx,rfl⟩:=hlook S k s hs; exact hS x hx) (fun k s hs=>by obtain ⟨x,hx,rfl⟩:=hlook S k s hs; exact hp x hx) (fun _ _ h=>h)
  T (Array.replicate L.toArray.size false) a w.drew (by simp) (fun i hi hi'=>by simp at hi'; simp [hi']) (by rw [hu]; simp) (fun i j hj _=>by
   exfalso;rw [Array.getD_eq_getD_getElem?,Array.getElem?_replicate] at hj
   split at hj <;> simp at hj)
  (show Below _ _ _ from (Below.refl _ _).drew) (fun _=>trivial) (fun _ _ _ _ _=>trivial) (by rw [hu]; exact h')
 have hsz : T + (L.length - T) = L.toArray.size:=by simp; omega
 rw [hsz] at hfin;exact hfin
end
theorem add_add' (a : Addr) (i j : Nat) : (a.add i).add j = a.add (i + j):=by
 unfold Addr.add
 by_cases h1 : i = 0 <;> by_cases h2 : j = 0 <;> simp [h1,h2] <;> omega
def Cells (w : World) (x : Addr) (cs : List Value) : Prop:=∀ j u,cs[j]? = some u→w.cell? (x.add j) = some u
theorem Cells.grew {w w' : World} {x : Addr} {cs : List Value} (h : Cells w x cs) (hg : Grew w w') : Cells w' x cs:=fun j u hj=>by
 have h1:=h j u hj;rw [Below.cell hg (World.block_lt_of_cell? _ _ h1)];exact h1
theorem flatMap_len {α : Type} {enc : α→List Value} {k : Nat} : ∀ (l : List α),(∀ a∈l,(enc a).length = k)→(l.flatMap enc).length = l.length * k
 | [],_=>by simp
 | a :: l,h=>by
  rw [List.flatMap_cons,List.length_append,h a (by simp),flatMap_len l (fun b hb=>h b (by simp [hb])),List.length_cons,Nat.add_mul,Nat.one_mul,Nat.add_comm]
theorem flatMap_elem {α : Type} {enc : α→List Value} {k : Nat} : ∀ (l : List α) (j : Nat) (a : α),(∀ b∈l,(enc b).length = k)→l[j]? = some a→∀ i u,(enc a)[i]? = some u→(l.flatMap enc)[j * k + i]? = some u
 | [],j,a,_,h,_,_,_=>by simp at h
 | b :: l,0,a,hk,h,i,u,hi=>by
  simp at h; subst h
  have hil : i < (enc b).length:=by
   rcases Nat.lt_or_ge i (enc b).length with h | h
   ·exact h
   ·rw [List.getElem?_eq_none h] at hi; cases hi
  rw [List.flatMap_cons,Nat.zero_mul,Nat.zero_add,List.getElem?_append_left hil];exact hi
 | b :: l,j + 1,a,hk,h,i,u,hi=>by
  have hb:=hk b (by simp)
  rw [List.flatMap_cons,List.getElem?_append_right (by rw [hb,Nat.add_mul]; omega),hb]
  have e : (j + 1) * k + i - k = j * k + i:=by rw [Nat.add_mul]; omega
  rw [e];exact flatMap_elem l j a (fun c hc=>hk c (by simp [hc])) (by simpa using h) i u hi
theorem Cells.elem {α : Type} {enc : α→List Value} {k : Nat} {w : World} {x : Addr} {l : List α} (h : Cells w x (l.flatMap enc)) (hk : ∀ b∈l,(enc b).length = k) {j : Nat} {a : α} (ha : l[j]? = some a) : Cells w (x.add (j * k)) (enc a):=fun i u hi=>by
 rw [add_add'];exact h _ _ (flatMap_elem l j a hk ha i u hi)
def SliceAt {α : Type} (enc : α→List Value) (w : World) (v : Value) (l : List α) : Prop :=
 ∃ a c,v = .slice a l.length c∧(a = none→l = [])∧∀ x,a = some x→Cells w x (l.flatMap enc)
theorem SliceAt.grew {α : Type} {enc : α→List Value} {w w' : World} {v : Value} {l : List α} (h : SliceAt enc w v l) (hg : Grew w w') : SliceAt enc w' v l:=by
 obtain ⟨a,c,h1,h2,h3⟩:=h;exact ⟨a,c,h1,h2,fun x hx=>(h3 x hx).grew hg⟩
theorem sliceAt_of_owns {α : Type} {enc : α→List Value} {w : World} {base size : Nat} {e : TypeId} {v : Value} {l : List α} (h : w.ownsRow base e size v l.length (l.flatMap enc)) : SliceAt enc w v l:=by
 rcases h.2 with ⟨rfl,hn⟩ | ⟨g,cap,cur,rfl,h2,h3,h4,h5,h6,h7⟩
 ·have hl : l = []:=List.eq_nil_of_length_eq_zero hn;subst hl;exact ⟨none,0,rfl,fun _=>rfl,fun x hx=>by cases hx⟩
 ·refine ⟨some ⟨g,0,none⟩,cap,rfl,fun h=>(by cases h),fun x hx=>?_⟩
  cases hx;exact h.cells rfl
theorem ownsRow_grew {w w' : World} {base size n : Nat} {e : TypeId} {v : Value} {xs : List Value} (h : w.ownsRow base e size v n xs) (hg : Grew w w') : w'.ownsRow base e size v n xs:=by
 refine ⟨h.1,?_⟩
 rcases h.2 with h1 | ⟨g,cap,cur,rfl,h2,h3,h4⟩
 ·exact .inl h1
 ·exact .inr ⟨g,cap,cur,rfl,h2,by rw [Below.block hg g (Array.getElem?_eq_some_iff.1 h3).1]; exact h3,h4⟩
theorem ownsRow_base {w : World} {base base' size n : Nat} {e : TypeId} {v : Value} {xs : List Value} (h : w.ownsRow base e size v n xs) (hb : base'≤base) : w.ownsRow base' e size v n xs:=by
 refine ⟨h.1,?_⟩
 rcases h.2 with h1 | ⟨g,cap,cur,rfl,h2,h3⟩
 ·exact .inl h1
 ·exact .inr ⟨g,cap,cur,rfl,Nat.le_trans hb h2,h3⟩
theorem flatMap_one {α : Type} {enc : α→List Value} (h : ∀ a,∀ u∈enc a,u.oneCell' = true) (l : List α) : ∀ u∈l.flatMap enc,u.oneCell' = true:=fun u hu=>by
 obtain ⟨a,_,ha⟩:=List.mem_flatMap.1 hu;exact h a u ha
theorem maxLen_of {n : Nat} (h : n≤140737488355328) : n≤maxLen:=by simp [maxLen]; omega
theorem grew_alloc (w : World) (o : Obj) : Grew w (w.alloc o):=(Below.refl _ _).alloc (Nat.le_refl _) _
theorem grew_set {w W : World} (h : Grew w W) {a : Addr} (ha : w.heap.size≤a.block) (u : Value) : Grew w (W.setCell a u):=Below.setCell h ha u
theorem mixed : Tryz.prog.follows .mixedOrders = true:=by kernel_rfl
def fresh (base : Nat) (v : Value) : Prop:=∀ x n c,v = .slice (some x) n c→base≤x.block
theorem fresh_nil (base : Nat) : fresh base (.slice none 0 0):=fun x n c e=>by cases e
theorem add_block (x : Addr) (j : Nat) : (x.add j).block = x.block:=by unfold Addr.add; split <;> rfl
theorem SliceAt.setCell {α : Type} {enc : α→List Value} {base : Nat} {w : World} {v : Value} {l : List α} (h : SliceAt enc w v l) (hf : fresh base v) {a : Addr} (ha : a.block < base) (u : Value) : SliceAt enc (w.setCell a u) v l:=by
 obtain ⟨x,c,h1,h2,h3⟩:=h;refine ⟨x,c,h1,h2,fun y hy j t hj=>?_⟩
 subst hy;have:=hf y _ _ h1;rw [World.cell?_of_block (w:=w) (Below.heap_setCell _ _ _ _ (by rw [add_block]; omega))]
 exact h3 y rfl j t hj
theorem setRow_grown (w : World) (g : Nat) (cs : Array Value) : w.grownBy (w.setRow g cs) (some g):=by
 refine ⟨rfl,rfl,rfl,by simp [World.setRow],fun k hk hne=>?_⟩
 have : g≠k:=fun e=>hne (by rw [e])
 unfold World.setRow
 simp [Array.getElem?_modify,this]
theorem run_storeCells_row {P : Program} {w : World} {base size n : Nat} {e : TypeId} {v : Value} {xs : List Value} (h : w.ownsRow base e size v n xs) {g : Nat} (hg : v.ownBlock = some g) (off : Nat) (cs : List Value) (hfit : off + cs.length≤n * size) (h1 : ∀ u∈cs,u.oneCell' = true) :
  ∃ w',(storeCells ⟨g,off,none⟩ cs 0).run P w = .ok () w'∧w'.ownsRow base e size v n (splice xs off cs)∧w.grownBy w' (some g)∧w'.heap.size = w.heap.size:=by
 obtain ⟨hl,h2⟩:=h
 rcases h2 with ⟨rfl,hn⟩ | ⟨g',cap,cur,rfl,hb,hh,hn,hm,hs,ht⟩
 ·simp [Value.ownBlock] at hg
 ·simp [Value.ownBlock] at hg
  subst hg;have hle : n * size≤cur.size:=by rw [hs]; exact Nat.mul_le_mul_right _ hn
  refine ⟨_,run_storeCells_at P g' off e cs 0 cur w hh (by omega) h1,⟨by rw [length_splice _ _ _ (by omega)]; exact hl,.inr ⟨g',cap,_,rfl,hb,setRow_heap w g' cur _ e _ hh,hn,hm,?_,?_⟩⟩,setRow_grown _ _ _,by simp [World.setRow]⟩
  ·simp; omega
  ·subst ht
   apply List.ext_getElem?
   intro j;simp only [splice,Nat.add_zero];simp only [List.getElem?_take,List.getElem?_append,List.getElem?_drop,List.length_take,List.length_append,Array.length_toList];have e1 : min off cur.size = off:=by omega
   have e2 : min off (min (n * size) cur.size) = off:=by omega
   simp only [e1,e2]
   split <;> split <;> (try split) <;> (try split) <;> (try split) <;> first | rfl | omega | (congr 1; omega) | skip
theorem wpList_store_row {P : Program} {w : World} {ops : Array Oper} {rest : List Oper} {o : Oper} {a : Act} {Q : Exit→Act→World→Prop} (hgd : o.guard = none) (p x : Operand) (t : TypeId) (ho : o.op = .store t p x) (k : Nat) (hk : (P.info? t).map (·.size) = some k)
  (base : Nat) (v : Value) (n : Nat) (xs : List Value) (hown : w.ownsRow base t k v n xs) (g i : Nat) (hg : v.ownBlock = some g) (hi : i < n) (cs : List Value) (hcs : cs.length = k) (h1 : ∀ u∈cs,u.oneCell' = true)
  (ad : Addr) (hp : a.eval p = .pointer (some ad)) (had : ad = ⟨g,i * k,none⟩) (hx : a.eval x = .agg cs.toArray)
  (h : ∀ w',w'.ownsRow base t k v n (splice xs (i * k) cs)→w.grownBy w' (some g)→w'.heap.size = w.heap.size→wpList P ops Q rest (a.put o.dst undef) w') : wpList P ops Q (o :: rest) a w:=by
 subst had;refine wpList_plain hgd fun K hK=>?_
 have hfit : i * k + cs.length≤n * k:=by
  rw [hcs,←Nat.succ_mul];exact Nat.mul_le_mul_right _ hi
 obtain ⟨w',hr,h2,h3,h4⟩:=run_storeCells_row (P:=P) hown hg (i * k) cs hfit h1;have hsz : (Go.sizeOf t).run P w = .ok k w:=by
  cases hq : P.info? t with
  | none=>simp [hq] at hk
  | some i=>simp [hq] at hk; simp [Go.sizeOf,typeInfo,hq,hk]
 have hall : (Instr.storeAt t (.pointer (some ⟨g,i * k,none⟩)) (.agg cs.toArray)).run P w = .ok () w':=by
  simp [Instr.storeAt,Instr.sureAddr,storeVar,Sem.run_bind,hsz,Result.andThen,Value.cells,hcs,hr]
 unfold Oper.wp;simp only [execOp,ho,hp,hx,Sem.run_bind,hall,Result.andThen,Sem.run_pure,Oper.upon];exact hK _ _ (h w' h2 h3 h4)
theorem splice_set {α : Type} {enc : α→List Value} {k : Nat} (x : α) (hx : (enc x).length = k) : ∀ (l : List α) (i : Nat),(∀ a∈l,(enc a).length = k)→i < l.length→splice (l.flatMap enc) (i * k) (enc x) = (l.set i x).flatMap enc
 | [],i,_,hi=>by simp at hi
 | a :: l,0,h,_=>by
  simp only [splice,List.flatMap_cons,Nat.zero_mul,List.take_zero,List.nil_append,Nat.zero_add,List.set_cons_zero];rw [List.drop_append_of_le_length (by rw [hx,h a (by simp)]; exact Nat.le_refl _),List.drop_of_length_le (by rw [hx,h a (by simp)]; exact Nat.le_refl _),List.nil_append]
 | a :: l,i + 1,h,hi=>by
  have ha:=h a (by simp)
  have ih:=splice_set x hx l i (fun b hb=>h b (by simp [hb])) (by simpa using hi)
  simp only [splice,List.flatMap_cons,List.set_cons_succ] at ih ⊢;rw [←ih,Nat.succ_mul,Nat.add_comm (i * k) k,←ha,List.take_length_add_append,Nat.add_assoc,List.drop_length_add_append,List.append_assoc]
theorem grew_grown {w W W' : World} {g : Nat} (h : Grew w W) (hg : W.grownBy W' (some g)) (hb : w.heap.size≤g) : Grew w W' :=
 Below.grown h hg (Below.size h) (fun k hk=>by cases hk; exact hb)
def Box (w : World) (b : Nat) (cs : List Value) : Prop:=∃ t,w.heap[b]? = some (.cells cs.toArray t (0,0))
theorem Box.lt {w : World} {b : Nat} {cs : List Value} (h : Box w b cs) : b < w.heap.size:=by
 obtain ⟨t,h⟩:=h;exact (Array.getElem?_eq_some_iff.1 h).1
theorem Box.c {w : World} {b : Nat} {cs : List Value} (h : Box w b cs) (i : Nat) {u : Value} (hi : cs[i]? = some u) : w.cell? ⟨b,i,none⟩ = some u:=by
 obtain ⟨t,h⟩:=h
 simp [World.cell?,h,hi]
theorem Box.f {w : World} {b : Nat} {cs : List Value} (h : Box w b cs) (i : Nat) : w.frozen? ⟨b,i,none⟩ = false:=by
 obtain ⟨t,h⟩:=h
 simp [World.frozen?,h]
theorem Box.below {w w' : World} {b B : Nat} {cs : List Value} (h : Box w b cs) (hg : Below B w w') (hb : b < B) : Box w' b cs:=by
 obtain ⟨t,h⟩:=h;exact ⟨t,by rw [hg.block b hb]; exact h⟩
theorem Box.grew {w w' : World} {b : Nat} {cs : List Value} (h : Box w b cs) (hg : Grew w w') : Box w' b cs:=h.below hg h.lt
theorem Box.top (w : World) (cs : List Value) (t : TypeId) {b : Nat} (hb : b = w.heap.size) : Box (w.alloc (.cells cs.toArray t)) b cs:=by
 subst hb;refine ⟨t,?_⟩
 show (w.heap.push _)[w.heap.size]? = _
 simp
theorem Box.alloc {w : World} {b : Nat} {cs : List Value} (h : Box w b cs) (o : Obj) : Box (w.alloc o) b cs:=h.grew (grew_alloc _ _)
theorem Box.grown {w w' : World} {b g : Nat} {cs : List Value} (h : Box w b cs) (hg : w.grownBy w' (some g)) (hb : b≠g) : Box w' b cs:=by
 have hlt:=h.lt;obtain ⟨t,h⟩:=h;exact ⟨t,by rw [hg.block b hlt (fun e=>hb (by cases e; rfl))]; exact h⟩
theorem Box.other {w : World} {b : Nat} {cs : List Value} (h : Box w b cs) {a : Addr} (ha : b≠a.block) (u : Value) : Box (w.setCell a u) b cs:=by
 obtain ⟨t,h⟩:=h;exact ⟨t,by rw [Below.heap_setCell _ _ _ _ ha]; exact h⟩
theorem Box.set {w : World} {b : Nat} {cs : List Value} (h : Box w b cs) (i : Nat) (u : Value) : Box (w.setCell ⟨b,i,none⟩ u) b (cs.set i u):=by
 have hlt:=h.lt;obtain ⟨t,h⟩:=h;refine ⟨t,?_⟩;obtain ⟨_,h2⟩:=Array.getElem?_eq_some_iff.1 h;unfold World.setCell;rw [Array.getElem?_eq_getElem (by simpa using hlt)]
 simp [Array.getElem_modify,h2]
theorem ownsRow_same {w w' : World} {base size n : Nat} {e : TypeId} {v : Value} {xs : List Value} (h : w.ownsRow base e size v n xs) (hs : ∀ k,base≤k→w'.heap[k]? = w.heap[k]?) : w'.ownsRow base e size v n xs:=by
 refine ⟨h.1,?_⟩
 rcases h.2 with h1 | ⟨g,cap,cur,rfl,h2,h3,h4⟩
 ·exact .inl h1
 ·exact .inr ⟨g,cap,cur,rfl,h2,by rw [hs g h2]; exact h3,h4⟩
theorem alloc2_same (w : World) (A B C : Obj) (k : Nat) (hk : w.heap.size + 1≤k) : ((w.alloc A).alloc C).heap[k]? = ((w.alloc B).alloc C).heap[k]?:=by
 show ((w.heap.push A).push C)[k]? = ((w.heap.push B).push C)[k]?
 simp only [Array.getElem?_push,Array.size_push]
 split
 ·rfl
 ·rw [if_neg (by omega),if_neg (by omega)]
theorem World.grownBy.rfl' (w : World) (row : Option Nat) : w.grownBy w row:=⟨rfl,rfl,rfl,Nat.le_refl _,fun _ _ _=>rfl⟩
theorem Cells.top (w : World) (cs : List Value) (t : TypeId) {b : Nat} (hb : b = w.heap.size) : Cells (w.alloc (.cells cs.toArray t)) ⟨b,0,none⟩ cs:=fun j u hj=>by
 rw [Addr.add_lit,Nat.zero_add];exact (Box.top w cs t hb).c j hj
theorem Box.beside {w w' : World} {b : Nat} {cs : List Value} {row : Option Nat} (h : Box w b cs) (hg : w.grownBy w' row) (hb : ∀ g,row = some g→b≠g) : Box w' b cs:=by
 have hlt:=h.lt;obtain ⟨t,h⟩:=h;exact ⟨t,by rw [hg.block b hlt (fun e=>hb b e.symm rfl)]; exact h⟩
theorem grew_beside {w W W' : World} {row : Option Nat} (h : Grew w W) (hg : W.grownBy W' row) (hb : ∀ g,row = some g→w.heap.size≤g) : Grew w W':=Below.grown h hg (Below.size h) hb
def BoxT (w : World) (b : Nat) (t : TypeId) (cs : List Value) : Prop:=w.heap[b]? = some (.cells cs.toArray t (0,0))
theorem BoxT.box {w : World} {b : Nat} {t : TypeId} {cs : List Value} (h : BoxT w b t cs) : Box w b cs:=⟨t,h⟩
theorem BoxT.top (w : World) (cs : List Value) (t : TypeId) {b : Nat} (hb : b = w.heap.size) : BoxT (w.alloc (.cells cs.toArray t)) b t cs:=by
 subst hb
 show (w.heap.push _)[w.heap.size]? = _
 simp
theorem BoxT.grew {w w' : World} {b : Nat} {t : TypeId} {cs : List Value} (h : BoxT w b t cs) (hg : Grew w w') : BoxT w' b t cs:=(hg.block b h.box.lt).trans h
theorem BoxT.beside {w w' : World} {b : Nat} {t : TypeId} {cs : List Value} {row : Option Nat} (h : BoxT w b t cs) (hg : w.grownBy w' row) (hb : ∀ g,row = some g→b≠g) : BoxT w' b t cs:=by
 unfold BoxT;rw [hg.block b h.box.lt (fun e=>hb b e.symm rfl)]
 exact h
theorem BoxT.set {w : World} {b : Nat} {t : TypeId} {cs : List Value} (h : BoxT w b t cs) (i : Nat) (u : Value) : BoxT (w.setCell ⟨b,i,none⟩ u) b t (cs.set i u):=by
 have hlt:=h.box.lt;obtain ⟨_,h2⟩:=Array.getElem?_eq_some_iff.1 h;unfold BoxT World.setCell;rw [Array.getElem?_eq_getElem (by simpa using hlt)]
 simp [Array.getElem_modify,h2]
theorem ownsRow_setOther {w : World} {base size n : Nat} {e : TypeId} {v : Value} {xs : List Value} (h : w.ownsRow base e size v n xs) {a : Addr} (ha : ∀ g,v.ownBlock = some g→a.block≠g) (u : Value) : (w.setCell a u).ownsRow base e size v n xs:=by
 refine ⟨h.1,?_⟩
 rcases h.2 with h1 | ⟨g,cap,cur,rfl,h2,h3,h4⟩
 ·exact .inl h1
 ·exact .inr ⟨g,cap,cur,rfl,h2,by rw [Below.heap_setCell _ _ _ _ (fun e=>ha g rfl e.symm)]; exact h3,h4⟩
structure Elt (α : Type) where
 enc : α→List Value
 k : Nat
 ty : TypeId
 st : TypeId
 bytes : Nat
 zv : Value
 zero : α
 len : ∀ a,(enc a).length = k
 one : ∀ a,∀ u∈enc a,u.oneCell' = true
 und : Tryz.prog.underlying st = some (.slice ty)
 info : (Tryz.prog.info? ty).map (fun i=>(i.zero,i.size,i.bytes)) = some (some zv,k,bytes)
 zok : zv.cells = (enc zero).toArray
 few : k≤bytes
 pos : 0 < k
section
variable {α : Type} {E : Elt α}
def RowAt (E : Elt α) (w : World) (v : Value) (l : List α) : Prop:=SliceAt E.enc w v l∧l.length * E.bytes≤140737488355328
def OwnRow (E : Elt α) (base : Nat) (w : World) (v : Value) (l : List α) : Prop:=w.ownsRow base E.ty E.k v l.length (l.flatMap E.enc)∧l.length * E.bytes≤140737488355328
def RowsAt (E : Elt α) (w : World) (a : Option Addr) (l : List α) : Prop:=∀ (j : Nat) x,l[j]? = some x→∃ ad,a = some ad∧∀ W,Grew w W→Cells W (ad.add (j * E.k)) (E.enc x)
theorem zsize (E : Elt α) : E.zv.cells.size = E.k:=by rw [E.zok]; simp [E.len]
theorem row_len (E : Elt α) (l : List α) : (l.flatMap E.enc).length = l.length * E.k:=flatMap_len l fun a _=>E.len a
theorem RowAt.grew {w w' : World} {v : Value} {l : List α} (h : RowAt E w v l) (hg : Grew w w') : RowAt E w' v l:=⟨h.1.grew hg,h.2⟩
theorem RowAt.rows {w : World} {v : Value} {l : List α} (h : RowAt E w v l) : ∃ a c,v = .slice a l.length c∧RowsAt E w a l:=by
 obtain ⟨⟨a,c,h1,h2,h3⟩,_⟩:=h;refine ⟨a,c,h1,fun j q hj=>?_⟩
 cases a with
 | none=>rw [h2 rfl] at hj; simp at hj
 | some x=>exact ⟨x,rfl,fun W hW=>((h3 x rfl).grew hW).elem (k:=E.k) (fun b _=>E.len b) hj⟩
theorem RowAt.short {w : World} {v : Value} {l : List α} (h : RowAt E w v l) : l.length≤9223372036854775807:=by
 have h1:=h.2;have h2 : l.length * 1≤l.length * E.bytes:=Nat.mul_le_mul_left _ (Nat.le_trans E.pos E.few);omega
theorem RowAt.nil (E : Elt α) (w : World) : RowAt E w (.slice none 0 0) ([] : List α):=⟨⟨none,0,rfl,fun _=>rfl,fun x hx=>by cases hx⟩,by simp⟩
theorem OwnRow.at {base : Nat} {w : World} {v : Value} {l : List α} (h : OwnRow E base w v l) : RowAt E w v l:=⟨sliceAt_of_owns h.1,h.2⟩
theorem OwnRow.grew {base : Nat} {w w' : World} {v : Value} {l : List α} (h : OwnRow E base w v l) (hg : Grew w w') : OwnRow E base w' v l:=⟨ownsRow_grew h.1 hg,h.2⟩
theorem OwnRow.base {base base' : Nat} {w : World} {v : Value} {l : List α} (h : OwnRow E base w v l) (hb : base'≤base) : OwnRow E base' w v l:=⟨ownsRow_base h.1 hb,h.2⟩
theorem OwnRow.setCell {base : Nat} {w : World} {v : Value} {l : List α} (h : OwnRow E base w v l) {a : Addr} (ha : a.block < base) (u : Value) : OwnRow E base (w.setCell a u) v l:=⟨ownsRow_setCell_below h.1 ha u,h.2⟩
theorem OwnRow.setOther {base : Nat} {w : World} {v : Value} {l : List α} (h : OwnRow E base w v l) {a : Addr} (ha : ∀ g,v.ownBlock = some g→a.block≠g) (u : Value) : OwnRow E base (w.setCell a u) v l:=⟨ownsRow_setOther h.1 ha u,h.2⟩
theorem OwnRow.lt {base : Nat} {w : World} {v : Value} {l : List α} (h : OwnRow E base w v l) : ∀ g,v.ownBlock = some g→base≤g∧g < w.heap.size:=h.1.lt
theorem OwnRow.form {base : Nat} {w : World} {v : Value} {l : List α} (h : OwnRow E base w v l) : ∃ a c,v = .slice a l.length c:=by
 obtain ⟨a,c,h1,_⟩:=h.at.rows;exact ⟨a,c,h1⟩
theorem OwnRow.formS {base : Nat} {w : World} {v : Value} {l : List α} (h : OwnRow E base w v l) (hl : 0 < l.length) : ∃ g c,v = .slice (some ⟨g,0,none⟩) l.length c:=by
 rcases h.1.2 with ⟨rfl,h0⟩ | ⟨g,cap,cur,h0,_⟩
 ·omega
 ·exact ⟨g,cap,h0⟩
theorem OwnRow.fresh {base : Nat} {w : World} {v : Value} {l : List α} (h : OwnRow E base w v l) : fresh base v:=fun x n c e=>by
 rcases h.1.2 with ⟨h0,_⟩ | ⟨g,cap,cur,h0,h1,_⟩
 ·rw [h0] at e; cases e
 ·rw [h0] at e; cases e; exact h1
theorem OwnRow.nil (E : Elt α) (base : Nat) (w : World) : OwnRow E base w (.slice none 0 0) ([] : List α):=⟨World.ownsRow_nil _ _ _ _,by simp⟩
theorem OwnRow.made (E : Elt α) (w : World) : OwnRow E w.heap.size (w.alloc (.cells #[] E.ty)) (.slice (some ⟨w.heap.size,0,none⟩) 0 0) ([] : List α):=⟨World.ownsRow_made w #[] 0 (Nat.le_refl _) (Nat.zero_le _) (by simp),by simp⟩
theorem OwnRow.ne {base : Nat} {w : World} {v : Value} {l : List α} (h : OwnRow E base w v l) {b : Nat} {t : TypeId} {cs : List Value} (hb : BoxT w b t cs) (ht : t≠E.ty) : ∀ g,v.ownBlock = some g→b≠g:=fun g hg e=>by
 subst e
 rcases h.1.2 with ⟨rfl,_⟩ | ⟨g',cap,cur,rfl,_,h3,_⟩
 ·cases hg
 ·simp only [Value.ownBlock,Option.some.injEq] at hg;subst hg;rw [hb] at h3;cases h3;exact ht rfl
theorem OwnRow.grown {base : Nat} {w w' : World} {row : Option Nat} {v : Value} {l : List α} (h : OwnRow E base w v l) (hg : w.grownBy w' row) (hne : ∀ g,v.ownBlock = some g→row≠some g) : OwnRow E base w' v l:=by
 refine ⟨⟨h.1.1,?_⟩,h.2⟩
 rcases h.1.2 with h1 | ⟨g,cap,cur,rfl,h2,h3,h4⟩
 ·exact .inl h1
 ·exact .inr ⟨g,cap,cur,rfl,h2,by rw [hg.block g (Array.getElem?_eq_some_iff.1 h3).1 (fun e=>hne g rfl e.symm)]; exact h3,h4⟩
def NewRow (E : Elt α) (base : Nat) (w : World) (v : Value) (l : List α) : Prop:=RowAt E w v l∧fresh base v
theorem OwnRow.new {base : Nat} {w : World} {v : Value} {l : List α} (h : OwnRow E base w v l) : NewRow E base w v l:=⟨h.at,h.fresh⟩
theorem run_append_none {w : World} {base : Nat} {v : Value} {l : List α} (ty : TypeId) (hown : OwnRow E base w v l) (c : Nat) : (Builtin.append_ #[E.st,E.st] ty #[v,.slice none 0 c]).run Tryz.prog w = .ok v w:=by
 obtain ⟨i0,hi,_,hz1,_⟩:=info_parts E.info
 rcases hown.1.2 with ⟨rfl,_⟩ | ⟨g,cap,cur,rfl,_,_,hnc,_⟩
 ·simp [Builtin.append_,run_underlying E.und,sizeOf,typeInfo,hi,Builtin.lenOf,Builtin.firstCells]
 ·simp [Builtin.append_,run_underlying E.und,sizeOf,typeInfo,hi,Builtin.lenOf,Builtin.firstCells,hnc,storeCells]
theorem wpList_append_row {w : World} {ops : Array Oper} {rest : List Oper} {o : Oper} {a : Act} {Q : Exit→Act→World→Prop} (hgd : o.guard = none) (s x : Operand) (ho : o.op = .call { callee:= .builtin .append,args:=#[s,x],argTypes:=#[E.st,E.st] })
  (base : Nat) (vs : Value) (l0 : List α) (hs : a.eval s = vs) (hown : OwnRow E base w vs l0) (vx : Value) (l : List α) (hx : a.eval x = vx) (hv : RowAt E w vx l) (hb : (l0.length + l.length) * E.bytes≤140737488355328) (hbase : base≤w.heap.size)
  (h : ∀ v' w',OwnRow E base w' v' (l0 ++ l)→w.grownBy w' vs.ownBlock→wpList Tryz.prog ops Q rest (a.put o.dst v') w') : wpList Tryz.prog ops Q (o :: rest) a w:=by
 obtain ⟨⟨ax,c,rfl,hnone,hcells⟩,_⟩:=hv
 cases ax with
 | none =>
  have hps:=hnone rfl;subst hps;refine wpList_plain hgd fun K hK=>?_
  have hrun:=run_append_none o.type hown c;unfold Oper.wp execOp;simp only [ho,resolve,invoke,builtin,Sem.run_bind,Sem.run_pure,Result.andThen_ok,List.map_toArray,List.map_cons,List.map_nil,hs,hx,List.length_nil,hrun];exact hK _ _ (h vs w (by rw [List.append_nil]; exact hown) (World.grownBy.rfl' _ _))
 | some ad =>
  obtain ⟨i0,hi,hz0,hz1,hz2⟩:=info_parts E.info;have h2 : (l0.length + l.length) * 1≤(l0.length + l.length) * E.bytes:=Nat.mul_le_mul_left _ (Nat.le_trans E.pos E.few);refine wpList_append_own w hgd s x E.st ho base E.ty i0 _ E.k E.bytes E.und hi hz0 hz1 hz2 (zsize E) E.pos vs l0.length _ hs hown.1 ad l.length c (l.flatMap E.enc) hx (row_len E l) (hcells ad rfl) (flatMap_one E.one l) (maxLen_of (by omega)) hb hbase fun v' w' h1 h2 _=>?_
  exact h v' w' ⟨by rw [List.length_append,List.flatMap_append]; exact h1,by rw [List.length_append]; exact hb⟩ h2
theorem splice_part {x y : α} (j : Nat) (cs : List Value) (hy : E.enc y = splice (E.enc x) j cs) (hj : j + cs.length≤E.k) : ∀ (l : List α) (i : Nat),l[i]? = some x→splice (l.flatMap E.enc) (i * E.k + j) cs = (l.set i y).flatMap E.enc
 | [],i,hi=>by simp at hi
 | a :: l,0,hi=>by
  simp at hi
  subst hi;have ha:=E.len a;simp only [splice,List.flatMap_cons,Nat.zero_mul,Nat.zero_add,List.set_cons_zero] at hy ⊢;rw [hy,List.take_append_of_le_length (by omega),List.drop_append_of_le_length (by omega)]
  simp
 | a :: l,i + 1,hi=>by
  have ha:=E.len a;have ih:=splice_part j cs hy hj l i (by simpa using hi)
  simp only [splice,List.flatMap_cons,List.set_cons_succ] at ih ⊢;rw [←ih,Nat.succ_mul,Nat.add_comm (i * E.k) E.k,Nat.add_assoc,←ha,List.take_length_add_append,Nat.add_assoc,List.drop_length_add_append,List.append_assoc]
theorem wpList_store_part {w : World} {ops : Array Oper} {rest : List Oper} {o : Oper} {a : Act} {Q : Exit→Act→World→Prop} (hgd : o.guard = none) (p x : Operand) (t : TypeId) (ho : o.op = .store t p x) (base : Nat) (v : Value) (l : List α) (hown : OwnRow E base w v l)
  (g i j : Nat) (hg : v.ownBlock = some g) (e y : α) (hi : l[i]? = some e) (cs : List Value) (hk : (Tryz.prog.info? t).map (·.size) = some cs.length) (hy : E.enc y = splice (E.enc e) j cs) (hj : j + cs.length≤E.k) (h1 : ∀ u∈cs,u.oneCell' = true)
  (ad : Addr) (hp : a.eval p = .pointer (some ad)) (had : ad = ⟨g,i * E.k + j,none⟩) (vx : Value) (hx : a.eval x = vx) (hvx : vx.cells = cs.toArray)
  (h : ∀ w',OwnRow E base w' v (l.set i y)→w.grownBy w' (some g)→w'.heap.size = w.heap.size→wpList Tryz.prog ops Q rest (a.put o.dst undef) w') : wpList Tryz.prog ops Q (o :: rest) a w:=by
 subst had;refine wpList_plain hgd fun K hK=>?_
 have hil : i < l.length:=(List.getElem?_eq_some_iff.1 hi).1;have hfit : i * E.k + j + cs.length≤l.length * E.k:=by
  have : (i + 1) * E.k≤l.length * E.k:=Nat.mul_le_mul_right _ hil;rw [Nat.add_mul] at this;omega
 obtain ⟨w',hr,h2,h3,h4⟩:=run_storeCells_row (P:=Tryz.prog) hown.1 hg (i * E.k + j) cs hfit h1;have hsz : (Go.sizeOf t).run Tryz.prog w = .ok cs.length w:=by
  cases hq : Tryz.prog.info? t with
  | none=>simp [hq] at hk
  | some i=>simp [hq] at hk; simp [Go.sizeOf,typeInfo,hq,hk]
 have hall : (Instr.storeAt t (.pointer (some ⟨g,i * E.k + j,none⟩)) vx).run Tryz.prog w = .ok () w':=by
  simp [Instr.storeAt,Instr.sureAddr,storeVar,Sem.run_bind,hsz,Result.andThen,hvx,hr]
 unfold Oper.wp;simp only [execOp,ho,hp,hx,Sem.run_bind,hall,Result.andThen,Sem.run_pure,Oper.upon];rw [splice_part j cs hy hj l i hi] at h2;exact hK _ _ (h w' ⟨by rw [List.length_set]; exact h2,by rw [List.length_set]; exact hown.2⟩ h3 h4)
theorem wpList_store_elt {w : World} {ops : Array Oper} {rest : List Oper} {o : Oper} {a : Act} {Q : Exit→Act→World→Prop} (hgd : o.guard = none) (p x : Operand) (ho : o.op = .store E.ty p x) (base : Nat) (v : Value) (l : List α) (hown : OwnRow E base w v l)
  (g i : Nat) (hg : v.ownBlock = some g) (y : α) (hi : i < l.length) (ad : Addr) (hp : a.eval p = .pointer (some ad)) (had : ad = ⟨g,i * E.k,none⟩) (vx : Value) (hx : a.eval x = vx) (hvx : vx.cells = (E.enc y).toArray)
  (h : ∀ w',OwnRow E base w' v (l.set i y)→w.grownBy w' (some g)→w'.heap.size = w.heap.size→wpList Tryz.prog ops Q rest (a.put o.dst undef) w') : wpList Tryz.prog ops Q (o :: rest) a w:=by
 obtain ⟨i0,hi0,_,hz1,_⟩:=info_parts E.info;refine wpList_store_part hgd p x E.ty ho base v l hown g i 0 hg (l[i]) y (List.getElem?_eq_getElem hi) (E.enc y) (by rw [hi0]; simp [hz1,E.len]) ?_ (by rw [E.len]; omega) (E.one y) ad hp (by rw [had]; rfl) vx hx hvx h
 unfold splice;rw [List.take_zero,List.nil_append,Nat.zero_add,List.drop_of_length_le (by rw [E.len,E.len]; exact Nat.le_refl _),List.append_nil]
theorem made_row (E : Elt α) (n : Nat) : (madeCells E.zv.cells (n * E.k)).toList = (List.replicate n E.zero).flatMap E.enc:=by
 have hl : ((List.replicate n E.zero).flatMap E.enc).length = n * E.k:=by rw [row_len E]; simp
 have hp : 0 < E.k:=E.pos
 apply List.ext_getElem?
 intro j
 rcases Nat.lt_or_ge j (n * E.k) with h | h
 ·have hj : j = j / E.k * E.k + j % E.k:=by rw [Nat.mul_comm]; exact (Nat.div_add_mod _ _).symm
  have h8 : j % E.k < E.k:=Nat.mod_lt _ hp;have hq : j / E.k < n:=(Nat.div_lt_iff_lt_mul hp).2 h;have hz : (E.enc E.zero)[j % E.k]? = some ((E.enc E.zero)[j % E.k]'(by rw [E.len]; exact h8)):=List.getElem?_eq_getElem _
  have h1:=flatMap_elem (enc:=E.enc) (k:=E.k) (List.replicate n E.zero) (j / E.k) E.zero (fun a _=>E.len a) (by simp [hq]) (j % E.k) _ hz
  rw [←hj] at h1;rw [h1]
  simp [madeCells,h,E.zok,E.len,h8]
 ·rw [List.getElem?_eq_none (by simp [madeCells]; exact h),List.getElem?_eq_none (by rw [hl]; exact h)]
theorem wpList_make_row (E : Elt α) {w : World} {ops : Array Oper} {rest : List Oper} {o : Oper} {a : Act} {Q : Exit→Act→World→Prop} (hgd : o.guard = none) (l : Operand) (ho : o.op = .makeSlice E.st l l) (n : Nat) (hl : a.eval l = .int .i64 n) (hn : n * E.bytes≤140737488355328)
  (h : ∀ C,OwnRow E w.heap.size (w.alloc (.cells C E.ty)) (.slice (some ⟨w.heap.size,0,none⟩) n n) (List.replicate n E.zero)→wpList Tryz.prog ops Q rest (a.put o.dst (.slice (some ⟨w.heap.size,0,none⟩) n n)) (w.alloc (.cells C E.ty))) : wpList Tryz.prog ops Q (o :: rest) a w:=by
 refine wpList_plain hgd fun K hK=>?_
 obtain ⟨i0,hi,hz0,hz1,hz2⟩:=info_parts E.info;have h2 : n * 1≤n * E.bytes:=Nat.mul_le_mul_left _ (Nat.le_trans E.pos E.few);have hb : ((E.bytes : Int) * (n : Int))≤140737488355328:=by
  obtain ⟨B,hB⟩ : ∃ B,n * E.bytes = B:=⟨_,rfl⟩;rw [hB] at hn;rw [←Int.natCast_mul,Nat.mul_comm,hB];omega
 have hrun:=run_make (P:=Tryz.prog) w E.st E.ty i0 _ E.und hi hz0 .i64 .i64 n n (by omega) (Int.le_refl _) (by rw [hz2]; exact Int.le_trans hb (by omega)) (by omega)
 rw [hz1,Int.toNat_natCast] at hrun;unfold Oper.wp;simp only [execOp,ho,hl,Sem.run_bind,hrun,Result.andThen,Sem.run_pure,Oper.upon];refine hK _ _ (h _ ⟨⟨?_,.inr ⟨w.heap.size,n,madeCells E.zv.cells (n * E.k),by rw [List.length_replicate],Nat.le_refl _,?_,?_,?_,?_,?_⟩⟩,by rw [List.length_replicate]; exact hn⟩)
 ·rw [row_len E]
 ·show (w.heap.push _)[w.heap.size]? = _
  simp
 ·rw [List.length_replicate]; exact Nat.le_refl _
 ·exact maxLen_of (by omega)
 ·rw [size_madeCells]
 ·rw [List.length_replicate,List.take_of_length_le (by simp [madeCells]),made_row E]
end
structure Out (B0 B1 : Nat) (w w' : World) : Prop where
 os : w'.os = w.os
 tape : w'.tape = w.tape
 output : w'.output = w.output
 size : w.heap.size≤w'.heap.size
 block : ∀ k,k < w.heap.size→(k < B0∨B1≤k)→w'.heap[k]? = w.heap[k]?
theorem Out.refl (B0 B1 : Nat) (w : World) : Out B0 B1 w w:=⟨rfl,rfl,rfl,Nat.le_refl _,fun _ _ _=>rfl⟩
theorem Out.trans {B0 B1 : Nat} {a b c : World} (h : Out B0 B1 a b) (k : Out B0 B1 b c) : Out B0 B1 a c :=
 ⟨k.os.trans h.os,k.tape.trans h.tape,k.output.trans h.output,Nat.le_trans h.size k.size,fun i hi hb=>(k.block i (Nat.lt_of_lt_of_le hi h.size) hb).trans (h.block i hi hb)⟩
theorem Out.grew {B0 B1 : Nat} {a b : World} (h : Grew a b) : Out B0 B1 a b:=⟨Below.os h,Below.tape h,Below.output h,Below.size h,fun i hi _=>Below.block h i hi⟩
theorem Out.setCell (B0 B1 : Nat) (w : World) {p : Addr} (h0 : B0≤p.block) (h1 : p.block < B1) (u : Value) : Out B0 B1 w (w.setCell p u) :=
 ⟨rfl,rfl,rfl,by simp [World.setCell],fun k _ hb=>Below.heap_setCell _ _ _ _ (by omega)⟩
theorem Out.grown {B0 B1 : Nat} {w w' : World} {row : Option Nat} (hg : w.grownBy w' row) (h : ∀ g,row = some g→B0≤g∧g < B1) : Out B0 B1 w w' :=
 ⟨hg.os,hg.tape,hg.output,hg.size,fun k hk hb=>hg.block k hk (fun e=>by have:=h k e.symm; omega)⟩
theorem Out.wide {A0 A1 B0 B1 : Nat} {a b : World} (h : Out A0 A1 a b) (h0 : B0≤A0) (h1 : A1≤B1) : Out B0 B1 a b :=
 ⟨h.os,h.tape,h.output,h.size,fun i hi hb=>h.block i hi (by omega)⟩
theorem Out.drew {B0 B1 : Nat} (w : World) : Out B0 B1 w w.drew:=Out.grew (show Below _ _ _ from (Below.refl _ _).drew)
theorem Out.grew_of {B0 B1 : Nat} {w W w' : World} (h : Grew w W) (hB : w.heap.size≤B0) (k : Out B0 B1 W w') : Grew w w' :=
 (show Below _ _ _ from Below.trans h ⟨k.os,k.tape,k.output,k.size,fun i hi=>k.block i (Nat.lt_of_lt_of_le hi (Below.size h)) (.inl (Nat.lt_of_lt_of_le hi hB))⟩)
theorem Out.zero {w w' : World} (h : Out 0 0 w w') : Grew w w':=⟨h.os,h.tape,h.output,h.size,fun k hk=>h.block k hk (.inr (Nat.zero_le _))⟩
theorem Box.out {B0 B1 : Nat} {w w' : World} {b : Nat} {cs : List Value} (h : Box w b cs) (k : Out B0 B1 w w') (hb : b < B0∨B1≤b) : Box w' b cs:=by
 have hlt:=h.lt;obtain ⟨t,h⟩:=h;exact ⟨t,by rw [k.block b hlt hb]; exact h⟩
section
variable {α : Type} {E : Elt α}
def RowS (E : Elt α) (B0 B1 : Nat) (w : World) (v : Value) (l : List α) : Prop:=∀ w',Out B0 B1 w w'→RowAt E w' v l
theorem RowS.now {B0 B1 : Nat} {w : World} {v : Value} {l : List α} (h : RowS E B0 B1 w v l) : RowAt E w v l:=h w (Out.refl _ _ _)
theorem RowS.out {B0 B1 : Nat} {w w' : World} {v : Value} {l : List α} (h : RowS E B0 B1 w v l) (k : Out B0 B1 w w') : RowS E B0 B1 w' v l:=fun w2 h2=>h w2 (k.trans h2)
theorem RowS.less {A0 A1 B0 B1 : Nat} {w : World} {v : Value} {l : List α} (h : RowS E B0 B1 w v l) (h0 : B0≤A0) (h1 : A1≤B1) : RowS E A0 A1 w v l:=fun w2 h2=>h w2 (h2.wide h0 h1)
theorem RowAt.stays {B0 : Nat} (B1 : Nat) {w W : World} {v : Value} {l : List α} (h : RowAt E w v l) (hB : w.heap.size≤B0) (hg : Grew w W) : RowS E B0 B1 W v l:=fun _ k=>h.grew (k.grew_of hg hB)
theorem RowAt.s0 {w : World} {v : Value} {l : List α} (h : RowAt E w v l) : RowS E 0 0 w v l:=fun _ k=>h.grew k.zero
theorem NewRow.stays {base : Nat} {w : World} {v : Value} {l : List α} (h : NewRow E base w v l) : RowS E 0 base w v l:=fun w' k=>by
 obtain ⟨⟨⟨a,c,h1,h2,h3⟩,h4⟩,h5⟩:=h;refine ⟨⟨a,c,h1,h2,fun x hx j u hj=>?_⟩,h4⟩
 subst hx;have hc:=h3 x rfl j u hj;have hl:=World.block_lt_of_cell? _ _ hc;have hf:=h5 x _ _ h1;rw [World.cell?_of_block (w:=w) (k.block _ hl (.inr (by rw [add_block]; exact hf)))]
 exact hc
theorem one_row (E : Elt α) (w : World) (x : α) (cs : Array Value) (t : TypeId) (hcs : cs = (E.enc x).toArray) (hb : E.bytes≤140737488355328) : RowAt E (w.alloc (.cells cs t)) (.slice (some ⟨w.heap.size,0,none⟩) 1 1) [x]:=by
 subst hcs;refine ⟨⟨_,1,rfl,fun h=>(by cases h),fun y hy=>?_⟩,by simpa using hb⟩
 cases hy
 simpa using Cells.top w (E.enc x) t rfl
end
def Cap : Value→Prop
 | .slice _ n c=>n≤c
 | _=>True
theorem OwnRow.cap {α : Type} {E : Elt α} {base : Nat} {w : World} {v : Value} {l : List α} (h : OwnRow E base w v l) : Cap v:=by
 rcases h.1.2 with ⟨rfl,_⟩ | ⟨g,cap,cur,rfl,_,_,h4,_⟩
 ·exact Nat.le_refl _
 ·exact h4
theorem OwnRow.obj {α : Type} {E : Elt α} {base : Nat} {w : World} {v : Value} {l : List α} (h : OwnRow E base w v l) {g : Nat} (hg : v.ownBlock = some g) : ∃ cs,w.heap[g]? = some (.cells cs E.ty (0,0)):=by
 rcases h.1.2 with ⟨rfl,_⟩ | ⟨g',cap,cur,rfl,_,h3,_⟩
 ·cases hg
 ·simp only [Value.ownBlock,Option.some.injEq] at hg;subst hg;exact ⟨cur,h3⟩
theorem OwnRow.apart {α β : Type} {E : Elt α} {F : Elt β} {base base' : Nat} {w : World} {v u : Value} {l : List α} {m : List β} (h : OwnRow E base w v l) (k : OwnRow F base' w u m) (ht : E.ty≠F.ty) : ∀ g,v.ownBlock = some g→u.ownBlock≠some g:=fun g hg hu=>by
 obtain ⟨cs,h1⟩:=h.obj hg;obtain ⟨ds,h2⟩:=k.obj hu;rw [h1] at h2;simp only [Option.some.injEq,Obj.cells.injEq] at h2;exact ht h2.2.1
theorem OwnRow.one {α : Type} {E : Elt α} {base g n c : Nat} {w : World} {l : List α} (h : OwnRow E base w (.slice (some ⟨g,0,none⟩) n c) l) {i : Nat} {x : α} (hx : l[i]? = some x) : Cells w ((Addr.mk g 0 none).add (i * E.k)) (E.enc x):=by
 obtain ⟨a0,c0,hsl,hrows⟩:=h.at.rows;obtain ⟨ad,had,hce⟩:=hrows i _ hx;cases hsl;cases had;exact hce w (Grew.refl _)
structure SpecI where
 pv : Value→Prop
 post : Value→World→Prop
 step : World→World→Prop
 pre : World→Prop:=fun _=>True
structure HoldI (I : World→Prop) where
 world : World
 holds : I world
section
variable (I : World→Prop) (P : Program) (ops : Array Oper) (S : Nat→Option SpecI)
def ClauseI (i : Nat) (F : Nat→World→Prop) (a : Act) (K : (Nat→World→Prop)→Act→Prop) : Prop :=
 match ops[i]? with
 | none=>False
 | some o =>
  if Region.wanted o (yielded ops a.tmps) then
   match S i with
   | none=>∃ v,(∀ w,I w→(∀ m,anc ops 3 m i = true→F m w)→(execOp a.eval o).run P w = .ok (.value v) w)∧K F (a.put o.dst v)
   | some s=>(∀ w,I w→s.pre w→(∀ m,anc ops 3 m i = true→F m w)→Does P o a w fun v w'=>I w'∧s.step w w'∧s.pv v∧s.post v w')∧∀ v,s.pv v→K (fset F i (s.post v)) (a.put o.dst v)
  else K F (a.put o.dst undef)
def LexI (Q : Act→World→Prop) : List Nat→(Nat→World→Prop)→Act→Prop
 | [],F,a=>∀ w,I w→(∀ i,F i w)→Q a w
 | i :: l,F,a=>ClauseI I P ops S i F a (LexI Q l)
end
section
variable {I : World→Prop} {P : Program} {ops : Array Oper} {S : Nat→Option SpecI} {T : Nat}
theorem ClauseI.mono {i : Nat} {F : Nat→World→Prop} {a : Act} {K K' : (Nat→World→Prop)→Act→Prop}
  (h : ∀ F' a',(∀ m,m≠i→F' m = F m)→K F' a'→K' F' a') (hc : ClauseI I P ops S i F a K) : ClauseI I P ops S i F a K':=by
 unfold ClauseI at *
 split
 ·rename_i ho; simp only [ho] at hc
 ·rename_i o ho
  simp only [ho] at hc
  split
  ·rename_i hw
   simp only [hw,if_true] at hc
   split
   ·rename_i hs
    simp only [hs] at hc;obtain ⟨v,h1,h2⟩:=hc;exact ⟨v,h1,h _ _ (fun _ _=>rfl) h2⟩
   ·rename_i s hs
    simp only [hs] at hc;exact ⟨hc.1,fun v hv=>h _ _ (fun m hm=>fset_other hm) (hc.2 v hv)⟩
  ·rename_i hw
   simp only [hw] at hc;exact h _ _ (fun _ _=>rfl) hc
theorem ClauseI.swap {i j : Nat} {oi oj : Oper} {F : Nat→World→Prop} {a : Act} {K : (Nat→World→Prop)→Act→Prop} {w : World}
  (hi : ops[i]? = some oi) (hj : ops[j]? = some oj) (hne : i≠j) (hap : oi.apart ops oj = true)
  (hsi : ∀ cs b,oi.op≠.select cs b) (hsj : ∀ cs b,oj.op≠.select cs b)
  (hij : anc ops 3 i j = false) (hji : anc ops 3 j i = false) (hS : ∀ s,S i = some s→∃ v,s.pv v)
  (hw0 : I w) (hF : ∀ m,anc ops 3 m j = true→F m w)
  (h : ClauseI I P ops S i F a fun F' a'=>ClauseI I P ops S j F' a' K) : ClauseI I P ops S j F a fun F' a'=>ClauseI I P ops S i F' a' K:=by
 obtain ⟨h1,h2,h3⟩:=Oper.apart_spec hap;have ei : ∀ v,execOp (a.put oj.dst v).eval oi = execOp a.eval oi:=fun v=>execOp_put oi hsi a oj.dst v h3
 have ej : ∀ v,execOp (a.put oi.dst v).eval oj = execOp a.eval oj:=fun v=>execOp_put oj hsj a oi.dst v h1
 have wi : ∀ v,Region.wanted oi (yielded ops (a.put oj.dst v).tmps) = Region.wanted oi (yielded ops a.tmps):=fun v=>wanted_put oi a oj.dst v h3
 have wj : ∀ v,Region.wanted oj (yielded ops (a.put oi.dst v).tmps) = Region.wanted oj (yielded ops a.tmps):=fun v=>wanted_put oj a oi.dst v h1
 have di : ∀ v w K,Does P oi (a.put oj.dst v) w K = Does P oi a w K:=fun v w K=>by unfold Does; rw [ei]
 have dj : ∀ v w K,Does P oj (a.put oi.dst v) w K = Does P oj a w K:=fun v w K=>by unfold Does; rw [ej]
 have pc : ∀ v u,(a.put oi.dst v).put oj.dst u = (a.put oj.dst u).put oi.dst v:=fun v u=>Act.put_comm a v u h2
 have fi : ∀ p,(fun m=>anc ops 3 m i = true→fset F j p m w = F m w) = fun _=>True:=fun p=>by
  funext m
  simp only [eq_iff_iff,iff_true];intro hm;rw [fset_other (fun e=>by subst e; rw [hji] at hm; cases hm)]
 have faci : ∀ p w',(∀ m,anc ops 3 m i = true→fset F j p m w')↔(∀ m,anc ops 3 m i = true→F m w'):=fun p w'=>by
  constructor <;> intro hh m hm <;> have:=hh m hm
  ·rwa [fset_other (fun e=>by subst e; rw [hji] at hm; cases hm)] at this
  ·rwa [fset_other (fun e=>by subst e; rw [hji] at hm; cases hm)]
 have facj : ∀ p w',(∀ m,anc ops 3 m j = true→fset F i p m w')↔(∀ m,anc ops 3 m j = true→F m w'):=fun p w'=>by
  constructor <;> intro hh m hm <;> have:=hh m hm
  ·rwa [fset_other (fun e=>by subst e; rw [hij] at hm; cases hm)] at this
  ·rwa [fset_other (fun e=>by subst e; rw [hij] at hm; cases hm)]
 clear fi;unfold ClauseI at h ⊢;simp only [hi,hj,ei,ej,wi,wj,di,dj,pc] at h ⊢
 cases hwi : Region.wanted oi (yielded ops a.tmps) <;> cases hwj : Region.wanted oj (yielded ops a.tmps) <;>
  simp only [hwi,hwj,if_true,if_false,Bool.false_eq_true] at h ⊢
 ·exact h
 ·cases hsj' : S j with
  | none=>simp only [hsj'] at h ⊢; exact h
  | some s=>simp only [hsj'] at h ⊢; exact h
 ·cases hsi' : S i with
  | none=>simp only [hsi'] at h ⊢; exact h
  | some s=>simp only [hsi'] at h ⊢; exact h
 ·cases hsi' : S i with
  | none =>
   simp only [hsi'] at h;obtain ⟨vi,hri,h⟩:=h
   cases hsj' : S j with
   | none =>
    simp only [hsj'] at h ⊢;obtain ⟨vj,hrj,h⟩:=h;exact ⟨vj,hrj,vi,hri,h⟩
   | some s =>
    simp only [hsj'] at h ⊢;exact ⟨h.1,fun vj hvj=>⟨vi,fun w' hw' hf=>hri w' hw' ((faci _ _).1 hf),h.2 vj hvj⟩⟩
  | some si =>
   simp only [hsi'] at h;obtain ⟨hdi,h⟩:=h;obtain ⟨v1,hv1⟩:=hS si hsi'
   cases hsj' : S j with
   | none =>
    simp only [hsj'] at h ⊢;obtain ⟨vj,hrj,_⟩:=h v1 hv1;refine ⟨vj,fun w' hw' hf=>hrj w' hw' ((facj _ _).2 hf),hdi,fun vi hvi=>?_⟩
    obtain ⟨vj',hrj',hl⟩:=h vi hvi;have e1:=hrj w hw0 ((facj _ _).2 hF);have e2:=hrj' w hw0 ((facj _ _).2 hF);rw [e1] at e2;simp only [Result.ok.injEq,Next.value.injEq,and_true] at e2;subst e2;exact hl
   | some sj =>
    simp only [hsj'] at h ⊢;refine ⟨fun w' hw' hpr hf=>(h v1 hv1).1 w' hw' hpr ((facj _ _).2 hf),fun vj hvj=>⟨fun w' hw' hpr hf=>hdi w' hw' hpr ((faci _ _).1 hf),fun vi hvi=>?_⟩⟩
    have:=(h vi hvi).2 vj hvj;rwa [fset_comm hne] at this
theorem LexI.commute {Q : Act→World→Prop} {j : Nat} {oj : Oper} {w : World} (hj : ops[j]? = some oj) (hw0 : I w)
  (hsel : ∀ (k : Nat) (o : Oper) cs b,ops[k]? = some o→o.op≠.select cs b) (hS : ∀ k s,S k = some s→∃ v,s.pv v) :
  ∀ (l : List Nat) (F : Nat→World→Prop) (a : Act),l.Nodup→j∈l →
   (∀ i∈l,i≠j→∃ oi,ops[i]? = some oi∧(i < j→oi.apart ops oj = true)∧anc ops 3 i j = false∧(i < j→anc ops 3 j i = false)) →
   (l.Pairwise (· < ·))→(∀ m,anc ops 3 m j = true→F m w)→LexI I P ops S Q l F a→LexI I P ops S Q (j :: l.filter (· != j)) F a
 | [],_,_,_,hm,_,_,_,_=>by cases hm
 | i :: l,F,a,hnd,hm,hall,hsorted,hF,h=>by
  by_cases hij : i = j
  ·subst hij;have : (i :: l).filter (· != i) = l:=by
    rw [List.filter_cons];simp only [bne_self_eq_false,Bool.false_eq_true,if_false];refine List.filter_eq_self.2 fun x hx=>?_
    have : x≠i:=fun e=>(List.nodup_cons.1 hnd).1 (e ▸ hx)
    simpa using this
   rw [this];exact h
  ·have hjl : j∈l:=by
    rcases List.mem_cons.1 hm with e | e
    ·exact absurd e.symm hij
    ·exact e
   have hlt : i < j:=(List.pairwise_cons.1 hsorted).1 j hjl;obtain ⟨oi,hoi,hap,haij,haji⟩:=hall i (by simp) hij
   have hf : (i :: l).filter (· != j) = i :: l.filter (· != j):=by
    rw [List.filter_cons];have : (i != j) = true:=by simpa using hij
    simp [this]
   rw [hf];refine ClauseI.swap hoi hj hij (hap hlt) (fun cs b=>hsel i oi cs b hoi) (fun cs b=>hsel j oj cs b hj) haij (haji hlt) (hS i) hw0 hF ?_
   refine ClauseI.mono (fun F' a' hF' hl=>?_) h
   refine LexI.commute hj hw0 hsel hS l F' a' (List.nodup_cons.1 hnd).2 hjl (fun k hk=>hall k (by simp [hk])) (List.pairwise_cons.1 hsorted).2 (fun m hma=>?_) hl
   rw [hF' m (fun e=>by subst e; rw [haij] at hma; cases hma)]
   exact hF m hma
theorem wpAny_of_lexI {Q : Act→World→Prop} {Q' : Exit→Act→World→Prop} {l : List Oper} {m : Nat} (hB : laxTB ops T = true) (hTl : T + m = ops.size) (hll : l.length = m) (hops : ∀ j,l[j]? = ops[T + j]?) (hS : ∀ k s,S k = some s→∃ v,s.pv v)
  (hp : ∀ k s j t,S k = some s→S j = some t→j≠k→anc ops 3 j k = false→∀ v w w',t.step w w'→s.post v w→s.post v w') (hpre : ∀ j t k s,S j = some t→S k = some s→j≠k→∀ w w',s.step w w'→t.pre w→t.pre w') (hQ : ∀ a w,Q a w→wpList P ops Q' l a w) :
  ∀ (fuel : Nat) (listed : Array Bool) (F : Nat→World→Prop) (a : Act) (w : World),listed.size = ops.size→(∀ i,T≤i→i < ops.size→listed.getD i true = false)→(unlistedT listed T).length = fuel→closed ops listed→I w →
   (∀ i,F i w)→(∀ i,(∀ w,F i w)∨∃ s v,S i = some s∧F i = s.post v∧listed.getD i false = true)→(∀ k t,S k = some t→listed.getD k true = false→t.pre w)→LexI I P ops S Q (unlistedT listed T) F a→wpAny P .any ops Q' (fuel + m) listed a w:=by
 have hsel:=Region.noSelect_spec (ops:=ops) (by simp only [laxTB,Bool.and_eq_true] at hB; exact hB.1.1)
 intro fuel
 induction fuel with
 | zero =>
  intro listed F a w hsz hout hl hc hw hF hFp hPre h;have hnil : unlistedT listed T = []:=List.eq_nil_of_length_eq_zero hl;rw [hnil] at h;rw [Nat.zero_add];refine wpAny_last hB m l T listed a w (Nat.le_refl _) hsz hTl hll hops (fun i hi=>?_) hout (hQ _ _ (h w hw hF))
  cases hg : listed.getD i true with
  | true=>rfl
  | false =>
   have : i∈unlistedT listed T:=List.mem_filter.2 ⟨List.mem_range.2 hi,by simp only [hg,beq_self_eq_true]⟩
   rw [hnil] at this;cases this
 | succ fuel ih =>
  intro listed F a w hsz hout hl hc hw hF hFp hPre h;rw [Nat.add_right_comm];refine ⟨fun hr=>?_,fun j hj=>?_⟩
  ·exfalso
   cases hu : unlistedT listed T with
   | nil=>simp [hu] at hl
   | cons x xs =>
    have hx : x∈unlistedT listed T:=by rw [hu]; simp
    have hx':=List.mem_filter.1 hx;have hxT : x < T:=List.mem_range.1 hx'.1;have hxs : x < ops.size:=by omega
    have ho : ops[x]? = some ops[x]:=Array.getElem?_eq_getElem hxs;have hsorted : (unlistedT listed T).Pairwise (· < ·):=List.Pairwise.filter _ List.pairwise_lt_range;have : x∈Region.ready .any ops listed:=by
     refine mem_ready.2 ⟨by simpa using hx'.2,ops[x],ho,fun e he hb=>?_⟩
     have hed : edge ops e.on x = true:=(edge_of ho).2 ⟨e,he,hb,rfl⟩;have hlt:=laxTB_edge hB ho _ hed
     cases hg : listed.getD e.on true with
     | true=>exact getD_up (by omega) hg
     | false =>
      have hmem : e.on∈unlistedT listed T:=List.mem_filter.2 ⟨List.mem_range.2 (by omega),by simp only [hg,beq_self_eq_true]⟩
      rw [hu] at hmem hsorted
      rcases List.mem_cons.1 hmem with e1 | e1
      ·omega
      ·have:=(List.pairwise_cons.1 hsorted).1 _ e1;omega
    rw [hr] at this;cases this
  ·obtain ⟨h0,oj,hoj,hall⟩:=mem_ready.1 hj;have hjs : j < ops.size:=(Array.getElem?_eq_some_iff.1 hoj).1;have hdir : ∀ k,edge ops k j = true→listed.getD k false = true:=fun k hk=>by
    obtain ⟨e,he,hb,rfl⟩:=(edge_of hoj).1 hk;exact hall e he hb
   have hjT : j < T:=by
    rcases Nat.lt_or_ge j T with h1 | h1
    ·exact h1
    ·exfalso
     cases hu : unlistedT listed T with
     | nil=>simp [hu] at hl
     | cons x xs =>
      have hx : x∈unlistedT listed T:=by rw [hu]; simp
      have hx':=List.mem_filter.1 hx;have hxT : x < T:=List.mem_range.1 hx'.1;have:=anc_listed hc j x j hdir (laxTB_last hB hoj h1 x (by omega))
      rw [getD_flip (by simpa using hx'.2)] at this
      cases this
   have hju : j∈unlistedT listed T:=List.mem_filter.2 ⟨List.mem_range.2 hjT,by simp only [h0,beq_self_eq_true]⟩
   have hnd : (unlistedT listed T).Nodup:=List.Pairwise.filter _ List.nodup_range;have hsorted : (unlistedT listed T).Pairwise (· < ·):=List.Pairwise.filter _ List.pairwise_lt_range;have hcm:=LexI.commute hoj hw hsel hS (unlistedT listed T) F a hnd hju (fun i hi hij=>by
    have hi':=List.mem_filter.1 hi;have hun : listed.getD i false = false:=getD_flip (by simpa using hi'.2)
    have his : i < ops.size:=by have:=List.mem_range.1 hi'.1; omega
    have hoi : ops[i]? = some ops[i]:=Array.getElem?_eq_getElem his;refine ⟨ops[i],hoi,fun hlt=>?_,?_,fun hlt=>?_⟩
    ·rcases laxTB_apart hB hoj hjT i hlt with he | ⟨oi,hoi',hap⟩
     ·have:=hdir i he;rw [hun] at this;cases this
     ·rw [hoi] at hoi';cases hoi';exact hap
    ·cases ha : anc ops 3 i j with
     | false=>rfl
     | true =>
      have:=anc_listed hc 3 i j hdir ha;rw [hun] at this;cases this
    ·cases ha : anc ops 3 j i with
     | false=>rfl
     | true =>
      have:=ancT_lt hB 3 j i ha
      omega) hsorted (fun m _=>hF m) h
   have hsz' : (listed.setIfInBounds j true).size = ops.size:=by simp [hsz]
   have hout' : ∀ i,T≤i→i < ops.size→(listed.setIfInBounds j true).getD i true = false:=fun i hi hi'=>by rw [getD_set_ne true (by omega)]; exact hout i hi hi'
   have hlen' : (unlistedT (listed.setIfInBounds j true) T).length = fuel:=by
    rw [unlistedT_set (by omega)]
    have he : (unlistedT listed T).filter (· != j) = (unlistedT listed T).erase j:=by
     rw [List.Nodup.erase_eq_filter hnd]
    rw [he,List.length_erase_of_mem hju];omega
   have hc' : closed ops (listed.setIfInBounds j true):=fun i k hk hik=>by
    by_cases hkj : j = k
    ·subst hkj;exact getD_set_true (hdir i hik)
    ·rw [getD_set_ne false hkj] at hk;exact getD_set_true (hc i k hk hik)
   have hFs : (∀ i,(∀ w,F i w)∨∃ s v,S i = some s∧F i = s.post v∧listed.getD i false = true)→∀ i,(∀ w,F i w)∨∃ s v,S i = some s∧F i = s.post v∧(listed.setIfInBounds j true).getD i false = true:=fun h i=>by
    rcases h i with h1 | ⟨s1,v1,e1,e2,e3⟩
    ·exact .inl h1
    ·refine .inr ⟨s1,v1,e1,e2,?_⟩
     by_cases hij : j = i
     ·subst hij
      simp [show j < listed.size by omega]
     ·rw [getD_set_ne false hij];exact e3
   have hPs : ∀ k,(listed.setIfInBounds j true).getD k true = false→k≠j∧listed.getD k true = false:=fun k hl'=>by
    by_cases hkj : j = k
    ·subst hkj
     simp [show j < listed.size by omega] at hl'
    ·rw [getD_set_ne true hkj] at hl';exact ⟨fun e=>hkj e.symm,hl'⟩
   unfold wpOp;simp only [hoj];simp only [LexI,ClauseI,hoj] at hcm;rw [←unlistedT_set (by omega)] at hcm
   split
   ·rename_i hwant
    simp only [hwant,if_true] at hcm;refine .inl ?_
    cases hs : S j with
    | none =>
     simp only [hs] at hcm;obtain ⟨v,hrun,hk⟩:=hcm;have hr:=hrun w hw (fun m _=>hF m)
     unfold Oper.wp;rw [hr];exact ih _ F _ w hsz' hout' hlen' hc' hw hF (hFs hFp) (fun k t hk' hl'=>(hPs k hl').elim fun _ q=>hPre k t hk' q) hk
    | some s =>
     simp only [hs] at hcm;refine (hcm.1 w hw (hPre j s hs h0) (fun m _=>hF m)).wp fun v w' ⟨hi',hstep,hpv,hpost⟩=>?_
     refine ih _ (fset F j (s.post v)) _ w' hsz' hout' hlen' hc' hi' (fun i=>?_) (fun i=>?_) (fun k t hk' hl'=>(hPs k hl').elim fun q1 q2=>hpre k t j s hk' hs q1 w w' hstep (hPre k t hk' q2)) (hcm.2 v hpv)
     ·unfold fset
      split
      ·exact hpost
      ·rename_i hij
       rcases hFp i with h1 | ⟨s1,v1,e1,e2,e3⟩
       ·exact h1 w'
       ·rw [e2];refine hp i s1 j s e1 hs (fun e=>hij e.symm) ?_ v1 w w' hstep ?_
        ·cases ha : anc ops 3 j i with
         | false=>rfl
         | true =>
          have h1:=anc_listed hc 3 j i (fun k hk=>hc k i e3 hk) ha
          rw [getD_flip h0] at h1;cases h1
        have:=hF i;rw [e2] at this;exact this
     ·by_cases hij : i = j
      ·subst hij;refine .inr ⟨s,v,hs,?_,?_⟩
       ·unfold fset;rw [if_pos rfl]
       ·simp [show i < listed.size by omega]
      ·rcases hFp i with h1 | ⟨s1,v1,e1,e2,e3⟩
       ·refine .inl fun w=>?_
        unfold fset;rw [if_neg hij];exact h1 w
       ·refine .inr ⟨s1,v1,e1,?_,?_⟩
        ·unfold fset;rw [if_neg hij];exact e2
        ·rw [getD_set_ne false (fun e=>hij e.symm)]
         exact e3
   ·rename_i hwant
    simp only [hwant] at hcm;exact ih _ F _ w hsz' hout' hlen' hc' hw hF (hFs hFp) (fun k t hk' hl'=>(hPs k hl').elim fun _ q=>hPre k t hk' q) hcm
end
section
variable {I : World→Prop} {P : Program} {ops : Array Oper} {S : Nat→Option SpecI} {Q : Act→World→Prop}
variable (I P ops S Q) in
def wpLaxI : List Oper→Nat→(Nat→World→Prop)→Act→Prop
 | [],_,F,a=>∀ w,I w→(∀ i,F i w)→Q a w
 | o :: rest,k,F,a =>
  if Region.wanted o (yielded ops a.tmps) then
   match S k with
   | none=>∃ v,(∀ w,I w→(∀ m,anc ops 3 m k = true→F m w)→(execOp a.eval o).run P w = .ok (.value v) w)∧wpLaxI rest (k + 1) F (a.put o.dst v)
   | some s=>(∀ w,I w→s.pre w→(∀ m,anc ops 3 m k = true→F m w)→Does P o a w fun v w'=>I w'∧s.step w w'∧s.pv v∧s.post v w')∧∀ v,s.pv v→wpLaxI rest (k + 1) (fset F k (s.post v)) (a.put o.dst v)
  else wpLaxI rest (k + 1) F (a.put o.dst undef)
theorem lexI_of_lax : ∀ (l : List Oper) (k : Nat) (F : Nat→World→Prop) (a : Act),(∀ j,l[j]? = ops[k + j]?∨l.length≤j)→wpLaxI I P ops S Q l k F a→LexI I P ops S Q (List.range' k l.length) F a
 | [],_,_,_,_,h=>h
 | o :: l,k,F,a,hl,h=>by
  have h0 : ops[k]? = some o:=by
   rcases hl 0 with e | e
   ·simpa using e.symm
   ·simp at e
  have hnext : ∀ j,l[j]? = ops[k + 1 + j]?∨l.length≤j:=fun j=>by
   rcases hl (j + 1) with e | e
   ·left; rw [List.getElem?_cons_succ] at e; rw [e]; congr 1; omega
   ·right; simpa using e
  simp only [List.length_cons,List.range'_succ,LexI,ClauseI,h0];unfold wpLaxI at h
  split
  ·rename_i hw
   simp only [hw,if_true] at h
   cases hs : S k with
   | none =>
    simp only [hs] at h;obtain ⟨v,h1,h2⟩:=h;exact ⟨v,h1,lexI_of_lax l (k + 1) _ _ hnext h2⟩
   | some s =>
    simp only [hs] at h;exact ⟨h.1,fun v hv=>lexI_of_lax l (k + 1) _ _ hnext (h.2 v hv)⟩
  ·rename_i hw
   simp only [hw] at h;exact lexI_of_lax l (k + 1) _ _ hnext h
variable (I P ops S Q) in
structure WLaxI (l : List Oper) (k : Nat) (F : Nat→World→Prop) (a : Act) : Prop where
 out : wpLaxI I P ops S Q l k F a
theorem wp_lax_tailI {id : Nat} {Q : Exit→Act→World→Prop} {a : Act} {w : World} {L l r : List Oper} (T : Nat) (S : List (Nat × SpecI)) (hI : I w.drew) (hm : P.follows .mixedOrders = true) (hB : laxTB L.toArray T = true) (hl : L.take T = l) (hr : L.drop T = r) (hT : T≤L.length)
  (hS : ∀ x∈S,∃ v,x.2.pv v) (hp : ∀ k s j t,S.lookup k = some s→S.lookup j = some t→j≠k→anc L.toArray 3 j k = false→∀ v w w',t.step w w'→s.post v w→s.post v w') (hpre : ∀ j t k s,S.lookup j = some t→S.lookup k = some s→j≠k→∀ w w',s.step w w'→t.pre w→t.pre w') (hpr0 : ∀ k t,S.lookup k = some t→t.pre w.drew)
  (h : WLaxI I P L.toArray (fun k=>S.lookup k) (fun a w=>wpList P L.toArray Q r a w) l 0 (fun _ _=>True) a) : (Code.region id L.toArray true).wp P Q a w:=by
 have hlook : ∀ (S : List (Nat × SpecI)) k s,S.lookup k = some s→∃ x∈S,x.2 = s:=by
  intro S
  induction S with
  | nil=>intro k s h; simp at h
  | cons x S ih =>
   intro k s h;rw [List.lookup_cons] at h
   split at h
   ·exact ⟨x,by simp,by simpa using h⟩
   ·obtain ⟨y,hy,he⟩:=ih k s h; exact ⟨y,by simp [hy],he⟩
 have hlT : l.length = T:=by rw [←hl,List.length_take]; omega
 have hrT : r.length = L.length - T:=by rw [←hr,List.length_drop]
 refine wp_region_any hm ?_;have hu : unlistedT (Array.replicate L.toArray.size false) T = List.range T:=by
  unfold unlistedT;refine List.filter_eq_self.2 fun i hi=>?_
  have : i < T:=by simpa using hi
  simp [show i < L.length by omega]
 have h':=lexI_of_lax (ops:=L.toArray) l 0 _ a (fun j=>by
  rcases Nat.lt_or_ge j T with hj | hj
  ·left; rw [←hl,List.getElem?_take_of_lt hj]; simp
  ·right; omega) h.out
 rw [hlT,←List.range_eq_range'] at h';have hfin:=wpAny_of_lexI (I:=I) (P:=P) (S:=fun k=>S.lookup k) (F:=fun _ _=>True) (ops:=L.toArray) (T:=T) (l:=r) (m:=L.length - T) (Q:=fun a w=>wpList P L.toArray Q r a w) (Q':=Q) hB (by simp; omega) hrT (fun j=>by rw [←hr,List.getElem?_drop]; simp) (fun k s hs=>by obtain ⟨x,hx,rfl⟩:=hlook S k s hs; exact hS x hx) hp hpre (fun _ _ h=>h)
  T (Array.replicate L.toArray.size false) a w.drew (by simp) (fun i hi hi'=>by simp at hi'; simp [hi']) (by rw [hu]; simp) (fun i j hj _=>by
   exfalso;rw [Array.getD_eq_getD_getElem?,Array.getElem?_replicate] at hj
   split at hj <;> simp at hj)
  hI (fun _=>trivial) (fun _ => .inl fun _=>trivial) (fun k t hk _=>hpr0 k t hk) (by rw [hu]; exact h')
 have hsz : T + (L.length - T) = L.toArray.size:=by simp; omega
 rw [hsz] at hfin;exact hfin
variable {o : Oper} {rest : List Oper} {k : Nat} {F : Nat→World→Prop} {a : Act}
theorem laxI_quiet (ht : tame o = true) (hw : Region.wanted o (yielded ops a.tmps) = true) (hS : S k = none)
  (h : ∀ K : Act→Prop,(∀ a,WLaxI I P ops S Q rest (k + 1) F a→K a)→o.quiet P a (fun w'=>∃ x : HoldI I,w' = x.world) K) : WLaxI I P ops S Q (o :: rest) k F a:=by
 obtain ⟨v,h1,h2⟩:=h _ fun _ h=>h
 constructor;unfold wpLaxI;rw [if_pos hw];simp only [hS];refine ⟨v,fun w hg _=>?_,h2.out⟩
 have h3:=h1 w ⟨⟨w,hg⟩,rfl⟩;unfold Oper.quietAt at h3;have hne:=fun n w'=>@tame_value P o ht a.eval w w' n
 generalize (execOp a.eval o).run P w = r at *
 cases r with
 | ok n w' =>
  cases n <;> simp only [Oper.quietUpon] at h3
  case value u=>rw [h3.1,h3.2]
  case skip=>obtain ⟨_,he⟩:=hne _ _ rfl; cases he
  case enter f args=>obtain ⟨_,he⟩:=hne _ _ rfl; cases he
 | halt x w'=>simp only [Oper.quietUpon] at h3
theorem laxI_skip (hw : Region.wanted o (yielded ops a.tmps) = false) (h : WLaxI I P ops S Q rest (k + 1) F (a.put o.dst undef)) : WLaxI I P ops S Q (o :: rest) k F a:=by
 constructor;unfold wpLaxI;rw [if_neg (by rw [hw]; exact Bool.false_ne_true)]
 exact h.out
theorem laxI_spec {s : SpecI} (hw : Region.wanted o (yielded ops a.tmps) = true) (hS : S k = some s)
  (h : ∀ w,I w→s.pre w→(∀ m,anc ops 3 m k = true→F m w)→Does P o a w fun v w'=>I w'∧s.step w w'∧s.pv v∧s.post v w')
  (hn : ∀ v,s.pv v→WLaxI I P ops S Q rest (k + 1) (fset F k (s.post v)) (a.put o.dst v)) : WLaxI I P ops S Q (o :: rest) k F a:=by
 constructor;unfold wpLaxI;rw [if_pos hw];simp only [hS];exact ⟨h,fun v hv=>(hn v hv).out⟩
theorem laxI_nil (h : ∀ w,I w→(∀ i,F i w)→Q a w) : WLaxI I P ops S Q [] k F a:=⟨h⟩
end
def bel (m n : Int) : Bool:=decide (0≤m) && decide (m < n)
theorem bel_iff {m n : Int} : bel m n = true↔0≤m∧m < n:=by simp [bel]
theorem bel_no {m n : Int} (h : ¬ (0≤m∧m < n)) : bel m n = false:=by
 cases hb : bel m n with
 | false=>rfl
 | true=>exact absurd (bel_iff.1 hb) h
theorem anyAt {α : Type} {p : α→Bool} {fs : List α} {k : Nat} {q : α} (h : fs[k]? = some q) (hq : p q = true) : fs.any p = true:=List.any_eq_true.2 ⟨q,List.mem_of_getElem? h,hq⟩
theorem anyNo {α : Type} {p : α→Bool} {fs : List α} (hb : ∀ (j : Nat) x,fs[j]? = some x→p x = false) : fs.any p = false:=List.any_eq_false.2 fun x hx=>by
 obtain ⟨j,hj⟩:=List.getElem?_of_mem hx;rw [hb j x hj]
 decide
theorem drop_cons {α : Type} {l : List α} {k : Nat} {q : α} (h : l[k]? = some q) : l.drop k = q :: l.drop (k + 1):=by
 obtain ⟨hlt,rfl⟩:=List.getElem?_eq_some_iff.1 h;exact List.drop_eq_getElem_cons hlt
theorem take_snoc {α : Type} {l : List α} {k : Nat} {q : α} (h : l[k]? = some q) : l.take (k + 1) = l.take k ++ [q]:=by
 rw [List.take_add_one,h];rfl
theorem look1 {α : Type} {A : α} {p k : Nat} {s : α} (h : List.lookup k [(p,A)] = some s) : k = p∧s = A:=by
 by_cases h1 : k = p
 ·subst h1
  simp at h
  exact ⟨rfl,h.symm⟩
 ·have e1 : (k == p) = false:=by simpa using h1
  simp [List.lookup,e1] at h
theorem look2 {α : Type} {A B : α} {p q k : Nat} {s : α} (h : List.lookup k [(p,A),(q,B)] = some s) : (k = p∧s = A)∨(k = q∧s = B):=by
 by_cases h1 : k = p
 ·subst h1
  simp at h
  exact .inl ⟨rfl,h.symm⟩
 ·by_cases h2 : k = q
  ·subst h2;have e1 : (k == p) = false:=by simpa using h1
   simp [List.lookup,e1] at h
   exact .inr ⟨rfl,h.symm⟩
  ·have e1 : (k == p) = false:=by simpa using h1
   have e2 : (k == q) = false:=by simpa using h2
   simp [List.lookup,e1,e2] at h
theorem RowAt.beside {α : Type} {E : Elt α} {w w' : World} {row : Option Nat} {v : Value} {l : List α} (h : RowAt E w v l) (hg : w.grownBy w' row) (hn : ∀ x n c,v = .slice (some x) n c→some x.block≠row) : RowAt E w' v l:=by
 obtain ⟨⟨a,c,h1,h2,h3⟩,h4⟩:=h;refine ⟨⟨a,c,h1,h2,fun x hx j u hj=>?_⟩,h4⟩
 subst hx;exact hg.cell (h3 x rfl j u hj) (by rw [add_block]; exact hn x _ _ h1)
theorem set_same {α : Type} {l : List α} {i : Nat} {v : α} (h : l[i]? = some v) : l.set i v = l:=by
 apply List.ext_getElem?
 intro j
 by_cases e : j = i
 ·subst e;rw [List.getElem?_set_self (List.getElem?_eq_some_iff.1 h).1,h]
 ·rw [List.getElem?_set_ne (fun h=>e h.symm)]
theorem grown_trans {a b c : World} {row : Option Nat} (h : a.grownBy b row) (k : b.grownBy c row) : a.grownBy c row :=
 ⟨k.os.trans h.os,k.tape.trans h.tape,k.output.trans h.output,Nat.le_trans h.size k.size,fun i hi hr=>(k.block i (Nat.lt_of_lt_of_le hi h.size) hr).trans (h.block i hi hr)⟩
theorem grew_by {a b : World} (h : Grew a b) (row : Option Nat) : a.grownBy b row:=⟨Below.os h,Below.tape h,Below.output h,Below.size h,fun i hi _=>Below.block h i hi⟩
def frv (a : Fr) : List Value:=[.int .u8 a.p.b0,.int .u8 a.p.b1,.int .u8 a.p.b2,.int .u8 a.p.b3,.int .u8 a.p.b4,.int .u8 a.p.b5,.int .u8 a.p.b6,.int .u8 a.p.b7,.int .i64 a.r,.bool a.u,.bool a.d,.int .i64 a.f,.int .i64 a.x]
theorem Tryz.infoFrame : (Tryz.prog.info? 59).map (fun i=>(i.zero,i.size,i.bytes)) = some (some (.agg #[.int .u8 0,.int .u8 0,.int .u8 0,.int .u8 0,.int .u8 0,.int .u8 0,.int .u8 0,.int .u8 0,.int .i64 0,.bool false,.bool false,.int .i64 0,.int .i64 0]),13,40):=by kernel_rfl
def frz : Value:= .agg #[.int .u8 0,.int .u8 0,.int .u8 0,.int .u8 0,.int .u8 0,.int .u8 0,.int .u8 0,.int .u8 0,.int .i64 0,.bool false,.bool false,.int .i64 0,.int .i64 0]
theorem frz_ok : frz.cells = (frv fr0).toArray:=rfl
theorem frv_len (a : Fr) : (frv a).length = 13:=rfl
theorem frv_one (a : Fr) : ∀ u∈frv a,u.oneCell' = true:=fun u hu=>by
 simp only [frv,List.mem_cons,List.not_mem_nil,or_false] at hu
 rcases hu with rfl | rfl | rfl | rfl | rfl | rfl | rfl | rfl | rfl | rfl | rfl | rfl | rfl <;> rfl
theorem frv_few : 13≤40:=by decide
theorem frv_pos : 0 < 13:=by decide
theorem frEqB_eq {a b : Fr} (h : frEqB a b = true) : a = b:=(frEqB_iff a b).1 h
theorem frEqB_ne {a b : Fr} (h : a≠b) : frEqB a b = false:=by
 cases hb : frEqB a b with
 | false=>rfl
 | true=>exact absurd (frEqB_eq hb) h
def frRowAt (w : World) (v : Value) (l : List Fr) : Prop:=SliceAt frv w v l∧l.length * 40≤140737488355328
def frOwnRow (base : Nat) (w : World) (v : Value) (l : List Fr) : Prop:=w.ownsRow base 59 13 v l.length (l.flatMap frv)∧l.length * 40≤140737488355328
def frRowsAt (w : World) (a : Option Addr) (l : List Fr) : Prop:=∀ (j : Nat) x,l[j]? = some x→∃ ad,a = some ad∧∀ W,Grew w W→Cells W (ad.add (j * 13)) (frv x)
theorem frZsize : frz.cells.size = 13:=by rw [frz_ok]; simp [frv_len]
theorem frRow_len (l : List Fr) : (l.flatMap frv).length = l.length * 13:=flatMap_len l fun a _=>frv_len a
theorem frRowAt.grew {w w' : World} {v : Value} {l : List Fr} (h : frRowAt w v l) (hg : Grew w w') : frRowAt w' v l:=⟨h.1.grew hg,h.2⟩
theorem frRowAt.rows {w : World} {v : Value} {l : List Fr} (h : frRowAt w v l) : ∃ a c,v = .slice a l.length c∧frRowsAt w a l:=by
 obtain ⟨⟨a,c,h1,h2,h3⟩,_⟩:=h;refine ⟨a,c,h1,fun j q hj=>?_⟩
 cases a with
 | none=>rw [h2 rfl] at hj; simp at hj
 | some x=>exact ⟨x,rfl,fun W hW=>((h3 x rfl).grew hW).elem (k:=13) (fun b _=>frv_len b) hj⟩
theorem frRowAt.short {w : World} {v : Value} {l : List Fr} (h : frRowAt w v l) : l.length≤9223372036854775807:=by
 have h1:=h.2;have h2 : l.length * 1≤l.length * 40:=Nat.mul_le_mul_left _ (Nat.le_trans frv_pos frv_few);omega
theorem frRowAt.setCell {base : Nat} {w : World} {v : Value} {l : List Fr} (h : frRowAt w v l) (hf : fresh base v) {a : Addr} (ha : a.block < base) (u : Value) : frRowAt (w.setCell a u) v l:=⟨h.1.setCell hf ha u,h.2⟩
theorem frRowAt.nil (w : World) : frRowAt w (.slice none 0 0) ([] : List Fr):=⟨⟨none,0,rfl,fun _=>rfl,fun x hx=>by cases hx⟩,by simp⟩
theorem frOwnRow.at {base : Nat} {w : World} {v : Value} {l : List Fr} (h : frOwnRow base w v l) : frRowAt w v l:=⟨sliceAt_of_owns h.1,h.2⟩
theorem frOwnRow.grew {base : Nat} {w w' : World} {v : Value} {l : List Fr} (h : frOwnRow base w v l) (hg : Grew w w') : frOwnRow base w' v l:=⟨ownsRow_grew h.1 hg,h.2⟩
theorem frOwnRow.base {base base' : Nat} {w : World} {v : Value} {l : List Fr} (h : frOwnRow base w v l) (hb : base'≤base) : frOwnRow base' w v l:=⟨ownsRow_base h.1 hb,h.2⟩
theorem frOwnRow.setCell {base : Nat} {w : World} {v : Value} {l : List Fr} (h : frOwnRow base w v l) {a : Addr} (ha : a.block < base) (u : Value) : frOwnRow base (w.setCell a u) v l:=⟨ownsRow_setCell_below h.1 ha u,h.2⟩
theorem frOwnRow.form {base : Nat} {w : World} {v : Value} {l : List Fr} (h : frOwnRow base w v l) : ∃ a c,v = .slice a l.length c:=by
 obtain ⟨a,c,h1,_⟩:=h.at.rows;exact ⟨a,c,h1⟩
theorem frOwnRow.fresh {base : Nat} {w : World} {v : Value} {l : List Fr} (h : frOwnRow base w v l) : fresh base v:=fun x n c e=>by
 rcases h.1.2 with ⟨h0,_⟩ | ⟨g,cap,cur,h0,h1,_⟩
 ·rw [h0] at e; cases e
 ·rw [h0] at e; cases e; exact h1
theorem frOwnRow.nil (base : Nat) (w : World) : frOwnRow base w (.slice none 0 0) ([] : List Fr):=⟨World.ownsRow_nil _ _ _ _,by simp⟩
theorem frOwnRow.made (w : World) : frOwnRow w.heap.size (w.alloc (.cells #[] 59)) (.slice (some ⟨w.heap.size,0,none⟩) 0 0) ([] : List Fr):=⟨World.ownsRow_made w #[] 0 (Nat.le_refl _) (Nat.zero_le _) (by simp),by simp⟩
def frNewRow (base : Nat) (w : World) (v : Value) (l : List Fr) : Prop:=frRowAt w v l∧fresh base v
theorem frNewRow.base {base base' : Nat} {w : World} {v : Value} {l : List Fr} (h : frNewRow base w v l) (hb : base'≤base) : frNewRow base' w v l:=⟨h.1,fun x n c e=>Nat.le_trans hb (h.2 x n c e)⟩
theorem frNewRow.setCell {base : Nat} {w : World} {v : Value} {l : List Fr} (h : frNewRow base w v l) {a : Addr} (ha : a.block < base) (u : Value) : frNewRow base (w.setCell a u) v l:=⟨h.1.setCell h.2 ha u,h.2⟩
theorem frNewRow.nil (base : Nat) (w : World) : frNewRow base w (.slice none 0 0) ([] : List Fr):=⟨frRowAt.nil w,fresh_nil _⟩
theorem frOwnRow.new {base : Nat} {w : World} {v : Value} {l : List Fr} (h : frOwnRow base w v l) : frNewRow base w v l:=⟨h.at,h.fresh⟩
theorem frRun_append_none {w : World} {base : Nat} {v : Value} {l : List Fr} (ty : TypeId) (hown : frOwnRow base w v l) (c : Nat) : (Builtin.append_ #[25,25] ty #[v,.slice none 0 c]).run Tryz.prog w = .ok v w:=by
 obtain ⟨i0,hi,_,hz1,_⟩:=info_parts Tryz.infoFrame
 rcases hown.1.2 with ⟨rfl,_⟩ | ⟨g,cap,cur,rfl,_,_,hnc,_⟩
 ·simp [Builtin.append_,run_underlying Tryz.underlying25,sizeOf,typeInfo,hi,Builtin.lenOf,Builtin.firstCells]
 ·simp [Builtin.append_,run_underlying Tryz.underlying25,sizeOf,typeInfo,hi,Builtin.lenOf,Builtin.firstCells,hnc,storeCells]
theorem frWpList_append_row {w : World} {ops : Array Oper} {rest : List Oper} {o : Oper} {a : Act} {Q : Exit→Act→World→Prop} (hgd : o.guard = none) (s x : Operand) (ho : o.op = .call { callee:= .builtin .append,args:=#[s,x],argTypes:=#[25,25] })
  (base : Nat) (vs : Value) (l0 : List Fr) (hs : a.eval s = vs) (hown : frOwnRow base w vs l0) (vx : Value) (l : List Fr) (hx : a.eval x = vx) (hv : frRowAt w vx l) (hb : (l0.length + l.length) * 40≤140737488355328) (hbase : base≤w.heap.size)
  (h : ∀ v' w',frOwnRow base w' v' (l0 ++ l)→w.grownBy w' vs.ownBlock→wpList Tryz.prog ops Q rest (a.put o.dst v') w') : wpList Tryz.prog ops Q (o :: rest) a w:=by
 obtain ⟨⟨ax,c,rfl,hnone,hcells⟩,_⟩:=hv
 cases ax with
 | none =>
  have hps:=hnone rfl;subst hps;refine wpList_plain hgd fun K hK=>?_
  have hrun:=frRun_append_none o.type hown c;unfold Oper.wp execOp;simp only [ho,resolve,invoke,builtin,Sem.run_bind,Sem.run_pure,Result.andThen_ok,List.map_toArray,List.map_cons,List.map_nil,hs,hx,List.length_nil,hrun];exact hK _ _ (h vs w (by rw [List.append_nil]; exact hown) (World.grownBy.rfl' _ _))
 | some ad =>
  obtain ⟨i0,hi,hz0,hz1,hz2⟩:=info_parts Tryz.infoFrame;have h2 : (l0.length + l.length) * 1≤(l0.length + l.length) * 40:=Nat.mul_le_mul_left _ (Nat.le_trans frv_pos frv_few);refine wpList_append_own w hgd s x 25 ho base 59 i0 _ 13 40 Tryz.underlying25 hi hz0 hz1 hz2 frZsize frv_pos vs l0.length _ hs hown.1 ad l.length c (l.flatMap frv) hx (frRow_len l) (hcells ad rfl) (flatMap_one frv_one l) (maxLen_of (by omega)) hb hbase fun v' w' h1 h2 _=>?_
  exact h v' w' ⟨by rw [List.length_append,List.flatMap_append]; exact h1,by rw [List.length_append]; exact hb⟩ h2
theorem frMade_row (n : Nat) : (madeCells frz.cells (n * 13)).toList = (List.replicate n fr0).flatMap frv:=by
 have hl : ((List.replicate n fr0).flatMap frv).length = n * 13:=by rw [frRow_len]; simp
 have hp : 0 < 13:=frv_pos
 apply List.ext_getElem?
 intro j
 rcases Nat.lt_or_ge j (n * 13) with h | h
 ·have hj : j = j / 13 * 13 + j % 13:=by rw [Nat.mul_comm]; exact (Nat.div_add_mod _ _).symm
  have h8 : j % 13 < 13:=Nat.mod_lt _ hp;have hq : j / 13 < n:=(Nat.div_lt_iff_lt_mul hp).2 h;have hz : (frv fr0)[j % 13]? = some ((frv fr0)[j % 13]'(by rw [frv_len]; exact h8)):=List.getElem?_eq_getElem _
  have h1:=flatMap_elem (enc:=frv) (k:=13) (List.replicate n fr0) (j / 13) fr0 (fun a _=>frv_len a) (by simp [hq]) (j % 13) _ hz
  rw [←hj] at h1;rw [h1]
  simp [madeCells,h,frz_ok,frv_len]
  rw [hz];rfl
 ·rw [List.getElem?_eq_none (by simp [madeCells]; exact h),List.getElem?_eq_none (by rw [hl]; exact h)]
theorem frWpList_make_row {w : World} {ops : Array Oper} {rest : List Oper} {o : Oper} {a : Act} {Q : Exit→Act→World→Prop} (hgd : o.guard = none) (l : Operand) (ho : o.op = .makeSlice 25 l l) (n : Nat) (hl : a.eval l = .int .i64 n) (hn : n * 40≤140737488355328)
  (h : ∀ C,frOwnRow w.heap.size (w.alloc (.cells C 59)) (.slice (some ⟨w.heap.size,0,none⟩) n n) (List.replicate n fr0)→wpList Tryz.prog ops Q rest (a.put o.dst (.slice (some ⟨w.heap.size,0,none⟩) n n)) (w.alloc (.cells C 59))) : wpList Tryz.prog ops Q (o :: rest) a w:=by
 refine wpList_plain hgd fun K hK=>?_
 obtain ⟨i0,hi,hz0,hz1,hz2⟩:=info_parts Tryz.infoFrame;have h2 : n * 1≤n * 40:=Nat.mul_le_mul_left _ (Nat.le_trans frv_pos frv_few);have hb : ((40 : Nat) : Int) * (n : Int)≤140737488355328:=by omega
 have hrun:=run_make (P:=Tryz.prog) w 25 59 i0 _ Tryz.underlying25 hi hz0 .i64 .i64 n n (by omega) (Int.le_refl _) (by rw [hz2]; exact Int.le_trans hb (by omega)) (by omega)
 rw [hz1,Int.toNat_natCast] at hrun;unfold Oper.wp;simp only [execOp,ho,hl,Sem.run_bind,hrun,Result.andThen,Sem.run_pure,Oper.upon];refine hK _ _ (h _ ⟨⟨?_,.inr ⟨w.heap.size,n,madeCells frz.cells (n * 13),by rw [List.length_replicate],Nat.le_refl _,?_,?_,?_,?_,?_⟩⟩,by rw [List.length_replicate]; exact hn⟩)
 ·rw [frRow_len]
 ·show (w.heap.push _)[w.heap.size]? = _
  simp;rfl
 ·rw [List.length_replicate]; exact Nat.le_refl _
 ·exact maxLen_of (by omega)
 ·rw [size_madeCells]
 ·rw [List.length_replicate,List.take_of_length_le (by simp [madeCells]),frMade_row]
theorem run_eqItems_ints {P : Program} (w : World) (E : TypeId) (k : IntKind) (d : Nat) (xs ys : Array Value) (i : TypeInfo) (hE : P.underlying E = some (.int k)) (hi : P.info? E = some i) (hs : i.size = 1) :
  ∀ (a b : List Int) (o : Nat),a.length = b.length→(∀ j v,a[j]? = some v→xs[o + j]? = some (.int k v))→(∀ j v,b[j]? = some v→ys[o + j]? = some (.int k v)) →
   (Op.eqItems (d + 1) E 1 xs ys (List.range' o a.length)).run P w = .ok (decide (a = b)) w
 | [],[],_,_,_,_=>by simp [Op.eqItems]
 | [],_ :: _,_,h,_,_=>by simp at h
 | _ :: _,[],_,h,_,_=>by simp at h
 | x :: a,y :: b,o,h,hx,hy=>by
  have h1:=hx 0 x rfl;have h2:=hy 0 y rfl;have hp : ∀ (zs : Array Value) v,zs[o + 0]? = some (.int k v)→(part E zs (o * 1)).run P w = .ok (.int k v) w:=fun zs v hz=>by
   rw [Nat.mul_one];exact run_part_plain w (by simp [Program.plainKey,hE]) hz
  have ih:=run_eqItems_ints w E k d xs ys i hE hi hs a b (o + 1) (by simpa using h) (fun j v hj=>by rw [Nat.add_assoc,Nat.add_comm 1 j]; exact hx (j + 1) v (by simpa using hj)) (fun j v hj=>by rw [Nat.add_assoc,Nat.add_comm 1 j]; exact hy (j + 1) v (by simpa using hj))
  simp only [List.length_cons,List.range'_succ,Op.eqItems,Sem.run_bind,hp xs x h1,hp ys y h2,Result.andThen_ok,run_equalIn_int w d E k k x y hE]
  by_cases hxy : x = y
  ·subst hxy
   simp [ih]
  ·have : (x == y) = false:=by simpa using hxy
   simp [this,hxy]
theorem run_equal_ints {P : Program} (w : World) (T E : TypeId) (k : IntKind) (d n : Nat) (a b : List Int) (i : TypeInfo) (hT : P.underlying T = some (.array n E)) (hE : P.underlying E = some (.int k)) (hi : P.info? E = some i) (hs : i.size = 1)
  (ha : a.length = n) (hb : b.length = n) :
  (Op.equalIn (d + 2) T (.agg (a.map (Value.int k)).toArray) (.agg (b.map (Value.int k)).toArray)).run P w = .ok (decide (a = b)) w:=by
 have hc : P.cellsOf E = 1:=by simp [Program.cellsOf,hi,hs]
 rw [run_equalIn_array w (d + 1) _ _ hT hi,hc,List.range_eq_range',←ha];exact run_eqItems_ints w E k d _ _ i hE hi hs a b 0 (by omega) (fun j v hj=>by simp [hj]) (fun j v hj=>by simp [hj])
def FrCells (W : World) (y : Addr) (a : Fr) : Prop :=
 W.cell? y = some (.int .u8 a.p.b0)∧W.cell? { block:=y.block,off:=y.off + 1 } = some (.int .u8 a.p.b1)∧W.cell? { block:=y.block,off:=y.off + 2 } = some (.int .u8 a.p.b2)∧W.cell? { block:=y.block,off:=y.off + 3 } = some (.int .u8 a.p.b3) ∧
 W.cell? { block:=y.block,off:=y.off + 4 } = some (.int .u8 a.p.b4)∧W.cell? { block:=y.block,off:=y.off + 5 } = some (.int .u8 a.p.b5)∧W.cell? { block:=y.block,off:=y.off + 6 } = some (.int .u8 a.p.b6)∧W.cell? { block:=y.block,off:=y.off + 7 } = some (.int .u8 a.p.b7) ∧
 W.cell? { block:=y.block,off:=y.off + 8 } = some (.int .i64 a.r)∧W.cell? { block:=y.block,off:=y.off + 9 } = some (.bool a.u)∧W.cell? { block:=y.block,off:=y.off + 10 } = some (.bool a.d)∧W.cell? { block:=y.block,off:=y.off + 11 } = some (.int .i64 a.f)∧W.cell? { block:=y.block,off:=y.off + 12 } = some (.int .i64 a.x)
theorem Cells.fr {W : World} {y : Addr} {a : Fr} (h : Cells W y (frv a)) : FrCells W y a :=
 ⟨h 0 _ rfl,h 1 _ rfl,h 2 _ rfl,h 3 _ rfl,h 4 _ rfl,h 5 _ rfl,h 6 _ rfl,h 7 _ rfl,h 8 _ rfl,h 9 _ rfl,h 10 _ rfl,h 11 _ rfl,h 12 _ rfl⟩
def FrRows (w : World) (a : Option Addr) (l : List Fr) : Prop:=∀ (j : Nat) x,l[j]? = some x→∃ ad,a = some ad∧∀ W,Grew w W→FrCells W (ad.add (j * 13)) x
theorem frRowAt.frs {w : World} {v : Value} {l : List Fr} (h : frRowAt w v l) : ∃ a c,v = .slice a l.length c∧FrRows w a l:=by
 obtain ⟨a,c,h1,h2⟩:=h.rows;refine ⟨a,c,h1,fun j x hj=>?_⟩
 obtain ⟨ad,h3,h4⟩:=h2 j x hj;exact ⟨ad,h3,fun W hW=>(h4 W hW).fr⟩
theorem Tryz.infoU8 : (Tryz.prog.info? 5).map (fun i=>(i.zero,i.size,i.bytes)) = some (some (.int .u8 0),1,1):=by kernel_rfl
theorem page_eq_at (k : Nat) (b0 b1 b2 b3 b4 b5 b6 b7 c0 c1 c2 c3 c4 c5 c6 c7 : Int) (x : World) : (Op.equalIn (k + 2) 50 (.agg #[.int .u8 b0,.int .u8 b1,.int .u8 b2,.int .u8 b3,.int .u8 b4,.int .u8 b5,.int .u8 b6,.int .u8 b7]) (.agg #[.int .u8 c0,.int .u8 c1,.int .u8 c2,.int .u8 c3,.int .u8 c4,.int .u8 c5,.int .u8 c6,.int .u8 c7])).run Tryz.prog x = .ok (pgEqB ⟨b0,b1,b2,b3,b4,b5,b6,b7⟩ ⟨c0,c1,c2,c3,c4,c5,c6,c7⟩) x:=by
 obtain ⟨i5,hi5,_,hz1,_⟩:=info_parts Tryz.infoU8;have:=run_equal_ints (P:=Tryz.prog) x 50 5 .u8 k 8 [b0,b1,b2,b3,b4,b5,b6,b7] [c0,c1,c2,c3,c4,c5,c6,c7] i5 Tryz.underlying50 Tryz.underlying5 hi5 hz1 rfl rfl;rw [show pgEqB ⟨b0,b1,b2,b3,b4,b5,b6,b7⟩ ⟨c0,c1,c2,c3,c4,c5,c6,c7⟩ = decide ([b0,b1,b2,b3,b4,b5,b6,b7] = [c0,c1,c2,c3,c4,c5,c6,c7]) from by
  rw [Bool.eq_iff_iff,pgEqB_iff,decide_eq_true_iff];simp only [Pg.mk.injEq,List.cons.injEq,and_true]]
 exact this
theorem fr_eq (b0 b1 b2 b3 b4 b5 b6 b7 r : Int) (u d : Bool) (f x : Int) (c0 c1 c2 c3 c4 c5 c6 c7 r' : Int) (u' d' : Bool) (f' x' : Int) (W : World) :
  (Op.equalIn 10000 59 (.agg #[.int .u8 b0,.int .u8 b1,.int .u8 b2,.int .u8 b3,.int .u8 b4,.int .u8 b5,.int .u8 b6,.int .u8 b7,.int .i64 r,.bool u,.bool d,.int .i64 f,.int .i64 x]) (.agg #[.int .u8 c0,.int .u8 c1,.int .u8 c2,.int .u8 c3,.int .u8 c4,.int .u8 c5,.int .u8 c6,.int .u8 c7,.int .i64 r',.bool u',.bool d',.int .i64 f',.int .i64 x'])).run Tryz.prog W
   = .ok (frEqB ⟨⟨b0,b1,b2,b3,b4,b5,b6,b7⟩,r,u,d,f,x⟩ ⟨⟨c0,c1,c2,c3,c4,c5,c6,c7⟩,r',u',d',f',x'⟩) W:=by
 have hS : Tryz.prog.underlying 59 = some (.struct (Tryz.prog.fieldsOf 59)):=by kernel_rfl
 have hp : Tryz.prog.stoodInHeld 59 = false:=by kernel_rfl
 have hpg:=page_eq_at 9997 b0 b1 b2 b3 b4 b5 b6 b7 c0 c1 c2 c3 c4 c5 c6 c7;have u3:=Tryz.underlying3;have a3:=Tryz.isAgg3;have z3:=Tryz.sizeOf3;have u4:=Tryz.underlying4;have a4:=Tryz.isAgg4;have z4:=Tryz.sizeOf4;have a23:=Tryz.isAgg50;have z23:=Tryz.sizeOf50;rw [show frEqB ⟨⟨b0,b1,b2,b3,b4,b5,b6,b7⟩,r,u,d,f,x⟩ ⟨⟨c0,c1,c2,c3,c4,c5,c6,c7⟩,r',u',d',f',x'⟩ = (pgEqB ⟨b0,b1,b2,b3,b4,b5,b6,b7⟩ ⟨c0,c1,c2,c3,c4,c5,c6,c7⟩ && (r == r') && (u == u') && (d == d') && (f == f') && (x == x')) from rfl]
 generalize pgEqB ⟨b0,b1,b2,b3,b4,b5,b6,b7⟩ ⟨c0,c1,c2,c3,c4,c5,c6,c7⟩ = P at hpg ⊢
 rw [show (10000 : Nat) = 9999 + 1 from rfl,run_equalIn_agg W 9999 59 _ _ hS hp]
 simp only [Program.fieldsOf,Tryz.underlying59]
 go_simp
 cases P
 ·simp
 by_cases h1 : r = r' <;> by_cases h2 : u = u' <;> by_cases h3 : d = d' <;> by_cases h4 : f = f' <;> by_cases h5 : x = x' <;> simp [h1,h2,h3,h4,h5]
theorem Does.step {P : Program} {o : Oper} {a : Act} {w w' : World} {v : Value} {K : Value→World→Prop} (hr : (execOp a.eval o).run P w = .ok (.value v) w') (h : K v w') : Does P o a w K:=by
 unfold Does;rw [hr];exact h
section
variable {α : Type} {E : Elt α}
theorem run_append_new {w : World} {base g : Nat} (ty : TypeId) (h0 : OwnRow E base w (.slice (some ⟨g,0,none⟩) 0 0) ([] : List α)) (vx : Value) (l : List α) (hv : RowAt E w vx l) (hbase : base≤w.heap.size) :
  ∃ v' w',(Builtin.append_ #[E.st,E.st] ty #[.slice (some ⟨g,0,none⟩) 0 0,vx]).run Tryz.prog w = .ok v' w'∧OwnRow E base w' v' l∧Grew w w'∧(l = []→v' = .slice (some ⟨g,0,none⟩) 0 0):=by
 obtain ⟨i0,hi,hz0,hz1,hz2⟩:=info_parts E.info;obtain ⟨⟨ax,c,rfl,hnone,hcells⟩,hb⟩:=hv
 by_cases hq : l = []
 ·subst hq;refine ⟨_,w,?_,h0,Grew.refl w,fun _=>rfl⟩
  cases ax with
  | none=>simp [Builtin.append_,run_underlying E.und,sizeOf,typeInfo,hi,Builtin.lenOf,Builtin.firstCells,storeCells]
  | some x=>simp [Builtin.append_,run_underlying E.und,sizeOf,typeInfo,hi,Builtin.lenOf,Builtin.firstCells,loadCells,loadCellsFrom,storeCells]
 ·cases ax with
  | none=>exact absurd (hnone rfl) hq
  | some ad =>
   have hpos : 0 < l.length:=List.length_pos_iff.2 hq;have h2 : l.length * 1≤l.length * E.bytes:=Nat.mul_le_mul_left _ (Nat.le_trans E.pos E.few);obtain ⟨v',w',hr,ho,hg⟩:=run_append_arg_grows (P:=Tryz.prog) w E.st ty E.ty i0 _ E.k E.bytes E.und hi hz0 hz1 hz2 (zsize E) E.pos ⟨g,0,none⟩ 0 0 [] (by simp) (fun j u hj=>by simp at hj) ad l.length c (l.flatMap E.enc) (row_len E l) (hcells ad rfl) (by omega) (maxLen_of (by omega)) (by simpa using hb)
   refine ⟨v',w',hr,⟨ownsRow_base (by simpa using ho) hbase,hb⟩,⟨hg.os,hg.tape,hg.output,hg.size,fun k hk=>hg.block k hk (by simp)⟩,fun h=>absurd h hq⟩
theorem run_append_keeps {w : World} {base : Nat} {v : Value} {l0 : List α} (ty : TypeId) (h0 : OwnRow E base w v l0) (vx : Value) (l : List α) (hv : RowAt E w vx l) (hb : (l0.length + l.length) * E.bytes≤140737488355328) (hbase : base≤w.heap.size) :
  ∃ v' w',(Builtin.append_ #[E.st,E.st] ty #[v,vx]).run Tryz.prog w = .ok v' w'∧OwnRow E base w' v' (l0 ++ l)∧w.grownBy w' v.ownBlock∧∀ u m,m.length≤l0.length→OwnRow E base w u m→OwnRow E base w' u m:=by
 obtain ⟨i0,hi,hz0,hz1,hz2⟩:=info_parts E.info;obtain ⟨⟨ax,c,rfl,hnone,hcells⟩,hby⟩:=hv;have h2 : (l0.length + l.length) * 1≤(l0.length + l.length) * E.bytes:=Nat.mul_le_mul_left _ (Nat.le_trans E.pos E.few)
 cases ax with
 | none =>
  have hps:=hnone rfl;subst hps;exact ⟨v,w,run_append_none ty h0 c,by simpa using h0,World.grownBy.rfl' _ _,fun u m _ h=>h⟩
 | some ad =>
  rcases h0.1.2 with ⟨rfl,hn0⟩ | ⟨g,cap,cur,rfl,hgb,hgc,hnc,hcm,hcs,hct⟩
  ·obtain ⟨v',w',hr,ho,hg,_⟩:=run_append_own (P:=Tryz.prog) w base E.st ty E.ty i0 _ E.k E.bytes E.und hi hz0 hz1 hz2 (zsize E) E.pos _ l0.length _ h0.1 ad l.length c (l.flatMap E.enc) (row_len E l) (hcells ad rfl) (flatMap_one E.one l) (maxLen_of (by omega)) hb hbase
   refine ⟨v',w',hr,⟨by rw [List.length_append,List.flatMap_append]; exact ho,by rw [List.length_append]; exact hb⟩,hg,fun u m _ h=>h.grown hg (fun g' _ e=>by cases e)⟩
  ·by_cases hroom : l0.length + l.length≤cap
   ·obtain ⟨w',hr,ho,hg⟩:=run_append_fits (P:=Tryz.prog) w base E.st ty E.ty i0 E.k E.und hi hz1 g l0.length cap _ h0.1 ad l.length c (l.flatMap E.enc) (row_len E l) (hcells ad rfl) (flatMap_one E.one l) hroom;refine ⟨_,w',hr,⟨by rw [List.length_append,List.flatMap_append]; exact ho,by rw [List.length_append]; exact hb⟩,hg,fun u m hm h=>?_⟩
    by_cases he : u.ownBlock = some g
    ·rcases h.1.2 with ⟨rfl,_⟩ | ⟨g',cap',cur',rfl,k1,k2,k3,k4,k5,k6⟩
     ·cases he
     ·simp only [Value.ownBlock,Option.some.injEq] at he;subst he;rw [hgc] at k2;simp only [Option.some.injEq,Obj.cells.injEq,and_true] at k2;obtain rfl:=k2;have hcc : cap' = cap:=Nat.eq_of_mul_eq_mul_right E.pos (k5.symm.trans hcs);subst hcc
      rcases ho.2 with ⟨hx,_⟩ | ⟨g2,cap2,cur2,e1,_,e3,e4,e5,e6,e7⟩
      ·cases hx
      ·cases e1;refine ⟨⟨h.1.1,.inr ⟨g',cap',cur2,rfl,k1,e3,k3,k4,e6,?_⟩⟩,h.2⟩;have hle : m.length * E.k≤l0.length * E.k:=Nat.mul_le_mul_right _ hm;have hl0 : (l0.flatMap E.enc).length = l0.length * E.k:=row_len E l0;have ht : cur2.toList.take (m.length * E.k) = (cur2.toList.take ((l0.length + l.length) * E.k)).take (m.length * E.k):=by
        rw [List.take_take,Nat.min_eq_left (by rw [Nat.add_mul]; omega)]
       rw [ht,e7,List.take_append_of_le_length (by rw [hl0]; exact hle),←hct,List.take_take,Nat.min_eq_left hle]
       exact k6
    ·exact h.grown hg (fun g' hg' e=>by cases e; exact he hg')
   ·obtain ⟨v',w',hr,ho,hg⟩:=run_append_arg_grows (P:=Tryz.prog) w E.st ty E.ty i0 _ E.k E.bytes E.und hi hz0 hz1 hz2 (zsize E) E.pos ⟨g,0,none⟩ l0.length cap (l0.flatMap E.enc) (row_len E l0) (h0.1.cells rfl) ad l.length c (l.flatMap E.enc) (row_len E l) (hcells ad rfl) (by omega) (maxLen_of (by omega)) hb
    refine ⟨v',w',hr,⟨by rw [List.length_append,List.flatMap_append]; exact ownsRow_base ho hbase,by rw [List.length_append]; exact hb⟩,⟨hg.os,hg.tape,hg.output,hg.size,fun k hk _=>hg.block k hk (by simp)⟩,fun u m _ h=>h.grown hg (fun g' _ e=>by cases e)⟩
end
def pgc (p : List Int) : List Value:=p.map (Value.int .u8)
def ptc (q : Int × List Int) : List Value:= .int .i64 q.1 :: pgc q.2
theorem pgc_len (p : List Int) : (pgc p).length = p.length:=by simp [pgc]
theorem ptc_len (q : Int × List Int) : (ptc q).length = q.2.length + 1:=by simp [ptc,pgc]
theorem pgc_one (p : List Int) : ∀ u∈pgc p,u.oneCell' = true:=fun u hu=>by
 obtain ⟨x,_,rfl⟩:=List.mem_map.1 hu;rfl
theorem ptc_one (q : Int × List Int) : ∀ u∈ptc q,u.oneCell' = true:=fun u hu=>by
 rcases List.mem_cons.1 hu with rfl | h
 ·rfl
 ·exact pgc_one _ u h
def PagesAt (w : World) (v : Value) (ps : List (List Int)) : Prop:=SliceAt pgc w v ps∧(∀ p∈ps,p.length = 8)∧ps.length * 8≤140737488355328
def PutsAt (w : World) (v : Value) (qs : List (Int × List Int)) : Prop:=SliceAt ptc w v qs∧(∀ q∈qs,q.2.length = 8)∧qs.length * 16≤140737488355328
theorem PagesAt.grew {w w' : World} {v : Value} {ps : List (List Int)} (h : PagesAt w v ps) (hg : Grew w w') : PagesAt w' v ps:=⟨h.1.grew hg,h.2⟩
theorem PutsAt.grew {w w' : World} {v : Value} {qs : List (Int × List Int)} (h : PutsAt w v qs) (hg : Grew w w') : PutsAt w' v qs:=⟨h.1.grew hg,h.2⟩
def OwnPages (base : Nat) (w : World) (v : Value) (ps : List (List Int)) : Prop:=w.ownsRow base 50 8 v ps.length (ps.flatMap pgc)∧(∀ p∈ps,p.length = 8)∧ps.length * 8≤140737488355328
def OwnPuts (base : Nat) (w : World) (v : Value) (qs : List (Int × List Int)) : Prop:=w.ownsRow base 95 9 v qs.length (qs.flatMap ptc)∧(∀ q∈qs,q.2.length = 8)∧qs.length * 16≤140737488355328
theorem OwnPages.at {base : Nat} {w : World} {v : Value} {ps : List (List Int)} (h : OwnPages base w v ps) : PagesAt w v ps:=⟨sliceAt_of_owns h.1,h.2⟩
theorem OwnPuts.at {base : Nat} {w : World} {v : Value} {qs : List (Int × List Int)} (h : OwnPuts base w v qs) : PutsAt w v qs:=⟨sliceAt_of_owns h.1,h.2⟩
def DiskAt (w : World) (d : Value) (ps : List (List Int)) (qs : List (Int × List Int)) : Prop:=∃ b q,d = .agg #[b,q]∧PagesAt w b ps∧PutsAt w q qs
theorem len8 (l : List Int) (h : l.length = 8) : ∃ c0 c1 c2 c3 c4 c5 c6 c7,l = [c0,c1,c2,c3,c4,c5,c6,c7]:=by
 match l,h with
 | [c0,c1,c2,c3,c4,c5,c6,c7],_=>exact ⟨c0,c1,c2,c3,c4,c5,c6,c7,rfl⟩
def PutCells (W : World) (y : Addr) (m b0 b1 b2 b3 b4 b5 b6 b7 : Int) : Prop :=
 W.cell? y = some (.int .i64 m)∧W.cell? { block:=y.block,off:=y.off + 1 } = some (.int .u8 b0)∧W.cell? { block:=y.block,off:=y.off + 2 } = some (.int .u8 b1)∧W.cell? { block:=y.block,off:=y.off + 3 } = some (.int .u8 b2) ∧
 W.cell? { block:=y.block,off:=y.off + 4 } = some (.int .u8 b3)∧W.cell? { block:=y.block,off:=y.off + 5 } = some (.int .u8 b4)∧W.cell? { block:=y.block,off:=y.off + 6 } = some (.int .u8 b5)∧W.cell? { block:=y.block,off:=y.off + 7 } = some (.int .u8 b6)∧W.cell? { block:=y.block,off:=y.off + 8 } = some (.int .u8 b7)
def PageCells (W : World) (y : Addr) (b0 b1 b2 b3 b4 b5 b6 b7 : Int) : Prop :=
 W.cell? y = some (.int .u8 b0)∧W.cell? { block:=y.block,off:=y.off + 1 } = some (.int .u8 b1)∧W.cell? { block:=y.block,off:=y.off + 2 } = some (.int .u8 b2)∧W.cell? { block:=y.block,off:=y.off + 3 } = some (.int .u8 b3) ∧
 W.cell? { block:=y.block,off:=y.off + 4 } = some (.int .u8 b4)∧W.cell? { block:=y.block,off:=y.off + 5 } = some (.int .u8 b5)∧W.cell? { block:=y.block,off:=y.off + 6 } = some (.int .u8 b6)∧W.cell? { block:=y.block,off:=y.off + 7 } = some (.int .u8 b7)
theorem Cells.put {W : World} {y : Addr} {m b0 b1 b2 b3 b4 b5 b6 b7 : Int} (h : Cells W y (ptc (m,[b0,b1,b2,b3,b4,b5,b6,b7]))) : PutCells W y m b0 b1 b2 b3 b4 b5 b6 b7 :=
 ⟨h 0 _ rfl,h 1 _ rfl,h 2 _ rfl,h 3 _ rfl,h 4 _ rfl,h 5 _ rfl,h 6 _ rfl,h 7 _ rfl,h 8 _ rfl⟩
theorem Cells.page {W : World} {y : Addr} {b0 b1 b2 b3 b4 b5 b6 b7 : Int} (h : Cells W y (pgc [b0,b1,b2,b3,b4,b5,b6,b7])) : PageCells W y b0 b1 b2 b3 b4 b5 b6 b7 :=
 ⟨h 0 _ rfl,h 1 _ rfl,h 2 _ rfl,h 3 _ rfl,h 4 _ rfl,h 5 _ rfl,h 6 _ rfl,h 7 _ rfl⟩
def PutRows (w : World) (a : Option Addr) (qs : List (Int × List Int)) : Prop :=
 ∀ (j : Nat) q,qs[j]? = some q→∃ x m b0 b1 b2 b3 b4 b5 b6 b7,a = some x∧q = (m,[b0,b1,b2,b3,b4,b5,b6,b7])∧∀ W,Grew w W→PutCells W (x.add (j * 9)) m b0 b1 b2 b3 b4 b5 b6 b7
def PageRows (w : World) (a : Option Addr) (ps : List (List Int)) : Prop :=
 ∀ (j : Nat) p,ps[j]? = some p→∃ x b0 b1 b2 b3 b4 b5 b6 b7,a = some x∧p = [b0,b1,b2,b3,b4,b5,b6,b7]∧∀ W,Grew w W→PageCells W (x.add (j * 8)) b0 b1 b2 b3 b4 b5 b6 b7
theorem PutsAt.rows {w : World} {v : Value} {qs : List (Int × List Int)} (h : PutsAt w v qs) : ∃ a c,v = .slice a qs.length c∧PutRows w a qs:=by
 obtain ⟨⟨a,c,h1,h2,h3⟩,h4,_⟩:=h;refine ⟨a,c,h1,fun j q hj=>?_⟩
 have hm : q∈qs:=List.mem_of_getElem? hj;obtain ⟨m,l⟩:=q;obtain ⟨b0,b1,b2,b3,b4,b5,b6,b7,rfl⟩:=len8 l (h4 _ hm)
 cases a with
 | none=>rw [h2 rfl] at hm; cases hm
 | some x=>exact ⟨x,m,b0,b1,b2,b3,b4,b5,b6,b7,rfl,rfl,fun W hW=>(((h3 x rfl).grew hW).elem (k:=9) (fun b hb=>by rw [ptc_len,h4 b hb]) hj).put⟩
theorem PagesAt.rows {w : World} {v : Value} {ps : List (List Int)} (h : PagesAt w v ps) : ∃ a c,v = .slice a ps.length c∧PageRows w a ps:=by
 obtain ⟨⟨a,c,h1,h2,h3⟩,h4,_⟩:=h;refine ⟨a,c,h1,fun j q hj=>?_⟩
 have hm : q∈ps:=List.mem_of_getElem? hj;obtain ⟨b0,b1,b2,b3,b4,b5,b6,b7,rfl⟩:=len8 q (h4 _ hm)
 cases a with
 | none=>rw [h2 rfl] at hm; cases hm
 | some x=>exact ⟨x,b0,b1,b2,b3,b4,b5,b6,b7,rfl,rfl,fun W hW=>(((h3 x rfl).grew hW).elem (k:=8) (fun b hb=>by rw [pgc_len,h4 b hb]) hj).page⟩
theorem hasBlock_any (a : Option Addr) (n c : Nat) (q : Value) (m : Int) (w : World) :
  Calls Tryz.prog 127 #[.agg #[.slice a n c,q],.int .i64 m] w fun e w'=>e = .returned (.bool (dkInB m n))∧Grew w w':=by
 have H : Hid (dkInB m n = (decide (0≤m) && decide (m < n))):=rfl
 by_cases h0 : 0≤m
 ·by_cases h1 : m < n
  ·go_enter Tryz.func127,Tryz.ntmps127
   go_wp2;go_ret;exact ⟨by rw [H.out]; simp [*],(Below.refl _ _).alloc (Nat.le_refl _) _⟩
  ·go_enter Tryz.func127,Tryz.ntmps127
   go_wp2;go_ret;exact ⟨by rw [H.out]; simp [*],(Below.refl _ _).alloc (Nat.le_refl _) _⟩
 ·go_enter Tryz.func127,Tryz.ntmps127
  go_wp2;go_ret;exact ⟨by rw [H.out]; simp; omega,(Below.refl _ _).alloc (Nat.le_refl _) _⟩
theorem wrong1_any (a : Option Addr) (n c : Nat) (qv : Value) (B : Nat) (q : Int × List Int) (hq : q.2.length = 8) (w : World) (hc0 : w.cell? ⟨B,0,none⟩ = some (.slice a n c)) (hc1 : w.cell? ⟨B,1,none⟩ = some qv) :
  Calls Tryz.prog 126 #[.agg (ptc q).toArray,.pointer (some ⟨B,0,none⟩)] w fun e w'=>e = .returned (.bool (!dkInB q.1 n))∧Grew w w':=by
 obtain ⟨m,l⟩:=q;obtain ⟨b0,b1,b2,b3,b4,b5,b6,b7,rfl⟩:=len8 l hq;have hB:=World.block_lt_of_cell? _ _ hc0;have hne : B≠w.heap.size:=by simp at hB; omega
 show Calls Tryz.prog 126 #[.agg #[.int .i64 m,.int .u8 b0,.int .u8 b1,.int .u8 b2,.int .u8 b3,.int .u8 b4,.int .u8 b5,.int .u8 b6,.int .u8 b7],.pointer (some ⟨B,0,none⟩)] w _
 go_enter Tryz.func126,Tryz.ntmps126
 go_wp2_with (go_at_call 127; refine (hasBlock_any _ _ _ _ _ _).mono ?_; rintro e w' ⟨rfl,hg⟩)
 go_ret;exact ⟨rfl,Grew.trans ((Below.refl _ _).alloc (Nat.le_refl _) _) hg⟩
def IdxP (p : Int × List Int→Bool) (qs : List (Int × List Int)) (r : Int) : Prop :=
 (r = -1∧∀ (j : Nat) q,qs[j]? = some q→p q = false)∨∃ (k : Nat) (q : Int × List Int),r = (k : Int)∧qs[k]? = some q∧p q = true∧∀ (j : Nat) q',j < k→qs[j]? = some q'→p q' = false
def PredOk (g : Nat) (lb : Array Value) (p : Int × List Int→Bool) (w : World) : Prop :=
 ∀ W q,Grew w W→q.2.length = 8→Calls Tryz.prog g (#[.agg (ptc q).toArray] ++ lb) W fun e W'=>e = .returned (.bool (p q))∧Grew W W'
theorem indexFunc_any (p : Int × List Int→Bool) (g : Nat) (lb : Array Value) (eg : ∀ args w,(callFunc g args).run Tryz.prog w = .ok (.enter g args) w) (v : Value) (qs : List (Int × List Int)) (w : World) (hv : PutsAt w v qs) (hp : PredOk g lb p w) :
  Calls Tryz.prog 151 #[v,.func (.func g) #[] lb] w fun e w'=>∃ r : Int,e = .returned (.int .i64 r)∧Grew w w'∧IdxP p qs r:=by
 obtain ⟨a,c,rfl,hrow⟩:=hv.rows;have hbig : qs.length≤9223372036854775807:=by have:=hv.2.2; omega
 have HR : Hid (PutRows w a qs):=hrow;have HP : Hid (PredOk g lb p w):=hp;clear hrow hp hv;obtain ⟨n,hn⟩ : ∃ n,qs.length = n:=⟨_,rfl⟩;have HN : Hid (qs.length = n):=hn;rw [hn] at hbig ⊢;clear hn
 go_enter Tryz.func151,Tryz.ntmps151
 go_wp2
 go_loopg [5,8] n (fun gg _ s8 wr=>∃ kk : Nat,kk≤n∧n - kk≤gg∧s8 = .int .i64 kk∧Hid (Grew w wr)∧Hid (∀ j q,j < kk→qs[j]? = some q→p q = false))
 case atStart=>exact ⟨0,Nat.zero_le _,by omega,rfl,Grew.refl w,fun j q hj=>absurd hj (Nat.not_lt_zero _)⟩
 case round =>
  obtain ⟨kk,hkk,hg,rfl,BW,A⟩:=hrel
  by_cases hlt : kk < n
  ·have hltz : (kk : Int) < (n : Int):=by omega
   have hkq : kk < qs.length:=by rw [HN.out]; exact hlt
   obtain ⟨q,HQ⟩ : ∃ q,Hid (qs[kk]? = some q):=⟨_,List.getElem?_eq_getElem hkq⟩;obtain ⟨x,m,b0,b1,b2,b3,b4,b5,b6,b7,rfl,rfl,hl⟩:=HR.out kk q HQ.out;obtain ⟨d0,d1,d2,d3,d4,d5,d6,d7,d8⟩:=hl wr BW.out;have hcall:=HP.out wr (m,[b0,b1,b2,b3,b4,b5,b6,b7]) BW.out rfl;clear hl hkq
   cases hq : p (m,[b0,b1,b2,b3,b4,b5,b6,b7]) with
   | true =>
    rw [hq] at hcall
    go_wp2_with (go_at_fn g; refine hcall.mono ?_; rintro e w' ⟨rfl,hb'⟩)
    go_ret;exact ⟨_,rfl,BW.out.trans hb',   .inr ⟨kk,_,rfl,HQ.out,hq,A.out⟩⟩
   | false =>
    rw [hq] at hcall
    go_wp2_with (go_at_fn g; refine hcall.mono ?_; rintro e w' ⟨rfl,hb'⟩)
    go_roundg (n - (kk + 1))
    case measure=>omega
    case rel =>
     refine ⟨kk + 1,by omega,by omega,by go_num,BW.out.trans hb',(show Hid _ from fun j q' hj hq'=>?_)⟩
     by_cases e : j = kk
     ·subst e;rw [HQ.out] at hq';cases hq';exact hq
     ·exact A.out j q' (by omega) hq'
  ·have hltz : ¬ (kk : Int) < (n : Int):=by omega
   have : kk = n:=by omega
   subst this;go_wp2;go_ret;refine ⟨_,rfl,BW.out,.inl ⟨rfl,fun j q hj=>A.out j q ?_ hj⟩⟩
   have:=(List.getElem?_eq_some_iff.1 hj).1;rw [HN.out] at this;exact this
theorem containsFunc_any (p : Int × List Int→Bool) (g : Nat) (lb : Array Value) (eg : ∀ args w,(callFunc g args).run Tryz.prog w = .ok (.enter g args) w) (v : Value) (qs : List (Int × List Int)) (w : World) (hv : PutsAt w v qs) (hp : PredOk g lb p w) :
  Calls Tryz.prog 125 #[v,.func (.func g) #[] lb] w fun e w'=>e = .returned (.bool (qs.any p))∧Grew w w':=by
 have hcon:=indexFunc_any p g lb eg v qs w hv hp;clear hv hp eg
 go_enter Tryz.func125,Tryz.ntmps125
 go_wp2_with (go_at_call 151; refine hcon.mono ?_; rintro e w' ⟨r,rfl,hg,hr⟩)
 go_ret;have hb : qs.any p = decide (0≤r):=by
  rcases hr with ⟨rfl,h⟩ | ⟨k,q,rfl,h1,h2,_⟩
  ·rw [show decide ((0 : Int)≤-1) = false from rfl,List.any_eq_false]
   intro q hq;obtain ⟨j,hj⟩:=List.getElem?_of_mem hq;rw [h j q hj];simp
  ·rw [show decide ((0 : Int)≤(k : Int)) = true from by simp,List.any_eq_true]
   exact ⟨q,List.mem_of_getElem? h1,h2⟩
 rw [hb];exact ⟨rfl,hg⟩
theorem pred_wrong1 (a : Option Addr) (n c : Nat) (qv : Value) (B : Nat) (w : World) (hc0 : w.cell? ⟨B,0,none⟩ = some (.slice a n c)) (hc1 : w.cell? ⟨B,1,none⟩ = some qv) :
  PredOk 126 #[.pointer (some ⟨B,0,none⟩)] (fun q=>!dkInB q.1 n) w:=fun W q hW h8=>by
 have hB : B < w.heap.size:=World.block_lt_of_cell? _ _ hc0;exact wrong1_any a n c qv B q h8 W ((Below.cell hW (p:=⟨B,0,none⟩) hB).trans hc0) ((Below.cell hW (p:=⟨B,1,none⟩) hB).trans hc1)
theorem wrong_any (a : Option Addr) (n c : Nat) (qv : Value) (qs : List (Int × List Int)) (w : World) (hq : PutsAt w qv qs) :
  Calls Tryz.prog 79 #[.agg #[.slice a n c,qv]] w fun e w'=>e = .returned (.int .i64 (wrongL n qs))∧Grew w w':=by
 have HL : Hid (wrongL n qs = if 80 < n then 4 else if 400 < qs.length then 4 else if qs.any (fun q=>!dkInB q.1 n) then 3 else 0):=rfl
 obtain ⟨a2,c2,rfl,_⟩:=hq.rows;have hcon:=containsFunc_any (fun q=>!dkInB q.1 n) 126 #[.pointer (some ⟨w.heap.size,0,none⟩)] (enters_of Tryz.func126 (by kernel_rfl) rfl) (.slice a2 qs.length c2) qs (w.alloc (.cells #[.slice a n c,.slice a2 qs.length c2] 33)) (hq.grew (grew_alloc _ _)) (pred_wrong1 a n c (.slice a2 qs.length c2) _ _ (by simp) (by simp))
 clear hq;obtain ⟨nq,HN⟩ : ∃ nq,Hid (qs.length = nq):=⟨_,rfl⟩;rw [HN.out] at hcon HL ⊢;obtain ⟨b,HB⟩ : ∃ b,Hid ((qs.any fun q=>!dkInB q.1 n) = b):=⟨_,rfl⟩
 rw [HB.out] at hcon HL
 by_cases h1 : 80 < n
 ·have h1' : (80 : Int) < (n : Int):=by omega
  rw [if_pos h1] at HL;clear hcon
  go_enter Tryz.func79,Tryz.ntmps79
  go_wp2;go_ret;exact ⟨by rw [HL.out]; rfl,grew_alloc _ _⟩
 ·have h1' : ¬ (80 : Int) < (n : Int):=by omega
  rw [if_neg h1] at HL
  by_cases h2 : 400 < nq
  ·have h2' : (400 : Int) < (nq : Int):=by omega
   rw [if_pos h2] at HL;clear hcon
   go_enter Tryz.func79,Tryz.ntmps79
   go_wp2;go_ret;exact ⟨by rw [HL.out]; rfl,grew_alloc _ _⟩
  ·have h2' : ¬ (400 : Int) < (nq : Int):=by omega
   rw [if_neg h2] at HL
   cases b with
   | true =>
    go_enter Tryz.func79,Tryz.ntmps79
    go_wp2_with (go_at_call 125; refine hcon.mono ?_; rintro e w' ⟨rfl,hg⟩)
    go_ret;exact ⟨by rw [HL.out]; rfl,(grew_alloc _ _).trans hg⟩
   | false =>
    go_enter Tryz.func79,Tryz.ntmps79
    go_wp2_with (go_at_call 125; refine hcon.mono ?_; rintro e w' ⟨rfl,hg⟩)
    go_ret;exact ⟨by rw [HL.out]; rfl,(grew_alloc _ _).trans hg⟩
theorem Tryz.infoPage : (Tryz.prog.info? 50).map (fun i=>(i.zero,i.size,i.bytes)) = some (some (.agg #[.int .u8 0,.int .u8 0,.int .u8 0,.int .u8 0,.int .u8 0,.int .u8 0,.int .u8 0,.int .u8 0]),8,8):=by kernel_rfl
theorem Tryz.infoPut : (Tryz.prog.info? 95).map (fun i=>(i.zero,i.size,i.bytes)) = some (some (.agg #[.int .i64 0,.int .u8 0,.int .u8 0,.int .u8 0,.int .u8 0,.int .u8 0,.int .u8 0,.int .u8 0,.int .u8 0]),9,16):=by kernel_rfl
theorem clonePages_any (v : Value) (ps : List (List Int)) (w : World) (hv : PagesAt w v ps) :
  Calls Tryz.prog 96 #[v] w fun e w'=>∃ v',e = .returned v'∧OwnPages w.heap.size w' v' ps∧Grew w w':=by
 obtain ⟨⟨a,c,rfl,hnone,hcells⟩,h8,hbytes⟩:=hv;have q22 : ∀ (w : World) (a : Option Addr) (n c n' c' : Nat),(binOp .eql 30 (.slice a n c) (.slice none n' c')).run Tryz.prog w = .ok (.bool a.isNone) w:=fun w a n c n' c'=>Lib.run_eql_slice_nil w _ _ a n c n' c' Tryz.underlying30
 cases a with
 | none =>
  have hps:=hnone rfl;subst hps;clear hcells hnone h8 hbytes
  go_enter Tryz.func96,Tryz.ntmps96
  go_wp2;go_ret;exact ⟨_,rfl,⟨World.ownsRow_nil _ _ _ _,by simp,by simp⟩,Grew.refl w⟩
 | some x =>
  have A:=hcells x rfl;have HA : Hid (Cells w x (ps.flatMap pgc)):=A;have HB : Hid (ps.length * 8≤140737488355328):=hbytes;have H8 : Hid (∀ p∈ps,p.length = 8):=h8;clear A hcells hnone hbytes h8;obtain ⟨i0,hi,hz0,hz1,hz2⟩:=info_parts Tryz.infoPage
  go_enter Tryz.func96,Tryz.ntmps96
  go_wp2_with (at_builtin; refine wpList_append_own _ rfl _ _ 30 rfl w.heap.size 50 i0 _ 8 8 Tryz.underlying30 hi hz0 hz1 hz2 rfl (by decide) _ _ _ rfl (World.ownsRow_made w #[] 0 (Nat.le_refl _) (Nat.zero_le _) (by simp)) x ps.length c (ps.flatMap pgc) rfl ?qc1 ?qc2 ?qc3 ?qc4 ?qc5 ?qc6 ?_)
  case qc1=>exact flatMap_len ps fun p hp=>by rw [pgc_len,H8.out p hp]
  case qc2=>exact HA.out.grew (grew_alloc _ _)
  case qc3=>exact flatMap_one pgc_one ps
  case qc4=>rw [Nat.zero_add]; exact maxLen_of (by have:=HB.out; omega)
  case qc5=>rw [Nat.zero_add]; exact HB.out
  case qc6=>simp
  intro v' w1 hown hgrow hnil;go_wp2;go_ret;exact ⟨v',rfl,⟨by simpa using hown,H8.out,HB.out⟩,((Below.refl _ w).alloc (Nat.le_refl _) _).grown hgrow (by simp) (by intro k hk; simp [Value.ownBlock] at hk; omega)⟩
theorem clonePuts_any (v : Value) (qs : List (Int × List Int)) (w : World) (hv : PutsAt w v qs) :
  Calls Tryz.prog 97 #[v] w fun e w'=>∃ v',e = .returned v'∧OwnPuts w.heap.size w' v' qs∧Grew w w':=by
 obtain ⟨⟨a,c,rfl,hnone,hcells⟩,h8,hbytes⟩:=hv;have q22 : ∀ (w : World) (a : Option Addr) (n c n' c' : Nat),(binOp .eql 31 (.slice a n c) (.slice none n' c')).run Tryz.prog w = .ok (.bool a.isNone) w:=fun w a n c n' c'=>Lib.run_eql_slice_nil w _ _ a n c n' c' Tryz.underlying31
 cases a with
 | none =>
  have hps:=hnone rfl;subst hps;clear hcells hnone h8 hbytes
  go_enter Tryz.func97,Tryz.ntmps97
  go_wp2;go_ret;exact ⟨_,rfl,⟨World.ownsRow_nil _ _ _ _,by simp,by simp⟩,Grew.refl w⟩
 | some x =>
  have A:=hcells x rfl;have HA : Hid (Cells w x (qs.flatMap ptc)):=A;have HB : Hid (qs.length * 16≤140737488355328):=hbytes;have H8 : Hid (∀ q∈qs,q.2.length = 8):=h8;clear A hcells hnone hbytes h8;obtain ⟨i0,hi,hz0,hz1,hz2⟩:=info_parts Tryz.infoPut
  go_enter Tryz.func97,Tryz.ntmps97
  go_wp2_with (at_builtin; refine wpList_append_own _ rfl _ _ 31 rfl w.heap.size 95 i0 _ 9 16 Tryz.underlying31 hi hz0 hz1 hz2 rfl (by decide) _ _ _ rfl (World.ownsRow_made w #[] 0 (Nat.le_refl _) (Nat.zero_le _) (by simp)) x qs.length c (qs.flatMap ptc) rfl ?qc1 ?qc2 ?qc3 ?qc4 ?qc5 ?qc6 ?_)
  case qc1=>exact flatMap_len qs fun p hp=>by rw [ptc_len,H8.out p hp]
  case qc2=>exact HA.out.grew (grew_alloc _ _)
  case qc3=>exact flatMap_one ptc_one qs
  case qc4=>rw [Nat.zero_add]; exact maxLen_of (by have:=HB.out; omega)
  case qc5=>rw [Nat.zero_add]; exact HB.out
  case qc6=>simp
  intro v' w1 hown hgrow hnil;go_wp2;go_ret;exact ⟨v',rfl,⟨by simpa using hown,H8.out,HB.out⟩,((Below.refl _ w).alloc (Nat.le_refl _) _).grown hgrow (by simp) (by intro k hk; simp [Value.ownBlock] at hk; omega)⟩
end
end Go.Proofs.YtjleclgecnndjaaGreat
