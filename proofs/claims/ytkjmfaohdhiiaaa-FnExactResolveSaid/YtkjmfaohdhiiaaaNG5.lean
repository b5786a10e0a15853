/- Several texts in one: ResM, ClSpec3, ClSpec0, ClSpec1, ClSpec2. -/
import Derived.Test.YtkjmfaohdhiiaaaNG2
import Derived.Deep.DeepCutAuto
namespace Go.Proofs.Ytkjmfaohdhiiaaa

section
open Go.RowKit
abbrev PT:=Int × Int
def joinP (p q:PT):PT:=(bits .or .i64 p.1 q.1,bits .or .i64 p.2 q.2)
def offI (m:Int) (l:Nat):Int:=bits .andNot .i64 m ((2:Int) ^ l)
def lessP (p:PT) (l:Nat) (no:Bool):PT:=if no=true then (p.1,offI p.2 l) else (offI p.1 l,p.2)
def grP (p:PT):Int × Bool × Bool:=greatest p.1 p.2
def meetOk (p q:PT):Bool:=(grP p).2.2 && ((grP q).2.2 && (decide ((grP p).1=(grP q).1) && ((grP p).2.1 != (grP q).2.1)))
def meetV (p q:PT):PT:=joinP (lessP p (grP p).1.toNat (grP p).2.1) (lessP q (grP q).1.toNat (grP q).2.1)
def meetP (p q:PT):Option PT:=if meetOk p q=true then some (meetV p q) else none
def oneC (x:PT):CL:=⟨0,0,0,0,x.1,x.2,0,0,[],0,0⟩
def nextC (f:Int) (x y:PT):CL:=if noneB y.1 y.2=true then oneC x else ⟨1,f,0,0,x.1,x.2,y.1,y.2,[],0,0⟩
def whoN (xs:List PT):Nat→Option Nat
 | 0=>none
 | i+1=>if noneB (xs.getD i (0,0)).1 (xs.getD i (0,0)).2=true then whoN xs i else some i
def factC (xs:List PT):CL:=⟨5,0,0,0,0,0,0,0,xs,0,0⟩
def CL.x (c:CL):PT:=(c.xp,c.xn)
def CL.y (c:CL):PT:=(c.yp,c.yn)
def zipJ (xs ys:List PT):List PT:=(List.range xs.length).map (fun i=>joinP (xs.getD i (0,0)) (ys.getD i (0,0)))
def factsF (xs ys:List PT):Option CL :=
 match whoN xs xs.length with
 | none=>none
 | some i=>if whoN ys ys.length=some i then (meetP (xs.getD i (0,0)) (ys.getD i (0,0))).map (fun p=>factC ((zipJ xs ys).set i p)) else none
def factsO (xs:List PT) (x:PT):Option CL :=
 match whoN xs xs.length with
 | none=>none
 | some i=>(meetP (xs.getD i (0,0)) x).map (fun p=>factC (xs.set i p))
def raised (a b:CL):CL:=⟨a.kind,a.fn,b.above,0,a.xp,a.xn,0,0,[],a.a,a.b⟩
def pairC (a b:CL):CL:=factC ((([(0,0),(0,0),(0,0),(0,0)]:List PT).set a.a.toNat b.x).set a.b.toNat (joinP ((([(0,0),(0,0),(0,0),(0,0)]:List PT).set a.a.toNat b.x).getD a.b.toNat (0,0)) b.y))
def oneF (a b:CL):Option CL :=
 if a.kind=0∧b.kind=0 then (meetP a.x b.x).map oneC
 else if a.kind=1∧b.kind=0 then (meetP a.y b.x).map (fun p=>nextC a.fn a.x p)
 else if a.kind=1∧b.kind=1 then (if a.fn=b.fn then (meetP a.y b.y).map (fun p=>nextC a.fn (joinP a.x b.x) p) else none)
 else if a.kind=2∧b.kind=3 then (if a.role=b.role then some (nextC a.fn (joinP a.x b.x) b.y) else none)
 else if a.kind=2∧b.kind=4 then (if a.role=b.role then some (raised a b) else none)
 else if a.kind=5∧b.kind=5 then factsF a.inds b.inds
 else if a.kind=5∧b.kind=0 then factsO a.inds b.x
 else if a.kind=6∧b.kind=3 then (if a.role=b.role then some (pairC a b) else none)
 else if a.kind=6∧b.kind=4 then (if a.role=b.role then some (raised a b) else none)
 else none
def bothF (a b:CL):List CL:=(oneF a b).toList++(if a.kind=b.kind then [] else (oneF b a).toList)
theorem bits_or_comm (a b:Int):bits .or .i64 a b=bits .or .i64 b a:=by
 show IntKind.i64.wrap (((BitVec.ofInt 64 a) ||| (BitVec.ofInt 64 b)).toNat:Int)=IntKind.i64.wrap (((BitVec.ofInt 64 b) ||| (BitVec.ofInt 64 a)).toNat:Int)
 rw [BitVec.or_comm]
theorem joinP_comm (p q:PT):joinP p q=joinP q p:=by unfold joinP;rw [bits_or_comm p.1,bits_or_comm p.2]
theorem bits_or_zero {a:Int} (h0:0≤a) (h1:a<16777216):bits .or .i64 a 0=a:=by
 obtain ⟨n,rfl⟩:=Int.eq_ofNat_of_zero_le h0;have:=bits_or_nat n 0 (by omega) (by omega);simpa using this
theorem joinP_zero {p:PT} (h:partB p.1 p.2=true):joinP p (0,0)=p:=by
 obtain ⟨⟨h1,h2⟩,h3,h4⟩:=partB_iff.1 h;unfold joinP;rw [bits_or_zero h1 h2,bits_or_zero h3 h4]
theorem grF_lt (p n:Nat):∀ i,(grF p n i).2.2=true→0≤(grF p n i).1∧(grF p n i).1<i
 | 0,h=>by simp [grF] at h
 | i+1,h=>by
  rw [grF] at h ⊢
  split
  · simp;omega
  split
  · simp;omega
  rename_i h1 h2
  rw [if_neg h1,if_neg h2] at h;have:=grF_lt p n i h;omega
theorem grP_lt {p:PT} (h:(grP p).2.2=true):0≤(grP p).1∧(grP p).1<24:=by
 unfold grP greatest at h ⊢
 split
 · rename_i hp
   rw [if_pos hp] at h;exact grF_lt _ _ 24 h
 rename_i hp
 rw [if_neg hp] at h;simp at h
theorem grP_none {p:PT} (h:noneB p.1 p.2=true):grP p=(0,false,false):=by
 obtain ⟨h1,h2⟩:=noneB_iff.1 h;unfold grP greatest;rw [h1,h2];exact grF_none
theorem meetP_none {p q:PT} (h:noneB q.1 q.2=true):meetP p q=none:=by
 unfold meetP meetOk;rw [grP_none h];simp
theorem whoN_lt {xs:List PT}:∀ {n i:Nat},whoN xs n=some i→i<n∧noneB (xs.getD i (0,0)).1 (xs.getD i (0,0)).2=false
 | 0,i,h=>by simp [whoN] at h
 | n+1,i,h=>by
  rw [whoN] at h
  split at h
  · have:=whoN_lt h;exact ⟨by omega,this.2⟩
  rename_i hn
  simp only [Option.some.injEq] at h;subst h;exact ⟨by omega,by simpa using hn⟩
theorem two_pow_wrap {l:Nat} (h:l≤24):IntKind.i64.wrap ((2:Int) ^ l)=(2:Int) ^ l:=by
 have h2:(2:Nat) ^ l≤2 ^ 24:=Nat.pow_le_pow_right (by omega) h;have h3:((2 ^ l:Nat):Int)=(2:Int) ^ l:=by simp
 rw [← h3];exact wrap_id _ (by omega)
end

section
open Go.RowKit
theorem clause_3 {f r u xp xn yp yn:Int} {xs:List (Int × Int)} {a b:Int}:clauseB 3 f r u xp xn yp yn xs a b=true ↔ f=0∧(0≤r∧r<3)∧u=0∧a=0∧b=0∧partB xp xn=true∧partB yp yn=true∧xs.length=0:=by
 simp [clauseB,numB,parB,indB,hasF,hasR,hasU,hasX,hasY,hasI,hasP]
set_option maxRecDepth 100000 in
set_option maxHeartbeats 4000000 in
theorem specOk_3 {f r u xp xn yp yn:Int} {ia:Option Addr} {im ic:Nat} {a b:Int} {xs:List (Int × Int)} {w:World} {lo hi:Nat} (h:RP lo hi w ia im ic xs) (s:hi≤w.heap.size) :
    Calls Try.prog 13 #[.agg #[.int .i64 3,.int .i64 f,.int .i64 r,.int .i64 u,.int .i64 xp,.int .i64 xn,.int .i64 yp,.int .i64 yn,.slice ia im ic,.int .i64 a,.int .i64 b]] w fun e w'=>e=.returned (.bool (clauseB 3 f r u xp xn yp yn xs a b))∧Below w.heap.size w w':=by
 obtain ⟨W,hW⟩:∃ W,W=w.alloc (.cells #[.int .i64 3,.int .i64 f,.int .i64 r,.int .i64 u,.int .i64 xp,.int .i64 xn,.int .i64 yp,.int .i64 yn,.slice ia im ic,.int .i64 a,.int .i64 b] 32):=⟨_,rfl⟩;have HW:Hid (W=w.alloc (.cells #[.int .i64 3,.int .i64 f,.int .i64 r,.int .i64 u,.int .i64 xp,.int .i64 xn,.int .i64 yp,.int .i64 yn,.slice ia im ic,.int .i64 a,.int .i64 b] 32)):=hW;have m:Below w.heap.size w W:=by rw [hW];exact (Below.refl _ _).alloc (Nat.le_refl _) _
 have d:Hid (Below w.heap.size w W):=m;have t:BoxK 32 W w.heap.size 3 f r u xp xn yp yn (.slice ia im ic) a b:=by rw [hW];exact BoxK.new _ w _ _ _ _ _ _ _ _ _ _ _
 have HX:Hid (∀ V,Below W.heap.size W V→BoxK 32 V w.heap.size 3 f r u xp xn yp yn (.slice ia im ic) a b):=fun V hV=>t.below hV t.lt
 have F:Hid (∀ V,Below W.heap.size W V→RP lo hi V ia im ic xs):=fun V hV=>(h.below m s).below hV (Nat.le_trans s m.size)
 have HL:Hid (xs.length=im):=h.len;have HH:Hid (hi≤W.heap.size):=Nat.le_trans s m.size;obtain ⟨C,hC⟩:∃ C,C=clauseB 3 f r u xp xn yp yn xs a b:=⟨_,rfl⟩;rw [← hC];have HC:Hid (C=clauseB 3 f r u xp xn yp yn xs a b):=hC;obtain ⟨z0,z1,z2,z3,z4,z5,z6,z7,z8,z9,o⟩:=t.cells;clear hW m t h hC s;go_enter Try.func13, Try.ntmps13;go_upto_region 1 with fail;rw [← HW.out];go_wp2_with fail;refine (l5part_any xp xn W).mono ?_;rintro e w1 ⟨rfl,A⟩;have H1:Hid (Below W.heap.size W w1):=A;clear A z0 z1 z2 z3 z4 z5 z6 z7 z8 z9 o;obtain ⟨z0,z1,z2,z3,z4,z5,z6,z7,z8,z9,o⟩:=(HX.out _ H1.out).cells;by_cases hx:partB xp xn=true
 case neg =>
  have hf:partB xp xn=false:=by simpa using hx
  rw [hf];have HF:Hid (C=false):=by unfold Hid;rw [HC.out];simp [clauseB,parB_none hf]
  clear hx hf;go_wp2_with fail;go_ret;exact ⟨rb HF.out.symm,d.out.trans (H1.out.mono d.out.size)⟩
 rw [hx];have E:Hid (partB xp xn=true):=hx;clear hx;go_wp2_with fail;refine (l5part_any yp yn w1).mono ?_;rintro e w2 ⟨rfl,z⟩;have H2:Hid (Below W.heap.size W w2):=H1.out.trans (z.mono H1.out.size);clear z z0 z1 z2 z3 z4 z5 z6 z7 z8 z9 o;obtain ⟨z0,z1,z2,z3,z4,z5,z6,z7,z8,z9,o⟩:=(HX.out _ H2.out).cells;by_cases hy:partB yp yn=true
 case neg =>
  have hf:partB yp yn=false:=by simpa using hy
  rw [hf];have HF:Hid (C=false):=by unfold Hid;rw [HC.out];simp [clauseB,parB_none hf]
  clear hy hf;go_wp2_with fail;go_ret;exact ⟨rb HF.out.symm,d.out.trans (H2.out.mono d.out.size)⟩
 rw [hy];have D:Hid (partB yp yn=true):=hy;clear hy;go_upto_region 7 with fail
 all_goals (try (go_ret;refine ⟨rb (Eq.symm (Bool.eq_false_iff.2 fun q0=>?_)),d.out.trans (H2.out.mono d.out.size)⟩;rw [HC.out] at q0;have q1:=clause_3.1 q0;have hl:=HL.out;rename_i hh;first | omega | (simp at hh;omega)))
 go_upto_region 11 with fail
 all_goals (try (go_ret;refine ⟨rb (Eq.symm (Bool.eq_false_iff.2 fun q0=>?_)),d.out.trans (H2.out.mono d.out.size)⟩;rw [HC.out] at q0;have q1:=clause_3.1 q0;have hl:=HL.out;rename_i hh;first | omega | (simp at hh;omega)))
 go_wp2_with fail;go_ret;refine ⟨rb ?_,d.out.trans (H2.out.mono d.out.size)⟩;rw [HC.out,Bool.eq_iff_iff,clause_3];have hl:=HL.out;have hx:=E.out;have hy:=D.out
 try simp only [bne_eq_false_iff_eq] at *
 constructor
 · intro q;have q':(im:Int)=0:=by simpa using q
   refine ⟨?_,?_,?_,?_,?_,?_,?_,?_⟩
   all_goals first | assumption | omega
 intro q;have q':im=0:=by omega
 simp [q']
end

section
open Go.RowKit
theorem clause_0 {f r u xp xn yp yn:Int} {xs:List (Int × Int)} {a b:Int}:clauseB 0 f r u xp xn yp yn xs a b=true ↔ f=0∧r=0∧u=0∧a=0∧b=0∧partB xp xn=true∧noneB yp yn=true∧xs.length=0:=by
 simp [clauseB,numB,parB,indB,hasF,hasR,hasU,hasX,hasY,hasI,hasP]
set_option maxRecDepth 100000 in
set_option maxHeartbeats 4000000 in
theorem specOk_0 {f r u xp xn yp yn:Int} {ia:Option Addr} {im ic:Nat} {a b:Int} {xs:List (Int × Int)} {w:World} {lo hi:Nat} (h:RP lo hi w ia im ic xs) (s:hi≤w.heap.size) :
    Calls Try.prog 13 #[.agg #[.int .i64 0,.int .i64 f,.int .i64 r,.int .i64 u,.int .i64 xp,.int .i64 xn,.int .i64 yp,.int .i64 yn,.slice ia im ic,.int .i64 a,.int .i64 b]] w fun e w'=>e=.returned (.bool (clauseB 0 f r u xp xn yp yn xs a b))∧Below w.heap.size w w':=by
 obtain ⟨W,hW⟩:∃ W,W=w.alloc (.cells #[.int .i64 0,.int .i64 f,.int .i64 r,.int .i64 u,.int .i64 xp,.int .i64 xn,.int .i64 yp,.int .i64 yn,.slice ia im ic,.int .i64 a,.int .i64 b] 32):=⟨_,rfl⟩;have HW:Hid (W=w.alloc (.cells #[.int .i64 0,.int .i64 f,.int .i64 r,.int .i64 u,.int .i64 xp,.int .i64 xn,.int .i64 yp,.int .i64 yn,.slice ia im ic,.int .i64 a,.int .i64 b] 32)):=hW;have o:Below w.heap.size w W:=by rw [hW];exact (Below.refl _ _).alloc (Nat.le_refl _) _
 have d:Hid (Below w.heap.size w W):=o;have t:BoxK 32 W w.heap.size 0 f r u xp xn yp yn (.slice ia im ic) a b:=by rw [hW];exact BoxK.new _ w _ _ _ _ _ _ _ _ _ _ _
 have HX:Hid (∀ V,Below W.heap.size W V→BoxK 32 V w.heap.size 0 f r u xp xn yp yn (.slice ia im ic) a b):=fun V hV=>t.below hV t.lt
 have H:Hid (∀ V,Below W.heap.size W V→RP lo hi V ia im ic xs):=fun V hV=>(h.below o s).below hV (Nat.le_trans s o.size)
 have HL:Hid (xs.length=im):=h.len;have HH:Hid (hi≤W.heap.size):=Nat.le_trans s o.size;obtain ⟨C,hC⟩:∃ C,C=clauseB 0 f r u xp xn yp yn xs a b:=⟨_,rfl⟩;rw [← hC];have HC:Hid (C=clauseB 0 f r u xp xn yp yn xs a b):=hC;obtain ⟨z0,z1,z2,z3,z4,z5,z6,z7,z8,z9,m⟩:=t.cells;clear hW o t h hC s;go_enter Try.func13, Try.ntmps13;go_upto_region 1 with fail;rw [← HW.out];go_wp2_with fail;refine (l5part_any xp xn W).mono ?_;rintro e w1 ⟨rfl,A⟩;have H1:Hid (Below W.heap.size W w1):=A;clear A z0 z1 z2 z3 z4 z5 z6 z7 z8 z9 m;obtain ⟨z0,z1,z2,z3,z4,z5,z6,z7,z8,z9,m⟩:=(HX.out _ H1.out).cells;by_cases hx:partB xp xn=true
 case neg =>
  have hf:partB xp xn=false:=by simpa using hx
  rw [hf];have HF:Hid (C=false):=by unfold Hid;rw [HC.out];simp [clauseB,parB_none hf]
  clear hx hf;go_wp2_with fail;go_ret;exact ⟨rb HF.out.symm,d.out.trans (H1.out.mono d.out.size)⟩
 rw [hx];have E:Hid (partB xp xn=true):=hx;clear hx;go_wp2_with fail;refine (l5part_any yp yn w1).mono ?_;rintro e w2 ⟨rfl,z⟩;have H2:Hid (Below W.heap.size W w2):=H1.out.trans (z.mono H1.out.size);clear z z0 z1 z2 z3 z4 z5 z6 z7 z8 z9 m;obtain ⟨z0,z1,z2,z3,z4,z5,z6,z7,z8,z9,m⟩:=(HX.out _ H2.out).cells;by_cases hy:partB yp yn=true
 case neg =>
  have hf:partB yp yn=false:=by simpa using hy
  rw [hf];have HF:Hid (C=false):=by unfold Hid;rw [HC.out];simp [clauseB,parB_none hf]
  clear hy hf;go_wp2_with fail;go_ret;exact ⟨rb HF.out.symm,d.out.trans (H2.out.mono d.out.size)⟩
 rw [hy];have D:Hid (partB yp yn=true):=hy;clear hy;go_upto_region 7 with fail
 all_goals (try (go_ret;refine ⟨rb (Eq.symm (Bool.eq_false_iff.2 fun q0=>?_)),d.out.trans (H2.out.mono d.out.size)⟩;rw [HC.out] at q0;have q1:=clause_0.1 q0;have hl:=HL.out;rename_i hh;first | omega | (simp at hh;omega)))
 go_wp2_with fail;refine (l5none_any yp yn w2).mono ?_;rintro e w3 ⟨rfl,hb⟩;have H3:Hid (Below W.heap.size W w3):=H2.out.trans (hb.mono H2.out.size);clear hb z0 z1 z2 z3 z4 z5 z6 z7 z8 z9 m;obtain ⟨z0,z1,z2,z3,z4,z5,z6,z7,z8,z9,m⟩:=(HX.out _ H3.out).cells;by_cases hn:noneB yp yn=true
 case neg =>
  have hf:noneB yp yn=false:=by simpa using hn
  rw [hf]
  have HF:Hid (C=false):=by
   unfold Hid;rw [HC.out,Bool.eq_false_iff];intro q;have q:=clause_0.1 q;simp_all
  clear hn hf;go_wp2_with fail;go_ret;exact ⟨rb HF.out.symm,d.out.trans (H3.out.mono d.out.size)⟩
 rw [hn];have F:Hid (noneB yp yn=true):=hn;clear hn;go_upto_region 11 with fail
 all_goals (try (go_ret;refine ⟨rb (Eq.symm (Bool.eq_false_iff.2 fun q0=>?_)),d.out.trans (H3.out.mono d.out.size)⟩;rw [HC.out] at q0;have q1:=clause_0.1 q0;have hl:=HL.out;rename_i hh;first | omega | (simp at hh;omega)))
 go_wp2_with fail;go_ret;refine ⟨rb ?_,d.out.trans (H3.out.mono d.out.size)⟩;rw [HC.out,Bool.eq_iff_iff,clause_0];have hl:=HL.out;have hx:=E.out;have hy:=D.out;have G:=F.out
 try simp only [bne_eq_false_iff_eq] at *
 constructor
 · intro q;have q':(im:Int)=0:=by simpa using q
   refine ⟨?_,?_,?_,?_,?_,?_,?_,?_⟩
   all_goals first | assumption | omega
 intro q;have q':im=0:=by omega
 simp [q']
end

section
open Go.RowKit
theorem clause_1 {f r u xp xn yp yn:Int} {xs:List (Int × Int)} {a b:Int}:clauseB 1 f r u xp xn yp yn xs a b=true ↔ (0≤f∧f<12)∧r=0∧u=0∧a=0∧b=0∧partB xp xn=true∧partB yp yn=true∧xs.length=0∧noneB yp yn=false:=by
 simp [clauseB,numB,parB,indB,hasF,hasR,hasU,hasX,hasY,hasI,hasP]
set_option maxRecDepth 100000 in
set_option maxHeartbeats 4000000 in
theorem specOk_1 {f r u xp xn yp yn:Int} {ia:Option Addr} {im ic:Nat} {a b:Int} {xs:List (Int × Int)} {w:World} {lo hi:Nat} (h:RP lo hi w ia im ic xs) (s:hi≤w.heap.size) :
    Calls Try.prog 13 #[.agg #[.int .i64 1,.int .i64 f,.int .i64 r,.int .i64 u,.int .i64 xp,.int .i64 xn,.int .i64 yp,.int .i64 yn,.slice ia im ic,.int .i64 a,.int .i64 b]] w fun e w'=>e=.returned (.bool (clauseB 1 f r u xp xn yp yn xs a b))∧Below w.heap.size w w':=by
 obtain ⟨W,hW⟩:∃ W,W=w.alloc (.cells #[.int .i64 1,.int .i64 f,.int .i64 r,.int .i64 u,.int .i64 xp,.int .i64 xn,.int .i64 yp,.int .i64 yn,.slice ia im ic,.int .i64 a,.int .i64 b] 32):=⟨_,rfl⟩;have HW:Hid (W=w.alloc (.cells #[.int .i64 1,.int .i64 f,.int .i64 r,.int .i64 u,.int .i64 xp,.int .i64 xn,.int .i64 yp,.int .i64 yn,.slice ia im ic,.int .i64 a,.int .i64 b] 32)):=hW;have o:Below w.heap.size w W:=by rw [hW];exact (Below.refl _ _).alloc (Nat.le_refl _) _
 have d:Hid (Below w.heap.size w W):=o;have t:BoxK 32 W w.heap.size 1 f r u xp xn yp yn (.slice ia im ic) a b:=by rw [hW];exact BoxK.new _ w _ _ _ _ _ _ _ _ _ _ _
 have HX:Hid (∀ V,Below W.heap.size W V→BoxK 32 V w.heap.size 1 f r u xp xn yp yn (.slice ia im ic) a b):=fun V hV=>t.below hV t.lt
 have I:Hid (∀ V,Below W.heap.size W V→RP lo hi V ia im ic xs):=fun V hV=>(h.below o s).below hV (Nat.le_trans s o.size)
 have HL:Hid (xs.length=im):=h.len;have HH:Hid (hi≤W.heap.size):=Nat.le_trans s o.size;obtain ⟨C,hC⟩:∃ C,C=clauseB 1 f r u xp xn yp yn xs a b:=⟨_,rfl⟩;rw [← hC];have HC:Hid (C=clauseB 1 f r u xp xn yp yn xs a b):=hC;obtain ⟨z0,z1,z2,z3,z4,z5,z6,z7,z8,z9,m⟩:=t.cells;clear hW o t h hC s;go_enter Try.func13, Try.ntmps13;go_upto_region 1 with fail;rw [← HW.out];go_wp2_with fail;refine (l5part_any xp xn W).mono ?_;rintro e w1 ⟨rfl,D⟩;have H1:Hid (Below W.heap.size W w1):=D;clear D z0 z1 z2 z3 z4 z5 z6 z7 z8 z9 m;obtain ⟨z0,z1,z2,z3,z4,z5,z6,z7,z8,z9,m⟩:=(HX.out _ H1.out).cells;by_cases hx:partB xp xn=true
 case neg =>
  have hf:partB xp xn=false:=by simpa using hx
  rw [hf];have HF:Hid (C=false):=by unfold Hid;rw [HC.out];simp [clauseB,parB_none hf]
  clear hx hf;go_wp2_with fail;go_ret;exact ⟨rb HF.out.symm,d.out.trans (H1.out.mono d.out.size)⟩
 rw [hx];have F:Hid (partB xp xn=true):=hx;clear hx;go_wp2_with fail;refine (l5part_any yp yn w1).mono ?_;rintro e w2 ⟨rfl,A⟩;have H2:Hid (Below W.heap.size W w2):=H1.out.trans (A.mono H1.out.size);clear A z0 z1 z2 z3 z4 z5 z6 z7 z8 z9 m;obtain ⟨z0,z1,z2,z3,z4,z5,z6,z7,z8,z9,m⟩:=(HX.out _ H2.out).cells;by_cases hy:partB yp yn=true
 case neg =>
  have hf:partB yp yn=false:=by simpa using hy
  rw [hf];have HF:Hid (C=false):=by unfold Hid;rw [HC.out];simp [clauseB,parB_none hf]
  clear hy hf;go_wp2_with fail;go_ret;exact ⟨rb HF.out.symm,d.out.trans (H2.out.mono d.out.size)⟩
 rw [hy];have E:Hid (partB yp yn=true):=hy;clear hy;go_upto_region 7 with fail
 all_goals (try (go_ret;refine ⟨rb (Eq.symm (Bool.eq_false_iff.2 fun q0=>?_)),d.out.trans (H2.out.mono d.out.size)⟩;rw [HC.out] at q0;have q1:=clause_1.1 q0;have hl:=HL.out;rename_i hh;first | omega | (simp at hh;omega)))
 go_wp2_with fail;refine (l5none_any yp yn w2).mono ?_;rintro e w3 ⟨rfl,hb⟩;have H3:Hid (Below W.heap.size W w3):=H2.out.trans (hb.mono H2.out.size);clear hb z0 z1 z2 z3 z4 z5 z6 z7 z8 z9 m;obtain ⟨z0,z1,z2,z3,z4,z5,z6,z7,z8,z9,m⟩:=(HX.out _ H3.out).cells;by_cases hn:noneB yp yn=true
 case pos =>
  rw [hn]
  have HF:Hid (C=false):=by
   unfold Hid;rw [HC.out,Bool.eq_false_iff];intro q;have q:=clause_1.1 q;simp_all
  clear hn;go_wp2_with fail;go_ret;exact ⟨rb HF.out.symm,d.out.trans (H3.out.mono d.out.size)⟩
 have z:noneB yp yn=false:=by simpa using hn
 rw [z];have G:Hid (noneB yp yn=false):=z;clear hn z;go_upto_region 11 with fail
 all_goals (try (go_ret;refine ⟨rb (Eq.symm (Bool.eq_false_iff.2 fun q0=>?_)),d.out.trans (H3.out.mono d.out.size)⟩;rw [HC.out] at q0;have q1:=clause_1.1 q0;have hl:=HL.out;rename_i hh;first | omega | (simp at hh;omega)))
 go_wp2_with fail;go_ret;refine ⟨rb ?_,d.out.trans (H3.out.mono d.out.size)⟩;rw [HC.out,Bool.eq_iff_iff,clause_1];have hl:=HL.out;have hx:=F.out;have hy:=E.out;have H:=G.out
 try simp only [bne_eq_false_iff_eq] at *
 constructor
 · intro q;have q':(im:Int)=0:=by simpa using q
   refine ⟨?_,?_,?_,?_,?_,?_,?_,?_,?_⟩
   all_goals first | assumption | omega
 intro q;have q':im=0:=by omega
 simp [q']
end

section
open Go.RowKit
theorem clause_2 {f r u xp xn yp yn:Int} {xs:List (Int × Int)} {a b:Int}:clauseB 2 f r u xp xn yp yn xs a b=true ↔ (0≤f∧f<12)∧(0≤r∧r<3)∧u=0∧a=0∧b=0∧partB xp xn=true∧noneB yp yn=true∧xs.length=0:=by
 simp [clauseB,numB,parB,indB,hasF,hasR,hasU,hasX,hasY,hasI,hasP]
set_option maxRecDepth 100000 in
set_option maxHeartbeats 4000000 in
theorem specOk_2 {f r u xp xn yp yn:Int} {ia:Option Addr} {im ic:Nat} {a b:Int} {xs:List (Int × Int)} {w:World} {lo hi:Nat} (h:RP lo hi w ia im ic xs) (s:hi≤w.heap.size) :
    Calls Try.prog 13 #[.agg #[.int .i64 2,.int .i64 f,.int .i64 r,.int .i64 u,.int .i64 xp,.int .i64 xn,.int .i64 yp,.int .i64 yn,.slice ia im ic,.int .i64 a,.int .i64 b]] w fun e w'=>e=.returned (.bool (clauseB 2 f r u xp xn yp yn xs a b))∧Below w.heap.size w w':=by
 obtain ⟨W,hW⟩:∃ W,W=w.alloc (.cells #[.int .i64 2,.int .i64 f,.int .i64 r,.int .i64 u,.int .i64 xp,.int .i64 xn,.int .i64 yp,.int .i64 yn,.slice ia im ic,.int .i64 a,.int .i64 b] 32):=⟨_,rfl⟩;have HW:Hid (W=w.alloc (.cells #[.int .i64 2,.int .i64 f,.int .i64 r,.int .i64 u,.int .i64 xp,.int .i64 xn,.int .i64 yp,.int .i64 yn,.slice ia im ic,.int .i64 a,.int .i64 b] 32)):=hW;have o:Below w.heap.size w W:=by rw [hW];exact (Below.refl _ _).alloc (Nat.le_refl _) _
 have d:Hid (Below w.heap.size w W):=o;have t:BoxK 32 W w.heap.size 2 f r u xp xn yp yn (.slice ia im ic) a b:=by rw [hW];exact BoxK.new _ w _ _ _ _ _ _ _ _ _ _ _
 have HX:Hid (∀ V,Below W.heap.size W V→BoxK 32 V w.heap.size 2 f r u xp xn yp yn (.slice ia im ic) a b):=fun V hV=>t.below hV t.lt
 have H:Hid (∀ V,Below W.heap.size W V→RP lo hi V ia im ic xs):=fun V hV=>(h.below o s).below hV (Nat.le_trans s o.size)
 have HL:Hid (xs.length=im):=h.len;have HH:Hid (hi≤W.heap.size):=Nat.le_trans s o.size;obtain ⟨C,hC⟩:∃ C,C=clauseB 2 f r u xp xn yp yn xs a b:=⟨_,rfl⟩;rw [← hC];have HC:Hid (C=clauseB 2 f r u xp xn yp yn xs a b):=hC;obtain ⟨z0,z1,z2,z3,z4,z5,z6,z7,z8,z9,m⟩:=t.cells;clear hW o t h hC s;go_enter Try.func13, Try.ntmps13;go_upto_region 1 with fail;rw [← HW.out];go_wp2_with fail;refine (l5part_any xp xn W).mono ?_;rintro e w1 ⟨rfl,A⟩;have H1:Hid (Below W.heap.size W w1):=A;clear A z0 z1 z2 z3 z4 z5 z6 z7 z8 z9 m;obtain ⟨z0,z1,z2,z3,z4,z5,z6,z7,z8,z9,m⟩:=(HX.out _ H1.out).cells;by_cases hx:partB xp xn=true
 case neg =>
  have hf:partB xp xn=false:=by simpa using hx
  rw [hf];have HF:Hid (C=false):=by unfold Hid;rw [HC.out];simp [clauseB,parB_none hf]
  clear hx hf;go_wp2_with fail;go_ret;exact ⟨rb HF.out.symm,d.out.trans (H1.out.mono d.out.size)⟩
 rw [hx];have E:Hid (partB xp xn=true):=hx;clear hx;go_wp2_with fail;refine (l5part_any yp yn w1).mono ?_;rintro e w2 ⟨rfl,z⟩;have H2:Hid (Below W.heap.size W w2):=H1.out.trans (z.mono H1.out.size);clear z z0 z1 z2 z3 z4 z5 z6 z7 z8 z9 m;obtain ⟨z0,z1,z2,z3,z4,z5,z6,z7,z8,z9,m⟩:=(HX.out _ H2.out).cells;by_cases hy:partB yp yn=true
 case neg =>
  have hf:partB yp yn=false:=by simpa using hy
  rw [hf];have HF:Hid (C=false):=by unfold Hid;rw [HC.out];simp [clauseB,parB_none hf]
  clear hy hf;go_wp2_with fail;go_ret;exact ⟨rb HF.out.symm,d.out.trans (H2.out.mono d.out.size)⟩
 rw [hy];have D:Hid (partB yp yn=true):=hy;clear hy;go_upto_region 7 with fail
 all_goals (try (go_ret;refine ⟨rb (Eq.symm (Bool.eq_false_iff.2 fun q0=>?_)),d.out.trans (H2.out.mono d.out.size)⟩;rw [HC.out] at q0;have q1:=clause_2.1 q0;have hl:=HL.out;rename_i hh;first | omega | (simp at hh;omega)))
 go_wp2_with fail;refine (l5none_any yp yn w2).mono ?_;rintro e w3 ⟨rfl,hb⟩;have H3:Hid (Below W.heap.size W w3):=H2.out.trans (hb.mono H2.out.size);clear hb z0 z1 z2 z3 z4 z5 z6 z7 z8 z9 m;obtain ⟨z0,z1,z2,z3,z4,z5,z6,z7,z8,z9,m⟩:=(HX.out _ H3.out).cells;by_cases hn:noneB yp yn=true
 case neg =>
  have hf:noneB yp yn=false:=by simpa using hn
  rw [hf]
  have HF:Hid (C=false):=by
   unfold Hid;rw [HC.out,Bool.eq_false_iff];intro q;have q:=clause_2.1 q;simp_all
  clear hn hf;go_wp2_with fail;go_ret;exact ⟨rb HF.out.symm,d.out.trans (H3.out.mono d.out.size)⟩
 rw [hn];have F:Hid (noneB yp yn=true):=hn;clear hn;go_upto_region 11 with fail
 all_goals (try (go_ret;refine ⟨rb (Eq.symm (Bool.eq_false_iff.2 fun q0=>?_)),d.out.trans (H3.out.mono d.out.size)⟩;rw [HC.out] at q0;have q1:=clause_2.1 q0;have hl:=HL.out;rename_i hh;first | omega | (simp at hh;omega)))
 go_wp2_with fail;go_ret;refine ⟨rb ?_,d.out.trans (H3.out.mono d.out.size)⟩;rw [HC.out,Bool.eq_iff_iff,clause_2];have hl:=HL.out;have hx:=E.out;have hy:=D.out;have G:=F.out
 try simp only [bne_eq_false_iff_eq] at *
 constructor
 · intro q;have q':(im:Int)=0:=by simpa using q
   refine ⟨?_,?_,?_,?_,?_,?_,?_,?_⟩
   all_goals first | assumption | omega
 intro q;have q':im=0:=by omega
 simp [q']
end

end Go.Proofs.Ytkjmfaohdhiiaaa
