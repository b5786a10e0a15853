/- Several texts in one: ClSpec4, ClSpec6, ClSpec5, ClSpec. -/
import Derived.Test.YtkjmfaohdhiiaaaNG2
import Derived.Deep.DeepCutAuto
import Derived.Test.YtkjmfaohdhiiaaaNG5
namespace Go.Proofs.Ytkjmfaohdhiiaaa

section
open Go.RowKit
theorem clause_4 {f r u xp xn yp yn:Int} {xs:List (Int × Int)} {a b:Int}:clauseB 4 f r u xp xn yp yn xs a b=true ↔ f=0∧(0≤r∧r<3)∧(0≤u∧u<3)∧a=0∧b=0∧noneB xp xn=true∧noneB yp yn=true∧xs.length=0:=by
 simp [clauseB,numB,parB,indB,hasF,hasR,hasU,hasX,hasY,hasI,hasP]
set_option maxRecDepth 100000 in
set_option maxHeartbeats 4000000 in
theorem specOk_4 {f r u xp xn yp yn:Int} {ia:Option Addr} {im ic:Nat} {a b:Int} {xs:List (Int × Int)} {w:World} {lo hi:Nat} (h:RP lo hi w ia im ic xs) (s:hi≤w.heap.size) :
    Calls Try.prog 13 #[.agg #[.int .i64 4,.int .i64 f,.int .i64 r,.int .i64 u,.int .i64 xp,.int .i64 xn,.int .i64 yp,.int .i64 yn,.slice ia im ic,.int .i64 a,.int .i64 b]] w fun e w'=>e=.returned (.bool (clauseB 4 f r u xp xn yp yn xs a b))∧Below w.heap.size w w':=by
 obtain ⟨W,hW⟩:∃ W,W=w.alloc (.cells #[.int .i64 4,.int .i64 f,.int .i64 r,.int .i64 u,.int .i64 xp,.int .i64 xn,.int .i64 yp,.int .i64 yn,.slice ia im ic,.int .i64 a,.int .i64 b] 32):=⟨_,rfl⟩;have HW:Hid (W=w.alloc (.cells #[.int .i64 4,.int .i64 f,.int .i64 r,.int .i64 u,.int .i64 xp,.int .i64 xn,.int .i64 yp,.int .i64 yn,.slice ia im ic,.int .i64 a,.int .i64 b] 32)):=hW;have o:Below w.heap.size w W:=by rw [hW];exact (Below.refl _ _).alloc (Nat.le_refl _) _
 have d:Hid (Below w.heap.size w W):=o;have t:BoxK 32 W w.heap.size 4 f r u xp xn yp yn (.slice ia im ic) a b:=by rw [hW];exact BoxK.new _ w _ _ _ _ _ _ _ _ _ _ _
 have HX:Hid (∀ V,Below W.heap.size W V→BoxK 32 V w.heap.size 4 f r u xp xn yp yn (.slice ia im ic) a b):=fun V hV=>t.below hV t.lt
 have J:Hid (∀ V,Below W.heap.size W V→RP lo hi V ia im ic xs):=fun V hV=>(h.below o s).below hV (Nat.le_trans s o.size)
 have HL:Hid (xs.length=im):=h.len;have HH:Hid (hi≤W.heap.size):=Nat.le_trans s o.size;obtain ⟨C,hC⟩:∃ C,C=clauseB 4 f r u xp xn yp yn xs a b:=⟨_,rfl⟩;rw [← hC];have HC:Hid (C=clauseB 4 f r u xp xn yp yn xs a b):=hC;obtain ⟨z0,z1,z2,z3,z4,z5,z6,z7,z8,z9,m⟩:=t.cells;clear hW o t h hC s;go_enter Try.func13, Try.ntmps13;go_upto_region 1 with fail;rw [← HW.out];go_wp2_with fail;refine (l5part_any xp xn W).mono ?_;rintro e w1 ⟨rfl,A⟩;have H1:Hid (Below W.heap.size W w1):=A;clear A z0 z1 z2 z3 z4 z5 z6 z7 z8 z9 m;obtain ⟨z0,z1,z2,z3,z4,z5,z6,z7,z8,z9,m⟩:=(HX.out _ H1.out).cells;by_cases hx:partB xp xn=true
 case neg =>
  have hf:partB xp xn=false:=by simpa using hx
  rw [hf];have HF:Hid (C=false):=by unfold Hid;rw [HC.out];simp [clauseB,parB_none hf]
  clear hx hf;go_wp2_with fail;go_ret;exact ⟨rb HF.out.symm,d.out.trans (H1.out.mono d.out.size)⟩
 rw [hx];have E:Hid (partB xp xn=true):=hx;clear hx;go_wp2_with fail;refine (l5part_any yp yn w1).mono ?_;rintro e w2 ⟨rfl,z⟩;have H2:Hid (Below W.heap.size W w2):=H1.out.trans (z.mono H1.out.size);clear z z0 z1 z2 z3 z4 z5 z6 z7 z8 z9 m;obtain ⟨z0,z1,z2,z3,z4,z5,z6,z7,z8,z9,m⟩:=(HX.out _ H2.out).cells;by_cases hy:partB yp yn=true
 case neg =>
  have hf:partB yp yn=false:=by simpa using hy
  rw [hf];have HF:Hid (C=false):=by unfold Hid;rw [HC.out];simp [clauseB,parB_none hf]
  clear hy hf;go_wp2_with fail;go_ret;exact ⟨rb HF.out.symm,d.out.trans (H2.out.mono d.out.size)⟩
 rw [hy];have D:Hid (partB yp yn=true):=hy;clear hy;go_upto_region 7 with fail
 all_goals (try (go_ret;refine ⟨rb (Eq.symm (Bool.eq_false_iff.2 fun q0=>?_)),d.out.trans (H2.out.mono d.out.size)⟩;rw [HC.out] at q0;have q1:=clause_4.1 q0;have hl:=HL.out;rename_i hh;first | omega | (simp at hh;omega)))
 go_wp2_with fail;refine (l5none_any xp xn w2).mono ?_;rintro e w3 ⟨rfl,hb⟩;have H3:Hid (Below W.heap.size W w3):=H2.out.trans (hb.mono H2.out.size);clear hb z0 z1 z2 z3 z4 z5 z6 z7 z8 z9 m;obtain ⟨z0,z1,z2,z3,z4,z5,z6,z7,z8,z9,m⟩:=(HX.out _ H3.out).cells;by_cases hn:noneB xp xn=true
 case neg =>
  have hf:noneB xp xn=false:=by simpa using hn
  rw [hf]
  have HF:Hid (C=false):=by
   unfold Hid;rw [HC.out,Bool.eq_false_iff];intro q;have q:=clause_4.1 q;simp_all
  clear hn hf;go_wp2_with fail;go_ret;exact ⟨rb HF.out.symm,d.out.trans (H3.out.mono d.out.size)⟩
 rw [hn];have G:Hid (noneB xp xn=true):=hn;clear hn;go_wp2_with fail;refine (l5none_any yp yn w3).mono ?_;rintro e w4 ⟨rfl,hb⟩;have H4:Hid (Below W.heap.size W w4):=H3.out.trans (hb.mono H3.out.size);clear hb z0 z1 z2 z3 z4 z5 z6 z7 z8 z9 m;obtain ⟨z0,z1,z2,z3,z4,z5,z6,z7,z8,z9,m⟩:=(HX.out _ H4.out).cells;by_cases hn:noneB yp yn=true
 case neg =>
  have hf:noneB yp yn=false:=by simpa using hn
  rw [hf]
  have HF:Hid (C=false):=by
   unfold Hid;rw [HC.out,Bool.eq_false_iff];intro q;have q:=clause_4.1 q;simp_all
  clear hn hf;go_wp2_with fail;go_ret;exact ⟨rb HF.out.symm,d.out.trans (H4.out.mono d.out.size)⟩
 rw [hn];have F:Hid (noneB yp yn=true):=hn;clear hn;go_upto_region 11 with fail
 all_goals (try (go_ret;refine ⟨rb (Eq.symm (Bool.eq_false_iff.2 fun q0=>?_)),d.out.trans (H4.out.mono d.out.size)⟩;rw [HC.out] at q0;have q1:=clause_4.1 q0;have hl:=HL.out;rename_i hh;first | omega | (simp at hh;omega)))
 go_wp2_with fail;go_ret;refine ⟨rb ?_,d.out.trans (H4.out.mono d.out.size)⟩;rw [HC.out,Bool.eq_iff_iff,clause_4];have hl:=HL.out;have hx:=E.out;have hy:=D.out;have I:=G.out;have H:=F.out
 try simp only [bne_eq_false_iff_eq] at *
 constructor
 · intro q;have q':(im:Int)=0:=by simpa using q
   refine ⟨?_,?_,?_,?_,?_,?_,?_,?_⟩
   all_goals first | assumption | omega
 intro q;have q':im=0:=by omega
 simp [q']
end

section
open Go.RowKit
theorem clause_6 {f r u xp xn yp yn:Int} {xs:List (Int × Int)} {a b:Int}:clauseB 6 f r u xp xn yp yn xs a b=true ↔ f=0∧(0≤r∧r<3)∧u=0∧(0≤a∧a<4)∧(0≤b∧b<4)∧noneB xp xn=true∧noneB yp yn=true∧xs.length=0:=by
 simp [clauseB,numB,parB,indB,hasF,hasR,hasU,hasX,hasY,hasI,hasP]
set_option maxRecDepth 100000 in
set_option maxHeartbeats 4000000 in
theorem specOk_6 {f r u xp xn yp yn:Int} {ia:Option Addr} {im ic:Nat} {a b:Int} {xs:List (Int × Int)} {w:World} {lo hi:Nat} (h:RP lo hi w ia im ic xs) (s:hi≤w.heap.size) :
    Calls Try.prog 13 #[.agg #[.int .i64 6,.int .i64 f,.int .i64 r,.int .i64 u,.int .i64 xp,.int .i64 xn,.int .i64 yp,.int .i64 yn,.slice ia im ic,.int .i64 a,.int .i64 b]] w fun e w'=>e=.returned (.bool (clauseB 6 f r u xp xn yp yn xs a b))∧Below w.heap.size w w':=by
 obtain ⟨W,hW⟩:∃ W,W=w.alloc (.cells #[.int .i64 6,.int .i64 f,.int .i64 r,.int .i64 u,.int .i64 xp,.int .i64 xn,.int .i64 yp,.int .i64 yn,.slice ia im ic,.int .i64 a,.int .i64 b] 32):=⟨_,rfl⟩;have HW:Hid (W=w.alloc (.cells #[.int .i64 6,.int .i64 f,.int .i64 r,.int .i64 u,.int .i64 xp,.int .i64 xn,.int .i64 yp,.int .i64 yn,.slice ia im ic,.int .i64 a,.int .i64 b] 32)):=hW;have o:Below w.heap.size w W:=by rw [hW];exact (Below.refl _ _).alloc (Nat.le_refl _) _
 have d:Hid (Below w.heap.size w W):=o;have t:BoxK 32 W w.heap.size 6 f r u xp xn yp yn (.slice ia im ic) a b:=by rw [hW];exact BoxK.new _ w _ _ _ _ _ _ _ _ _ _ _
 have HX:Hid (∀ V,Below W.heap.size W V→BoxK 32 V w.heap.size 6 f r u xp xn yp yn (.slice ia im ic) a b):=fun V hV=>t.below hV t.lt
 have J:Hid (∀ V,Below W.heap.size W V→RP lo hi V ia im ic xs):=fun V hV=>(h.below o s).below hV (Nat.le_trans s o.size)
 have HL:Hid (xs.length=im):=h.len;have HH:Hid (hi≤W.heap.size):=Nat.le_trans s o.size;obtain ⟨C,hC⟩:∃ C,C=clauseB 6 f r u xp xn yp yn xs a b:=⟨_,rfl⟩;rw [← hC];have HC:Hid (C=clauseB 6 f r u xp xn yp yn xs a b):=hC;obtain ⟨z0,z1,z2,z3,z4,z5,z6,z7,z8,z9,m⟩:=t.cells;clear hW o t h hC s;go_enter Try.func13, Try.ntmps13;go_upto_region 1 with fail;rw [← HW.out];go_wp2_with fail;refine (l5part_any xp xn W).mono ?_;rintro e w1 ⟨rfl,A⟩;have H1:Hid (Below W.heap.size W w1):=A;clear A z0 z1 z2 z3 z4 z5 z6 z7 z8 z9 m;obtain ⟨z0,z1,z2,z3,z4,z5,z6,z7,z8,z9,m⟩:=(HX.out _ H1.out).cells;by_cases hx:partB xp xn=true
 case neg =>
  have hf:partB xp xn=false:=by simpa using hx
  rw [hf];have HF:Hid (C=false):=by unfold Hid;rw [HC.out];simp [clauseB,parB_none hf]
  clear hx hf;go_wp2_with fail;go_ret;exact ⟨rb HF.out.symm,d.out.trans (H1.out.mono d.out.size)⟩
 rw [hx];have E:Hid (partB xp xn=true):=hx;clear hx;go_wp2_with fail;refine (l5part_any yp yn w1).mono ?_;rintro e w2 ⟨rfl,z⟩;have H2:Hid (Below W.heap.size W w2):=H1.out.trans (z.mono H1.out.size);clear z z0 z1 z2 z3 z4 z5 z6 z7 z8 z9 m;obtain ⟨z0,z1,z2,z3,z4,z5,z6,z7,z8,z9,m⟩:=(HX.out _ H2.out).cells;by_cases hy:partB yp yn=true
 case neg =>
  have hf:partB yp yn=false:=by simpa using hy
  rw [hf];have HF:Hid (C=false):=by unfold Hid;rw [HC.out];simp [clauseB,parB_none hf]
  clear hy hf;go_wp2_with fail;go_ret;exact ⟨rb HF.out.symm,d.out.trans (H2.out.mono d.out.size)⟩
 rw [hy];have D:Hid (partB yp yn=true):=hy;clear hy;go_upto_region 7 with fail
 all_goals (try (go_ret;refine ⟨rb (Eq.symm (Bool.eq_false_iff.2 fun q0=>?_)),d.out.trans (H2.out.mono d.out.size)⟩;rw [HC.out] at q0;have q1:=clause_6.1 q0;have hl:=HL.out;rename_i hh;first | omega | (simp at hh;omega)))
 go_wp2_with fail;refine (l5none_any xp xn w2).mono ?_;rintro e w3 ⟨rfl,hb⟩;have H3:Hid (Below W.heap.size W w3):=H2.out.trans (hb.mono H2.out.size);clear hb z0 z1 z2 z3 z4 z5 z6 z7 z8 z9 m;obtain ⟨z0,z1,z2,z3,z4,z5,z6,z7,z8,z9,m⟩:=(HX.out _ H3.out).cells;by_cases hn:noneB xp xn=true
 case neg =>
  have hf:noneB xp xn=false:=by simpa using hn
  rw [hf]
  have HF:Hid (C=false):=by
   unfold Hid;rw [HC.out,Bool.eq_false_iff];intro q;have q:=clause_6.1 q;simp_all
  clear hn hf;go_wp2_with fail;go_ret;exact ⟨rb HF.out.symm,d.out.trans (H3.out.mono d.out.size)⟩
 rw [hn];have G:Hid (noneB xp xn=true):=hn;clear hn;go_wp2_with fail;refine (l5none_any yp yn w3).mono ?_;rintro e w4 ⟨rfl,hb⟩;have H4:Hid (Below W.heap.size W w4):=H3.out.trans (hb.mono H3.out.size);clear hb z0 z1 z2 z3 z4 z5 z6 z7 z8 z9 m;obtain ⟨z0,z1,z2,z3,z4,z5,z6,z7,z8,z9,m⟩:=(HX.out _ H4.out).cells;by_cases hn:noneB yp yn=true
 case neg =>
  have hf:noneB yp yn=false:=by simpa using hn
  rw [hf]
  have HF:Hid (C=false):=by
   unfold Hid;rw [HC.out,Bool.eq_false_iff];intro q;have q:=clause_6.1 q;simp_all
  clear hn hf;go_wp2_with fail;go_ret;exact ⟨rb HF.out.symm,d.out.trans (H4.out.mono d.out.size)⟩
 rw [hn];have F:Hid (noneB yp yn=true):=hn;clear hn;go_upto_region 11 with fail
 all_goals (try (go_ret;refine ⟨rb (Eq.symm (Bool.eq_false_iff.2 fun q0=>?_)),d.out.trans (H4.out.mono d.out.size)⟩;rw [HC.out] at q0;have q1:=clause_6.1 q0;have hl:=HL.out;rename_i hh;first | omega | (simp at hh;omega)))
 go_wp2_with fail;go_ret;refine ⟨rb ?_,d.out.trans (H4.out.mono d.out.size)⟩;rw [HC.out,Bool.eq_iff_iff,clause_6];have hl:=HL.out;have hx:=E.out;have hy:=D.out;have I:=G.out;have H:=F.out
 try simp only [bne_eq_false_iff_eq] at *
 constructor
 · intro q;have q':(im:Int)=0:=by simpa using q
   refine ⟨?_,?_,?_,?_,?_,?_,?_,?_⟩
   all_goals first | assumption | omega
 intro q;have q':im=0:=by omega
 simp [q']
end

section
open Go.RowKit
theorem clause_5 {f r u xp xn yp yn:Int} {xs:List (Int × Int)} {a b:Int}:clauseB 5 f r u xp xn yp yn xs a b=true ↔ f=0∧r=0∧u=0∧a=0∧b=0∧noneB xp xn=true∧noneB yp yn=true∧(xs.length=4∧xs.all (fun p=>partB p.1 p.2)=true):=by
 simp [clauseB,numB,parB,indB,hasF,hasR,hasU,hasX,hasY,hasI,hasP]
set_option maxRecDepth 100000 in
set_option maxHeartbeats 4000000 in
theorem specOk_5 {f r u xp xn yp yn:Int} {ia:Option Addr} {im ic:Nat} {a b:Int} {xs:List (Int × Int)} {w:World} {lo hi:Nat} (h:RP lo hi w ia im ic xs) (D:hi≤w.heap.size) :
    Calls Try.prog 13 #[.agg #[.int .i64 5,.int .i64 f,.int .i64 r,.int .i64 u,.int .i64 xp,.int .i64 xn,.int .i64 yp,.int .i64 yn,.slice ia im ic,.int .i64 a,.int .i64 b]] w fun e w'=>e=.returned (.bool (clauseB 5 f r u xp xn yp yn xs a b))∧Below w.heap.size w w':=by
 obtain ⟨W,hW⟩:∃ W,W=w.alloc (.cells #[.int .i64 5,.int .i64 f,.int .i64 r,.int .i64 u,.int .i64 xp,.int .i64 xn,.int .i64 yp,.int .i64 yn,.slice ia im ic,.int .i64 a,.int .i64 b] 32):=⟨_,rfl⟩;have HW:Hid (W=w.alloc (.cells #[.int .i64 5,.int .i64 f,.int .i64 r,.int .i64 u,.int .i64 xp,.int .i64 xn,.int .i64 yp,.int .i64 yn,.slice ia im ic,.int .i64 a,.int .i64 b] 32)):=hW;have z:Below w.heap.size w W:=by rw [hW];exact (Below.refl _ _).alloc (Nat.le_refl _) _
 have d:Hid (Below w.heap.size w W):=z;have E:BoxK 32 W w.heap.size 5 f r u xp xn yp yn (.slice ia im ic) a b:=by rw [hW];exact BoxK.new _ w _ _ _ _ _ _ _ _ _ _ _
 have HX:Hid (∀ V,Below W.heap.size W V→BoxK 32 V w.heap.size 5 f r u xp xn yp yn (.slice ia im ic) a b):=fun V hV=>E.below hV E.lt
 have R:Hid (∀ V,Below W.heap.size W V→RP lo hi V ia im ic xs):=fun V hV=>(h.below z D).below hV (Nat.le_trans D z.size)
 have HL:Hid (xs.length=im):=h.len;have HH:Hid (hi≤W.heap.size):=Nat.le_trans D z.size;obtain ⟨C,hC⟩:∃ C,C=clauseB 5 f r u xp xn yp yn xs a b:=⟨_,rfl⟩;rw [← hC];have HC:Hid (C=clauseB 5 f r u xp xn yp yn xs a b):=hC;obtain ⟨z0,z1,z2,z3,z4,z5,z6,z7,z8,z9,o⟩:=E.cells;clear hW z E h hC D;go_enter Try.func13, Try.ntmps13;go_upto_region 1 with fail;rw [← HW.out];go_wp2_with fail;refine (l5part_any xp xn W).mono ?_;rintro e w1 ⟨rfl,L⟩;have H1:Hid (Below W.heap.size W w1):=L;clear L z0 z1 z2 z3 z4 z5 z6 z7 z8 z9 o;obtain ⟨z0,z1,z2,z3,z4,z5,z6,z7,z8,z9,o⟩:=(HX.out _ H1.out).cells;by_cases hx:partB xp xn=true
 case neg =>
  have hf:partB xp xn=false:=by simpa using hx
  rw [hf];have HF:Hid (C=false):=by unfold Hid;rw [HC.out];simp [clauseB,parB_none hf]
  clear hx hf;go_wp2_with fail;go_ret;exact ⟨rb HF.out.symm,d.out.trans (H1.out.mono d.out.size)⟩
 rw [hx];have a3:Hid (partB xp xn=true):=hx;clear hx;go_wp2_with fail;refine (l5part_any yp yn w1).mono ?_;rintro e w2 ⟨rfl,J⟩;have H2:Hid (Below W.heap.size W w2):=H1.out.trans (J.mono H1.out.size);clear J z0 z1 z2 z3 z4 z5 z6 z7 z8 z9 o;obtain ⟨z0,z1,z2,z3,z4,z5,z6,z7,z8,z9,o⟩:=(HX.out _ H2.out).cells;by_cases hy:partB yp yn=true
 case neg =>
  have hf:partB yp yn=false:=by simpa using hy
  rw [hf];have HF:Hid (C=false):=by unfold Hid;rw [HC.out];simp [clauseB,parB_none hf]
  clear hy hf;go_wp2_with fail;go_ret;exact ⟨rb HF.out.symm,d.out.trans (H2.out.mono d.out.size)⟩
 rw [hy];have a2:Hid (partB yp yn=true):=hy;clear hy;go_upto_region 7 with fail
 all_goals (try (go_ret;refine ⟨rb (Eq.symm (Bool.eq_false_iff.2 fun q0=>?_)),d.out.trans (H2.out.mono d.out.size)⟩;rw [HC.out] at q0;have q1:=clause_5.1 q0;have hl:=HL.out;rename_i hh;first | omega | (simp at hh;omega)))
 go_wp2_with fail;refine (l5none_any xp xn w2).mono ?_;rintro e w3 ⟨rfl,hb⟩;have H3:Hid (Below W.heap.size W w3):=H2.out.trans (hb.mono H2.out.size);clear hb z0 z1 z2 z3 z4 z5 z6 z7 z8 z9 o;obtain ⟨z0,z1,z2,z3,z4,z5,z6,z7,z8,z9,o⟩:=(HX.out _ H3.out).cells;by_cases hn:noneB xp xn=true
 case neg =>
  have hf:noneB xp xn=false:=by simpa using hn
  rw [hf]
  have HF:Hid (C=false):=by
   unfold Hid;rw [HC.out,Bool.eq_false_iff];intro q;have q:=clause_5.1 q;simp_all
  clear hn hf;go_wp2_with fail;go_ret;exact ⟨rb HF.out.symm,d.out.trans (H3.out.mono d.out.size)⟩
 rw [hn];have U:Hid (noneB xp xn=true):=hn;clear hn;go_wp2_with fail;refine (l5none_any yp yn w3).mono ?_;rintro e w4 ⟨rfl,hb⟩;have H4:Hid (Below W.heap.size W w4):=H3.out.trans (hb.mono H3.out.size);clear hb z0 z1 z2 z3 z4 z5 z6 z7 z8 z9 o;obtain ⟨z0,z1,z2,z3,z4,z5,z6,z7,z8,z9,o⟩:=(HX.out _ H4.out).cells;by_cases hn:noneB yp yn=true
 case neg =>
  have hf:noneB yp yn=false:=by simpa using hn
  rw [hf]
  have HF:Hid (C=false):=by
   unfold Hid;rw [HC.out,Bool.eq_false_iff];intro q;have q:=clause_5.1 q;simp_all
  clear hn hf;go_wp2_with fail;go_ret;exact ⟨rb HF.out.symm,d.out.trans (H4.out.mono d.out.size)⟩
 rw [hn];have T:Hid (noneB yp yn=true):=hn;clear hn;go_upto_region 11 with fail
 all_goals (try (go_ret;refine ⟨rb (Eq.symm (Bool.eq_false_iff.2 fun q0=>?_)),d.out.trans (H4.out.mono d.out.size)⟩;rw [HC.out] at q0;have q1:=clause_5.1 q0;have hl:=HL.out;rename_i hh;first | omega | (simp at hh;omega)))
 have G:Hid (f=0∧r=0∧u=0∧a=0∧b=0):=by
  try simp only [bne_eq_false_iff_eq] at *
  unfold Hid;omega
 have a0:im≤4:=by omega
 go_upto_region 13 with fail;go_wp2_with fail;go_loopw [5] (fun i wr=>∃ j:Nat,j≤im∧i=.int .i64 j∧(∀ i,i<j→partB (xs.getD i (0,0)).1 (xs.getD i (0,0)).2=true)∧Below W.heap.size W wr) (fun i _=>im - (intOf i).toNat)
 case atStart=>exact ⟨0,Nat.zero_le _,rfl,fun i hi=>absurd hi (by omega),H4.out⟩
 case round =>
  obtain ⟨j,hj,rfl,s,m⟩:=hrel;have H:Hid (∀ i,i<j→partB (xs.getD i (0,0)).1 (xs.getD i (0,0)).2=true):=s;have HB:Hid (Below W.heap.size W wr):=m;clear z0 z1 z2 z3 z4 z5 z6 z7 z8 z9 o;obtain ⟨z0,z1,z2,z3,z4,z5,z6,z7,z8,z9,o⟩:=(HX.out _ m).cells;have F:=R.out _ m;by_cases hlt:j<im
  · rcases F.cells with h0 | ⟨bb,off,e1,_,a1,hc⟩
    · omega
    subst e1;obtain ⟨c1,c2⟩:=hc j hlt;obtain ⟨t,ht⟩:∃ t,t=xs.getD j (0,0):=⟨_,rfl⟩;have HT:Hid (t=xs.getD j (0,0)):=ht;rw [← ht] at c1 c2;obtain ⟨tp,tn⟩:=t;have Y:(j:Int)<(im:Int):=by omega
    clear F hc ht m s;go_wp2_with fail;refine (l5part_any tp tn wr).mono ?_;rintro e w9 ⟨rfl,I⟩;have M:Hid (Below W.heap.size W w9):=HB.out.trans (I.mono HB.out.size);clear I;by_cases hp:partB tp tn=true
    · rw [hp]
      have A:Hid (∀ i,i<j+1→partB (xs.getD i (0,0)).1 (xs.getD i (0,0)).2=true):=by
       intro i hi;by_cases e:i=j
       · subst e;rw [← HT.out];exact hp
       exact H.out i (by omega)
      clear hp;go_wp2_with fail;go_roundw
      case rel=>exact ⟨j+1,by omega,by go_num,A.out,M.out⟩
      case measure=>simp [intOf];omega
    have hf:partB tp tn=false:=by simpa using hp
    rw [hf]
    have HF:Hid (C=false):=by
     unfold Hid;rw [HC.out,Bool.eq_false_iff];intro q;have q1:=(clause_5.1 q).2.2.2.2.2.2.2.2;have hl:=HL.out
     have hm:xs.getD j (0,0)∈xs:=by
      rw [List.getD_eq_getElem?_getD,List.getElem?_eq_getElem (by omega)];exact List.getElem_mem _
     have q2:=List.all_eq_true.1 q1 _ hm;rw [← HT.out] at q2;exact hp q2
    clear hp hf;go_wp2_with fail;go_ret;exact ⟨rb HF.out.symm,d.out.trans (M.out.mono d.out.size)⟩
  have HE:Hid (C=((im:Int) == 4)):=by
   unfold Hid;have Z:j=im:=by omega
   have hl:=HL.out;have X:=G.out;have O:=U.out;have N:=T.out;rw [HC.out,Bool.eq_iff_iff,clause_5];constructor
   · intro q;have:im=4:=by omega
     simp [this]
   intro q;have q':(im:Int)=4:=by simpa using q
   refine ⟨by omega,by omega,by omega,by omega,by omega,O,N,by omega,?_⟩;rw [List.all_eq_true];intro p hp;obtain ⟨i,hi,e⟩:=List.getElem_of_mem hp;have:=s i (by omega);rw [List.getD_eq_getElem?_getD,List.getElem?_eq_getElem hi,e] at this;exact this
  clear F m s;go_wp2_with fail;go_ret;exact ⟨rb HE.out.symm,d.out.trans (HB.out.mono d.out.size)⟩
end

section
open Go.RowKit
set_option maxRecDepth 100000 in
set_option maxHeartbeats 1000000 in
theorem specClauseOk_any {k f r u xp xn yp yn:Int} {ia:Option Addr} {im ic:Nat} {a b:Int} {xs:List (Int × Int)} {w:World} {lo hi:Nat} (h:RP lo hi w ia im ic xs) (d:hi≤w.heap.size) :
    Calls Try.prog 13 #[.agg #[.int .i64 k,.int .i64 f,.int .i64 r,.int .i64 u,.int .i64 xp,.int .i64 xn,.int .i64 yp,.int .i64 yn,.slice ia im ic,.int .i64 a,.int .i64 b]] w fun e w'=>e=.returned (.bool (clauseB k f r u xp xn yp yn xs a b))∧Below w.heap.size w w':=by
 by_cases hk:0≤k∧k≤6
 · rcases (by omega:k=0∨k=1∨k=2∨k=3∨k=4∨k=5∨k=6) with rfl | rfl | rfl | rfl | rfl | rfl | rfl
   · exact specOk_0 h d
   · exact specOk_1 h d
   · exact specOk_2 h d
   · exact specOk_3 h d
   · exact specOk_4 h d
   · exact specOk_5 h d
   exact specOk_6 h d
 have HF:Hid (clauseB k f r u xp xn yp yn xs a b=false):=by simp only [Hid,clauseB,decide_eq_false hk,Bool.false_and]
 have m:Hid (Below w.heap.size w (w.alloc (.cells #[.int .i64 k,.int .i64 f,.int .i64 r,.int .i64 u,.int .i64 xp,.int .i64 xn,.int .i64 yp,.int .i64 yn,.slice ia im ic,.int .i64 a,.int .i64 b] 32))):=(Below.refl _ _).alloc (Nat.le_refl _) _;clear h;by_cases h0:k<0
 · clear hk;go_enter Try.func13, Try.ntmps13;go_wp2_with fail;go_ret;exact ⟨rb HF.out.symm,m.out⟩
 have h6:6<k:=by omega
 clear hk;go_enter Try.func13, Try.ntmps13;go_wp2_with fail;go_ret;exact ⟨rb HF.out.symm,m.out⟩
end

end Go.Proofs.Ytkjmfaohdhiiaaa
