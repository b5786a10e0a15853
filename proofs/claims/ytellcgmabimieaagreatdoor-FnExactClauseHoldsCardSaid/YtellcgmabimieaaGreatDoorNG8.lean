/- Several texts in one: ConShape2, ClSpec3, ClSpec0, ClSpec1, ClSpec2. -/
import Derived.Test.YtellcgmabimieaaGreatDoorNG6
import Derived.Test.YtellcgmabimieaaGreatDoorNG5
import Derived.Deep.DeepCutAuto
namespace Go.Proofs.YtellcgmabimieaaGreatDoor

section
open Go.RowKit
set_option maxRecDepth 100000 in
set_option maxHeartbeats 2000000 in
theorem shapeOk_any {d:Nat} {v:Value} {c:CN} {w:World} {lo hi:Nat} (h:RdC lo hi w d v c) (D:hi≤w.heap.size) :
    Calls Tryz.prog 119 #[v] w fun e w'=>e=.returned (.bool (shapeB c))∧Below w.heap.size w w':=by
 cases d with
 | zero=>exact h.elim
 | succ d =>
  have F:Hid (RdC lo hi w (d+1) v c):=h;obtain ⟨na,nn,nc,ra,rn,rc,ka,kn,kc,rfl,_,_,hk⟩:=h;have O:Hid (c.kids.length=kn):=hk.len;have HS:Hid (shapeB c=(nameFit c && (roleFit c && decide ((kn:Int)=kidN c.kind)))):=by unfold Hid shapeB;rw [hk.len]
  obtain ⟨k,N⟩:∃ k,k=c.kind:=⟨_,rfl⟩;rw [← N] at F HS ⊢;have G:Below w.heap.size w (w.alloc (.cells #[.int .i64 k,.slice na nn nc,.slice ra rn rc,.slice ka kn kc] 104)).drew:=((Below.refl _ _).alloc (Nat.le_refl _) _).drew;have z:Hid (Below w.heap.size w (w.alloc (.cells #[.int .i64 k,.slice na nn nc,.slice ra rn rc,.slice ka kn kc] 104)).drew):=G;have J:Hid (RdC lo hi (w.alloc (.cells #[.int .i64 k,.slice na nn nc,.slice ra rn rc,.slice ka kn kc] 104)).drew (d+1) (.agg #[.int .i64 k,.slice na nn nc,.slice ra rn rc,.slice ka kn kc]) c):=F.out.below G D;have A:Hid (BoxC (w.alloc (.cells #[.int .i64 k,.slice na nn nc,.slice ra rn rc,.slice ka kn kc] 104)).drew w.heap.size (.int .i64 k) (.slice na nn nc) (.slice ra rn rc) (.slice ka kn kc)):=BoxC.new w _ _ _ _;clear hk N G;cases hN:nameFit c
  · have HE:Hid (shapeB c=false):=by unfold Hid;rw [HS.out,hN];rfl
    go_enter Tryz.func119, Tryz.ntmps119;go_wp2_with fail
    first | go_region_with (go_at_call 132;refine (nameFits_any J.out (Nat.le_trans D z.out.size)).mono ?_;rintro e w1 ⟨rfl,u⟩;rw [hN];have o:Hid (Below w.heap.size w w1):=z.out.trans (u.mono z.out.size);clear u) | fail
    all_goals
     go_wp2_with fail;go_ret;exact ⟨rb HE.out.symm,o.out⟩
  cases hR:roleFit c
  · have HE:Hid (shapeB c=false):=by unfold Hid;rw [HS.out,hN,hR];rfl
    go_enter Tryz.func119, Tryz.ntmps119;go_wp2_with fail
    first | go_region_with (first | (go_at_call 132;refine (nameFits_any J.out (Nat.le_trans D z.out.size)).mono ?_;rintro e w1 ⟨rfl,u⟩;rw [hN];have o:Hid (Below w.heap.size w w1):=z.out.trans (u.mono z.out.size);have I:Hid (RdC lo hi w1 (d+1) (.agg #[.int .i64 k,.slice na nn nc,.slice ra rn rc,.slice ka kn kc]) c):=F.out.below o.out D;have q:Hid (BoxC w1 w.heap.size (.int .i64 k) (.slice na nn nc) (.slice ra rn rc) (.slice ka kn kc)):=A.out.below u A.out.lt;obtain ⟨c0,c1,c2,c3⟩:=q.out.cells;clear u) | (go_at_call 133;refine (roleFits_any I.out (Nat.le_trans D o.out.size)).mono ?_;rintro e w2 ⟨rfl,E⟩;rw [hR];have L:Hid (Below w.heap.size w w2):=o.out.trans (E.mono o.out.size);clear E)) | fail
    all_goals
     go_wp2_with fail;go_ret;exact ⟨rb HE.out.symm,L.out⟩
  have HE:Hid (shapeB c=((kn:Int) == kidN k)):=by unfold Hid;rw [HS.out,hN,hR];rfl
  go_enter Tryz.func119, Tryz.ntmps119;go_wp2_with fail
  first | go_region_with (first | (go_at_call 132;refine (nameFits_any J.out (Nat.le_trans D z.out.size)).mono ?_;rintro e w1 ⟨rfl,u⟩;rw [hN];have o:Hid (Below w.heap.size w w1):=z.out.trans (u.mono z.out.size);have I:Hid (RdC lo hi w1 (d+1) (.agg #[.int .i64 k,.slice na nn nc,.slice ra rn rc,.slice ka kn kc]) c):=F.out.below o.out D;have q:Hid (BoxC w1 w.heap.size (.int .i64 k) (.slice na nn nc) (.slice ra rn rc) (.slice ka kn kc)):=A.out.below u A.out.lt;obtain ⟨c0,c1,c2,c3⟩:=q.out.cells;clear u) | (go_at_call 133;refine (roleFits_any I.out (Nat.le_trans D o.out.size)).mono ?_;rintro e w2 ⟨rfl,E⟩;rw [hR];have L:Hid (Below w.heap.size w w2):=o.out.trans (E.mono o.out.size);have M:Hid (BoxC w2 w.heap.size (.int .i64 k) (.slice na nn nc) (.slice ra rn rc) (.slice ka kn kc)):=q.out.below E q.out.lt;obtain ⟨e0,e1,e2,e3⟩:=M.out.cells;clear E) | (go_at_call 134;refine (kidCount_any _ _).mono ?_;rintro e w3 ⟨rfl,hw⟩;rw [hw];clear hw)) | fail
  all_goals
   go_wp2_with fail;go_ret;exact ⟨rb HE.out.symm,L.out⟩
end

section
open Go.RowKit
theorem clause_3 {f r u xp xn yp yn:Int} {xs:List (Int × Int)} {a b:Int}:clauseB 3 f r u xp xn yp yn xs a b=true ↔ f=0∧(0≤r∧r<3)∧u=0∧a=0∧b=0∧partB xp xn=true∧partB yp yn=true∧xs.length=0:=by
 simp [clauseB,numB,parB,indB,hasF,hasR,hasU,hasX,hasY,hasI,hasP]
set_option maxRecDepth 100000 in
set_option maxHeartbeats 4000000 in
theorem specOk_3 {f r u xp xn yp yn:Int} {ia:Option Addr} {im ic:Nat} {a b:Int} {xs:List (Int × Int)} {w:World} {lo hi:Nat} (h:RP lo hi w ia im ic xs) (D:hi≤w.heap.size) :
    Calls Tryz.prog 26 #[.agg #[.int .i64 3,.int .i64 f,.int .i64 r,.int .i64 u,.int .i64 xp,.int .i64 xn,.int .i64 yp,.int .i64 yn,.slice ia im ic,.int .i64 a,.int .i64 b]] w fun e w'=>e=.returned (.bool (clauseB 3 f r u xp xn yp yn xs a b))∧Below w.heap.size w w':=by
 obtain ⟨W,hW⟩:∃ W,W=w.alloc (.cells #[.int .i64 3,.int .i64 f,.int .i64 r,.int .i64 u,.int .i64 xp,.int .i64 xn,.int .i64 yp,.int .i64 yn,.slice ia im ic,.int .i64 a,.int .i64 b] 51):=⟨_,rfl⟩;have HW:Hid (W=w.alloc (.cells #[.int .i64 3,.int .i64 f,.int .i64 r,.int .i64 u,.int .i64 xp,.int .i64 xn,.int .i64 yp,.int .i64 yn,.slice ia im ic,.int .i64 a,.int .i64 b] 51)):=hW;have z:Below w.heap.size w W:=by rw [hW];exact (Below.refl _ _).alloc (Nat.le_refl _) _
 have o:Hid (Below w.heap.size w W):=z;have E:BoxK 51 W w.heap.size 3 f r u xp xn yp yn (.slice ia im ic) a b:=by rw [hW];exact BoxK.new _ w _ _ _ _ _ _ _ _ _ _ _
 have HX:Hid (∀ V,Below W.heap.size W V→BoxK 51 V w.heap.size 3 f r u xp xn yp yn (.slice ia im ic) a b):=fun V hV=>E.below hV E.lt
 have L:Hid (∀ V,Below W.heap.size W V→RP lo hi V ia im ic xs):=fun V hV=>(h.below z D).below hV (Nat.le_trans D z.size)
 have HL:Hid (xs.length=im):=h.len;have HH:Hid (hi≤W.heap.size):=Nat.le_trans D z.size;obtain ⟨C,hC⟩:∃ C,C=clauseB 3 f r u xp xn yp yn xs a b:=⟨_,rfl⟩;rw [← hC];have HC:Hid (C=clauseB 3 f r u xp xn yp yn xs a b):=hC;obtain ⟨z0,z1,z2,z3,z4,z5,z6,z7,z8,z9,A⟩:=E.cells;clear hW z E h hC D;go_enter Tryz.func26, Tryz.ntmps26;go_upto_region 1 with fail;rw [← HW.out];go_wp2_with fail;refine (l5part_any xp xn W).mono ?_;rintro e w1 ⟨rfl,G⟩;have H1:Hid (Below W.heap.size W w1):=G;clear G z0 z1 z2 z3 z4 z5 z6 z7 z8 z9 A;obtain ⟨z0,z1,z2,z3,z4,z5,z6,z7,z8,z9,A⟩:=(HX.out _ H1.out).cells;by_cases hx:partB xp xn=true
 case neg =>
  have hf:partB xp xn=false:=by simpa using hx
  rw [hf];have HF:Hid (C=false):=by unfold Hid;rw [HC.out];simp [clauseB,parB_none hf]
  clear hx hf;go_wp2_with fail;go_ret;exact ⟨rb HF.out.symm,o.out.trans (H1.out.mono o.out.size)⟩
 rw [hx];have J:Hid (partB xp xn=true):=hx;clear hx;go_wp2_with fail;refine (l5part_any yp yn w1).mono ?_;rintro e w2 ⟨rfl,F⟩;have H2:Hid (Below W.heap.size W w2):=H1.out.trans (F.mono H1.out.size);clear F z0 z1 z2 z3 z4 z5 z6 z7 z8 z9 A;obtain ⟨z0,z1,z2,z3,z4,z5,z6,z7,z8,z9,A⟩:=(HX.out _ H2.out).cells;by_cases hy:partB yp yn=true
 case neg =>
  have hf:partB yp yn=false:=by simpa using hy
  rw [hf];have HF:Hid (C=false):=by unfold Hid;rw [HC.out];simp [clauseB,parB_none hf]
  clear hy hf;go_wp2_with fail;go_ret;exact ⟨rb HF.out.symm,o.out.trans (H2.out.mono o.out.size)⟩
 rw [hy];have I:Hid (partB yp yn=true):=hy;clear hy;go_upto_region 7 with fail
 all_goals (try (go_ret;refine ⟨rb (Eq.symm (Bool.eq_false_iff.2 fun q0=>?_)),o.out.trans (H2.out.mono o.out.size)⟩;rw [HC.out] at q0;have q1:=clause_3.1 q0;have hl:=HL.out;rename_i hh;first | omega | (simp at hh;omega)))
 go_upto_region 11 with fail
 all_goals (try (go_ret;refine ⟨rb (Eq.symm (Bool.eq_false_iff.2 fun q0=>?_)),o.out.trans (H2.out.mono o.out.size)⟩;rw [HC.out] at q0;have q1:=clause_3.1 q0;have hl:=HL.out;rename_i hh;first | omega | (simp at hh;omega)))
 go_wp2_with fail;go_ret;refine ⟨rb ?_,o.out.trans (H2.out.mono o.out.size)⟩;rw [HC.out,Bool.eq_iff_iff,clause_3];have hl:=HL.out;have hx:=J.out;have hy:=I.out
 try simp only [bne_eq_false_iff_eq] at *
 constructor
 · intro q;have q':(im:Int)=0:=by simpa using q
   refine ⟨?_,?_,?_,?_,?_,?_,?_,?_⟩
   all_goals first | assumption | omega
 intro q;have q':im=0:=by omega
 simp [q']
end

section
open Go.RowKit
theorem clause_0 {f r u xp xn yp yn:Int} {xs:List (Int × Int)} {a b:Int}:clauseB 0 f r u xp xn yp yn xs a b=true ↔ f=0∧r=0∧u=0∧a=0∧b=0∧partB xp xn=true∧noneB yp yn=true∧xs.length=0:=by
 simp [clauseB,numB,parB,indB,hasF,hasR,hasU,hasX,hasY,hasI,hasP]
set_option maxRecDepth 100000 in
set_option maxHeartbeats 4000000 in
theorem specOk_0 {f r u xp xn yp yn:Int} {ia:Option Addr} {im ic:Nat} {a b:Int} {xs:List (Int × Int)} {w:World} {lo hi:Nat} (h:RP lo hi w ia im ic xs) (D:hi≤w.heap.size) :
    Calls Tryz.prog 26 #[.agg #[.int .i64 0,.int .i64 f,.int .i64 r,.int .i64 u,.int .i64 xp,.int .i64 xn,.int .i64 yp,.int .i64 yn,.slice ia im ic,.int .i64 a,.int .i64 b]] w fun e w'=>e=.returned (.bool (clauseB 0 f r u xp xn yp yn xs a b))∧Below w.heap.size w w':=by
 obtain ⟨W,hW⟩:∃ W,W=w.alloc (.cells #[.int .i64 0,.int .i64 f,.int .i64 r,.int .i64 u,.int .i64 xp,.int .i64 xn,.int .i64 yp,.int .i64 yn,.slice ia im ic,.int .i64 a,.int .i64 b] 51):=⟨_,rfl⟩;have HW:Hid (W=w.alloc (.cells #[.int .i64 0,.int .i64 f,.int .i64 r,.int .i64 u,.int .i64 xp,.int .i64 xn,.int .i64 yp,.int .i64 yn,.slice ia im ic,.int .i64 a,.int .i64 b] 51)):=hW;have A:Below w.heap.size w W:=by rw [hW];exact (Below.refl _ _).alloc (Nat.le_refl _) _
 have o:Hid (Below w.heap.size w W):=A;have E:BoxK 51 W w.heap.size 0 f r u xp xn yp yn (.slice ia im ic) a b:=by rw [hW];exact BoxK.new _ w _ _ _ _ _ _ _ _ _ _ _
 have HX:Hid (∀ V,Below W.heap.size W V→BoxK 51 V w.heap.size 0 f r u xp xn yp yn (.slice ia im ic) a b):=fun V hV=>E.below hV E.lt
 have N:Hid (∀ V,Below W.heap.size W V→RP lo hi V ia im ic xs):=fun V hV=>(h.below A D).below hV (Nat.le_trans D A.size)
 have HL:Hid (xs.length=im):=h.len;have HH:Hid (hi≤W.heap.size):=Nat.le_trans D A.size;obtain ⟨C,hC⟩:∃ C,C=clauseB 0 f r u xp xn yp yn xs a b:=⟨_,rfl⟩;rw [← hC];have HC:Hid (C=clauseB 0 f r u xp xn yp yn xs a b):=hC;obtain ⟨z0,z1,z2,z3,z4,z5,z6,z7,z8,z9,z⟩:=E.cells;clear hW A E h hC D;go_enter Tryz.func26, Tryz.ntmps26;go_upto_region 1 with fail;rw [← HW.out];go_wp2_with fail;refine (l5part_any xp xn W).mono ?_;rintro e w1 ⟨rfl,G⟩;have H1:Hid (Below W.heap.size W w1):=G;clear G z0 z1 z2 z3 z4 z5 z6 z7 z8 z9 z;obtain ⟨z0,z1,z2,z3,z4,z5,z6,z7,z8,z9,z⟩:=(HX.out _ H1.out).cells;by_cases hx:partB xp xn=true
 case neg =>
  have hf:partB xp xn=false:=by simpa using hx
  rw [hf];have HF:Hid (C=false):=by unfold Hid;rw [HC.out];simp [clauseB,parB_none hf]
  clear hx hf;go_wp2_with fail;go_ret;exact ⟨rb HF.out.symm,o.out.trans (H1.out.mono o.out.size)⟩
 rw [hx];have J:Hid (partB xp xn=true):=hx;clear hx;go_wp2_with fail;refine (l5part_any yp yn w1).mono ?_;rintro e w2 ⟨rfl,F⟩;have H2:Hid (Below W.heap.size W w2):=H1.out.trans (F.mono H1.out.size);clear F z0 z1 z2 z3 z4 z5 z6 z7 z8 z9 z;obtain ⟨z0,z1,z2,z3,z4,z5,z6,z7,z8,z9,z⟩:=(HX.out _ H2.out).cells;by_cases hy:partB yp yn=true
 case neg =>
  have hf:partB yp yn=false:=by simpa using hy
  rw [hf];have HF:Hid (C=false):=by unfold Hid;rw [HC.out];simp [clauseB,parB_none hf]
  clear hy hf;go_wp2_with fail;go_ret;exact ⟨rb HF.out.symm,o.out.trans (H2.out.mono o.out.size)⟩
 rw [hy];have I:Hid (partB yp yn=true):=hy;clear hy;go_upto_region 7 with fail
 all_goals (try (go_ret;refine ⟨rb (Eq.symm (Bool.eq_false_iff.2 fun q0=>?_)),o.out.trans (H2.out.mono o.out.size)⟩;rw [HC.out] at q0;have q1:=clause_0.1 q0;have hl:=HL.out;rename_i hh;first | omega | (simp at hh;omega)))
 go_wp2_with fail;refine (l5none_any yp yn w2).mono ?_;rintro e w3 ⟨rfl,hb⟩;have H3:Hid (Below W.heap.size W w3):=H2.out.trans (hb.mono H2.out.size);clear hb z0 z1 z2 z3 z4 z5 z6 z7 z8 z9 z;obtain ⟨z0,z1,z2,z3,z4,z5,z6,z7,z8,z9,z⟩:=(HX.out _ H3.out).cells;by_cases hn:noneB yp yn=true
 case neg =>
  have hf:noneB yp yn=false:=by simpa using hn
  rw [hf]
  have HF:Hid (C=false):=by
   unfold Hid;rw [HC.out,Bool.eq_false_iff];intro q;have q:=clause_0.1 q;simp_all
  clear hn hf;go_wp2_with fail;go_ret;exact ⟨rb HF.out.symm,o.out.trans (H3.out.mono o.out.size)⟩
 rw [hn];have L:Hid (noneB yp yn=true):=hn;clear hn;go_upto_region 11 with fail
 all_goals (try (go_ret;refine ⟨rb (Eq.symm (Bool.eq_false_iff.2 fun q0=>?_)),o.out.trans (H3.out.mono o.out.size)⟩;rw [HC.out] at q0;have q1:=clause_0.1 q0;have hl:=HL.out;rename_i hh;first | omega | (simp at hh;omega)))
 go_wp2_with fail;go_ret;refine ⟨rb ?_,o.out.trans (H3.out.mono o.out.size)⟩;rw [HC.out,Bool.eq_iff_iff,clause_0];have hl:=HL.out;have hx:=J.out;have hy:=I.out;have M:=L.out
 try simp only [bne_eq_false_iff_eq] at *
 constructor
 · intro q;have q':(im:Int)=0:=by simpa using q
   refine ⟨?_,?_,?_,?_,?_,?_,?_,?_⟩
   all_goals first | assumption | omega
 intro q;have q':im=0:=by omega
 simp [q']
end

section
open Go.RowKit
theorem clause_1 {f r u xp xn yp yn:Int} {xs:List (Int × Int)} {a b:Int}:clauseB 1 f r u xp xn yp yn xs a b=true ↔ (0≤f∧f<12)∧r=0∧u=0∧a=0∧b=0∧partB xp xn=true∧partB yp yn=true∧xs.length=0∧noneB yp yn=false:=by
 simp [clauseB,numB,parB,indB,hasF,hasR,hasU,hasX,hasY,hasI,hasP]
set_option maxRecDepth 100000 in
set_option maxHeartbeats 4000000 in
theorem specOk_1 {f r u xp xn yp yn:Int} {ia:Option Addr} {im ic:Nat} {a b:Int} {xs:List (Int × Int)} {w:World} {lo hi:Nat} (h:RP lo hi w ia im ic xs) (D:hi≤w.heap.size) :
    Calls Tryz.prog 26 #[.agg #[.int .i64 1,.int .i64 f,.int .i64 r,.int .i64 u,.int .i64 xp,.int .i64 xn,.int .i64 yp,.int .i64 yn,.slice ia im ic,.int .i64 a,.int .i64 b]] w fun e w'=>e=.returned (.bool (clauseB 1 f r u xp xn yp yn xs a b))∧Below w.heap.size w w':=by
 obtain ⟨W,hW⟩:∃ W,W=w.alloc (.cells #[.int .i64 1,.int .i64 f,.int .i64 r,.int .i64 u,.int .i64 xp,.int .i64 xn,.int .i64 yp,.int .i64 yn,.slice ia im ic,.int .i64 a,.int .i64 b] 51):=⟨_,rfl⟩;have HW:Hid (W=w.alloc (.cells #[.int .i64 1,.int .i64 f,.int .i64 r,.int .i64 u,.int .i64 xp,.int .i64 xn,.int .i64 yp,.int .i64 yn,.slice ia im ic,.int .i64 a,.int .i64 b] 51)):=hW;have A:Below w.heap.size w W:=by rw [hW];exact (Below.refl _ _).alloc (Nat.le_refl _) _
 have o:Hid (Below w.heap.size w W):=A;have E:BoxK 51 W w.heap.size 1 f r u xp xn yp yn (.slice ia im ic) a b:=by rw [hW];exact BoxK.new _ w _ _ _ _ _ _ _ _ _ _ _
 have HX:Hid (∀ V,Below W.heap.size W V→BoxK 51 V w.heap.size 1 f r u xp xn yp yn (.slice ia im ic) a b):=fun V hV=>E.below hV E.lt
 have O:Hid (∀ V,Below W.heap.size W V→RP lo hi V ia im ic xs):=fun V hV=>(h.below A D).below hV (Nat.le_trans D A.size)
 have HL:Hid (xs.length=im):=h.len;have HH:Hid (hi≤W.heap.size):=Nat.le_trans D A.size;obtain ⟨C,hC⟩:∃ C,C=clauseB 1 f r u xp xn yp yn xs a b:=⟨_,rfl⟩;rw [← hC];have HC:Hid (C=clauseB 1 f r u xp xn yp yn xs a b):=hC;obtain ⟨z0,z1,z2,z3,z4,z5,z6,z7,z8,z9,z⟩:=E.cells;clear hW A E h hC D;go_enter Tryz.func26, Tryz.ntmps26;go_upto_region 1 with fail;rw [← HW.out];go_wp2_with fail;refine (l5part_any xp xn W).mono ?_;rintro e w1 ⟨rfl,I⟩;have H1:Hid (Below W.heap.size W w1):=I;clear I z0 z1 z2 z3 z4 z5 z6 z7 z8 z9 z;obtain ⟨z0,z1,z2,z3,z4,z5,z6,z7,z8,z9,z⟩:=(HX.out _ H1.out).cells;by_cases hx:partB xp xn=true
 case neg =>
  have hf:partB xp xn=false:=by simpa using hx
  rw [hf];have HF:Hid (C=false):=by unfold Hid;rw [HC.out];simp [clauseB,parB_none hf]
  clear hx hf;go_wp2_with fail;go_ret;exact ⟨rb HF.out.symm,o.out.trans (H1.out.mono o.out.size)⟩
 rw [hx];have L:Hid (partB xp xn=true):=hx;clear hx;go_wp2_with fail;refine (l5part_any yp yn w1).mono ?_;rintro e w2 ⟨rfl,G⟩;have H2:Hid (Below W.heap.size W w2):=H1.out.trans (G.mono H1.out.size);clear G z0 z1 z2 z3 z4 z5 z6 z7 z8 z9 z;obtain ⟨z0,z1,z2,z3,z4,z5,z6,z7,z8,z9,z⟩:=(HX.out _ H2.out).cells;by_cases hy:partB yp yn=true
 case neg =>
  have hf:partB yp yn=false:=by simpa using hy
  rw [hf];have HF:Hid (C=false):=by unfold Hid;rw [HC.out];simp [clauseB,parB_none hf]
  clear hy hf;go_wp2_with fail;go_ret;exact ⟨rb HF.out.symm,o.out.trans (H2.out.mono o.out.size)⟩
 rw [hy];have J:Hid (partB yp yn=true):=hy;clear hy;go_upto_region 7 with fail
 all_goals (try (go_ret;refine ⟨rb (Eq.symm (Bool.eq_false_iff.2 fun q0=>?_)),o.out.trans (H2.out.mono o.out.size)⟩;rw [HC.out] at q0;have q1:=clause_1.1 q0;have hl:=HL.out;rename_i hh;first | omega | (simp at hh;omega)))
 go_wp2_with fail;refine (l5none_any yp yn w2).mono ?_;rintro e w3 ⟨rfl,hb⟩;have H3:Hid (Below W.heap.size W w3):=H2.out.trans (hb.mono H2.out.size);clear hb z0 z1 z2 z3 z4 z5 z6 z7 z8 z9 z;obtain ⟨z0,z1,z2,z3,z4,z5,z6,z7,z8,z9,z⟩:=(HX.out _ H3.out).cells;by_cases hn:noneB yp yn=true
 case pos =>
  rw [hn]
  have HF:Hid (C=false):=by
   unfold Hid;rw [HC.out,Bool.eq_false_iff];intro q;have q:=clause_1.1 q;simp_all
  clear hn;go_wp2_with fail;go_ret;exact ⟨rb HF.out.symm,o.out.trans (H3.out.mono o.out.size)⟩
 have F:noneB yp yn=false:=by simpa using hn
 rw [F];have M:Hid (noneB yp yn=false):=F;clear hn F;go_upto_region 11 with fail
 all_goals (try (go_ret;refine ⟨rb (Eq.symm (Bool.eq_false_iff.2 fun q0=>?_)),o.out.trans (H3.out.mono o.out.size)⟩;rw [HC.out] at q0;have q1:=clause_1.1 q0;have hl:=HL.out;rename_i hh;first | omega | (simp at hh;omega)))
 go_wp2_with fail;go_ret;refine ⟨rb ?_,o.out.trans (H3.out.mono o.out.size)⟩;rw [HC.out,Bool.eq_iff_iff,clause_1];have hl:=HL.out;have hx:=L.out;have hy:=J.out;have N:=M.out
 try simp only [bne_eq_false_iff_eq] at *
 constructor
 · intro q;have q':(im:Int)=0:=by simpa using q
   refine ⟨?_,?_,?_,?_,?_,?_,?_,?_,?_⟩
   all_goals first | assumption | omega
 intro q;have q':im=0:=by omega
 simp [q']
end

section
open Go.RowKit
theorem clause_2 {f r u xp xn yp yn:Int} {xs:List (Int × Int)} {a b:Int}:clauseB 2 f r u xp xn yp yn xs a b=true ↔ (0≤f∧f<12)∧(0≤r∧r<3)∧u=0∧a=0∧b=0∧partB xp xn=true∧noneB yp yn=true∧xs.length=0:=by
 simp [clauseB,numB,parB,indB,hasF,hasR,hasU,hasX,hasY,hasI,hasP]
set_option maxRecDepth 100000 in
set_option maxHeartbeats 4000000 in
theorem specOk_2 {f r u xp xn yp yn:Int} {ia:Option Addr} {im ic:Nat} {a b:Int} {xs:List (Int × Int)} {w:World} {lo hi:Nat} (h:RP lo hi w ia im ic xs) (D:hi≤w.heap.size) :
    Calls Tryz.prog 26 #[.agg #[.int .i64 2,.int .i64 f,.int .i64 r,.int .i64 u,.int .i64 xp,.int .i64 xn,.int .i64 yp,.int .i64 yn,.slice ia im ic,.int .i64 a,.int .i64 b]] w fun e w'=>e=.returned (.bool (clauseB 2 f r u xp xn yp yn xs a b))∧Below w.heap.size w w':=by
 obtain ⟨W,hW⟩:∃ W,W=w.alloc (.cells #[.int .i64 2,.int .i64 f,.int .i64 r,.int .i64 u,.int .i64 xp,.int .i64 xn,.int .i64 yp,.int .i64 yn,.slice ia im ic,.int .i64 a,.int .i64 b] 51):=⟨_,rfl⟩;have HW:Hid (W=w.alloc (.cells #[.int .i64 2,.int .i64 f,.int .i64 r,.int .i64 u,.int .i64 xp,.int .i64 xn,.int .i64 yp,.int .i64 yn,.slice ia im ic,.int .i64 a,.int .i64 b] 51)):=hW;have A:Below w.heap.size w W:=by rw [hW];exact (Below.refl _ _).alloc (Nat.le_refl _) _
 have o:Hid (Below w.heap.size w W):=A;have E:BoxK 51 W w.heap.size 2 f r u xp xn yp yn (.slice ia im ic) a b:=by rw [hW];exact BoxK.new _ w _ _ _ _ _ _ _ _ _ _ _
 have HX:Hid (∀ V,Below W.heap.size W V→BoxK 51 V w.heap.size 2 f r u xp xn yp yn (.slice ia im ic) a b):=fun V hV=>E.below hV E.lt
 have N:Hid (∀ V,Below W.heap.size W V→RP lo hi V ia im ic xs):=fun V hV=>(h.below A D).below hV (Nat.le_trans D A.size)
 have HL:Hid (xs.length=im):=h.len;have HH:Hid (hi≤W.heap.size):=Nat.le_trans D A.size;obtain ⟨C,hC⟩:∃ C,C=clauseB 2 f r u xp xn yp yn xs a b:=⟨_,rfl⟩;rw [← hC];have HC:Hid (C=clauseB 2 f r u xp xn yp yn xs a b):=hC;obtain ⟨z0,z1,z2,z3,z4,z5,z6,z7,z8,z9,z⟩:=E.cells;clear hW A E h hC D;go_enter Tryz.func26, Tryz.ntmps26;go_upto_region 1 with fail;rw [← HW.out];go_wp2_with fail;refine (l5part_any xp xn W).mono ?_;rintro e w1 ⟨rfl,G⟩;have H1:Hid (Below W.heap.size W w1):=G;clear G z0 z1 z2 z3 z4 z5 z6 z7 z8 z9 z;obtain ⟨z0,z1,z2,z3,z4,z5,z6,z7,z8,z9,z⟩:=(HX.out _ H1.out).cells;by_cases hx:partB xp xn=true
 case neg =>
  have hf:partB xp xn=false:=by simpa using hx
  rw [hf];have HF:Hid (C=false):=by unfold Hid;rw [HC.out];simp [clauseB,parB_none hf]
  clear hx hf;go_wp2_with fail;go_ret;exact ⟨rb HF.out.symm,o.out.trans (H1.out.mono o.out.size)⟩
 rw [hx];have J:Hid (partB xp xn=true):=hx;clear hx;go_wp2_with fail;refine (l5part_any yp yn w1).mono ?_;rintro e w2 ⟨rfl,F⟩;have H2:Hid (Below W.heap.size W w2):=H1.out.trans (F.mono H1.out.size);clear F z0 z1 z2 z3 z4 z5 z6 z7 z8 z9 z;obtain ⟨z0,z1,z2,z3,z4,z5,z6,z7,z8,z9,z⟩:=(HX.out _ H2.out).cells;by_cases hy:partB yp yn=true
 case neg =>
  have hf:partB yp yn=false:=by simpa using hy
  rw [hf];have HF:Hid (C=false):=by unfold Hid;rw [HC.out];simp [clauseB,parB_none hf]
  clear hy hf;go_wp2_with fail;go_ret;exact ⟨rb HF.out.symm,o.out.trans (H2.out.mono o.out.size)⟩
 rw [hy];have I:Hid (partB yp yn=true):=hy;clear hy;go_upto_region 7 with fail
 all_goals (try (go_ret;refine ⟨rb (Eq.symm (Bool.eq_false_iff.2 fun q0=>?_)),o.out.trans (H2.out.mono o.out.size)⟩;rw [HC.out] at q0;have q1:=clause_2.1 q0;have hl:=HL.out;rename_i hh;first | omega | (simp at hh;omega)))
 go_wp2_with fail;refine (l5none_any yp yn w2).mono ?_;rintro e w3 ⟨rfl,hb⟩;have H3:Hid (Below W.heap.size W w3):=H2.out.trans (hb.mono H2.out.size);clear hb z0 z1 z2 z3 z4 z5 z6 z7 z8 z9 z;obtain ⟨z0,z1,z2,z3,z4,z5,z6,z7,z8,z9,z⟩:=(HX.out _ H3.out).cells;by_cases hn:noneB yp yn=true
 case neg =>
  have hf:noneB yp yn=false:=by simpa using hn
  rw [hf]
  have HF:Hid (C=false):=by
   unfold Hid;rw [HC.out,Bool.eq_false_iff];intro q;have q:=clause_2.1 q;simp_all
  clear hn hf;go_wp2_with fail;go_ret;exact ⟨rb HF.out.symm,o.out.trans (H3.out.mono o.out.size)⟩
 rw [hn];have L:Hid (noneB yp yn=true):=hn;clear hn;go_upto_region 11 with fail
 all_goals (try (go_ret;refine ⟨rb (Eq.symm (Bool.eq_false_iff.2 fun q0=>?_)),o.out.trans (H3.out.mono o.out.size)⟩;rw [HC.out] at q0;have q1:=clause_2.1 q0;have hl:=HL.out;rename_i hh;first | omega | (simp at hh;omega)))
 go_wp2_with fail;go_ret;refine ⟨rb ?_,o.out.trans (H3.out.mono o.out.size)⟩;rw [HC.out,Bool.eq_iff_iff,clause_2];have hl:=HL.out;have hx:=J.out;have hy:=I.out;have M:=L.out
 try simp only [bne_eq_false_iff_eq] at *
 constructor
 · intro q;have q':(im:Int)=0:=by simpa using q
   refine ⟨?_,?_,?_,?_,?_,?_,?_,?_⟩
   all_goals first | assumption | omega
 intro q;have q':im=0:=by omega
 simp [q']
end

end Go.Proofs.YtellcgmabimieaaGreatDoor
