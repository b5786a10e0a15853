/- The literals of a clause told one by one to a loop whose body may turn rows of bytes: a contract. -/
import Derived.Test.YtknainelonaigaaGreatDoorNLit
namespace Go.Proofs.YtknainelonaigaaGreatDoor
open Go.RowKit Go.Shelf

attribute [local go_sem] Oper.semAt_some
attribute [local go_sem ↓] about_wide

/-- What lay below B is as it was, and all cells from n1 on but rows of bytes. -/
def Kp5 (B n1 : Nat) (W W' : World) : Prop := Below B W W' ∧ ∀ (b : Nat) (c : Array Value) (t : TypeId) (f : Nat × Nat), n1 ≤ b → t ≠ 5 → W.heap[b]? = some (.cells c t f) → W'.heap[b]? = some (.cells c t f)
theorem Kp5.trans {B n1 : Nat} {A C D : World} (h : Kp5 B n1 A C) (k : Kp5 B n1 C D) : Kp5 B n1 A D := ⟨h.1.trans k.1, fun b c t f h1 h2 h3 => k.2 b c t f h1 h2 (h.2 b c t f h1 h2 h3)⟩
theorem Kp5.of_below {B n1 : Nat} {W W' : World} (h : Below W.heap.size W W') (hB : B ≤ W.heap.size) : Kp5 B n1 W W' := ⟨h.mono hB, fun b _ _ _ _ _ h2 => (h.block b (Array.getElem?_eq_some_iff.1 h2).1).trans h2⟩
theorem Kp5.putObj {B n1 : Nat} (W : World) (l : Nat) (o o' : Obj) (hB : B ≤ l) (hl : W.heap[l]? = some o) (ho : o.isCells = false) : Kp5 B n1 W (W.putObj l o') :=
  have h : KpC B n1 W (W.putObj l o') := KpC.putObj W l o o' hB hl ho
  ⟨h.1, fun b _ _ _ h1 _ h3 => h.2 b _ h1 h3 rfl⟩
theorem BoxP.kept5 {B n1 : Nat} {W W' : World} {b : Nat} {p n : Int} (h : BoxP 50 W b p n) (hk : Kp5 B n1 W W') (hb : n1 ≤ b) : BoxP 50 W' b p n := hk.2 b _ _ _ hb (by decide) h

set_option maxRecDepth 100000 in
set_option maxHeartbeats 4000000 in
theorem lits1_in5 {lo hi B n1 l : Nat} {w0 : World} {J Jx : List LT → World → Prop} {B' : Nat} (hJ : AbidesFrom B' J) (hhi : hi ≤ B) (hB1 : B ≤ n1) (hg : 2 < B) (n' Bt : Nat)
    {k f r u xp xn yp yn : Int} {ia : Option Addr} {im ic : Nat} {a b : Int} {xs : List (Int × Int)} (hR : RP lo hi w0 ia im ic xs) (him : im = 0 ∨ im = 4) (hok : ∀ x ∈ six xp xn yp yn xs, partB x.1 x.2 = true) (hT : TabD w0)
    (hY : ∀ m pre x W, J pre W → pre.length < (litsL 0 (natP (six xp xn yp yn xs))).length → x.place < 6 → x.atom < 24 → YieldAt Fence.wide m Tryz.prog l (encL x) W fun e W' =>
      (e = .returned (.bool true) ∧ J (pre ++ [x]) W' ∧ Kp5 B n1 W W') ∨ (e = .returned (.bool false) ∧ Jx (pre ++ [x]) W'))
    (W : World) (hW : Below B w0 W) (hn1 : n1 ≤ W.heap.size) (hBt : BoxK 53 W Bt k f r u xp xn yp yn (.slice ia im ic) a b) (h0 : J [] W) :
    CallsIn Fence.wide n' Tryz.prog 83 #[.func (.yield l) #[] #[], .pointer (some ⟨Bt, 0, none⟩)] W fun e W' => (∃ v, e = .returned v) ∧
      ((∃ ys, ys = litsL 0 (natP (six xp xn yp yn xs)) ∧ J ys W') ∨ (∃ pre, pre <+: litsL 0 (natP (six xp xn yp yn xs)) ∧ Jx pre W')) := by
  obtain ⟨z0, z1, z2, z3, z4, z5, z6, z7, z8, z9, z10⟩ := hBt.cells
  have HRW : Hid (RP lo hi W ia im ic xs) := hR.below hW hhi
  have hTW : ∀ V, Below B W V → TabD V := fun V hV => (hT.below hW hg).below hV hg
  have HTW : Hid (∀ V, Below B W V → TabD V) := hTW
  obtain ⟨L, hL⟩ : ∃ L, L = six xp xn yp yn xs := ⟨_, rfl⟩
  have HL6 : Hid (L.length = 6) := by rw [hL]; rfl
  obtain ⟨ps, hps⟩ : ∃ ps, ps = natP L := ⟨_, rfl⟩
  rw [← hL] at hok hY ⊢
  rw [← hps] at hY ⊢
  have HP6 : Hid (ps.length = 6) := by unfold Hid; rw [hps, natP, List.length_map]; exact HL6.out
  have HOk : Hid (∀ x ∈ L, partB x.1 x.2 = true) := hok
  have HPs : Hid (ps = natP L) := hps
  have HY : Hid (∀ m pre x W, J pre W → pre.length < (litsL 0 ps).length → x.place < 6 → x.atom < 24 → YieldAt Fence.wide m Tryz.prog l (encL x) W fun e W' =>
      (e = .returned (.bool true) ∧ J (pre ++ [x]) W' ∧ Kp5 B n1 W W') ∨ (e = .returned (.bool false) ∧ Jx (pre ++ [x]) W')) := hY
  have HJ0 : Hid (J [] W) := h0
  have HL : Hid (L = six xp xn yp yn xs) := hL
  have hIdx := idx_any L
  have HIdx : Hid (∀ (j : Nat), j < 6 → ∀ (V : World), (Instr.index 117 (.agg (cells12 L)) (.int .i64 (j : Nat))).run Tryz.prog V = .ok (.agg #[.int .i64 (L.getD j (0, 0)).1, .int .i64 (L.getD j (0, 0)).2]) V) := hIdx
  clear hY hR hok hps h0 hL hIdx hTW hT
  refine callsIn_of_wp Tryz.func83 rfl trivial ?_ rfl
  simp only [Tryz.ntmps83, List.size_toArray, List.length_cons, List.length_nil, Nat.reduceAdd, Nat.reduceSub, Array.replicate_succ, Array.replicate_zero, List.push_toArray, List.append_toArray, List.nil_append, List.cons_append]
  gi_wp2_with fail
  refine ⟨fun h => (by cases h), ?_⟩
  refine (callsIn_wide.2 (partsOf_any HRW.out (by have := hW.size; omega) him)).mono ?_
  rintro e W1 ⟨rfl, hb1⟩
  rw [← HL.out]
  have HK1 : Hid (Kp5 B n1 W W1) := Kp5.of_below hb1 (by omega)
  have HJ1 : Hid (J [] W1) := abides_below hJ HJ0.out hb1
  clear hb1 z0 z1 z2 z3 z4 z5 z6 z7 z8 z9 z10
  gi_wp2_with fail
  gi_loopw [9] (fun i wr => ∃ (j : Nat), j ≤ 6 ∧ i = .int .i64 (j : Nat) ∧ J (litsL 0 (ps.take j)) wr ∧ Kp5 B n1 W wr) (fun i _ => 6 - (intOf i).toNat)
  case atStart => exact ⟨0, by omega, rfl, by simpa [litsL] using HJ1.out, HK1.out⟩
  case round =>
    obtain ⟨j, hj, rfl, hJr, hKr⟩ := hrel
    have HJr : Hid (J (litsL 0 (ps.take j)) wr) := hJr
    have HKr : Hid (Kp5 B n1 W wr) := hKr
    have hsr := hKr.1.size
    by_cases hlt : j < 6
    · have hji : (j : Int) < 6 := by omega
      have hix := HIdx.out j hlt
      have hgd := natP_getD L j (by rw [HL6.out]; exact hlt)
      rw [← HPs.out] at hgd
      have hpb := HOk.out (L.getD j (0, 0)) (by rw [List.getD_eq_getElem?_getD, List.getElem?_eq_getElem (by rw [HL6.out]; exact hlt)]; exact List.getElem_mem _)
      obtain ⟨⟨h1, h2⟩, h3, h4⟩ := partB_iff.1 hpb
      obtain ⟨p, hp0⟩ : ∃ p : Nat, (L.getD j (0, 0)).1 = (p : Int) := ⟨(L.getD j (0, 0)).1.toNat, by omega⟩
      obtain ⟨n, hn0⟩ : ∃ n : Nat, (L.getD j (0, 0)).2 = (n : Int) := ⟨(L.getD j (0, 0)).2.toNat, by omega⟩
      rw [hp0, hn0] at hix
      rw [hp0, hn0, Int.toNat_natCast, Int.toNat_natCast] at hgd
      rw [hp0] at h1 h2
      rw [hn0] at h3 h4
      have hpl : p < 16777216 := by omega
      have hnl : n < 16777216 := by omega
      have hor := bits_or_nat p n hpl hnl
      have hxl : p ||| n < 16777216 := by have := Nat.or_lt_two_pow (x := p) (y := n) (n := 24) (by omega) (by omega); omega
      obtain ⟨x, hx⟩ : ∃ x, x = p ||| n := ⟨_, rfl⟩
      rw [← hx] at hor hxl
      have HX : Hid (x = p ||| n) := hx
      have HPrefT : Hid (∀ t, t ≤ 24 → litsL 0 (ps.take j) ++ litsTo j p n t <+: litsL 0 ps) := fun t ht => by
        have := litsL_prefix ps j t (by rw [HP6.out]; exact hlt) ht
        rw [hgd] at this
        exact this
      have HLenT : Hid (∀ t, t ≤ 24 → (litsL 0 (ps.take j)).length + (litsTo j p n t).length ≤ (litsL 0 ps).length) := fun t ht => by
        have := (HPrefT.out t ht).length_le
        rwa [List.length_append] at this
      have HTk : Hid (litsL 0 (ps.take (j + 1)) = litsL 0 (ps.take j) ++ litsP j p n) := by
        have := litsL_take_succ ps j (by rw [HP6.out]; exact hlt)
        rw [hgd] at this
        exact this
      obtain ⟨W2, hW2⟩ : ∃ W2, W2 = wr.alloc (.cells #[.int .i64 (p : Int), .int .i64 (n : Int)] 50) := ⟨_, rfl⟩
      have hb2 : Below wr.heap.size wr W2 := by rw [hW2]; exact (Below.refl _ _).alloc (Nat.le_refl _) _
      have hBx2 : BoxP 50 W2 wr.heap.size p n := by rw [hW2]; exact BoxP.new _ wr _ _
      have HBx2 : Hid (BoxP 50 W2 wr.heap.size p n) := hBx2
      have HK2 : Hid (Kp5 B n1 W W2) := hKr.trans (Kp5.of_below hb2 (by omega))
      have HJ2 : Hid (J (litsL 0 (ps.take j)) W2) := abides_below hJ hJr hb2
      have HW2 : Hid (W2 = wr.alloc (.cells #[.int .i64 (p : Int), .int .i64 (n : Int)] 50)) := hW2
      obtain ⟨q, hq⟩ : ∃ q, q = wr.heap.size := ⟨_, rfl⟩
      have hq1 : n1 ≤ q := by omega
      obtain ⟨y0, y1⟩ := hBx2.cells
      clear h1 h2 h3 h4 hpb hp0 hn0 hgd hx hb2 hBx2 hJr hKr
      gi_upto_region 3 with fail
      rw [← HW2.out]
      clear hW2
      gi_wp2_with fail
      rw [← hq] at HBx2 ⊢
      clear hq
      gi_loopw [5] (fun rv wi => ∃ (c rr : Nat), c ≤ 24 ∧ rv = .int .i64 (rr : Nat) ∧ RestAt x c rr ∧ J (litsL 0 (ps.take j) ++ litsTo j p n c) wi ∧ Kp5 B n1 W wi ∧ BoxP 50 wi q p n) (fun rv _ => (intOf rv).toNat)
      case atStart => exact ⟨0, x, by omega, rfl, RestAt.start x, by simpa [litsTo] using HJ2.out, HK2.out, HBx2.out⟩
      case round =>
        obtain ⟨c, rr, hc, rfl, hRest, hJi, hKi, hBi⟩ := hrel
        have HJi : Hid (J (litsL 0 (ps.take j) ++ litsTo j p n c) wr) := hJi
        have HKi : Hid (Kp5 B n1 W wr) := hKi
        have HBi : Hid (BoxP 50 wr q p n) := hBi
        clear y0 y1
        obtain ⟨y0, y1⟩ := hBi.cells
        have hrl := hRest.lt hxl
        by_cases hr0 : rr = 0
        · subst hr0
          have HE : Hid (litsL 0 (ps.take (j + 1)) = litsL 0 (ps.take j) ++ litsTo j p n c) := by unfold Hid; rw [HTk.out, litsTo_end (i := j) HX.out hRest hc]
          clear hJi hKi hBi
          gi_wp2_with fail
          go_roundw
          case rel => exact ⟨j + 1, by omega, by go_num, by rw [HE.out]; exact HJi.out, HKi.out⟩
          case measure => simp [intOf]; omega
        · obtain ⟨s1, s2, s3, s4, s5, s6⟩ := hRest.step hxl hr0
          have hTb := HTW.out wr hKi.1
          have HTz := callsIn_wide (n := n' - 1) |>.2 (tz_any rr wr hrl hr0 hTb)
          obtain ⟨t, ht⟩ : ∃ t, t = Lib.ctz 64 rr := ⟨_, rfl⟩
          rw [← ht] at s1 s2 s3 s4 s5 HTz
          have HTz' : Hid (CallsIn Fence.wide (n' - 1) Tryz.prog 85 #[.int .u64 (rr : Int)] wr fun e w' => e = .returned (.int .i64 (t : Nat)) ∧ w' = wr) := HTz
          have HStep : Hid (litsTo j p n (t + 1) = litsTo j p n c ++ litAt j p n t) := litsTo_step HX.out s1 s3
          have HNext : Hid (RestAt x (t + 1) (rr &&& (rr - 1))) := s5
          have hrr0 : ((rr : Int) == 0) = false := by simp; omega
          have hand : bits .and .i64 (rr : Int) ((rr : Int) - 1) = ((rr &&& (rr - 1) : Nat) : Int) := by
            have e : (rr : Int) - 1 = ((rr - 1 : Nat) : Int) := by omega
            rw [e]
            exact bits_and_nat rr (rr - 1) (by omega) (by omega)
          have hbp := bit_at p t hpl
          have hbn := bit_at n t hnl
          have hlt2 : rr &&& (rr - 1) < rr := s6
          obtain ⟨rn, hrn⟩ : ∃ rn, rn = rr &&& (rr - 1) := ⟨_, rfl⟩
          rw [← hrn] at hand HNext hlt2
          clear hJi hKi hBi HTz hTb s1 s3 s4 s5 s6 hRest hrn ht
          gi_wp2_with fail
          refine ⟨fun h => (by cases h), ?_⟩
          refine HTz'.out.mono ?_
          rintro e w' ⟨rfl, hw⟩
          rw [hw]
          clear hw
          cases hp : p.testBit t
          · rw [hp] at hbp
            cases hn : n.testBit t
            · rw [hn] at hbn
              have HE : Hid (litsTo j p n (t + 1) = litsTo j p n c) := by unfold Hid; rw [HStep.out]; simp [litAt, hp, hn]
              gi_wp2_with fail
              go_roundw
              case rel => exact ⟨t + 1, _, by omega, rfl, HNext.out, by rw [HE.out]; exact HJi.out, HKi.out, HBi.out⟩
              case measure => simp [intOf]; omega
            · rw [hn] at hbn
              have HE : Hid (litsTo j p n (t + 1) = litsTo j p n c ++ [⟨j, t, true⟩]) := by unfold Hid; rw [HStep.out]; simp [litAt, hp, hn]
              have hyy := HY.out (n' - 1) (litsL 0 (ps.take j) ++ (litsTo j p n c)) ⟨j, t, true⟩ wr HJi.out (by have := congrArg List.length HE.out; rw [List.length_append, List.length_singleton] at this; have := HLenT.out (t + 1) (by omega); rw [List.length_append]; omega) (by show j < 6; have := HP6.out; omega) (by show t < 24; omega)
              unfold encL at hyy
              dsimp only at hyy
              obtain ⟨fn, tmps, assign, body, hy, hRr⟩ := hyy
              have HRr : Hid (RoundIn Fence.wide (n' - 1) Tryz.prog l fn tmps assign body wr fun e W' =>
                  (e = .returned (.bool true) ∧ J (litsL 0 (ps.take j) ++ (litsTo j p n c) ++ [⟨j, t, true⟩]) W' ∧ Kp5 B n1 wr W') ∨ (e = .returned (.bool false) ∧ Jx (litsL 0 (ps.take j) ++ (litsTo j p n c) ++ [⟨j, t, true⟩]) W')) := hRr
              clear hRr
              gi_wp2_with fail
              refine ⟨fun h => (by cases h), ?_⟩
              refine HRr.out.mono ?_
              rintro e W6 (⟨rfl, hJ6, hk6⟩ | ⟨rfl, hx6⟩)
              · have HJ6 : Hid (J (litsL 0 (ps.take j) ++ litsTo j p n (t + 1)) W6) := by unfold Hid; rw [HE.out, ← List.append_assoc]; exact hJ6
                have HK6 : Hid (Kp5 B n1 W W6) := HKi.out.trans hk6
                have HB6 : Hid (BoxP 50 W6 q p n) := HBi.out.kept5 hk6 hq1
                clear hJ6 hk6 hy HRr
                gi_wp2_with fail
                go_roundw
                case rel => exact ⟨t + 1, _, by omega, rfl, HNext.out, HJ6.out, HK6.out, HB6.out⟩
                case measure => simp [intOf]; omega
              · have HX6 : Hid (Jx (litsL 0 (ps.take j) ++ (litsTo j p n c) ++ [⟨j, t, true⟩]) W6) := hx6
                have HPre : Hid ((litsL 0 (ps.take j) ++ (litsTo j p n c) ++ [⟨j, t, true⟩]) <+: litsL 0 ps) := by unfold Hid; have := HPrefT.out (t + 1) (by omega); rw [HE.out, ← List.append_assoc] at this; exact this
                clear hx6 hy HRr
                gi_wp2_with fail
                (try simp only [Exit.inBlock, Exit.then]); refine bodyPost_ret (results_none rfl _ _ _) rfl ?_
                exact ⟨⟨_, rfl⟩, .inr ⟨_, HPre.out, HX6.out⟩⟩
          · rw [hp] at hbp
            have hyy := HY.out (n' - 1) (litsL 0 (ps.take j) ++ litsTo j p n c) ⟨j, t, false⟩ wr HJi.out (by have := congrArg List.length HStep.out; rw [List.length_append] at this; have h1 : 1 ≤ (litAt j p n t).length := (by simp [litAt, hp]); have := HLenT.out (t + 1) (by omega); rw [List.length_append]; omega) (by show j < 6; have := HP6.out; omega) (by show t < 24; omega)
            unfold encL at hyy
            dsimp only at hyy
            obtain ⟨fn, tmps, assign, body, hy, hRr⟩ := hyy
            have HRr : Hid (RoundIn Fence.wide (n' - 1) Tryz.prog l fn tmps assign body wr fun e W' =>
                (e = .returned (.bool true) ∧ J (litsL 0 (ps.take j) ++ litsTo j p n c ++ [⟨j, t, false⟩]) W' ∧ Kp5 B n1 wr W') ∨ (e = .returned (.bool false) ∧ Jx (litsL 0 (ps.take j) ++ litsTo j p n c ++ [⟨j, t, false⟩]) W')) := hRr
            clear hRr
            gi_wp2_with fail
            refine ⟨fun h => (by cases h), ?_⟩
            refine HRr.out.mono ?_
            rintro e W5 (⟨rfl, hJ5, hk5⟩ | ⟨rfl, hx5⟩)
            · have HJ5 : Hid (J (litsL 0 (ps.take j) ++ (litsTo j p n c ++ [⟨j, t, false⟩])) W5) := by unfold Hid; rw [← List.append_assoc]; exact hJ5
              have HK5 : Hid (Kp5 B n1 W W5) := HKi.out.trans hk5
              have hB5 := HBi.out.kept5 hk5 hq1
              have HB5 : Hid (BoxP 50 W5 q p n) := hB5
              clear hJ5 hk5 hy HRr y0 y1
              obtain ⟨y0, y1⟩ := hB5.cells
              clear hB5
              cases hn : n.testBit t
              · rw [hn] at hbn
                have HE : Hid (litsTo j p n (t + 1) = litsTo j p n c ++ [⟨j, t, false⟩]) := by unfold Hid; rw [HStep.out]; simp [litAt, hp, hn]
                gi_wp2_with fail
                go_roundw
                case rel => exact ⟨t + 1, _, by omega, rfl, HNext.out, by rw [HE.out]; exact HJ5.out, HK5.out, HB5.out⟩
                case measure => simp [intOf]; omega
              · rw [hn] at hbn
                have HE : Hid (litsTo j p n (t + 1) = litsTo j p n c ++ [⟨j, t, false⟩] ++ [⟨j, t, true⟩]) := by unfold Hid; rw [HStep.out]; simp [litAt, hp, hn]
                have hyy := HY.out (n' - 1) (litsL 0 (ps.take j) ++ (litsTo j p n c ++ [⟨j, t, false⟩])) ⟨j, t, true⟩ W5 HJ5.out (by have := congrArg List.length HE.out; rw [List.length_append, List.length_singleton] at this; have := HLenT.out (t + 1) (by omega); rw [List.length_append]; omega) (by show j < 6; have := HP6.out; omega) (by show t < 24; omega)
                unfold encL at hyy
                dsimp only at hyy
                obtain ⟨fn, tmps, assign, body, hy, hRr⟩ := hyy
                have HRr : Hid (RoundIn Fence.wide (n' - 1) Tryz.prog l fn tmps assign body W5 fun e W' =>
                    (e = .returned (.bool true) ∧ J (litsL 0 (ps.take j) ++ (litsTo j p n c ++ [⟨j, t, false⟩]) ++ [⟨j, t, true⟩]) W' ∧ Kp5 B n1 W5 W') ∨ (e = .returned (.bool false) ∧ Jx (litsL 0 (ps.take j) ++ (litsTo j p n c ++ [⟨j, t, false⟩]) ++ [⟨j, t, true⟩]) W')) := hRr
                clear hRr
                gi_wp2_with fail
                refine ⟨fun h => (by cases h), ?_⟩
                refine HRr.out.mono ?_
                rintro e W6 (⟨rfl, hJ6, hk6⟩ | ⟨rfl, hx6⟩)
                · have HJ6 : Hid (J (litsL 0 (ps.take j) ++ litsTo j p n (t + 1)) W6) := by unfold Hid; rw [HE.out, ← List.append_assoc]; exact hJ6
                  have HK6 : Hid (Kp5 B n1 W W6) := HK5.out.trans hk6
                  have HB6 : Hid (BoxP 50 W6 q p n) := HB5.out.kept5 hk6 hq1
                  clear hJ6 hk6 hy HRr
                  gi_wp2_with fail
                  go_roundw
                  case rel => exact ⟨t + 1, _, by omega, rfl, HNext.out, HJ6.out, HK6.out, HB6.out⟩
                  case measure => simp [intOf]; omega
                · have HX6 : Hid (Jx (litsL 0 (ps.take j) ++ (litsTo j p n c ++ [⟨j, t, false⟩]) ++ [⟨j, t, true⟩]) W6) := hx6
                  have HPre : Hid ((litsL 0 (ps.take j) ++ (litsTo j p n c ++ [⟨j, t, false⟩]) ++ [⟨j, t, true⟩]) <+: litsL 0 ps) := by unfold Hid; have := HPrefT.out (t + 1) (by omega); rw [HE.out, ← List.append_assoc] at this; exact this
                  clear hx6 hy HRr
                  gi_wp2_with fail
                  (try simp only [Exit.inBlock, Exit.then]); refine bodyPost_ret (results_none rfl _ _ _) rfl ?_
                  exact ⟨⟨_, rfl⟩, .inr ⟨_, HPre.out, HX6.out⟩⟩
            · have HX5 : Hid (Jx (litsL 0 (ps.take j) ++ litsTo j p n c ++ [⟨j, t, false⟩]) W5) := hx5
              have HPre : Hid ((litsL 0 (ps.take j) ++ litsTo j p n c ++ [⟨j, t, false⟩]) <+: litsL 0 ps) := by
                refine List.IsPrefix.trans ?_ (HPrefT.out (t + 1) (by omega))
                rw [HStep.out, List.append_assoc]
                refine (List.prefix_append_right_inj _).2 ((List.prefix_append_right_inj _).2 ?_)
                simp [litAt, hp]
              clear hx5 hy HRr
              gi_wp2_with fail
              (try simp only [Exit.inBlock, Exit.then]); refine bodyPost_ret (results_none rfl _ _ _) rfl ?_
              exact ⟨⟨_, rfl⟩, .inr ⟨_, HPre.out, HX5.out⟩⟩
    · have HE : Hid (litsL 0 (ps.take j) = litsL 0 ps) := by unfold Hid; rw [List.take_of_length_le (by rw [HP6.out]; omega)]
      have hji : ¬ (j : Int) < 6 := by omega
      clear hJr hKr
      gi_wp2_with fail
      go_end0
      exact ⟨⟨_, rfl⟩, .inl (by rw [← HE.out]; exact HJr.out)⟩

/-- The literals of a clause, one by one, each known as one that may be. -/
theorem lits_stops5 {lo hi B n1 : Nat} (n Bt : Nat) {w0 w : World} (hhi : hi ≤ B) (hB1 : B ≤ n1) (hg : 2 < B)
    {k f r u xp xn yp yn : Int} {ia : Option Addr} {im ic : Nat} {a b : Int} {xs : List (Int × Int)} (hR : RP lo hi w0 ia im ic xs) (him : im = 0 ∨ im = 4) (hok : ∀ x ∈ six xp xn yp yn xs, partB x.1 x.2 = true) (hT : TabD w0)
    (hb : Below B w0 w) (hn1 : n1 ≤ w.heap.size) (hBt : BoxK 53 w Bt k f r u xp xn yp yn (.slice ia im ic) a b) :
    SeqStopsK Fence.wide n Tryz.prog 83 #[.pointer (some ⟨Bt, 0, none⟩)] (fun x : LX => encL x.1) (Kp5 B n1) (fun ys => ys.map Subtype.val = litsL 0 (natP (six xp xn yp yn xs))) (fun pre => pre.map Subtype.val <+: litsL 0 (natP (six xp xn yp yn xs))) (litsL 0 (natP (six xp xn yp yn xs))).length w := fun l J Jx W hW hJ _ hY h0 => by
  have h := lits1_in5 (J := fun pre W => ∃ p : List LX, p.map Subtype.val = pre ∧ J p W) (Jx := fun pre W => ∃ p : List LX, p.map Subtype.val = pre ∧ Jx p W) (l := l) (B' := W.heap.size)
    (fun s A A' row ⟨p, e, hs⟩ hg hr => ⟨p, e, hJ p A A' row hs hg hr⟩) hhi hB1 hg n Bt hR him hok hT
    (fun m pre x V ⟨p, e, hj⟩ hl h6 h24 => (yieldAt_wide m (hY p ⟨x, h6, h24⟩ V hj (by rw [← e, List.length_map] at hl; exact hl))).mono fun e' V' q => by
      rcases q with ⟨q1, q2, q3⟩ | ⟨q1, q2⟩
      · exact .inl ⟨q1, ⟨p ++ [⟨x, h6, h24⟩], by rw [List.map_append, e]; rfl, q2⟩, q3⟩
      · exact .inr ⟨q1, p ++ [⟨x, h6, h24⟩], by rw [List.map_append, e]; rfl, q2⟩)
    W (hb.trans (hW.mono (Nat.le_trans hB1 hn1))) (Nat.le_trans hn1 hW.size) ((hW.block Bt (Array.getElem?_eq_some_iff.1 hBt).1).trans hBt) ⟨[], rfl, h0⟩
  refine h.mono fun e W' q => ⟨q.1, ?_⟩
  rcases q.2 with ⟨ys, q1, p, q2, q3⟩ | ⟨pre, q1, p, q2, q3⟩
  · exact .inl ⟨p, q2.trans q1, q3⟩
  · exact .inr ⟨p, by show List.map Subtype.val p <+: _; rw [q2]; exact q1, q3⟩

end Go.Proofs.YtknainelonaigaaGreatDoor
