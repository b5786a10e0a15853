/- Several texts in one: DrawAx, DrawKb0. -/
import Derived.Test.YtnmljalcndfjmaaGreatNG21
import Derived.Test.YtnmljalcndfjmaaGreatNG2
import Derived.Test.YtnmljalcndfjmaaGreatKbVocM
namespace Go.Proofs.YtnmljalcndfjmaaGreat

section
open Go.RowKit

def CdP (B : Nat) (a : Option Addr) (n cap : Nat) (zs : List Int) (hi : Nat) (w : World) (e : Ending) (w' : World) : Prop :=
  ∃ (k : Int) (na : Option Addr) (nn nc : Nat) (ra : Option Addr) (rn rc : Nat) (ka : Option Addr) (kn kc : Nat) (c : CN), e = .returned (.agg #[.int .i64 k, .slice na nn nc, .slice ra rn rc, .slice ka kn kc]) ∧ RdC w.heap.size w'.heap.size w' 20 (.agg #[.int .i64 k, .slice na nn nc, .slice ra rn rc, .slice ka kn kc]) c ∧ c.bulk ≤ 100000 ∧ Cur w' B a n cap zs hi ∧ Bt B w.heap.size w w'

theorem l2drawR_any (f : Nat) (hf : f = 1 ∨ f = 2) {B : Nat} {a : Option Addr} {n cap : Nat} {zs : List Int} {hi : Nat} {w : World} (c : Cur w B a n cap zs hi) :
    Calls Tryz.prog 76 #[.pointer (some ⟨B, 0, none⟩), .int .i64 f] w (CdP B a n cap zs hi w) := by
  refine (l2draw_any f (by omega) c).mono ?_
  rintro e w2 hD
  obtain ⟨y0, y1, y2, y3, cc, L, rfl, hO, _, hbk, hwf, hC2, hbt⟩ := hD
  obtain ⟨hy0, ⟨na, nn, nc, hy1⟩, ⟨ra, rn, rc, hy2⟩, ⟨ka, kn, kc, hy3⟩⟩ := hO.ow.form
  subst hy0 hy1 hy2 hy3
  have hus : ∀ x ∈ L, w.heap.size ≤ x.1.block ∧ x.1.block < w2.heap.size := by
    intro x hx
    rcases hO.us x hx with ⟨q1, q2⟩ | ⟨t, _, _, q, _⟩
    · exact ⟨q1, q2⟩
    · simp at q
  have hb : cc.bulk ≤ 100000 := by
    rcases hf with rfl | rfl
    · exact Nat.le_trans hbk (by decide)
    · exact Nat.le_trans hbk (by decide)
  exact ⟨_, na, nn, nc, ra, rn, rc, ka, kn, kc, cc, rfl, RdC.higher (hO.ow.rd hus) (by omega), hb, hC2, hbt⟩

set_option maxRecDepth 100000 in
set_option maxHeartbeats 4000000 in
theorem l3axiomDraw_any {w : World} {B : Nat} {a : Option Addr} {n cap : Nat} {zs : List Int} {hi : Nat} (c : Cur w B a n cap zs hi) :
    Calls Tryz.prog 61 #[.pointer (some ⟨B, 0, none⟩)] w (AdP B a n cap zs hi w) := by
  have hB := c.lt
  obtain ⟨W0, HW0⟩ : ∃ W, Hid (W = w.alloc (.cells #[.int .i64 0, .int .i64 0, .slice none 0 0, .slice none 0 0, .slice none 0 0, .int .i64 0, .slice none 0 0, .slice none 0 0, .slice none 0 0, .slice none 0 0, .slice none 0 0, .slice none 0 0, .slice none 0 0] 49)) := ⟨_, rfl⟩
  have HM0 : Hid (DgM (.cells zeroA 49) B a n cap zs hi w W0) := by unfold Hid; rw [HW0.out]; exact DgM.start c zeroA 49
  clear c
  go_enter Tryz.func61, Tryz.ntmps61
  go_wp2_with fail
  rw [← HW0.out]
  refine (l3ind_any HM0.out.cur).mono ?_
  rintro e w1 hP
  obtain ⟨b1, k1, c1, z1, rfl, hr1, hz1, hc1, hb1⟩ := hP
  have HM1 : Hid (DgM (.cells zeroA 49) B a n cap zs hi w w1) := HM0.out.next hB hc1 hb1
  have hs0 : w.heap.size < W0.heap.size := HM0.out.lt
  have HR1 : Hid (Rd (w.heap.size + 1) w1.heap.size w1 b1 k1 c1 z1) := hr1.mono (by omega) (Nat.le_refl _)
  have HZ1 : Hid (z1.length ≤ 1) := hz1
  clear hr1 hz1 hc1 hb1
  go_wp2_with fail
  refine (l1Below_any HM1.out.cur 8 (by omega)).mono ?_
  rintro e w2 ⟨m, rfl, ⟨hm0, hm1⟩, hc2, ho2⟩
  have HM2 : Hid (DgM (.cells zeroA 49) B a n cap zs hi w w2) := HM1.out.only hB hc2 ho2
  have HR2 : Hid (Rd (w.heap.size + 1) w2.heap.size w2 b1 k1 c1 z1) := HR1.out.next (by omega) ho2.bt
  have hs2 : w.heap.size < w2.heap.size := HM2.out.lt
  clear hc2 ho2
  by_cases e0 : m = 0
  · subst e0
    go_upto_region 4 with fail
    refine regA4 (id := 4) (w := w2) hB (by simp) rfl HM2.out rfl rfl ⟨b1, k1, c1, z1, rfl, HR2.out, HZ1.out⟩ ?_
    intro a' w' hF
    obtain ⟨cs, V, hV, rfl, hax, hsz, t2, hdf⟩ := hF
    have HV : Hid (DgM (.cells zeroA 49) B a n cap zs hi w V) := hV
    have HAx : Hid (AxV (w.heap.size + 1) V 3 (.agg cs)) := hax
    have HT : Hid (a'.tmps[2]?.getD undef = .pointer (some ⟨w.heap.size, 0, none⟩)) := t2
    clear hV hax t2
    go_wp2
    obtain ⟨hA, hb⟩ := DgM.finA HV.out hB HAx.out (by omega)
    refine bodyPost_ret (v := .agg cs) (results_cell_row rfl _ _ w.heap.size 49 cs (0, 0) _ (by simpa using HT.out) hb Tryz.underlying49 rfl (by rw [hsz]; exact infoAx13)) hdf ?_
    exact hA
  · have e0b : (m == 0) = false := by simpa using e0
    by_cases e1 : m = 1
    · subst e1
      go_wp2_with fail
      refine (l2drawR_any 2 (by omega) HM2.out.cur).mono ?_
      rintro e w3 hP
      obtain ⟨k4, na4, nn4, nc4, ra4, rn4, rc4, ka4, kn4, kc4, cc, rfl, hr, hbk, hc, hb⟩ := hP
      have HV : Hid (DgM (.cells zeroA 49) B a n cap zs hi w w3) := HM2.out.next hB hc hb
      have HAx : Hid (AxV (w.heap.size + 1) w3 4 (.agg #[.int .i64 4, .int .i64 k4, .slice na4 nn4 nc4, .slice ra4 rn4 rc4, .slice ka4 kn4 kc4, .int .i64 0, .slice none 0 0, .slice none 0 0, .slice none 0 0, .slice none 0 0, .slice none 0 0, .slice b1 k1 c1, .slice none 0 0])) :=
        ⟨_, _, _, _, _, _, _, _, none, 0, 0, none, 0, 0, b1, k1, c1, none, 0, 0, ⟨4, cc, CN.zero, [], [], z1, []⟩, rfl, rfl, ⟨RdC.mono (by omega) (Nat.le_refl _) hr, rdZero _ _ 19 _, rdNil _ _ _, rdNil _ _ _, HR2.out.next (by omega) hb, rdNil _ _ _⟩, hbk, zero_small, Nat.zero_le _, Nat.zero_le _, HZ1.out, Nat.zero_le _⟩
      clear hr hbk hc hb
      go_wp2_with (first | (refine wpList_store_row rfl 49 (.tmp 2) (.tmp 29) rfl w.heap.size #[.int .i64 4, .int .i64 k4, .slice na4 nn4 nc4, .slice ra4 rn4 rc4, .slice ka4 kn4 kc4, .int .i64 0, .slice none 0 0, .slice none 0 0, .slice none 0 0, .slice none 0 0, .slice none 0 0, .slice b1 k1 c1, .slice none 0 0] rfl rfl 49 zeroA HV.out.box infoAx13 rfl (by simp [Value.oneCell']) ?_) | fail)

      obtain ⟨hA, hb⟩ := DgM.finA HV.out hB HAx.out (by omega)
      refine bodyPost_ret (v := .agg #[.int .i64 4, .int .i64 k4, .slice na4 nn4 nc4, .slice ra4 rn4 rc4, .slice ka4 kn4 kc4, .int .i64 0, .slice none 0 0, .slice none 0 0, .slice none 0 0, .slice none 0 0, .slice none 0 0, .slice b1 k1 c1, .slice none 0 0]) (results_cell_row rfl _ _ w.heap.size 49 #[.int .i64 4, .int .i64 k4, .slice na4 nn4 nc4, .slice ra4 rn4 rc4, .slice ka4 kn4 kc4, .int .i64 0, .slice none 0 0, .slice none 0 0, .slice none 0 0, .slice none 0 0, .slice none 0 0, .slice b1 k1 c1, .slice none 0 0] (0, 0) _ rfl hb Tryz.underlying49 rfl infoAx13) rfl ?_
      exact hA
    · have e1b : (m == 1) = false := by simpa using e1
      by_cases e2 : m = 2
      · subst e2
        go_wp2_with fail
        refine (l2drawR_any 2 (by omega) HM2.out.cur).mono ?_
        rintro e w3 hP
        obtain ⟨k4, na4, nn4, nc4, ra4, rn4, rc4, ka4, kn4, kc4, cc, rfl, hr, hbk, hc, hb⟩ := hP
        have HV : Hid (DgM (.cells zeroA 49) B a n cap zs hi w w3) := HM2.out.next hB hc hb
        have HAx : Hid (AxV (w.heap.size + 1) w3 4 (.agg #[.int .i64 4, .int .i64 k4, .slice na4 nn4 nc4, .slice ra4 rn4 rc4, .slice ka4 kn4 kc4, .int .i64 0, .slice none 0 0, .slice none 0 0, .slice none 0 0, .slice none 0 0, .slice none 0 0, .slice b1 k1 c1, .slice none 0 0])) :=
          ⟨_, _, _, _, _, _, _, _, none, 0, 0, none, 0, 0, b1, k1, c1, none, 0, 0, ⟨4, cc, CN.zero, [], [], z1, []⟩, rfl, rfl, ⟨RdC.mono (by omega) (Nat.le_refl _) hr, rdZero _ _ 19 _, rdNil _ _ _, rdNil _ _ _, HR2.out.next (by omega) hb, rdNil _ _ _⟩, hbk, zero_small, Nat.zero_le _, Nat.zero_le _, HZ1.out, Nat.zero_le _⟩
        clear hr hbk hc hb
        go_wp2_with (first | (refine wpList_store_row rfl 49 (.tmp 2) (.tmp 29) rfl w.heap.size #[.int .i64 4, .int .i64 k4, .slice na4 nn4 nc4, .slice ra4 rn4 rc4, .slice ka4 kn4 kc4, .int .i64 0, .slice none 0 0, .slice none 0 0, .slice none 0 0, .slice none 0 0, .slice none 0 0, .slice b1 k1 c1, .slice none 0 0] rfl rfl 49 zeroA HV.out.box infoAx13 rfl (by simp [Value.oneCell']) ?_) | fail)

        obtain ⟨hA, hb⟩ := DgM.finA HV.out hB HAx.out (by omega)
        refine bodyPost_ret (v := .agg #[.int .i64 4, .int .i64 k4, .slice na4 nn4 nc4, .slice ra4 rn4 rc4, .slice ka4 kn4 kc4, .int .i64 0, .slice none 0 0, .slice none 0 0, .slice none 0 0, .slice none 0 0, .slice none 0 0, .slice b1 k1 c1, .slice none 0 0]) (results_cell_row rfl _ _ w.heap.size 49 #[.int .i64 4, .int .i64 k4, .slice na4 nn4 nc4, .slice ra4 rn4 rc4, .slice ka4 kn4 kc4, .int .i64 0, .slice none 0 0, .slice none 0 0, .slice none 0 0, .slice none 0 0, .slice none 0 0, .slice b1 k1 c1, .slice none 0 0] (0, 0) _ rfl hb Tryz.underlying49 rfl infoAx13) rfl ?_
        exact hA
      · have e2b : (m == 2) = false := by simpa using e2
        by_cases e3 : m = 3
        · subst e3
          go_upto_region 9 with fail
          refine regA9 (id := 9) (w := w2) hB (by simp) rfl HM2.out rfl rfl ⟨b1, k1, c1, z1, rfl, HR2.out, HZ1.out⟩ ?_
          intro a' w' hF
          obtain ⟨cs, V, hV, rfl, hax, hsz, t2, hdf⟩ := hF
          have HV : Hid (DgM (.cells zeroA 49) B a n cap zs hi w V) := hV
          have HAx : Hid (AxV (w.heap.size + 1) V 5 (.agg cs)) := hax
          have HT : Hid (a'.tmps[2]?.getD undef = .pointer (some ⟨w.heap.size, 0, none⟩)) := t2
          clear hV hax t2
          go_wp2
          obtain ⟨hA, hb⟩ := DgM.finA HV.out hB HAx.out (by omega)
          refine bodyPost_ret (v := .agg cs) (results_cell_row rfl _ _ w.heap.size 49 cs (0, 0) _ (by simpa using HT.out) hb Tryz.underlying49 rfl (by rw [hsz]; exact infoAx13)) hdf ?_
          exact hA
        · have e3b : (m == 3) = false := by simpa using e3
          have HMp : Hid (DgM (.cells zeroA 49) B a n cap zs hi w (w2.alloc (.cells #[.int .i64 0, .int .i64 0, .int .i64 0, .int .i64 1, .int .i64 2] 3))) := HM2.out.below hB ((Below.refl _ _).alloc (Nat.le_refl _) _)
          have hpk : ∀ i, i < 5 → ∃ z, (w2.alloc (.cells #[.int .i64 0, .int .i64 0, .int .i64 0, .int .i64 1, .int .i64 2] 3)).cell? ⟨w2.heap.size, i, none⟩ = some (.int .i64 z) ∧ (0 ≤ z ∧ z ≤ 2) := by
            have hb : (w2.alloc (.cells #[.int .i64 0, .int .i64 0, .int .i64 0, .int .i64 1, .int .i64 2] 3)).heap[w2.heap.size]? = some (.cells #[.int .i64 0, .int .i64 0, .int .i64 0, .int .i64 1, .int .i64 2] 3) := allocAtA rfl
            intro i hi
            match i, hi with
            | 0, _ | 1, _ | 2, _ => exact ⟨0, by unfold World.cell?; simp only []; rw [hb]; rfl, by omega⟩
            | 3, _ => exact ⟨1, by unfold World.cell?; simp only []; rw [hb]; rfl, by omega⟩
            | 4, _ => exact ⟨2, by unfold World.cell?; simp only []; rw [hb]; rfl, by omega⟩
          have HPk : Hid _ := hpk
          clear hpk
          go_wp2_with fail
          refine (pickN_any HMp.out.cur (g := w2.heap.size) (m := 5) (by omega) (by omega) (fun z => 0 ≤ z ∧ z ≤ 2) HPk.out).mono ?_
          rintro e w3 ⟨x, rfl, hx, hc3, ho3⟩
          have HM3 : Hid (DgM (.cells zeroA 49) B a n cap zs hi w w3) := HMp.out.only hB hc3 ho3
          have HXb : Hid (0 ≤ x ∧ x ≤ 2) := hx
          have hs3 : w.heap.size < w3.heap.size := HM3.out.lt
          clear hx hc3 ho3
          go_wp2_with fail
          refine (l2drawR_any 1 (by omega) HM3.out.cur).mono ?_
          rintro e w4 hP
          obtain ⟨k5, na5, nn5, nc5, ra5, rn5, rc5, ka5, kn5, kc5, c5, rfl, hr5, hbk5, hc4, hb4⟩ := hP
          have HM4 : Hid (DgM (.cells zeroA 49) B a n cap zs hi w w4) := HM3.out.next hB hc4 hb4
          have HR5 : Hid (RdC w3.heap.size w4.heap.size w4 20 (.agg #[.int .i64 k5, .slice na5 nn5 nc5, .slice ra5 rn5 rc5, .slice ka5 kn5 kc5]) c5 ∧ c5.bulk ≤ 100000) := ⟨hr5, hbk5⟩
          have hs4 := hb4.size
          clear hr5 hbk5 hc4 hb4
          go_wp2_with fail
          refine (l2drawR_any 2 (by omega) HM4.out.cur).mono ?_
          rintro e w5 hP
          obtain ⟨k6, na6, nn6, nc6, ra6, rn6, rc6, ka6, kn6, kc6, c6, rfl, hr6, hbk6, hc5, hb5⟩ := hP
          have HV : Hid (DgM (.cells zeroA 49) B a n cap zs hi w w5) := HM4.out.next hB hc5 hb5
          have HAx : Hid (AxV (w.heap.size + 1) w5 x (.agg #[.int .i64 x, .int .i64 k5, .slice na5 nn5 nc5, .slice ra5 rn5 rc5, .slice ka5 kn5 kc5, .int .i64 k6, .slice na6 nn6 nc6, .slice ra6 rn6 rc6, .slice ka6 kn6 kc6, .slice none 0 0, .slice none 0 0, .slice none 0 0, .slice none 0 0])) := by
            have hsm : Same w3.heap.size w4.heap.size w4 w5 := fun q h1 h2 => hb5.block q h2 (by omega)
            exact ⟨_, _, _, _, _, _, _, _, none, 0, 0, none, 0, 0, none, 0, 0, none, 0, 0, ⟨x, c5, c6, [], [], [], []⟩, rfl, rfl, ⟨RdC.mono (by omega) hb5.size (RdC.same hsm HR5.out.1), RdC.mono (by omega) (Nat.le_refl _) hr6, rdNil _ _ _, rdNil _ _ _, rdNil _ _ _, rdNil _ _ _⟩, HR5.out.2, hbk6, Nat.zero_le _, Nat.zero_le _, Nat.zero_le _, Nat.zero_le _⟩
          clear hr6 hbk6 hc5 hb5
          go_wp2_with (first | (refine wpList_store_row rfl 49 (.tmp 2) (.tmp 49) rfl w.heap.size #[.int .i64 x, .int .i64 k5, .slice na5 nn5 nc5, .slice ra5 rn5 rc5, .slice ka5 kn5 kc5, .int .i64 k6, .slice na6 nn6 nc6, .slice ra6 rn6 rc6, .slice ka6 kn6 kc6, .slice none 0 0, .slice none 0 0, .slice none 0 0, .slice none 0 0] rfl rfl 49 zeroA HV.out.box infoAx13 rfl (by simp [Value.oneCell']) ?_) | fail)

          obtain ⟨hA, hb⟩ := DgM.finA HV.out hB HAx.out (by have := HXb.out; omega)
          refine bodyPost_ret (v := .agg #[.int .i64 x, .int .i64 k5, .slice na5 nn5 nc5, .slice ra5 rn5 rc5, .slice ka5 kn5 kc5, .int .i64 k6, .slice na6 nn6 nc6, .slice ra6 rn6 rc6, .slice ka6 kn6 kc6, .slice none 0 0, .slice none 0 0, .slice none 0 0, .slice none 0 0]) (results_cell_row rfl _ _ w.heap.size 49 #[.int .i64 x, .int .i64 k5, .slice na5 nn5 nc5, .slice ra5 rn5 rc5, .slice ka5 kn5 kc5, .int .i64 k6, .slice na6 nn6 nc6, .slice ra6 rn6 rc6, .slice ka6 kn6 kc6, .slice none 0 0, .slice none 0 0, .slice none 0 0, .slice none 0 0] (0, 0) _ rfl hb Tryz.underlying49 rfl infoAx13) rfl ?_
          exact hA
end

section
open Go.RowKit

/-- An axiom as a value, its parts between lo and hi. -/
def AxI (lo hi : Nat) (w : World) (kd : Int) (v : Value) : Prop :=
  ∃ (c0 c1 c2 c3 d0 d1 d2 d3 : Value) (ra : Option Addr) (rn rc : Nat) (sa : Option Addr) (sn sc : Nat) (aa : Option Addr) (an ac : Nat) (ba : Option Addr) (bn bc : Nat) (x : AX),
    v = .agg #[.int .i64 kd, c0, c1, c2, c3, d0, d1, d2, d3, .slice ra rn rc, .slice sa sn sc, .slice aa an ac, .slice ba bn bc] ∧ x.kind = kd ∧ RdA lo hi w 20 c0 c1 c2 c3 d0 d1 d2 d3 ra rn rc sa sn sc aa an ac ba bn bc x ∧ AxSm x
theorem AxI.of {lo : Nat} {w : World} {kd : Int} {v : Value} (h : AxV lo w kd v) : AxI lo w.heap.size w kd v := h
theorem AxI.same {lo hi : Nat} {w w' : World} {kd : Int} {v : Value} (h : AxI lo hi w kd v) (hs : Same lo hi w w') : AxI lo hi w' kd v := by
  obtain ⟨c0, c1, c2, c3, d0, d1, d2, d3, ra, rn, rc, sa, sn, sc, aa, an, ac, ba, bn, bc, x, e, hk, hr, hm⟩ := h
  exact ⟨c0, c1, c2, c3, d0, d1, d2, d3, ra, rn, rc, sa, sn, sc, aa, an, ac, ba, bn, bc, x, e, hk, ⟨RdC.same hs hr.c, RdC.same hs hr.d, hr.r.same hs, hr.s.same hs, hr.a.same hs, hr.b.same hs⟩, hm⟩
theorem AxI.mono {lo hi lo' hi' : Nat} {w : World} {kd : Int} {v : Value} (h : AxI lo hi w kd v) (h1 : lo' ≤ lo) (h2 : hi ≤ hi') : AxI lo' hi' w kd v := by
  obtain ⟨c0, c1, c2, c3, d0, d1, d2, d3, ra, rn, rc, sa, sn, sc, aa, an, ac, ba, bn, bc, x, e, hk, hr, hm⟩ := h
  exact ⟨c0, c1, c2, c3, d0, d1, d2, d3, ra, rn, rc, sa, sn, sc, aa, an, ac, ba, bn, bc, x, e, hk, ⟨RdC.mono h1 h2 hr.c, RdC.mono h1 h2 hr.d, hr.r.mono h1 h2, hr.s.mono h1 h2, hr.a.mono h1 h2, hr.b.mono h1 h2⟩, hm⟩
theorem AxI.one {lo hi : Nat} {w : World} {kd : Int} {v : Value} (h : AxI lo hi w kd v) : ∃ cs, v = .agg cs ∧ cs.size = 13 ∧ cs.all (·.oneCell') = true := by
  obtain ⟨c0, c1, c2, c3, d0, d1, d2, d3, ra, rn, rc, sa, sn, sc, aa, an, ac, ba, bn, bc, x, rfl, _, hr, _⟩ := h
  obtain ⟨rfl, ⟨_, _, _, rfl⟩, ⟨_, _, _, rfl⟩, ⟨_, _, _, rfl⟩⟩ := hr.c.formS
  obtain ⟨rfl, ⟨_, _, _, rfl⟩, ⟨_, _, _, rfl⟩, ⟨_, _, _, rfl⟩⟩ := hr.d.formS
  exact ⟨_, rfl, rfl, by simp [Value.oneCell']⟩

/-- A list of axioms, none of it in the block p. -/
def OwnAx (base p : Nat) (w : World) (v : Value) (n : Nat) (vs : List Value) : Prop :=
  w.ownsRow base 49 13 v n vs ∧ (∀ g, v.ownBlock = some g → g ≠ p) ∧ ∀ i, i < n → ∃ (lo hi : Nat) (kd : Int) (cs : Array Value), (base ≤ lo ∧ hi ≤ w.heap.size ∧ (p < lo ∨ hi ≤ p)) ∧ (∀ g, v.ownBlock = some g → g < lo ∨ hi ≤ g) ∧ AxI lo hi w kd (.agg cs) ∧ cs.size = 13 ∧ ∀ j, j < 13 → vs[i * 13 + j]? = cs[j]?
theorem OwnAx.nil (base p : Nat) (w : World) : OwnAx base p w (.slice none 0 0) 0 [] := ⟨World.ownsRow_nil _ _ _ _, fun g e => by simp [Value.ownBlock] at e, fun i hi => by omega⟩
theorem OwnAx.same {base p n : Nat} {w w' : World} {v : Value} {vs : List Value} (h : OwnAx base p w v n vs) (hs : ∀ b, base ≤ b → b < w.heap.size → b ≠ p → w'.heap[b]? = w.heap[b]?) (hz : w.heap.size ≤ w'.heap.size) : OwnAx base p w' v n vs := by
  refine ⟨⟨h.1.1, ?_⟩, h.2.1, fun i hi => ?_⟩
  · rcases h.1.2 with h2 | ⟨g, cap, cur, hv, hg, hh, r⟩
    · exact .inl h2
    · exact .inr ⟨g, cap, cur, hv, hg, by rw [hs g hg (Array.getElem?_eq_some_iff.1 hh).1 (h.2.1 g (by rw [hv]; rfl))]; exact hh, r⟩
  · obtain ⟨lo, hi', kd, cs, ⟨q1, q2, qp⟩, q3, q4, q5⟩ := h.2.2 i hi
    exact ⟨lo, hi', kd, cs, ⟨q1, by omega, qp⟩, q3, q4.same (fun b h1 h2 => hs b (by omega) (by omega) (by omega)), q5⟩
theorem OwnAx.base {base base' p p' n : Nat} {w : World} {v : Value} {vs : List Value} (h : OwnAx base p w v n vs) (hb : base' ≤ base) (hp : w.heap.size ≤ p' ∨ p' < base) : OwnAx base' p' w v n vs := by
  refine ⟨⟨h.1.1, ?_⟩, fun g e => ?_, fun i hi => ?_⟩
  · rcases h.1.2 with h2 | ⟨g, cap, cur, hv, hg, r⟩
    · exact .inl h2
    · exact .inr ⟨g, cap, cur, hv, Nat.le_trans hb hg, r⟩
  · have := World.ownsRow.lt h.1 g e
    omega
  · obtain ⟨lo, hi', kd, cs, ⟨q1, q2, _⟩, q⟩ := h.2.2 i hi
    exact ⟨lo, hi', kd, cs, ⟨Nat.le_trans hb q1, q2, by omega⟩, q⟩
theorem OwnAx.push {base p n g1 cap1 lo hi : Nat} {W w' : World} {v : Value} {vs : List Value} {kd : Int} {cs : Array Value} (h : OwnAx base p W v n vs) (hax : AxI lo hi W kd (.agg cs)) (hsz : cs.size = 13) (hlo : base ≤ lo ∧ hi ≤ W.heap.size ∧ (p < lo ∨ hi ≤ p)) (hpW : p < W.heap.size) (hg : ∀ g, v.ownBlock = some g → g < lo ∨ hi ≤ g)
    (hn : w'.ownsRow base 49 13 (.slice (some ⟨g1, 0, none⟩) (n + 1) cap1) (n + 1) (vs ++ cs.toList)) (hgr : W.grownBy w' v.ownBlock) (hat : v.ownBlock = some g1 ∨ W.heap.size ≤ g1) : OwnAx base p w' (.slice (some ⟨g1, 0, none⟩) (n + 1) cap1) (n + 1) (vs ++ cs.toList) := by
  have hl := h.1.1
  have keep : ∀ {l u : Nat}, u ≤ W.heap.size → (∀ g, v.ownBlock = some g → g < l ∨ u ≤ g) → Same l u W w' := by
    intro l u hu hq b h1 h2
    refine hgr.block b (by omega) (fun e => ?_)
    have := hq b e.symm
    omega
  have newg : ∀ {l u : Nat}, u ≤ W.heap.size → (∀ g, v.ownBlock = some g → g < l ∨ u ≤ g) → ∀ g, (Value.slice (some ⟨g1, 0, none⟩) (n + 1) cap1).ownBlock = some g → g < l ∨ u ≤ g := by
    intro l u hu hq g e
    have e1 : g1 = g := by simpa [Value.ownBlock] using e
    subst e1
    rcases hat with hat | hat
    · exact hq _ hat
    · exact .inr (by omega)
  refine ⟨hn, fun g e => ?_, fun i hi' => ?_⟩
  · have e1 : g1 = g := by simpa [Value.ownBlock] using e
    subst e1
    rcases hat with hat | hat
    · exact h.2.1 _ hat
    · omega
  by_cases hin : i < n
  · obtain ⟨l, u, k, c, ⟨q1, q2, qp⟩, q3, q4, q5, q6⟩ := h.2.2 i hin
    refine ⟨l, u, k, c, ⟨q1, Nat.le_trans q2 hgr.size, qp⟩, newg q2 q3, q4.same (keep q2 q3), q5, fun j hj => ?_⟩
    rw [List.getElem?_append_left (by omega)]
    exact q6 j hj
  · have : i = n := by omega
    subst this
    refine ⟨lo, hi, kd, cs, ⟨hlo.1, Nat.le_trans hlo.2.1 hgr.size, hlo.2.2⟩, newg hlo.2.1 hg, hax.same (keep hlo.2.1 hg), hsz, fun j hj => ?_⟩
    rw [List.getElem?_append_right (by omega), hl, show i * 13 + j - i * 13 = j from by omega]
    simp
theorem OwnAx.rd {base p n : Nat} {w : World} {v : Value} {vs : List Value} (h : OwnAx base p w v n vs) : ∃ a c xs, v = .slice a n c ∧ RdK base w.heap.size w 20 a n c xs ∧ ∀ x ∈ xs, AxSm x := by
  obtain ⟨hrow, _, hall⟩ := h
  have hh := hrow
  rcases hrow.2 with ⟨rfl, rfl⟩ | ⟨g, cap, cur, rfl, hg, hb, hc1, hc2, _⟩
  · exact ⟨none, 0, [], rfl, ⟨rfl, ⟨Nat.le_refl _, by omega⟩, .inl rfl⟩, by simp⟩
  · have hx : ∀ i, ∃ x : AX, i < n → Ax13 base w.heap.size w 20 g (0 + i * 13) x ∧ AxSm x := by
      intro i
      by_cases hi : i < n
      · obtain ⟨lo, hi', kd, cs, ⟨q1, q2, _⟩, _, q4, q5, q6⟩ := hall i hi
        obtain ⟨c0, c1, c2, c3, d0, d1, d2, d3, ra, rn, rc, sa, sn, sc, aa, an, ac, ba, bn, bc, x, e, hk, hr, hm⟩ := q4.mono q1 q2
        simp only [Value.agg.injEq] at e
        subst e
        have cell : ∀ j, j < 13 → ∀ u, (#[Value.int .i64 kd, c0, c1, c2, c3, d0, d1, d2, d3, .slice ra rn rc, .slice sa sn sc, .slice aa an ac, .slice ba bn bc] : Array Value)[j]? = some u → w.cell? ⟨g, 0 + i * 13 + j, none⟩ = some u := by
          intro j hj u hu
          rw [← hu, ← q6 j hj, Nat.zero_add]
          exact hh.cellAt (i * 13 + j) (by omega)
        exact ⟨x, fun _ => ⟨⟨c0, c1, c2, c3, d0, d1, d2, d3, ra, rn, rc, sa, sn, sc, aa, an, ac, ba, bn, bc, by rw [hk]; exact cell 0 (by omega) _ rfl, cell 1 (by omega) _ rfl, cell 2 (by omega) _ rfl, cell 3 (by omega) _ rfl, cell 4 (by omega) _ rfl, cell 5 (by omega) _ rfl, cell 6 (by omega) _ rfl, cell 7 (by omega) _ rfl, cell 8 (by omega) _ rfl, cell 9 (by omega) _ rfl, cell 10 (by omega) _ rfl, cell 11 (by omega) _ rfl, cell 12 (by omega) _ rfl, hr⟩, hm⟩⟩
      · exact ⟨AX.zero, fun h => absurd h hi⟩
    refine ⟨some ⟨g, 0, none⟩, cap, (List.range n).map (fun i => (hx i).choose), rfl, ⟨by simp, ⟨hc1, by unfold maxLen at hc2; omega⟩, .inr ⟨g, 0, rfl, hg, (Array.getElem?_eq_some_iff.1 hb).1, fun i hi => ?_⟩⟩, fun x hxm => ?_⟩
    · have e2 : ((List.range n).map (fun i => (hx i).choose)).getD i AX.zero = (hx i).choose := by simp [List.getD, hi]
      rw [e2]
      exact ((hx i).choose_spec hi).1
    · rw [List.mem_map] at hxm
      obtain ⟨i, hi, rfl⟩ := hxm
      exact ((hx i).choose_spec (List.mem_range.1 hi)).2

theorem ownsK_some {base n : Nat} {w : World} {v : Value} {xs : List Value} (h : w.ownsRow base 49 13 v (n + 1) xs) : ∃ g1 cap1, v = .slice (some ⟨g1, 0, none⟩) (n + 1) cap1 := by
  rcases h.2 with ⟨_, q⟩ | ⟨g1, cap1, _, q, _⟩
  · omega
  · exact ⟨g1, cap1, q⟩
theorem atK {g1 n1 c1 H : Nat} {v : Value} (h : (Value.slice (some ⟨g1, 0, none⟩) n1 c1).ownBlock = v.ownBlock ∨ (Value.slice (some ⟨g1, 0, none⟩) n1 c1).ownBlock = some H) : v.ownBlock = some g1 ∨ H ≤ g1 := by
  rcases h with h | h
  · exact .inl (by rw [← h]; rfl)
  · right
    have : g1 = H := by simpa [Value.ownBlock] using h
    omega
theorem new13 (w : World) (cs : Array Value) (t : Nat) : ∀ j v, cs.toList[j]? = some v → (w.alloc (.cells cs t)).cell? ((⟨w.heap.size, 0, none⟩ : Addr).add j) = some v := by
  intro j v hv
  have hb : (w.alloc (.cells cs t)).heap[w.heap.size]? = some (.cells cs t) := allocAtA rfl
  have : ((⟨w.heap.size, 0, none⟩ : Addr).add j) = ⟨w.heap.size, j, none⟩ := by simp [Addr.add]; exact fun h => h.symm
  rw [this]
  unfold World.cell?
  simp only []
  rw [hb]
  simpa using hv
theorem one13 {cs : Array Value} (h : cs.all (·.oneCell') = true) : ∀ u ∈ cs.toList, u.oneCell' = true := by
  intro u hu
  rw [← Array.all_toList, List.all_eq_true] at h
  exact h u hu
theorem Tryz.infoAx : (Tryz.prog.info? 49).map (fun i => (i.zero, i.size, i.bytes)) = some (some (.agg zeroA), 13, 264) := by kernel_rfl
end

end Go.Proofs.YtnmljalcndfjmaaGreat
