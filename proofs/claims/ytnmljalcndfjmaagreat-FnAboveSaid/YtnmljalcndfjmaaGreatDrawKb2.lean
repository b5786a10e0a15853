/- What is told, drawn and bent. -/
import Derived.Test.YtnmljalcndfjmaaGreatDrawKb
import Derived.Test.YtnmljalcndfjmaaGreatBent1
import Derived.Deep.LoopGhost
namespace Go.Proofs.YtnmljalcndfjmaaGreat
open Go.RowKit

theorem Code.wp_nameK {P : Program} {c : Code} {Q : Exit → Act → World → Prop} {a : Act} {w : World} (h : ∀ W, W = w → c.wp P Q a W) : c.wp P Q a w := h w rfl

theorem bent_kind {x : Int} (h0 : 0 ≤ x) (h1 : x < 8) : ∃ k, IntKind.i64.wrap (x - 1) = k ∧ -1 ≤ k ∧ k ≤ 6 := by
  have : x = 0 ∨ x = 1 ∨ x = 2 ∨ x = 3 ∨ x = 4 ∨ x = 5 ∨ x = 6 ∨ x = 7 := by omega
  rcases this with rfl | rfl | rfl | rfl | rfl | rfl | rfl | rfl <;> exact ⟨_, rfl, by decide, by decide⟩

set_option maxRecDepth 100000 in
set_option maxHeartbeats 8000000 in
theorem l3bent_any {w : World} {B : Nat} {a : Option Addr} {n cap : Nat} {zs : List Int} {hi : Nat} (c : Cur w B a n cap zs hi) :
    Calls Tryz.prog 45 #[.pointer (some ⟨B, 0, none⟩)] w (KdP 9 B a n cap zs hi w) := by
  have hB := c.lt
  obtain ⟨W0, HW0⟩ : ∃ W, Hid (W = w.alloc (.cells #[.slice none 0 0] 42)) := ⟨_, rfl⟩
  have HM0 : Hid (DgM (.cells #[.slice none 0 0] 42) B a n cap zs hi w W0) := by unfold Hid; rw [HW0.out]; exact DgM.start c _ _
  have hs0 : w.heap.size < W0.heap.size := HM0.out.lt
  clear c
  obtain ⟨i0, hi0, hz0, hz1, hz2⟩ := info_parts Tryz.infoAx
  go_enter Tryz.func45, Tryz.ntmps45
  go_wp2_with fail
  rw [← HW0.out]
  refine (l3draw_any HM0.out.cur).mono ?_
  rintro e w1 hP
  obtain ⟨va, m, vc, vs, rfl, hown, hm, hc1, hb1⟩ := hP
  have HM1 : Hid (DgM (.cells #[.slice none 0 0] 42) B a n cap zs hi w w1) := HM0.out.next hB hc1 hb1
  have HO1 : Hid (OwnAx W0.heap.size w1.heap.size w1 (.slice va m vc) m vs) := hown
  have hs1 : w.heap.size < w1.heap.size := HM1.out.lt
  clear hown hc1 hb1
  go_upto_region 2 with fail
  refine Code.wp_nameK (fun W2 hW2 => ?_)
  obtain ⟨p, hp⟩ : ∃ p, p = w1.heap.size := ⟨_, rfl⟩
  have hb2 : Below w1.heap.size w1 W2 := by rw [hW2]; exact (Below.refl _ _).alloc (Nat.le_refl _) _
  have HI2 : Hid (KbI B a n cap zs hi w p (w.heap.size + 1) W2 (.slice va m vc) m vs) :=
    ⟨HM1.out.below hB hb2, ⟨hB, by omega, by omega⟩, by rw [hW2, hp]; exact allocAtA rfl, (HO1.out.base (by omega) (.inl (by omega))).same (fun b _ h2 _ => hb2.block b h2) hb2.size⟩
  rw [← hp]
  clear hW2 hb2 hp
  go_wp2_with fail
  refine (l1Once_any HI2.out.dg.cur 7 (by omega)).mono ?_
  rintro e w3 ⟨y, rfl, hc3, ho3⟩
  have HI3 : Hid (KbI B a n cap zs hi w p (w.heap.size + 1) w3 (.slice va m vc) m vs) := HI2.out.only hc3 ho3
  clear hc3 ho3
  cases y
  · obtain ⟨z0, zf0⟩ := HI3.out.cell
    obtain ⟨hF, e0⟩ := HI3.out.fin (M := 9) (by omega)
    have HF : Hid _ := hF
    have hu0 : w3.cell? ⟨w.heap.size, 0, none⟩ = some (.slice none 0 0) ∧ w3.frozen? ⟨w.heap.size, 0, none⟩ = false := by
      have := HI3.out.dg.box
      constructor
      · simp [World.cell?, this]
      · simp [World.frozen?, this]
    obtain ⟨u0, uf0⟩ := hu0
    clear hF
    go_wp2
    refine bodyPost_ret (v := .agg #[.slice va m vc]) (by simp [results, Tryz.results45, go_sem, e0]) rfl ?_
    exact HF.out
  · go_wp2_with fail
    refine (l3axiomDraw_any HI3.out.dg.cur).mono ?_
    rintro e w4 hP
    obtain ⟨k0, v4, rfl, hax, hkb, hc4, hb4⟩ := hP
    obtain ⟨kd, ck, c1a, c1n, c1c, c2a, c2n, c2c, c3a, c3n, c3c, dk, d1a, d1n, d1c, d2a, d2n, d2c, d3a, d3n, d3c, ra, rn, rc, sa, sn, sc, aa, an, ac, ba, bn, bc, rfl, hk4⟩ := (AxI.of hax).form
    subst hk4
    obtain ⟨lo, hlo⟩ : ∃ l, l = w3.heap.size := ⟨_, rfl⟩
    have HA4 : Hid (AxI lo w4.heap.size w4 kd (.agg #[.int .i64 kd, .int .i64 ck, .slice c1a c1n c1c, .slice c2a c2n c2c, .slice c3a c3n c3c, .int .i64 dk, .slice d1a d1n d1c, .slice d2a d2n d2c, .slice d3a d3n d3c, .slice ra rn rc, .slice sa sn sc, .slice aa an ac, .slice ba bn bc])) := by rw [hlo]; exact AxI.of hax
    have HC4 : Hid (Cur w4 B a n cap zs hi ∧ Bt B w3.heap.size w3 w4) := ⟨hc4, hb4⟩
    have hp3 : p < w3.heap.size := HI3.out.plt
    have hlt := HI3.out.lt
    have HLo : Hid (w.heap.size + 1 ≤ lo ∧ p < lo) := by unfold Hid; omega
    have hs4 : w3.heap.size ≤ w4.heap.size := hb4.size
    have hlo3 : lo = w3.heap.size := hlo
    clear hax hc4 hb4 hlo
    go_upto_region 4 with fail
    refine Code.wp_nameK (fun W5 hW5 => ?_)
    obtain ⟨q, hq⟩ : ∃ q, q = w4.heap.size := ⟨_, rfl⟩
    have hb5 : Below w4.heap.size w4 W5 := by rw [hW5]; exact (Below.refl _ _).alloc (Nat.le_refl _) _
    have HC5 : Hid (Cur W5 B a n cap zs hi ∧ Bt B w3.heap.size w3 W5) := ⟨HC4.out.1.of (hb5.mono HC4.out.1.lt), HC4.out.2.trans (Bt.of_below (hb5.mono hs4))⟩
    have HX5 : Hid (W5.heap[q]? = some (.cells #[.int .i64 kd, .int .i64 ck, .slice c1a c1n c1c, .slice c2a c2n c2c, .slice c3a c3n c3c, .int .i64 dk, .slice d1a d1n d1c, .slice d2a d2n d2c, .slice d3a d3n d3c, .slice ra rn rc, .slice sa sn sc, .slice aa an ac, .slice ba bn bc] 49 (0, 0)) ∧ AxI lo w4.heap.size W5 kd (.agg #[.int .i64 kd, .int .i64 ck, .slice c1a c1n c1c, .slice c2a c2n c2c, .slice c3a c3n c3c, .int .i64 dk, .slice d1a d1n d1c, .slice d2a d2n d2c, .slice d3a d3n d3c, .slice ra rn rc, .slice sa sn sc, .slice aa an ac, .slice ba bn bc])) := ⟨by rw [hW5, hq]; exact allocAtA rfl, HA4.out.same (Same.of_below hb5 (Nat.le_refl _))⟩
    have hq5 : q < W5.heap.size := (Array.getElem?_eq_some_iff.1 HX5.out.1).1
    have hqq : w4.heap.size ≤ q := by omega
    rw [← hq]
    clear hW5 hb5 hq
    go_wp2_with fail
    refine (l1Below_any HC5.out.1 5 (by omega)).mono ?_
    rintro e w6 ⟨z, rfl, ⟨hzz0, hzz1⟩, hc6, ho6⟩
    have HT6 : Hid (Bt B w3.heap.size w3 w6) := HC5.out.2.trans (ho6.bt.mono HC5.out.2.size)
    have HI6 : Hid (KbI B a n cap zs hi w p (w.heap.size + 1) w6 (.slice va m vc) m vs) := HI3.out.next hc6 HT6.out
    have HX6 : Hid (w6.heap[q]? = some (.cells #[.int .i64 kd, .int .i64 ck, .slice c1a c1n c1c, .slice c2a c2n c2c, .slice c3a c3n c3c, .int .i64 dk, .slice d1a d1n d1c, .slice d2a d2n d2c, .slice d3a d3n d3c, .slice ra rn rc, .slice sa sn sc, .slice aa an ac, .slice ba bn bc] 49 (0, 0)) ∧ AxI lo w4.heap.size w6 kd (.agg #[.int .i64 kd, .int .i64 ck, .slice c1a c1n c1c, .slice c2a c2n c2c, .slice c3a c3n c3c, .int .i64 dk, .slice d1a d1n d1c, .slice d2a d2n d2c, .slice d3a d3n d3c, .slice ra rn rc, .slice sa sn sc, .slice aa an ac, .slice ba bn bc])) := ⟨(ho6.other q hq5 (by omega)).trans HX5.out.1, HX5.out.2.same (fun b h1 h2 => ho6.other b (by omega) (by omega))⟩
    have hq6 : q < w6.heap.size := (Array.getElem?_eq_some_iff.1 HX6.out.1).1
    have HGo0 : Hid (∀ g, (Value.slice va m vc).ownBlock = some g → g < lo) := fun g e => by have := World.ownsRow.lt HI3.out.own.1 g e; omega
    clear hc6 ho6
    by_cases e0 : z = 0
    · subst e0
      go_wp2_with fail
      refine (l1Below_any HI6.out.dg.cur 8 (by omega)).mono ?_
      rintro e w7 ⟨x, rfl, ⟨hx0, hx1⟩, hc7, ho7⟩
      obtain ⟨kd7, hw7, hk7a, hk7b⟩ := bent_kind hx0 hx1
      have hs67 := ho7.below.size
      have HC7 : Hid (Cur w7 B a n cap zs hi ∧ Bt B w3.heap.size w3 w7) := ⟨hc7, HT6.out.trans (ho7.bt.mono HT6.out.size)⟩
      have HQ7 : Hid (w7.heap[q]? = some (.cells #[.int .i64 kd, .int .i64 ck, .slice c1a c1n c1c, .slice c2a c2n c2c, .slice c3a c3n c3c, .int .i64 dk, .slice d1a d1n d1c, .slice d2a d2n d2c, .slice d3a d3n d3c, .slice ra rn rc, .slice sa sn sc, .slice aa an ac, .slice ba bn bc] 49 (0, 0)) ∧ AxI lo w4.heap.size w7 kd (.agg #[.int .i64 kd, .int .i64 ck, .slice c1a c1n c1c, .slice c2a c2n c2c, .slice c3a c3n c3c, .int .i64 dk, .slice d1a d1n d1c, .slice d2a d2n d2c, .slice d3a d3n d3c, .slice ra rn rc, .slice sa sn sc, .slice aa an ac, .slice ba bn bc])) := ⟨(ho7.other q hq6 (by omega)).trans HX6.out.1, HX6.out.2.same (fun b h1 h2 => ho7.other b (by omega) (by omega))⟩
      have hc0 : w7.cell? ⟨q, 0, none⟩ = some (.int .i64 kd) ∧ w7.frozen? ⟨q, 0, none⟩ = false := by
        have hh := HQ7.out.1
        constructor
        · simp [World.cell?, hh]
        · simp [World.frozen?, hh]
      obtain ⟨c0, cf0⟩ := hc0
      clear hc7 ho7 hx0 hx1
      go_upto_region 15 with fail
      refine Code.wp_nameK (fun wX hwX => ?_)
      have hsX : wX.heap.size = w7.heap.size := by rw [hwX]; simp
      have hoX : ∀ b, b ≠ q → wX.heap[b]? = w7.heap[b]? := fun b hb => by rw [hwX]; exact Below.heap_setCell _ _ _ _ (by show b ≠ q; exact hb)
      have hqX : wX.heap[q]? = some (.cells #[.int .i64 kd7, .int .i64 ck, .slice c1a c1n c1c, .slice c2a c2n c2c, .slice c3a c3n c3c, .int .i64 dk, .slice d1a d1n d1c, .slice d2a d2n d2c, .slice d3a d3n d3c, .slice ra rn rc, .slice sa sn sc, .slice aa an ac, .slice ba bn bc] 49 (0, 0)) := by rw [hwX]; exact heap_setCell_same w7 q 0 _ _ _ HQ7.out.1
      have hcX : Cur wX B a n cap zs hi := HC7.out.1.keepB (fun b hb => hoX b (by omega))
      have hbX : Bt B w3.heap.size w3 wX := by rw [hwX]; exact HC7.out.2.set (.inl (by show w3.heap.size ≤ q; omega)) _
      have haX : AxI lo wX.heap.size wX kd7 (.agg #[.int .i64 kd7, .int .i64 ck, .slice c1a c1n c1c, .slice c2a c2n c2c, .slice c3a c3n c3c, .int .i64 dk, .slice d1a d1n d1c, .slice d2a d2n d2c, .slice d3a d3n d3c, .slice ra rn rc, .slice sa sn sc, .slice aa an ac, .slice ba bn bc]) := by
        obtain ⟨c0', c1', c2', c3', d0', d1', d2', d3', ra', rn', rc', sa', sn', sc', aa', an', ac', ba', bn', bc', xx, e, hk, hr, hm'⟩ := HQ7.out.2
        simp only [Value.agg.injEq, Array.mk.injEq, List.cons.injEq, and_true, Value.slice.injEq] at e
        obtain ⟨_, rfl, rfl, rfl, rfl, rfl, rfl, rfl, rfl, ⟨rfl, rfl, rfl⟩, ⟨rfl, rfl, rfl⟩, ⟨rfl, rfl, rfl⟩, rfl, rfl, rfl⟩ := e
        have hsm : Same lo w4.heap.size w7 wX := fun b _ h2 => hoX b (by omega)
        exact ⟨_, _, _, _, _, _, _, _, _, _, _, _, _, _, _, _, _, _, _, _, ⟨kd7, xx.c, xx.d, xx.r, xx.s, xx.a, xx.b⟩, rfl, rfl, ⟨RdC.mono (Nat.le_refl _) (by omega) (RdC.same hsm hr.c), RdC.mono (Nat.le_refl _) (by omega) (RdC.same hsm hr.d), (hr.r.same hsm).mono (Nat.le_refl _) (by omega), (hr.s.same hsm).mono (Nat.le_refl _) (by omega), (hr.a.same hsm).mono (Nat.le_refl _) (by omega), (hr.b.same hsm).mono (Nat.le_refl _) (by omega)⟩, hm'⟩
      clear hwX c0 cf0

      obtain ⟨hi1, hhi⟩ : ∃ h, h = wX.heap.size := ⟨_, rfl⟩
      have HIX : Hid (KbI B a n cap zs hi w p (w.heap.size + 1) wX (.slice va m vc) m vs) := HI3.out.next hcX hbX
      have HXX : Hid (wX.heap[q]? = some (.cells #[.int .i64 kd7, .int .i64 ck, .slice c1a c1n c1c, .slice c2a c2n c2c, .slice c3a c3n c3c, .int .i64 dk, .slice d1a d1n d1c, .slice d2a d2n d2c, .slice d3a d3n d3c, .slice ra rn rc, .slice sa sn sc, .slice aa an ac, .slice ba bn bc] 49 (0, 0)) ∧ AxI lo hi1 wX kd7 (.agg #[.int .i64 kd7, .int .i64 ck, .slice c1a c1n c1c, .slice c2a c2n c2c, .slice c3a c3n c3c, .int .i64 dk, .slice d1a d1n d1c, .slice d2a d2n d2c, .slice d3a d3n d3c, .slice ra rn rc, .slice sa sn sc, .slice aa an ac, .slice ba bn bc]) ∧ hi1 ≤ wX.heap.size) := ⟨hqX, by rw [hhi]; exact haX, by omega⟩
      have HGo : Hid (∀ g, (Value.slice va m vc).ownBlock = some g → g < lo ∨ hi1 ≤ g) := fun g e => .inl (HGo0.out g e)
      clear hcX hbX hqX haX hhi hsX hoX

      obtain ⟨z0, zf0⟩ := HIX.out.cell
      have hpV : p < wX.heap.size := HIX.out.plt
      have hqV : q < wX.heap.size := (Array.getElem?_eq_some_iff.1 HXX.out.1).1
      have hxs : wX.cell? ⟨q, 0, none⟩ = some (.int .i64 kd7) ∧ wX.cell? ⟨q, 1, none⟩ = some (.int .i64 ck) ∧ wX.cell? ⟨q, 2, none⟩ = some (.slice c1a c1n c1c) ∧ wX.cell? ⟨q, 3, none⟩ = some (.slice c2a c2n c2c) ∧ wX.cell? ⟨q, 4, none⟩ = some (.slice c3a c3n c3c) ∧ wX.cell? ⟨q, 5, none⟩ = some (.int .i64 dk) ∧ wX.cell? ⟨q, 6, none⟩ = some (.slice d1a d1n d1c) ∧ wX.cell? ⟨q, 7, none⟩ = some (.slice d2a d2n d2c) ∧ wX.cell? ⟨q, 8, none⟩ = some (.slice d3a d3n d3c) ∧ wX.cell? ⟨q, 9, none⟩ = some (.slice ra rn rc) ∧ wX.cell? ⟨q, 10, none⟩ = some (.slice sa sn sc) ∧ wX.cell? ⟨q, 11, none⟩ = some (.slice aa an ac) ∧ wX.cell? ⟨q, 12, none⟩ = some (.slice ba bn bc) := by
        have hh := HXX.out.1
        refine ⟨?_, ?_, ?_, ?_, ?_, ?_, ?_, ?_, ?_, ?_, ?_, ?_, ?_⟩ <;> simp [World.cell?, hh]
      obtain ⟨x0, x1, x2, x3, x4, x5, x6, x7, x8, x9, x10, x11, x12⟩ := hxs
      obtain ⟨W8, HW8⟩ : ∃ W, Hid (W = wX.alloc (.cells #[.int .i64 kd7, .int .i64 ck, .slice c1a c1n c1c, .slice c2a c2n c2c, .slice c3a c3n c3c, .int .i64 dk, .slice d1a d1n d1c, .slice d2a d2n d2c, .slice d3a d3n d3c, .slice ra rn rc, .slice sa sn sc, .slice aa an ac, .slice ba bn bc] 49)) := ⟨_, rfl⟩
      have hb8 : Below wX.heap.size wX W8 := by rw [HW8.out]; exact (Below.refl _ _).alloc (Nat.le_refl _) _
      have HI8 : Hid (KbI B a n cap zs hi w p (w.heap.size + 1) W8 (.slice va m vc) m vs) := HIX.out.below hb8
      have HX8 : Hid (AxI lo hi1 W8 kd7 (.agg #[.int .i64 kd7, .int .i64 ck, .slice c1a c1n c1c, .slice c2a c2n c2c, .slice c3a c3n c3c, .int .i64 dk, .slice d1a d1n d1c, .slice d2a d2n d2c, .slice d3a d3n d3c, .slice ra rn rc, .slice sa sn sc, .slice aa an ac, .slice ba bn bc])) := HXX.out.2.1.same (Same.of_below hb8 HXX.out.2.2)
      have HN8 : Hid (∀ j u, [.int .i64 kd7, .int .i64 ck, .slice c1a c1n c1c, .slice c2a c2n c2c, .slice c3a c3n c3c, .int .i64 dk, .slice d1a d1n d1c, .slice d2a d2n d2c, .slice d3a d3n d3c, .slice ra rn rc, .slice sa sn sc, .slice aa an ac, .slice ba bn bc][j]? = some u → W8.cell? ((⟨wX.heap.size, 0, none⟩ : Addr).add j) = some u) := by unfold Hid; rw [HW8.out]; exact new13 wX #[.int .i64 kd7, .int .i64 ck, .slice c1a c1n c1c, .slice c2a c2n c2c, .slice c3a c3n c3c, .int .i64 dk, .slice d1a d1n d1c, .slice d2a d2n d2c, .slice d3a d3n d3c, .slice ra rn rc, .slice sa sn sc, .slice aa an ac, .slice ba bn bc] 49
      have hs8 : wX.heap.size ≤ W8.heap.size := hb8.size
      have hbs : w.heap.size + 1 ≤ W8.heap.size := by have := HIX.out.lt; omega
      have HG8 : Hid (hi1 ≤ W8.heap.size) := Nat.le_trans HXX.out.2.2 hs8
      clear hb8
      go_upto_region 16 with (at_builtin; rw [← HW8.out]; refine wpList_append_own_at _ rfl (.tmp 53) (.tmp 55) 40 rfl (w.heap.size + 1) 49 i0 (.agg zeroA) 13 264 Tryz.underlying40 hi0 hz0 hz1 hz2 rfl (by decide) (.slice va m vc) m vs rfl HI8.out.own.1 ⟨wX.heap.size, 0, none⟩ 1 1 [.int .i64 kd7, .int .i64 ck, .slice c1a c1n c1c, .slice c2a c2n c2c, .slice c3a c3n c3c, .int .i64 dk, .slice d1a d1n d1c, .slice d2a d2n d2c, .slice d3a d3n d3c, .slice ra rn rc, .slice sa sn sc, .slice aa an ac, .slice ba bn bc] rfl rfl HN8.out (one13 (cs := #[.int .i64 kd7, .int .i64 ck, .slice c1a c1n c1c, .slice c2a c2n c2c, .slice c3a c3n c3c, .int .i64 dk, .slice d1a d1n d1c, .slice d2a d2n d2c, .slice d3a d3n d3c, .slice ra rn rc, .slice sa sn sc, .slice aa an ac, .slice ba bn bc]) (by simp [Value.oneCell'])) (by unfold maxLen; omega) (by omega) hbs ?_; intro v9 w9 hown hgrow hnil hat; obtain ⟨g1, cap1, rfl⟩ : ∃ g1 cap1, v9 = .slice (some ⟨g1, 0, none⟩) (m + 1) cap1 := ownsK_some hown; have HK9 : Hid (W8.grownBy w9 (Value.slice va m vc).ownBlock ∧ ((Value.slice va m vc).ownBlock = some g1 ∨ W8.heap.size ≤ g1)) := ⟨hgrow, atK hat⟩; obtain ⟨hI9, y0, yf0⟩ := HI8.out.push HX8.out rfl ⟨HLo.out.1, HG8.out, .inl HLo.out.2⟩ HGo.out hown hgrow HK9.out.2; have HI9 : Hid (KbI B a n cap zs hi w p (w.heap.size + 1) (w9.setCell ⟨p, 0, none⟩ (.slice (some ⟨g1, 0, none⟩) (m + 1) cap1)) (.slice (some ⟨g1, 0, none⟩) (m + 1) cap1) (m + 1) (vs ++ [.int .i64 kd7, .int .i64 ck, .slice c1a c1n c1c, .slice c2a c2n c2c, .slice c3a c3n c3c, .int .i64 dk, .slice d1a d1n d1c, .slice d2a d2n d2c, .slice d3a d3n d3c, .slice ra rn rc, .slice sa sn sc, .slice aa an ac, .slice ba bn bc])) := hI9; clear hI9 hown hgrow hat hnil z0 zf0)
      refine Code.wp_nameK (fun wE hwE => ?_)
      rw [← hwE] at HI9
      clear hwE y0 yf0

      obtain ⟨z0, zf0⟩ := HI9.out.cell
      obtain ⟨hF, e0⟩ := HI9.out.fin (M := 9) (by omega)
      have HF : Hid _ := hF
      have hu0 : wE.cell? ⟨w.heap.size, 0, none⟩ = some (.slice none 0 0) ∧ wE.frozen? ⟨w.heap.size, 0, none⟩ = false := by
        have := HI9.out.dg.box
        constructor
        · simp [World.cell?, this]
        · simp [World.frozen?, this]
      obtain ⟨u0, uf0⟩ := hu0
      clear hF
      go_wp2
      refine bodyPost_ret (v := .agg #[.slice (some ⟨g1, 0, none⟩) (m + 1) cap1]) (by simp [results, Tryz.results45, go_sem, e0]) rfl ?_
      exact HF.out
    · have e0b : (z == 0) = false := by simpa using e0
      by_cases e1 : z = 1
      · subst e1
        go_wp2_with fail
        refine (l2bent_any HI6.out.dg.cur).mono ?_
        rintro e w7 hP
        obtain ⟨v8, cc, rfl, hr8, hbk, hc7, hb7⟩ := hP
        obtain ⟨k8, na8, nn8, nc8, ra8, rn8, rc8, ka8, kn8, kc8, rfl⟩ := RdC.shape hr8
        have hs67 := hb7.size
        have HC7 : Hid (Cur w7 B a n cap zs hi ∧ Bt B w3.heap.size w3 w7) := ⟨hc7, HT6.out.trans (hb7.mono HT6.out.size)⟩
        have HQ7 : Hid (w7.heap[q]? = some (.cells #[.int .i64 kd, .int .i64 ck, .slice c1a c1n c1c, .slice c2a c2n c2c, .slice c3a c3n c3c, .int .i64 dk, .slice d1a d1n d1c, .slice d2a d2n d2c, .slice d3a d3n d3c, .slice ra rn rc, .slice sa sn sc, .slice aa an ac, .slice ba bn bc] 49 (0, 0)) ∧ AxI lo w4.heap.size w7 kd (.agg #[.int .i64 kd, .int .i64 ck, .slice c1a c1n c1c, .slice c2a c2n c2c, .slice c3a c3n c3c, .int .i64 dk, .slice d1a d1n d1c, .slice d2a d2n d2c, .slice d3a d3n d3c, .slice ra rn rc, .slice sa sn sc, .slice aa an ac, .slice ba bn bc])) := ⟨(hb7.block q hq6 (by omega)).trans HX6.out.1, HX6.out.2.same (fun b h1 h2 => hb7.block b (by omega) (by omega))⟩
        have HR8 : Hid (RdC w6.heap.size w7.heap.size w7 20 (.agg #[.int .i64 k8, .slice na8 nn8 nc8, .slice ra8 rn8 rc8, .slice ka8 kn8 kc8]) cc ∧ cc.bulk ≤ 100000) := ⟨hr8, hbk⟩
        have hc0 : (w7.cell? ⟨q, 1, none⟩ = some (.int .i64 ck) ∧ w7.cell? ⟨q, 2, none⟩ = some (.slice c1a c1n c1c) ∧ w7.cell? ⟨q, 3, none⟩ = some (.slice c2a c2n c2c) ∧ w7.cell? ⟨q, 4, none⟩ = some (.slice c3a c3n c3c)) ∧ ∀ i, w7.frozen? ⟨q, i, none⟩ = false := by
          have hh := HQ7.out.1
          refine ⟨⟨?_, ?_, ?_, ?_⟩, fun i => ?_⟩
          · simp [World.cell?, hh]
          · simp [World.cell?, hh]
          · simp [World.cell?, hh]
          · simp [World.cell?, hh]
          · simp [World.frozen?, hh]
        obtain ⟨⟨c1, c2, c3, c4⟩, cf0⟩ := hc0
        have cf1 := cf0 1
        have cf2 := cf0 2
        have cf3 := cf0 3
        have cf4 := cf0 4
        clear hc7 hb7 hr8 hbk cf0
        go_upto_region 15 with fail
        refine Code.wp_nameK (fun wX hwX => ?_)
        have hsX : wX.heap.size = w7.heap.size := by rw [hwX]; simp
        have hoX : ∀ b, b ≠ q → wX.heap[b]? = w7.heap[b]? := fun b hb => by
          rw [hwX, Below.heap_setCell _ _ _ b (by show b ≠ q; exact hb), Below.heap_setCell _ _ _ b (by show b ≠ q; exact hb), Below.heap_setCell _ _ _ b (by show b ≠ q; exact hb), Below.heap_setCell _ _ _ b (by show b ≠ q; exact hb)]
        have hqX : wX.heap[q]? = some (.cells #[.int .i64 kd, .int .i64 k8, .slice na8 nn8 nc8, .slice ra8 rn8 rc8, .slice ka8 kn8 kc8, .int .i64 dk, .slice d1a d1n d1c, .slice d2a d2n d2c, .slice d3a d3n d3c, .slice ra rn rc, .slice sa sn sc, .slice aa an ac, .slice ba bn bc] 49 (0, 0)) := by
          rw [hwX]
          have e1 := heap_setCell_same w7 q 1 _ _ (.int .i64 k8) HQ7.out.1
          have e2 := heap_setCell_same _ q 2 _ _ (.slice na8 nn8 nc8) e1
          have e3 := heap_setCell_same _ q 3 _ _ (.slice ra8 rn8 rc8) e2
          exact heap_setCell_same _ q 4 _ _ (.slice ka8 kn8 kc8) e3
        have hcX : Cur wX B a n cap zs hi := HC7.out.1.keepB (fun b hb => hoX b (by omega))
        have hbX : Bt B w3.heap.size w3 wX := by rw [hwX]; exact (((HC7.out.2.set (.inl (by show w3.heap.size ≤ q; omega)) _).set (.inl (by show w3.heap.size ≤ q; omega)) _).set (.inl (by show w3.heap.size ≤ q; omega)) _).set (.inl (by show w3.heap.size ≤ q; omega)) _
        have haX : AxI lo wX.heap.size wX kd (.agg #[.int .i64 kd, .int .i64 k8, .slice na8 nn8 nc8, .slice ra8 rn8 rc8, .slice ka8 kn8 kc8, .int .i64 dk, .slice d1a d1n d1c, .slice d2a d2n d2c, .slice d3a d3n d3c, .slice ra rn rc, .slice sa sn sc, .slice aa an ac, .slice ba bn bc]) := by
          obtain ⟨c0', c1', c2', c3', d0', d1', d2', d3', ra', rn', rc', sa', sn', sc', aa', an', ac', ba', bn', bc', xx, e, hk, hr, hm'⟩ := HQ7.out.2
          simp only [Value.agg.injEq, Array.mk.injEq, List.cons.injEq, and_true, Value.slice.injEq] at e
          obtain ⟨_, rfl, rfl, rfl, rfl, rfl, rfl, rfl, rfl, ⟨rfl, rfl, rfl⟩, ⟨rfl, rfl, rfl⟩, ⟨rfl, rfl, rfl⟩, rfl, rfl, rfl⟩ := e
          have hsm : Same lo w4.heap.size w7 wX := fun b _ h2 => hoX b (by omega)
          have hsn : Same w6.heap.size w7.heap.size w7 wX := fun b h1 _ => hoX b (by omega)
          obtain ⟨_, m2, m3, m4, m5, m6⟩ := hm'
          exact ⟨_, _, _, _, _, _, _, _, _, _, _, _, _, _, _, _, _, _, _, _, ⟨xx.kind, cc, xx.d, xx.r, xx.s, xx.a, xx.b⟩, rfl, hk, ⟨RdC.mono (by omega) (by omega) (RdC.same hsn HR8.out.1), RdC.mono (Nat.le_refl _) (by omega) (RdC.same hsm hr.d), (hr.r.same hsm).mono (Nat.le_refl _) (by omega), (hr.s.same hsm).mono (Nat.le_refl _) (by omega), (hr.a.same hsm).mono (Nat.le_refl _) (by omega), (hr.b.same hsm).mono (Nat.le_refl _) (by omega)⟩, HR8.out.2, m2, m3, m4, m5, m6⟩
        clear hwX c1 c2 c3 c4 cf1 cf2 cf3 cf4

        obtain ⟨hi1, hhi⟩ : ∃ h, h = wX.heap.size := ⟨_, rfl⟩
        have HIX : Hid (KbI B a n cap zs hi w p (w.heap.size + 1) wX (.slice va m vc) m vs) := HI3.out.next hcX hbX
        have HXX : Hid (wX.heap[q]? = some (.cells #[.int .i64 kd, .int .i64 k8, .slice na8 nn8 nc8, .slice ra8 rn8 rc8, .slice ka8 kn8 kc8, .int .i64 dk, .slice d1a d1n d1c, .slice d2a d2n d2c, .slice d3a d3n d3c, .slice ra rn rc, .slice sa sn sc, .slice aa an ac, .slice ba bn bc] 49 (0, 0)) ∧ AxI lo hi1 wX kd (.agg #[.int .i64 kd, .int .i64 k8, .slice na8 nn8 nc8, .slice ra8 rn8 rc8, .slice ka8 kn8 kc8, .int .i64 dk, .slice d1a d1n d1c, .slice d2a d2n d2c, .slice d3a d3n d3c, .slice ra rn rc, .slice sa sn sc, .slice aa an ac, .slice ba bn bc]) ∧ hi1 ≤ wX.heap.size) := ⟨hqX, by rw [hhi]; exact haX, by omega⟩
        have HGo : Hid (∀ g, (Value.slice va m vc).ownBlock = some g → g < lo ∨ hi1 ≤ g) := fun g e => .inl (HGo0.out g e)
        clear hcX hbX hqX haX hhi hsX hoX

        obtain ⟨z0, zf0⟩ := HIX.out.cell
        have hpV : p < wX.heap.size := HIX.out.plt
        have hqV : q < wX.heap.size := (Array.getElem?_eq_some_iff.1 HXX.out.1).1
        have hxs : wX.cell? ⟨q, 0, none⟩ = some (.int .i64 kd) ∧ wX.cell? ⟨q, 1, none⟩ = some (.int .i64 k8) ∧ wX.cell? ⟨q, 2, none⟩ = some (.slice na8 nn8 nc8) ∧ wX.cell? ⟨q, 3, none⟩ = some (.slice ra8 rn8 rc8) ∧ wX.cell? ⟨q, 4, none⟩ = some (.slice ka8 kn8 kc8) ∧ wX.cell? ⟨q, 5, none⟩ = some (.int .i64 dk) ∧ wX.cell? ⟨q, 6, none⟩ = some (.slice d1a d1n d1c) ∧ wX.cell? ⟨q, 7, none⟩ = some (.slice d2a d2n d2c) ∧ wX.cell? ⟨q, 8, none⟩ = some (.slice d3a d3n d3c) ∧ wX.cell? ⟨q, 9, none⟩ = some (.slice ra rn rc) ∧ wX.cell? ⟨q, 10, none⟩ = some (.slice sa sn sc) ∧ wX.cell? ⟨q, 11, none⟩ = some (.slice aa an ac) ∧ wX.cell? ⟨q, 12, none⟩ = some (.slice ba bn bc) := by
          have hh := HXX.out.1
          refine ⟨?_, ?_, ?_, ?_, ?_, ?_, ?_, ?_, ?_, ?_, ?_, ?_, ?_⟩ <;> simp [World.cell?, hh]
        obtain ⟨x0, x1, x2, x3, x4, x5, x6, x7, x8, x9, x10, x11, x12⟩ := hxs
        obtain ⟨W8, HW8⟩ : ∃ W, Hid (W = wX.alloc (.cells #[.int .i64 kd, .int .i64 k8, .slice na8 nn8 nc8, .slice ra8 rn8 rc8, .slice ka8 kn8 kc8, .int .i64 dk, .slice d1a d1n d1c, .slice d2a d2n d2c, .slice d3a d3n d3c, .slice ra rn rc, .slice sa sn sc, .slice aa an ac, .slice ba bn bc] 49)) := ⟨_, rfl⟩
        have hb8 : Below wX.heap.size wX W8 := by rw [HW8.out]; exact (Below.refl _ _).alloc (Nat.le_refl _) _
        have HI8 : Hid (KbI B a n cap zs hi w p (w.heap.size + 1) W8 (.slice va m vc) m vs) := HIX.out.below hb8
        have HX8 : Hid (AxI lo hi1 W8 kd (.agg #[.int .i64 kd, .int .i64 k8, .slice na8 nn8 nc8, .slice ra8 rn8 rc8, .slice ka8 kn8 kc8, .int .i64 dk, .slice d1a d1n d1c, .slice d2a d2n d2c, .slice d3a d3n d3c, .slice ra rn rc, .slice sa sn sc, .slice aa an ac, .slice ba bn bc])) := HXX.out.2.1.same (Same.of_below hb8 HXX.out.2.2)
        have HN8 : Hid (∀ j u, [.int .i64 kd, .int .i64 k8, .slice na8 nn8 nc8, .slice ra8 rn8 rc8, .slice ka8 kn8 kc8, .int .i64 dk, .slice d1a d1n d1c, .slice d2a d2n d2c, .slice d3a d3n d3c, .slice ra rn rc, .slice sa sn sc, .slice aa an ac, .slice ba bn bc][j]? = some u → W8.cell? ((⟨wX.heap.size, 0, none⟩ : Addr).add j) = some u) := by unfold Hid; rw [HW8.out]; exact new13 wX #[.int .i64 kd, .int .i64 k8, .slice na8 nn8 nc8, .slice ra8 rn8 rc8, .slice ka8 kn8 kc8, .int .i64 dk, .slice d1a d1n d1c, .slice d2a d2n d2c, .slice d3a d3n d3c, .slice ra rn rc, .slice sa sn sc, .slice aa an ac, .slice ba bn bc] 49
        have hs8 : wX.heap.size ≤ W8.heap.size := hb8.size
        have hbs : w.heap.size + 1 ≤ W8.heap.size := by have := HIX.out.lt; omega
        have HG8 : Hid (hi1 ≤ W8.heap.size) := Nat.le_trans HXX.out.2.2 hs8
        clear hb8
        go_upto_region 16 with (at_builtin; rw [← HW8.out]; refine wpList_append_own_at _ rfl (.tmp 53) (.tmp 55) 40 rfl (w.heap.size + 1) 49 i0 (.agg zeroA) 13 264 Tryz.underlying40 hi0 hz0 hz1 hz2 rfl (by decide) (.slice va m vc) m vs rfl HI8.out.own.1 ⟨wX.heap.size, 0, none⟩ 1 1 [.int .i64 kd, .int .i64 k8, .slice na8 nn8 nc8, .slice ra8 rn8 rc8, .slice ka8 kn8 kc8, .int .i64 dk, .slice d1a d1n d1c, .slice d2a d2n d2c, .slice d3a d3n d3c, .slice ra rn rc, .slice sa sn sc, .slice aa an ac, .slice ba bn bc] rfl rfl HN8.out (one13 (cs := #[.int .i64 kd, .int .i64 k8, .slice na8 nn8 nc8, .slice ra8 rn8 rc8, .slice ka8 kn8 kc8, .int .i64 dk, .slice d1a d1n d1c, .slice d2a d2n d2c, .slice d3a d3n d3c, .slice ra rn rc, .slice sa sn sc, .slice aa an ac, .slice ba bn bc]) (by simp [Value.oneCell'])) (by unfold maxLen; omega) (by omega) hbs ?_; intro v9 w9 hown hgrow hnil hat; obtain ⟨g1, cap1, rfl⟩ : ∃ g1 cap1, v9 = .slice (some ⟨g1, 0, none⟩) (m + 1) cap1 := ownsK_some hown; have HK9 : Hid (W8.grownBy w9 (Value.slice va m vc).ownBlock ∧ ((Value.slice va m vc).ownBlock = some g1 ∨ W8.heap.size ≤ g1)) := ⟨hgrow, atK hat⟩; obtain ⟨hI9, y0, yf0⟩ := HI8.out.push HX8.out rfl ⟨HLo.out.1, HG8.out, .inl HLo.out.2⟩ HGo.out hown hgrow HK9.out.2; have HI9 : Hid (KbI B a n cap zs hi w p (w.heap.size + 1) (w9.setCell ⟨p, 0, none⟩ (.slice (some ⟨g1, 0, none⟩) (m + 1) cap1)) (.slice (some ⟨g1, 0, none⟩) (m + 1) cap1) (m + 1) (vs ++ [.int .i64 kd, .int .i64 k8, .slice na8 nn8 nc8, .slice ra8 rn8 rc8, .slice ka8 kn8 kc8, .int .i64 dk, .slice d1a d1n d1c, .slice d2a d2n d2c, .slice d3a d3n d3c, .slice ra rn rc, .slice sa sn sc, .slice aa an ac, .slice ba bn bc])) := hI9; clear hI9 hown hgrow hat hnil z0 zf0)
        refine Code.wp_nameK (fun wE hwE => ?_)
        rw [← hwE] at HI9
        clear hwE y0 yf0

        obtain ⟨z0, zf0⟩ := HI9.out.cell
        obtain ⟨hF, e0⟩ := HI9.out.fin (M := 9) (by omega)
        have HF : Hid _ := hF
        have hu0 : wE.cell? ⟨w.heap.size, 0, none⟩ = some (.slice none 0 0) ∧ wE.frozen? ⟨w.heap.size, 0, none⟩ = false := by
          have := HI9.out.dg.box
          constructor
          · simp [World.cell?, this]
          · simp [World.frozen?, this]
        obtain ⟨u0, uf0⟩ := hu0
        clear hF
        go_wp2
        refine bodyPost_ret (v := .agg #[.slice (some ⟨g1, 0, none⟩) (m + 1) cap1]) (by simp [results, Tryz.results45, go_sem, e0]) rfl ?_
        exact HF.out
      · have e1b : (z == 1) = false := by simpa using e1
        by_cases e2 : z = 2
        · subst e2
          obtain ⟨W6, HW6⟩ : ∃ W, Hid (W = w6.alloc (.cells #[.string { data := #[] }, .string { data := #[113] }, .string { data := #[82] }] 9)) := ⟨_, rfl⟩
          have hb6 : Below w6.heap.size w6 W6 := by rw [HW6.out]; exact (Below.refl _ _).alloc (Nat.le_refl _) _
          have hs6 : w6.heap.size < W6.heap.size := by rw [HW6.out]; simp
          have HWs : Hid (∀ i : Nat, i < 3 → ∃ s : ByteArray, W6.cell? ⟨w6.heap.size, i, none⟩ = some (.string s) ∧ s.size ≤ 1) := by
            intro i hi
            rw [HW6.out]
            match i, hi with
            | 0, _ | 1, _ | 2, _ => exact ⟨_, by simp; rfl, by decide⟩
          have HC6 : Hid (Cur W6 B a n cap zs hi ∧ Bt B w3.heap.size w3 W6) := ⟨(HI6.out.dg.below hB hb6).cur, HT6.out.trans (Bt.of_below (hb6.mono HT6.out.size))⟩
          have HQ6 : Hid (W6.heap[q]? = some (.cells #[.int .i64 kd, .int .i64 ck, .slice c1a c1n c1c, .slice c2a c2n c2c, .slice c3a c3n c3c, .int .i64 dk, .slice d1a d1n d1c, .slice d2a d2n d2c, .slice d3a d3n d3c, .slice ra rn rc, .slice sa sn sc, .slice aa an ac, .slice ba bn bc] 49 (0, 0)) ∧ AxI lo w4.heap.size W6 kd (.agg #[.int .i64 kd, .int .i64 ck, .slice c1a c1n c1c, .slice c2a c2n c2c, .slice c3a c3n c3c, .int .i64 dk, .slice d1a d1n d1c, .slice d2a d2n d2c, .slice d3a d3n d3c, .slice ra rn rc, .slice sa sn sc, .slice aa an ac, .slice ba bn bc])) := ⟨(hb6.block q hq6).trans HX6.out.1, HX6.out.2.same (Same.of_below hb6 (by omega))⟩
          clear hb6
          go_wp2_with fail
          rw [← HW6.out]
          refine (l1Below_any HC6.out.1 3 (by omega)).mono ?_
          rintro e w7 ⟨x, rfl, ⟨hx0, hx1⟩, hc7, ho7⟩
          obtain ⟨j, hj⟩ : ∃ j : Nat, x = (j : Int) := ⟨x.toNat, by omega⟩
          subst hj
          obtain ⟨s, hsc, hss⟩ := HWs.out j (by omega)
          have hsc7 : w7.cell? ⟨w6.heap.size, j, none⟩ = some (.string s) := (World.cell?_of_block (w := W6) (ho7.other w6.heap.size hs6 (by omega))).trans hsc
          obtain ⟨W7, HW7⟩ : ∃ W, Hid (W = Lib.bytesWorld w7 5 s) := ⟨_, rfl⟩
          obtain ⟨cp, HCP⟩ : ∃ cp, Hid (cp = grownCap w7 s.size 0 5) := ⟨_, rfl⟩
          have hcv : (convert 9 22 (.string s)).run Tryz.prog w7 = .ok (.slice (some ⟨w7.heap.size, 0, none⟩) s.size cp) W7 := by
            rw [HW7.out, HCP.out]
            exact Lib.run_convert_string_bytes w7 9 22 5 s Tryz.underlying9 Tryz.underlying22 Tryz.underlying5
          have hb7 : Below w7.heap.size w7 W7 := by rw [HW7.out]; exact bytes_below w7 5 s
          have hq7 : q < w7.heap.size := by have := ho7.below.size; omega
          have hs7 := hb7.size
          have hsw7 := ho7.below.size
          have hB7 : B < w6.heap.size := by omega
          have HC7 : Hid (Cur W7 B a n cap zs hi ∧ Bt B w3.heap.size w3 W7) := ⟨hc7.of (hb7.mono hc7.lt), (HC6.out.2.trans (ho7.bt.mono HC6.out.2.size)).trans (Bt.of_below (hb7.mono (Nat.le_trans HC6.out.2.size hsw7)))⟩
          have HQ7 : Hid (W7.heap[q]? = some (.cells #[.int .i64 kd, .int .i64 ck, .slice c1a c1n c1c, .slice c2a c2n c2c, .slice c3a c3n c3c, .int .i64 dk, .slice d1a d1n d1c, .slice d2a d2n d2c, .slice d3a d3n d3c, .slice ra rn rc, .slice sa sn sc, .slice aa an ac, .slice ba bn bc] 49 (0, 0)) ∧ AxI lo w4.heap.size W7 kd (.agg #[.int .i64 kd, .int .i64 ck, .slice c1a c1n c1c, .slice c2a c2n c2c, .slice c3a c3n c3c, .int .i64 dk, .slice d1a d1n d1c, .slice d2a d2n d2c, .slice d3a d3n d3c, .slice ra rn rc, .slice sa sn sc, .slice aa an ac, .slice ba bn bc])) := ⟨(hb7.block q hq7).trans ((ho7.other q (by omega) (by omega)).trans HQ6.out.1), (HQ6.out.2.same (fun b h1 h2 => ho7.other b (by omega) (by omega))).same (Same.of_below hb7 (by omega))⟩
          have HRd : Hid (Rd w7.heap.size W7.heap.size W7 (some ⟨w7.heap.size, 0, none⟩) s.size cp (numsOf s)) := by unfold Hid; rw [HW7.out, HCP.out]; exact bw_rd w7 s (by omega)
          have hji : (j : Int) < 3 := by omega
          have hc0 : W7.cell? ⟨q, 9, none⟩ = some (.slice ra rn rc) ∧ W7.frozen? ⟨q, 9, none⟩ = false := by
            have hh := HQ7.out.1
            constructor
            · simp [World.cell?, hh]
            · simp [World.frozen?, hh]
          obtain ⟨c0, cf0⟩ := hc0
          clear hsc hc7 ho7 hb7 hx0 hx1
          go_upto_region 15 with fail
          refine Code.wp_nameK (fun wX hwX => ?_)
          have hsX : wX.heap.size = W7.heap.size := by rw [hwX]; simp
          have hoX : ∀ b, b ≠ q → wX.heap[b]? = W7.heap[b]? := fun b hb => by rw [hwX]; exact Below.heap_setCell _ _ _ _ (by show b ≠ q; exact hb)
          have hqX : wX.heap[q]? = some (.cells #[.int .i64 kd, .int .i64 ck, .slice c1a c1n c1c, .slice c2a c2n c2c, .slice c3a c3n c3c, .int .i64 dk, .slice d1a d1n d1c, .slice d2a d2n d2c, .slice d3a d3n d3c, .slice (some ⟨w7.heap.size, 0, none⟩) s.size cp, .slice sa sn sc, .slice aa an ac, .slice ba bn bc] 49 (0, 0)) := by rw [hwX]; exact heap_setCell_same W7 q 9 _ _ _ HQ7.out.1
          have hcX : Cur wX B a n cap zs hi := HC7.out.1.keepB (fun b hb => hoX b (by omega))
          have hbX : Bt B w3.heap.size w3 wX := by rw [hwX]; exact HC7.out.2.set (.inl (by show w3.heap.size ≤ q; omega)) _
          have haX : AxI lo wX.heap.size wX kd (.agg #[.int .i64 kd, .int .i64 ck, .slice c1a c1n c1c, .slice c2a c2n c2c, .slice c3a c3n c3c, .int .i64 dk, .slice d1a d1n d1c, .slice d2a d2n d2c, .slice d3a d3n d3c, .slice (some ⟨w7.heap.size, 0, none⟩) s.size cp, .slice sa sn sc, .slice aa an ac, .slice ba bn bc]) := by
            obtain ⟨c0', c1', c2', c3', d0', d1', d2', d3', ra', rn', rc', sa', sn', sc', aa', an', ac', ba', bn', bc', xx, e, hk, hr, hm'⟩ := HQ7.out.2
            simp only [Value.agg.injEq, Array.mk.injEq, List.cons.injEq, and_true, Value.slice.injEq] at e
            obtain ⟨_, rfl, rfl, rfl, rfl, rfl, rfl, rfl, rfl, ⟨rfl, rfl, rfl⟩, ⟨rfl, rfl, rfl⟩, ⟨rfl, rfl, rfl⟩, rfl, rfl, rfl⟩ := e
            have hsm : Same lo w4.heap.size W7 wX := fun b _ h2 => hoX b (by omega)
            have hsn : Same w7.heap.size W7.heap.size W7 wX := fun b h1 _ => hoX b (by omega)
            obtain ⟨m1, m2, m3, m4, m5, m6⟩ := hm'
            exact ⟨_, _, _, _, _, _, _, _, _, _, _, _, _, _, _, _, _, _, _, _, ⟨xx.kind, xx.c, xx.d, numsOf s, xx.s, xx.a, xx.b⟩, rfl, hk, ⟨RdC.mono (Nat.le_refl _) (by omega) (RdC.same hsm hr.c), RdC.mono (Nat.le_refl _) (by omega) (RdC.same hsm hr.d), (HRd.out.same hsn).mono (by omega) (by omega), (hr.s.same hsm).mono (Nat.le_refl _) (by omega), (hr.a.same hsm).mono (Nat.le_refl _) (by omega), (hr.b.same hsm).mono (Nat.le_refl _) (by omega)⟩, m1, m2, by rw [numsOf_len]; exact hss, m4, m5, m6⟩
          clear hwX c0 cf0 hcv hsc7
          obtain ⟨fa, hfa⟩ : ∃ x : Option Addr, x = some ⟨w7.heap.size, 0, none⟩ := ⟨_, rfl⟩
          obtain ⟨fn, hfn⟩ : ∃ x, x = s.size := ⟨_, rfl⟩
          rw [← hfa, ← hfn] at hqX haX
          clear hfa hfn

          obtain ⟨hi1, hhi⟩ : ∃ h, h = wX.heap.size := ⟨_, rfl⟩
          have HIX : Hid (KbI B a n cap zs hi w p (w.heap.size + 1) wX (.slice va m vc) m vs) := HI3.out.next hcX hbX
          have HXX : Hid (wX.heap[q]? = some (.cells #[.int .i64 kd, .int .i64 ck, .slice c1a c1n c1c, .slice c2a c2n c2c, .slice c3a c3n c3c, .int .i64 dk, .slice d1a d1n d1c, .slice d2a d2n d2c, .slice d3a d3n d3c, .slice fa fn cp, .slice sa sn sc, .slice aa an ac, .slice ba bn bc] 49 (0, 0)) ∧ AxI lo hi1 wX kd (.agg #[.int .i64 kd, .int .i64 ck, .slice c1a c1n c1c, .slice c2a c2n c2c, .slice c3a c3n c3c, .int .i64 dk, .slice d1a d1n d1c, .slice d2a d2n d2c, .slice d3a d3n d3c, .slice fa fn cp, .slice sa sn sc, .slice aa an ac, .slice ba bn bc]) ∧ hi1 ≤ wX.heap.size) := ⟨hqX, by rw [hhi]; exact haX, by omega⟩
          have HGo : Hid (∀ g, (Value.slice va m vc).ownBlock = some g → g < lo ∨ hi1 ≤ g) := fun g e => .inl (HGo0.out g e)
          clear hcX hbX hqX haX hhi hsX hoX

          obtain ⟨z0, zf0⟩ := HIX.out.cell
          have hpV : p < wX.heap.size := HIX.out.plt
          have hqV : q < wX.heap.size := (Array.getElem?_eq_some_iff.1 HXX.out.1).1
          have hxs : wX.cell? ⟨q, 0, none⟩ = some (.int .i64 kd) ∧ wX.cell? ⟨q, 1, none⟩ = some (.int .i64 ck) ∧ wX.cell? ⟨q, 2, none⟩ = some (.slice c1a c1n c1c) ∧ wX.cell? ⟨q, 3, none⟩ = some (.slice c2a c2n c2c) ∧ wX.cell? ⟨q, 4, none⟩ = some (.slice c3a c3n c3c) ∧ wX.cell? ⟨q, 5, none⟩ = some (.int .i64 dk) ∧ wX.cell? ⟨q, 6, none⟩ = some (.slice d1a d1n d1c) ∧ wX.cell? ⟨q, 7, none⟩ = some (.slice d2a d2n d2c) ∧ wX.cell? ⟨q, 8, none⟩ = some (.slice d3a d3n d3c) ∧ wX.cell? ⟨q, 9, none⟩ = some (.slice fa fn cp) ∧ wX.cell? ⟨q, 10, none⟩ = some (.slice sa sn sc) ∧ wX.cell? ⟨q, 11, none⟩ = some (.slice aa an ac) ∧ wX.cell? ⟨q, 12, none⟩ = some (.slice ba bn bc) := by
            have hh := HXX.out.1
            refine ⟨?_, ?_, ?_, ?_, ?_, ?_, ?_, ?_, ?_, ?_, ?_, ?_, ?_⟩ <;> simp [World.cell?, hh]
          obtain ⟨x0, x1, x2, x3, x4, x5, x6, x7, x8, x9, x10, x11, x12⟩ := hxs
          obtain ⟨W8, HW8⟩ : ∃ W, Hid (W = wX.alloc (.cells #[.int .i64 kd, .int .i64 ck, .slice c1a c1n c1c, .slice c2a c2n c2c, .slice c3a c3n c3c, .int .i64 dk, .slice d1a d1n d1c, .slice d2a d2n d2c, .slice d3a d3n d3c, .slice fa fn cp, .slice sa sn sc, .slice aa an ac, .slice ba bn bc] 49)) := ⟨_, rfl⟩
          have hb8 : Below wX.heap.size wX W8 := by rw [HW8.out]; exact (Below.refl _ _).alloc (Nat.le_refl _) _
          have HI8 : Hid (KbI B a n cap zs hi w p (w.heap.size + 1) W8 (.slice va m vc) m vs) := HIX.out.below hb8
          have HX8 : Hid (AxI lo hi1 W8 kd (.agg #[.int .i64 kd, .int .i64 ck, .slice c1a c1n c1c, .slice c2a c2n c2c, .slice c3a c3n c3c, .int .i64 dk, .slice d1a d1n d1c, .slice d2a d2n d2c, .slice d3a d3n d3c, .slice fa fn cp, .slice sa sn sc, .slice aa an ac, .slice ba bn bc])) := HXX.out.2.1.same (Same.of_below hb8 HXX.out.2.2)
          have HN8 : Hid (∀ j u, [.int .i64 kd, .int .i64 ck, .slice c1a c1n c1c, .slice c2a c2n c2c, .slice c3a c3n c3c, .int .i64 dk, .slice d1a d1n d1c, .slice d2a d2n d2c, .slice d3a d3n d3c, .slice fa fn cp, .slice sa sn sc, .slice aa an ac, .slice ba bn bc][j]? = some u → W8.cell? ((⟨wX.heap.size, 0, none⟩ : Addr).add j) = some u) := by unfold Hid; rw [HW8.out]; exact new13 wX #[.int .i64 kd, .int .i64 ck, .slice c1a c1n c1c, .slice c2a c2n c2c, .slice c3a c3n c3c, .int .i64 dk, .slice d1a d1n d1c, .slice d2a d2n d2c, .slice d3a d3n d3c, .slice fa fn cp, .slice sa sn sc, .slice aa an ac, .slice ba bn bc] 49
          have hs8 : wX.heap.size ≤ W8.heap.size := hb8.size
          have hbs : w.heap.size + 1 ≤ W8.heap.size := by have := HIX.out.lt; omega
          have HG8 : Hid (hi1 ≤ W8.heap.size) := Nat.le_trans HXX.out.2.2 hs8
          clear hb8
          go_upto_region 16 with (at_builtin; rw [← HW8.out]; refine wpList_append_own_at _ rfl (.tmp 53) (.tmp 55) 40 rfl (w.heap.size + 1) 49 i0 (.agg zeroA) 13 264 Tryz.underlying40 hi0 hz0 hz1 hz2 rfl (by decide) (.slice va m vc) m vs rfl HI8.out.own.1 ⟨wX.heap.size, 0, none⟩ 1 1 [.int .i64 kd, .int .i64 ck, .slice c1a c1n c1c, .slice c2a c2n c2c, .slice c3a c3n c3c, .int .i64 dk, .slice d1a d1n d1c, .slice d2a d2n d2c, .slice d3a d3n d3c, .slice fa fn cp, .slice sa sn sc, .slice aa an ac, .slice ba bn bc] rfl rfl HN8.out (one13 (cs := #[.int .i64 kd, .int .i64 ck, .slice c1a c1n c1c, .slice c2a c2n c2c, .slice c3a c3n c3c, .int .i64 dk, .slice d1a d1n d1c, .slice d2a d2n d2c, .slice d3a d3n d3c, .slice fa fn cp, .slice sa sn sc, .slice aa an ac, .slice ba bn bc]) (by simp [Value.oneCell'])) (by unfold maxLen; omega) (by omega) hbs ?_; intro v9 w9 hown hgrow hnil hat; obtain ⟨g1, cap1, rfl⟩ : ∃ g1 cap1, v9 = .slice (some ⟨g1, 0, none⟩) (m + 1) cap1 := ownsK_some hown; have HK9 : Hid (W8.grownBy w9 (Value.slice va m vc).ownBlock ∧ ((Value.slice va m vc).ownBlock = some g1 ∨ W8.heap.size ≤ g1)) := ⟨hgrow, atK hat⟩; obtain ⟨hI9, y0, yf0⟩ := HI8.out.push HX8.out rfl ⟨HLo.out.1, HG8.out, .inl HLo.out.2⟩ HGo.out hown hgrow HK9.out.2; have HI9 : Hid (KbI B a n cap zs hi w p (w.heap.size + 1) (w9.setCell ⟨p, 0, none⟩ (.slice (some ⟨g1, 0, none⟩) (m + 1) cap1)) (.slice (some ⟨g1, 0, none⟩) (m + 1) cap1) (m + 1) (vs ++ [.int .i64 kd, .int .i64 ck, .slice c1a c1n c1c, .slice c2a c2n c2c, .slice c3a c3n c3c, .int .i64 dk, .slice d1a d1n d1c, .slice d2a d2n d2c, .slice d3a d3n d3c, .slice fa fn cp, .slice sa sn sc, .slice aa an ac, .slice ba bn bc])) := hI9; clear hI9 hown hgrow hat hnil z0 zf0)
          refine Code.wp_nameK (fun wE hwE => ?_)
          rw [← hwE] at HI9
          clear hwE y0 yf0

          obtain ⟨z0, zf0⟩ := HI9.out.cell
          obtain ⟨hF, e0⟩ := HI9.out.fin (M := 9) (by omega)
          have HF : Hid _ := hF
          have hu0 : wE.cell? ⟨w.heap.size, 0, none⟩ = some (.slice none 0 0) ∧ wE.frozen? ⟨w.heap.size, 0, none⟩ = false := by
            have := HI9.out.dg.box
            constructor
            · simp [World.cell?, this]
            · simp [World.frozen?, this]
          obtain ⟨u0, uf0⟩ := hu0
          clear hF
          go_wp2
          refine bodyPost_ret (v := .agg #[.slice (some ⟨g1, 0, none⟩) (m + 1) cap1]) (by simp [results, Tryz.results45, go_sem, e0]) rfl ?_
          exact HF.out
        · have e2b : (z == 2) = false := by simpa using e2
          by_cases e3 : z = 3
          · subst e3
            obtain ⟨W6, HW6⟩ : ∃ W, Hid (W = w6.alloc (.cells #[.string { data := #[] }, .string { data := #[122] }, .string { data := #[119] }] 9)) := ⟨_, rfl⟩
            have hb6 : Below w6.heap.size w6 W6 := by rw [HW6.out]; exact (Below.refl _ _).alloc (Nat.le_refl _) _
            have hs6 : w6.heap.size < W6.heap.size := by rw [HW6.out]; simp
            have HWs : Hid (∀ i : Nat, i < 3 → ∃ s : ByteArray, W6.cell? ⟨w6.heap.size, i, none⟩ = some (.string s) ∧ s.size ≤ 1) := by
              intro i hi
              rw [HW6.out]
              match i, hi with
              | 0, _ | 1, _ | 2, _ => exact ⟨_, by simp; rfl, by decide⟩
            have HC6 : Hid (Cur W6 B a n cap zs hi ∧ Bt B w3.heap.size w3 W6) := ⟨(HI6.out.dg.below hB hb6).cur, HT6.out.trans (Bt.of_below (hb6.mono HT6.out.size))⟩
            have HQ6 : Hid (W6.heap[q]? = some (.cells #[.int .i64 kd, .int .i64 ck, .slice c1a c1n c1c, .slice c2a c2n c2c, .slice c3a c3n c3c, .int .i64 dk, .slice d1a d1n d1c, .slice d2a d2n d2c, .slice d3a d3n d3c, .slice ra rn rc, .slice sa sn sc, .slice aa an ac, .slice ba bn bc] 49 (0, 0)) ∧ AxI lo w4.heap.size W6 kd (.agg #[.int .i64 kd, .int .i64 ck, .slice c1a c1n c1c, .slice c2a c2n c2c, .slice c3a c3n c3c, .int .i64 dk, .slice d1a d1n d1c, .slice d2a d2n d2c, .slice d3a d3n d3c, .slice ra rn rc, .slice sa sn sc, .slice aa an ac, .slice ba bn bc])) := ⟨(hb6.block q hq6).trans HX6.out.1, HX6.out.2.same (Same.of_below hb6 (by omega))⟩
            clear hb6
            go_wp2_with fail
            rw [← HW6.out]
            refine (l1Below_any HC6.out.1 3 (by omega)).mono ?_
            rintro e w7 ⟨x, rfl, ⟨hx0, hx1⟩, hc7, ho7⟩
            obtain ⟨j, hj⟩ : ∃ j : Nat, x = (j : Int) := ⟨x.toNat, by omega⟩
            subst hj
            obtain ⟨s, hsc, hss⟩ := HWs.out j (by omega)
            have hsc7 : w7.cell? ⟨w6.heap.size, j, none⟩ = some (.string s) := (World.cell?_of_block (w := W6) (ho7.other w6.heap.size hs6 (by omega))).trans hsc
            obtain ⟨W7, HW7⟩ : ∃ W, Hid (W = Lib.bytesWorld w7 5 s) := ⟨_, rfl⟩
            obtain ⟨cp, HCP⟩ : ∃ cp, Hid (cp = grownCap w7 s.size 0 5) := ⟨_, rfl⟩
            have hcv : (convert 9 22 (.string s)).run Tryz.prog w7 = .ok (.slice (some ⟨w7.heap.size, 0, none⟩) s.size cp) W7 := by
              rw [HW7.out, HCP.out]
              exact Lib.run_convert_string_bytes w7 9 22 5 s Tryz.underlying9 Tryz.underlying22 Tryz.underlying5
            have hb7 : Below w7.heap.size w7 W7 := by rw [HW7.out]; exact bytes_below w7 5 s
            have hq7 : q < w7.heap.size := by have := ho7.below.size; omega
            have hs7 := hb7.size
            have hsw7 := ho7.below.size
            have hB7 : B < w6.heap.size := by omega
            have HC7 : Hid (Cur W7 B a n cap zs hi ∧ Bt B w3.heap.size w3 W7) := ⟨hc7.of (hb7.mono hc7.lt), (HC6.out.2.trans (ho7.bt.mono HC6.out.2.size)).trans (Bt.of_below (hb7.mono (Nat.le_trans HC6.out.2.size hsw7)))⟩
            have HQ7 : Hid (W7.heap[q]? = some (.cells #[.int .i64 kd, .int .i64 ck, .slice c1a c1n c1c, .slice c2a c2n c2c, .slice c3a c3n c3c, .int .i64 dk, .slice d1a d1n d1c, .slice d2a d2n d2c, .slice d3a d3n d3c, .slice ra rn rc, .slice sa sn sc, .slice aa an ac, .slice ba bn bc] 49 (0, 0)) ∧ AxI lo w4.heap.size W7 kd (.agg #[.int .i64 kd, .int .i64 ck, .slice c1a c1n c1c, .slice c2a c2n c2c, .slice c3a c3n c3c, .int .i64 dk, .slice d1a d1n d1c, .slice d2a d2n d2c, .slice d3a d3n d3c, .slice ra rn rc, .slice sa sn sc, .slice aa an ac, .slice ba bn bc])) := ⟨(hb7.block q hq7).trans ((ho7.other q (by omega) (by omega)).trans HQ6.out.1), (HQ6.out.2.same (fun b h1 h2 => ho7.other b (by omega) (by omega))).same (Same.of_below hb7 (by omega))⟩
            have HRd : Hid (Rd w7.heap.size W7.heap.size W7 (some ⟨w7.heap.size, 0, none⟩) s.size cp (numsOf s)) := by unfold Hid; rw [HW7.out, HCP.out]; exact bw_rd w7 s (by omega)
            have hji : (j : Int) < 3 := by omega
            have hc0 : W7.cell? ⟨q, 11, none⟩ = some (.slice aa an ac) ∧ W7.frozen? ⟨q, 11, none⟩ = false := by
              have hh := HQ7.out.1
              constructor
              · simp [World.cell?, hh]
              · simp [World.frozen?, hh]
            obtain ⟨c0, cf0⟩ := hc0
            clear hsc hc7 ho7 hb7 hx0 hx1
            go_upto_region 15 with fail
            refine Code.wp_nameK (fun wX hwX => ?_)
            have hsX : wX.heap.size = W7.heap.size := by rw [hwX]; simp
            have hoX : ∀ b, b ≠ q → wX.heap[b]? = W7.heap[b]? := fun b hb => by rw [hwX]; exact Below.heap_setCell _ _ _ _ (by show b ≠ q; exact hb)
            have hqX : wX.heap[q]? = some (.cells #[.int .i64 kd, .int .i64 ck, .slice c1a c1n c1c, .slice c2a c2n c2c, .slice c3a c3n c3c, .int .i64 dk, .slice d1a d1n d1c, .slice d2a d2n d2c, .slice d3a d3n d3c, .slice ra rn rc, .slice sa sn sc, .slice (some ⟨w7.heap.size, 0, none⟩) s.size cp, .slice ba bn bc] 49 (0, 0)) := by rw [hwX]; exact heap_setCell_same W7 q 11 _ _ _ HQ7.out.1
            have hcX : Cur wX B a n cap zs hi := HC7.out.1.keepB (fun b hb => hoX b (by omega))
            have hbX : Bt B w3.heap.size w3 wX := by rw [hwX]; exact HC7.out.2.set (.inl (by show w3.heap.size ≤ q; omega)) _
            have haX : AxI lo wX.heap.size wX kd (.agg #[.int .i64 kd, .int .i64 ck, .slice c1a c1n c1c, .slice c2a c2n c2c, .slice c3a c3n c3c, .int .i64 dk, .slice d1a d1n d1c, .slice d2a d2n d2c, .slice d3a d3n d3c, .slice ra rn rc, .slice sa sn sc, .slice (some ⟨w7.heap.size, 0, none⟩) s.size cp, .slice ba bn bc]) := by
              obtain ⟨c0', c1', c2', c3', d0', d1', d2', d3', ra', rn', rc', sa', sn', sc', aa', an', ac', ba', bn', bc', xx, e, hk, hr, hm'⟩ := HQ7.out.2
              simp only [Value.agg.injEq, Array.mk.injEq, List.cons.injEq, and_true, Value.slice.injEq] at e
              obtain ⟨_, rfl, rfl, rfl, rfl, rfl, rfl, rfl, rfl, ⟨rfl, rfl, rfl⟩, ⟨rfl, rfl, rfl⟩, ⟨rfl, rfl, rfl⟩, rfl, rfl, rfl⟩ := e
              have hsm : Same lo w4.heap.size W7 wX := fun b _ h2 => hoX b (by omega)
              have hsn : Same w7.heap.size W7.heap.size W7 wX := fun b h1 _ => hoX b (by omega)
              obtain ⟨m1, m2, m3, m4, m5, m6⟩ := hm'
              exact ⟨_, _, _, _, _, _, _, _, _, _, _, _, _, _, _, _, _, _, _, _, ⟨xx.kind, xx.c, xx.d, xx.r, xx.s, numsOf s, xx.b⟩, rfl, hk, ⟨RdC.mono (Nat.le_refl _) (by omega) (RdC.same hsm hr.c), RdC.mono (Nat.le_refl _) (by omega) (RdC.same hsm hr.d), (hr.r.same hsm).mono (Nat.le_refl _) (by omega), (hr.s.same hsm).mono (Nat.le_refl _) (by omega), (HRd.out.same hsn).mono (by omega) (by omega), (hr.b.same hsm).mono (Nat.le_refl _) (by omega)⟩, m1, m2, m3, m4, by rw [numsOf_len]; exact hss, m6⟩
            clear hwX c0 cf0 hcv hsc7
            obtain ⟨fa, hfa⟩ : ∃ x : Option Addr, x = some ⟨w7.heap.size, 0, none⟩ := ⟨_, rfl⟩
            obtain ⟨fn, hfn⟩ : ∃ x, x = s.size := ⟨_, rfl⟩
            rw [← hfa, ← hfn] at hqX haX
            clear hfa hfn

            obtain ⟨hi1, hhi⟩ : ∃ h, h = wX.heap.size := ⟨_, rfl⟩
            have HIX : Hid (KbI B a n cap zs hi w p (w.heap.size + 1) wX (.slice va m vc) m vs) := HI3.out.next hcX hbX
            have HXX : Hid (wX.heap[q]? = some (.cells #[.int .i64 kd, .int .i64 ck, .slice c1a c1n c1c, .slice c2a c2n c2c, .slice c3a c3n c3c, .int .i64 dk, .slice d1a d1n d1c, .slice d2a d2n d2c, .slice d3a d3n d3c, .slice ra rn rc, .slice sa sn sc, .slice fa fn cp, .slice ba bn bc] 49 (0, 0)) ∧ AxI lo hi1 wX kd (.agg #[.int .i64 kd, .int .i64 ck, .slice c1a c1n c1c, .slice c2a c2n c2c, .slice c3a c3n c3c, .int .i64 dk, .slice d1a d1n d1c, .slice d2a d2n d2c, .slice d3a d3n d3c, .slice ra rn rc, .slice sa sn sc, .slice fa fn cp, .slice ba bn bc]) ∧ hi1 ≤ wX.heap.size) := ⟨hqX, by rw [hhi]; exact haX, by omega⟩
            have HGo : Hid (∀ g, (Value.slice va m vc).ownBlock = some g → g < lo ∨ hi1 ≤ g) := fun g e => .inl (HGo0.out g e)
            clear hcX hbX hqX haX hhi hsX hoX

            obtain ⟨z0, zf0⟩ := HIX.out.cell
            have hpV : p < wX.heap.size := HIX.out.plt
            have hqV : q < wX.heap.size := (Array.getElem?_eq_some_iff.1 HXX.out.1).1
            have hxs : wX.cell? ⟨q, 0, none⟩ = some (.int .i64 kd) ∧ wX.cell? ⟨q, 1, none⟩ = some (.int .i64 ck) ∧ wX.cell? ⟨q, 2, none⟩ = some (.slice c1a c1n c1c) ∧ wX.cell? ⟨q, 3, none⟩ = some (.slice c2a c2n c2c) ∧ wX.cell? ⟨q, 4, none⟩ = some (.slice c3a c3n c3c) ∧ wX.cell? ⟨q, 5, none⟩ = some (.int .i64 dk) ∧ wX.cell? ⟨q, 6, none⟩ = some (.slice d1a d1n d1c) ∧ wX.cell? ⟨q, 7, none⟩ = some (.slice d2a d2n d2c) ∧ wX.cell? ⟨q, 8, none⟩ = some (.slice d3a d3n d3c) ∧ wX.cell? ⟨q, 9, none⟩ = some (.slice ra rn rc) ∧ wX.cell? ⟨q, 10, none⟩ = some (.slice sa sn sc) ∧ wX.cell? ⟨q, 11, none⟩ = some (.slice fa fn cp) ∧ wX.cell? ⟨q, 12, none⟩ = some (.slice ba bn bc) := by
              have hh := HXX.out.1
              refine ⟨?_, ?_, ?_, ?_, ?_, ?_, ?_, ?_, ?_, ?_, ?_, ?_, ?_⟩ <;> simp [World.cell?, hh]
            obtain ⟨x0, x1, x2, x3, x4, x5, x6, x7, x8, x9, x10, x11, x12⟩ := hxs
            obtain ⟨W8, HW8⟩ : ∃ W, Hid (W = wX.alloc (.cells #[.int .i64 kd, .int .i64 ck, .slice c1a c1n c1c, .slice c2a c2n c2c, .slice c3a c3n c3c, .int .i64 dk, .slice d1a d1n d1c, .slice d2a d2n d2c, .slice d3a d3n d3c, .slice ra rn rc, .slice sa sn sc, .slice fa fn cp, .slice ba bn bc] 49)) := ⟨_, rfl⟩
            have hb8 : Below wX.heap.size wX W8 := by rw [HW8.out]; exact (Below.refl _ _).alloc (Nat.le_refl _) _
            have HI8 : Hid (KbI B a n cap zs hi w p (w.heap.size + 1) W8 (.slice va m vc) m vs) := HIX.out.below hb8
            have HX8 : Hid (AxI lo hi1 W8 kd (.agg #[.int .i64 kd, .int .i64 ck, .slice c1a c1n c1c, .slice c2a c2n c2c, .slice c3a c3n c3c, .int .i64 dk, .slice d1a d1n d1c, .slice d2a d2n d2c, .slice d3a d3n d3c, .slice ra rn rc, .slice sa sn sc, .slice fa fn cp, .slice ba bn bc])) := HXX.out.2.1.same (Same.of_below hb8 HXX.out.2.2)
            have HN8 : Hid (∀ j u, [.int .i64 kd, .int .i64 ck, .slice c1a c1n c1c, .slice c2a c2n c2c, .slice c3a c3n c3c, .int .i64 dk, .slice d1a d1n d1c, .slice d2a d2n d2c, .slice d3a d3n d3c, .slice ra rn rc, .slice sa sn sc, .slice fa fn cp, .slice ba bn bc][j]? = some u → W8.cell? ((⟨wX.heap.size, 0, none⟩ : Addr).add j) = some u) := by unfold Hid; rw [HW8.out]; exact new13 wX #[.int .i64 kd, .int .i64 ck, .slice c1a c1n c1c, .slice c2a c2n c2c, .slice c3a c3n c3c, .int .i64 dk, .slice d1a d1n d1c, .slice d2a d2n d2c, .slice d3a d3n d3c, .slice ra rn rc, .slice sa sn sc, .slice fa fn cp, .slice ba bn bc] 49
            have hs8 : wX.heap.size ≤ W8.heap.size := hb8.size
            have hbs : w.heap.size + 1 ≤ W8.heap.size := by have := HIX.out.lt; omega
            have HG8 : Hid (hi1 ≤ W8.heap.size) := Nat.le_trans HXX.out.2.2 hs8
            clear hb8
            go_upto_region 16 with (at_builtin; rw [← HW8.out]; refine wpList_append_own_at _ rfl (.tmp 53) (.tmp 55) 40 rfl (w.heap.size + 1) 49 i0 (.agg zeroA) 13 264 Tryz.underlying40 hi0 hz0 hz1 hz2 rfl (by decide) (.slice va m vc) m vs rfl HI8.out.own.1 ⟨wX.heap.size, 0, none⟩ 1 1 [.int .i64 kd, .int .i64 ck, .slice c1a c1n c1c, .slice c2a c2n c2c, .slice c3a c3n c3c, .int .i64 dk, .slice d1a d1n d1c, .slice d2a d2n d2c, .slice d3a d3n d3c, .slice ra rn rc, .slice sa sn sc, .slice fa fn cp, .slice ba bn bc] rfl rfl HN8.out (one13 (cs := #[.int .i64 kd, .int .i64 ck, .slice c1a c1n c1c, .slice c2a c2n c2c, .slice c3a c3n c3c, .int .i64 dk, .slice d1a d1n d1c, .slice d2a d2n d2c, .slice d3a d3n d3c, .slice ra rn rc, .slice sa sn sc, .slice fa fn cp, .slice ba bn bc]) (by simp [Value.oneCell'])) (by unfold maxLen; omega) (by omega) hbs ?_; intro v9 w9 hown hgrow hnil hat; obtain ⟨g1, cap1, rfl⟩ : ∃ g1 cap1, v9 = .slice (some ⟨g1, 0, none⟩) (m + 1) cap1 := ownsK_some hown; have HK9 : Hid (W8.grownBy w9 (Value.slice va m vc).ownBlock ∧ ((Value.slice va m vc).ownBlock = some g1 ∨ W8.heap.size ≤ g1)) := ⟨hgrow, atK hat⟩; obtain ⟨hI9, y0, yf0⟩ := HI8.out.push HX8.out rfl ⟨HLo.out.1, HG8.out, .inl HLo.out.2⟩ HGo.out hown hgrow HK9.out.2; have HI9 : Hid (KbI B a n cap zs hi w p (w.heap.size + 1) (w9.setCell ⟨p, 0, none⟩ (.slice (some ⟨g1, 0, none⟩) (m + 1) cap1)) (.slice (some ⟨g1, 0, none⟩) (m + 1) cap1) (m + 1) (vs ++ [.int .i64 kd, .int .i64 ck, .slice c1a c1n c1c, .slice c2a c2n c2c, .slice c3a c3n c3c, .int .i64 dk, .slice d1a d1n d1c, .slice d2a d2n d2c, .slice d3a d3n d3c, .slice ra rn rc, .slice sa sn sc, .slice fa fn cp, .slice ba bn bc])) := hI9; clear hI9 hown hgrow hat hnil z0 zf0)
            refine Code.wp_nameK (fun wE hwE => ?_)
            rw [← hwE] at HI9
            clear hwE y0 yf0

            obtain ⟨z0, zf0⟩ := HI9.out.cell
            obtain ⟨hF, e0⟩ := HI9.out.fin (M := 9) (by omega)
            have HF : Hid _ := hF
            have hu0 : wE.cell? ⟨w.heap.size, 0, none⟩ = some (.slice none 0 0) ∧ wE.frozen? ⟨w.heap.size, 0, none⟩ = false := by
              have := HI9.out.dg.box
              constructor
              · simp [World.cell?, this]
              · simp [World.frozen?, this]
            obtain ⟨u0, uf0⟩ := hu0
            clear hF
            go_wp2
            refine bodyPost_ret (v := .agg #[.slice (some ⟨g1, 0, none⟩) (m + 1) cap1]) (by simp [results, Tryz.results45, go_sem, e0]) rfl ?_
            exact HF.out
          · have e3b : (z == 3) = false := by simpa using e3
            obtain ⟨hi1, hhi⟩ : ∃ h, h = w6.heap.size := ⟨_, rfl⟩
            have HXL : Hid (w6.heap[q]? = some (.cells #[.int .i64 kd, .int .i64 ck, .slice c1a c1n c1c, .slice c2a c2n c2c, .slice c3a c3n c3c, .int .i64 dk, .slice d1a d1n d1c, .slice d2a d2n d2c, .slice d3a d3n d3c, .slice ra rn rc, .slice sa sn sc, .slice aa an ac, .slice ba bn bc] 49 (0, 0)) ∧ AxI lo hi1 w6 kd (.agg #[.int .i64 kd, .int .i64 ck, .slice c1a c1n c1c, .slice c2a c2n c2c, .slice c3a c3n c3c, .int .i64 dk, .slice d1a d1n d1c, .slice d2a d2n d2c, .slice d3a d3n d3c, .slice ra rn rc, .slice sa sn sc, .slice aa an ac, .slice ba bn bc]) ∧ hi1 ≤ w6.heap.size) := ⟨HX6.out.1, HX6.out.2.mono (Nat.le_refl _) (by omega), by omega⟩
            have hq1 : q < hi1 := by omega
            have hloq : lo ≤ q := by omega
            clear hhi
            go_wp2_with fail
            go_loopg [16] 8 (fun g s16 wr => ∃ (va : Option Addr) (m vc : Nat) (vs : List Value), 8 - m ≤ g ∧ m ≤ 8 ∧ KbI B a n cap zs hi w p (w.heap.size + 1) wr (.slice va m vc) m vs ∧ (∀ g, (Value.slice va m vc).ownBlock = some g → g < lo ∨ hi1 ≤ g) ∧ (wr.heap[q]? = some (.cells #[.int .i64 kd, .int .i64 ck, .slice c1a c1n c1c, .slice c2a c2n c2c, .slice c3a c3n c3c, .int .i64 dk, .slice d1a d1n d1c, .slice d2a d2n d2c, .slice d3a d3n d3c, .slice ra rn rc, .slice sa sn sc, .slice aa an ac, .slice ba bn bc] 49 (0, 0)) ∧ AxI lo hi1 wr kd (.agg #[.int .i64 kd, .int .i64 ck, .slice c1a c1n c1c, .slice c2a c2n c2c, .slice c3a c3n c3c, .int .i64 dk, .slice d1a d1n d1c, .slice d2a d2n d2c, .slice d3a d3n d3c, .slice ra rn rc, .slice sa sn sc, .slice aa an ac, .slice ba bn bc]) ∧ hi1 ≤ wr.heap.size))
            case atStart => exact ⟨va, m, vc, vs, by omega, by omega, HI6.out, fun g e => .inl (HGo0.out g e), HXL.out⟩
            case round =>
              obtain ⟨va, m, vc, vs, hgk, hm8, hI, hG, hX⟩ := hrel
              have HIr : Hid (KbI B a n cap zs hi w p (w.heap.size + 1) wr (.slice va m vc) m vs) := hI
              have HGo : Hid (∀ g, (Value.slice va m vc).ownBlock = some g → g < lo ∨ hi1 ≤ g) := hG
              have HXr : Hid (wr.heap[q]? = some (.cells #[.int .i64 kd, .int .i64 ck, .slice c1a c1n c1c, .slice c2a c2n c2c, .slice c3a c3n c3c, .int .i64 dk, .slice d1a d1n d1c, .slice d2a d2n d2c, .slice d3a d3n d3c, .slice ra rn rc, .slice sa sn sc, .slice aa an ac, .slice ba bn bc] 49 (0, 0)) ∧ AxI lo hi1 wr kd (.agg #[.int .i64 kd, .int .i64 ck, .slice c1a c1n c1c, .slice c2a c2n c2c, .slice c3a c3n c3c, .int .i64 dk, .slice d1a d1n d1c, .slice d2a d2n d2c, .slice d3a d3n d3c, .slice ra rn rc, .slice sa sn sc, .slice aa an ac, .slice ba bn bc]) ∧ hi1 ≤ wr.heap.size) := hX
              clear hI hG hX
              by_cases hlt8 : m < 8
              · have hmi : (m : Int) < 8 := by omega
                obtain ⟨z0, zf0⟩ := HIr.out.cell
                have hpV : p < wr.heap.size := HIr.out.plt
                have hqV : q < wr.heap.size := (Array.getElem?_eq_some_iff.1 HXr.out.1).1
                have hxs : wr.cell? ⟨q, 0, none⟩ = some (.int .i64 kd) ∧ wr.cell? ⟨q, 1, none⟩ = some (.int .i64 ck) ∧ wr.cell? ⟨q, 2, none⟩ = some (.slice c1a c1n c1c) ∧ wr.cell? ⟨q, 3, none⟩ = some (.slice c2a c2n c2c) ∧ wr.cell? ⟨q, 4, none⟩ = some (.slice c3a c3n c3c) ∧ wr.cell? ⟨q, 5, none⟩ = some (.int .i64 dk) ∧ wr.cell? ⟨q, 6, none⟩ = some (.slice d1a d1n d1c) ∧ wr.cell? ⟨q, 7, none⟩ = some (.slice d2a d2n d2c) ∧ wr.cell? ⟨q, 8, none⟩ = some (.slice d3a d3n d3c) ∧ wr.cell? ⟨q, 9, none⟩ = some (.slice ra rn rc) ∧ wr.cell? ⟨q, 10, none⟩ = some (.slice sa sn sc) ∧ wr.cell? ⟨q, 11, none⟩ = some (.slice aa an ac) ∧ wr.cell? ⟨q, 12, none⟩ = some (.slice ba bn bc) := by
                  have hh := HXr.out.1
                  refine ⟨?_, ?_, ?_, ?_, ?_, ?_, ?_, ?_, ?_, ?_, ?_, ?_, ?_⟩ <;> simp [World.cell?, hh]
                obtain ⟨x0, x1, x2, x3, x4, x5, x6, x7, x8, x9, x10, x11, x12⟩ := hxs
                obtain ⟨W8, HW8⟩ : ∃ W, Hid (W = wr.alloc (.cells #[.int .i64 kd, .int .i64 ck, .slice c1a c1n c1c, .slice c2a c2n c2c, .slice c3a c3n c3c, .int .i64 dk, .slice d1a d1n d1c, .slice d2a d2n d2c, .slice d3a d3n d3c, .slice ra rn rc, .slice sa sn sc, .slice aa an ac, .slice ba bn bc] 49)) := ⟨_, rfl⟩
                have hb8 : Below wr.heap.size wr W8 := by rw [HW8.out]; exact (Below.refl _ _).alloc (Nat.le_refl _) _
                have HI8 : Hid (KbI B a n cap zs hi w p (w.heap.size + 1) W8 (.slice va m vc) m vs) := HIr.out.below hb8
                have HX8 : Hid (AxI lo hi1 W8 kd (.agg #[.int .i64 kd, .int .i64 ck, .slice c1a c1n c1c, .slice c2a c2n c2c, .slice c3a c3n c3c, .int .i64 dk, .slice d1a d1n d1c, .slice d2a d2n d2c, .slice d3a d3n d3c, .slice ra rn rc, .slice sa sn sc, .slice aa an ac, .slice ba bn bc])) := HXr.out.2.1.same (Same.of_below hb8 HXr.out.2.2)
                have HN8 : Hid (∀ j u, [.int .i64 kd, .int .i64 ck, .slice c1a c1n c1c, .slice c2a c2n c2c, .slice c3a c3n c3c, .int .i64 dk, .slice d1a d1n d1c, .slice d2a d2n d2c, .slice d3a d3n d3c, .slice ra rn rc, .slice sa sn sc, .slice aa an ac, .slice ba bn bc][j]? = some u → W8.cell? ((⟨wr.heap.size, 0, none⟩ : Addr).add j) = some u) := by unfold Hid; rw [HW8.out]; exact new13 wr #[.int .i64 kd, .int .i64 ck, .slice c1a c1n c1c, .slice c2a c2n c2c, .slice c3a c3n c3c, .int .i64 dk, .slice d1a d1n d1c, .slice d2a d2n d2c, .slice d3a d3n d3c, .slice ra rn rc, .slice sa sn sc, .slice aa an ac, .slice ba bn bc] 49
                have hs8 : wr.heap.size ≤ W8.heap.size := hb8.size
                have hbs : w.heap.size + 1 ≤ W8.heap.size := by have := HIr.out.lt; omega
                have HG8 : Hid (hi1 ≤ W8.heap.size) := Nat.le_trans HXr.out.2.2 hs8
                clear hb8
                go_wp2_with (at_builtin; rw [← HW8.out]; refine wpList_append_own_at _ rfl (.tmp 18) (.tmp 20) 40 rfl (w.heap.size + 1) 49 i0 (.agg zeroA) 13 264 Tryz.underlying40 hi0 hz0 hz1 hz2 rfl (by decide) (.slice va m vc) m vs rfl HI8.out.own.1 ⟨wr.heap.size, 0, none⟩ 1 1 [.int .i64 kd, .int .i64 ck, .slice c1a c1n c1c, .slice c2a c2n c2c, .slice c3a c3n c3c, .int .i64 dk, .slice d1a d1n d1c, .slice d2a d2n d2c, .slice d3a d3n d3c, .slice ra rn rc, .slice sa sn sc, .slice aa an ac, .slice ba bn bc] rfl rfl HN8.out (one13 (cs := #[.int .i64 kd, .int .i64 ck, .slice c1a c1n c1c, .slice c2a c2n c2c, .slice c3a c3n c3c, .int .i64 dk, .slice d1a d1n d1c, .slice d2a d2n d2c, .slice d3a d3n d3c, .slice ra rn rc, .slice sa sn sc, .slice aa an ac, .slice ba bn bc]) (by simp [Value.oneCell'])) (by unfold maxLen; omega) (by omega) hbs ?_; intro v9 w9 hown hgrow hnil hat; obtain ⟨g1, cap1, rfl⟩ : ∃ g1 cap1, v9 = .slice (some ⟨g1, 0, none⟩) (m + 1) cap1 := ownsK_some hown; have HK9 : Hid (W8.grownBy w9 (Value.slice va m vc).ownBlock ∧ ((Value.slice va m vc).ownBlock = some g1 ∨ W8.heap.size ≤ g1)) := ⟨hgrow, atK hat⟩; obtain ⟨hI9, y0, yf0⟩ := HI8.out.push HX8.out rfl ⟨HLo.out.1, HG8.out, .inl HLo.out.2⟩ HGo.out hown hgrow HK9.out.2; have HI9 : Hid (KbI B a n cap zs hi w p (w.heap.size + 1) (w9.setCell ⟨p, 0, none⟩ (.slice (some ⟨g1, 0, none⟩) (m + 1) cap1)) (.slice (some ⟨g1, 0, none⟩) (m + 1) cap1) (m + 1) (vs ++ [.int .i64 kd, .int .i64 ck, .slice c1a c1n c1c, .slice c2a c2n c2c, .slice c3a c3n c3c, .int .i64 dk, .slice d1a d1n d1c, .slice d2a d2n d2c, .slice d3a d3n d3c, .slice ra rn rc, .slice sa sn sc, .slice aa an ac, .slice ba bn bc])) := hI9; clear hI9 hown hgrow hat hnil z0 zf0)
                go_roundg (8 - (m + 1))
                case measure => omega
                case rel =>
                  have hgo : ∀ g, (Value.slice va m vc).ownBlock = some g → g < lo ∨ hi1 ≤ g := HGo.out
                  have hsm : Same lo hi1 W8 (w9.setCell ⟨p, 0, none⟩ (.slice (some ⟨g1, 0, none⟩) (m + 1) cap1)) := fun b h1 h2 => by
                    rw [Below.heap_setCell _ _ _ b (by show b ≠ p; have := HLo.out; omega)]
                    have := HG8.out
                    exact HK9.out.1.block b (by omega) (fun e => by have := hgo b e.symm; omega)
                  have hqs : (w9.setCell ⟨p, 0, none⟩ (.slice (some ⟨g1, 0, none⟩) (m + 1) cap1)).heap[q]? = some (.cells #[.int .i64 kd, .int .i64 ck, .slice c1a c1n c1c, .slice c2a c2n c2c, .slice c3a c3n c3c, .int .i64 dk, .slice d1a d1n d1c, .slice d2a d2n d2c, .slice d3a d3n d3c, .slice ra rn rc, .slice sa sn sc, .slice aa an ac, .slice ba bn bc] 49 (0, 0)) := by
                    rw [hsm q hloq hq1, HW8.out, Below.heap_alloc _ _ _ hqV]
                    exact HXr.out.1
                  have hng : ∀ g, (Value.slice (some ⟨g1, 0, none⟩) (m + 1) cap1).ownBlock = some g → g < lo ∨ hi1 ≤ g := by
                    intro g e
                    have e1 : g1 = g := by simpa [Value.ownBlock] using e
                    subst e1
                    have := HG8.out
                    rcases HK9.out.2 with h | h
                    · exact hgo _ h
                    · exact .inr (by omega)
                  have hsz9 : hi1 ≤ (w9.setCell ⟨p, 0, none⟩ (.slice (some ⟨g1, 0, none⟩) (m + 1) cap1)).heap.size := by
                    have h1 := HG8.out
                    have h2 := HK9.out.1.size
                    simp
                    omega
                  first
                  | exact ⟨_, m + 1, _, _, by omega, by omega, HI9.out, hng, hqs, HX8.out.same hsm, hsz9⟩
                  | ((repeat apply Exists.intro); exact ⟨⟨by omega, by omega, HI9.out, hng, hqs, HX8.out.same hsm, hsz9⟩, rfl⟩)
              · have hmi : ¬ (m : Int) < 8 := by omega
                obtain ⟨z0, zf0⟩ := HIr.out.cell
                have hpV : p < wr.heap.size := HIr.out.plt
                have hqV : q < wr.heap.size := (Array.getElem?_eq_some_iff.1 HXr.out.1).1
                have hxs : wr.cell? ⟨q, 0, none⟩ = some (.int .i64 kd) ∧ wr.cell? ⟨q, 1, none⟩ = some (.int .i64 ck) ∧ wr.cell? ⟨q, 2, none⟩ = some (.slice c1a c1n c1c) ∧ wr.cell? ⟨q, 3, none⟩ = some (.slice c2a c2n c2c) ∧ wr.cell? ⟨q, 4, none⟩ = some (.slice c3a c3n c3c) ∧ wr.cell? ⟨q, 5, none⟩ = some (.int .i64 dk) ∧ wr.cell? ⟨q, 6, none⟩ = some (.slice d1a d1n d1c) ∧ wr.cell? ⟨q, 7, none⟩ = some (.slice d2a d2n d2c) ∧ wr.cell? ⟨q, 8, none⟩ = some (.slice d3a d3n d3c) ∧ wr.cell? ⟨q, 9, none⟩ = some (.slice ra rn rc) ∧ wr.cell? ⟨q, 10, none⟩ = some (.slice sa sn sc) ∧ wr.cell? ⟨q, 11, none⟩ = some (.slice aa an ac) ∧ wr.cell? ⟨q, 12, none⟩ = some (.slice ba bn bc) := by
                  have hh := HXr.out.1
                  refine ⟨?_, ?_, ?_, ?_, ?_, ?_, ?_, ?_, ?_, ?_, ?_, ?_, ?_⟩ <;> simp [World.cell?, hh]
                obtain ⟨x0, x1, x2, x3, x4, x5, x6, x7, x8, x9, x10, x11, x12⟩ := hxs
                obtain ⟨W8, HW8⟩ : ∃ W, Hid (W = wr.alloc (.cells #[.int .i64 kd, .int .i64 ck, .slice c1a c1n c1c, .slice c2a c2n c2c, .slice c3a c3n c3c, .int .i64 dk, .slice d1a d1n d1c, .slice d2a d2n d2c, .slice d3a d3n d3c, .slice ra rn rc, .slice sa sn sc, .slice aa an ac, .slice ba bn bc] 49)) := ⟨_, rfl⟩
                have hb8 : Below wr.heap.size wr W8 := by rw [HW8.out]; exact (Below.refl _ _).alloc (Nat.le_refl _) _
                have HI8 : Hid (KbI B a n cap zs hi w p (w.heap.size + 1) W8 (.slice va m vc) m vs) := HIr.out.below hb8
                have HX8 : Hid (AxI lo hi1 W8 kd (.agg #[.int .i64 kd, .int .i64 ck, .slice c1a c1n c1c, .slice c2a c2n c2c, .slice c3a c3n c3c, .int .i64 dk, .slice d1a d1n d1c, .slice d2a d2n d2c, .slice d3a d3n d3c, .slice ra rn rc, .slice sa sn sc, .slice aa an ac, .slice ba bn bc])) := HXr.out.2.1.same (Same.of_below hb8 HXr.out.2.2)
                have HN8 : Hid (∀ j u, [.int .i64 kd, .int .i64 ck, .slice c1a c1n c1c, .slice c2a c2n c2c, .slice c3a c3n c3c, .int .i64 dk, .slice d1a d1n d1c, .slice d2a d2n d2c, .slice d3a d3n d3c, .slice ra rn rc, .slice sa sn sc, .slice aa an ac, .slice ba bn bc][j]? = some u → W8.cell? ((⟨wr.heap.size, 0, none⟩ : Addr).add j) = some u) := by unfold Hid; rw [HW8.out]; exact new13 wr #[.int .i64 kd, .int .i64 ck, .slice c1a c1n c1c, .slice c2a c2n c2c, .slice c3a c3n c3c, .int .i64 dk, .slice d1a d1n d1c, .slice d2a d2n d2c, .slice d3a d3n d3c, .slice ra rn rc, .slice sa sn sc, .slice aa an ac, .slice ba bn bc] 49
                have hs8 : wr.heap.size ≤ W8.heap.size := hb8.size
                have hbs : w.heap.size + 1 ≤ W8.heap.size := by have := HIr.out.lt; omega
                have HG8 : Hid (hi1 ≤ W8.heap.size) := Nat.le_trans HXr.out.2.2 hs8
                clear hb8
                go_upto_region 16 with (at_builtin; rw [← HW8.out]; refine wpList_append_own_at _ rfl (.tmp 53) (.tmp 55) 40 rfl (w.heap.size + 1) 49 i0 (.agg zeroA) 13 264 Tryz.underlying40 hi0 hz0 hz1 hz2 rfl (by decide) (.slice va m vc) m vs rfl HI8.out.own.1 ⟨wr.heap.size, 0, none⟩ 1 1 [.int .i64 kd, .int .i64 ck, .slice c1a c1n c1c, .slice c2a c2n c2c, .slice c3a c3n c3c, .int .i64 dk, .slice d1a d1n d1c, .slice d2a d2n d2c, .slice d3a d3n d3c, .slice ra rn rc, .slice sa sn sc, .slice aa an ac, .slice ba bn bc] rfl rfl HN8.out (one13 (cs := #[.int .i64 kd, .int .i64 ck, .slice c1a c1n c1c, .slice c2a c2n c2c, .slice c3a c3n c3c, .int .i64 dk, .slice d1a d1n d1c, .slice d2a d2n d2c, .slice d3a d3n d3c, .slice ra rn rc, .slice sa sn sc, .slice aa an ac, .slice ba bn bc]) (by simp [Value.oneCell'])) (by unfold maxLen; omega) (by omega) hbs ?_; intro v9 w9 hown hgrow hnil hat; obtain ⟨g1, cap1, rfl⟩ : ∃ g1 cap1, v9 = .slice (some ⟨g1, 0, none⟩) (m + 1) cap1 := ownsK_some hown; have HK9 : Hid (W8.grownBy w9 (Value.slice va m vc).ownBlock ∧ ((Value.slice va m vc).ownBlock = some g1 ∨ W8.heap.size ≤ g1)) := ⟨hgrow, atK hat⟩; obtain ⟨hI9, y0, yf0⟩ := HI8.out.push HX8.out rfl ⟨HLo.out.1, HG8.out, .inl HLo.out.2⟩ HGo.out hown hgrow HK9.out.2; have HI9 : Hid (KbI B a n cap zs hi w p (w.heap.size + 1) (w9.setCell ⟨p, 0, none⟩ (.slice (some ⟨g1, 0, none⟩) (m + 1) cap1)) (.slice (some ⟨g1, 0, none⟩) (m + 1) cap1) (m + 1) (vs ++ [.int .i64 kd, .int .i64 ck, .slice c1a c1n c1c, .slice c2a c2n c2c, .slice c3a c3n c3c, .int .i64 dk, .slice d1a d1n d1c, .slice d2a d2n d2c, .slice d3a d3n d3c, .slice ra rn rc, .slice sa sn sc, .slice aa an ac, .slice ba bn bc])) := hI9; clear hI9 hown hgrow hat hnil z0 zf0)
                refine Code.wp_nameK (fun wE hwE => ?_)
                rw [← hwE] at HI9
                clear hwE y0 yf0

                obtain ⟨z0, zf0⟩ := HI9.out.cell
                obtain ⟨hF, e0⟩ := HI9.out.fin (M := 9) (by omega)
                have HF : Hid _ := hF
                have hu0 : wE.cell? ⟨w.heap.size, 0, none⟩ = some (.slice none 0 0) ∧ wE.frozen? ⟨w.heap.size, 0, none⟩ = false := by
                  have := HI9.out.dg.box
                  constructor
                  · simp [World.cell?, this]
                  · simp [World.frozen?, this]
                obtain ⟨u0, uf0⟩ := hu0
                clear hF
                go_wp2
                refine bodyPost_ret (v := .agg #[.slice (some ⟨g1, 0, none⟩) (m + 1) cap1]) (by simp [results, Tryz.results45, go_sem, e0]) rfl ?_
                exact HF.out

end Go.Proofs.YtnmljalcndfjmaaGreat
