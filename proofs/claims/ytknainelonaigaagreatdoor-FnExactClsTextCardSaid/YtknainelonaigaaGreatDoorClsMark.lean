/- What is told as clauses, marked: contracts. -/
import Derived.Test.YtknainelonaigaaGreatDoorNLaw
import Derived.Test.YtknainelonaigaaGreatDoorNCon
import Derived.Test.YtknainelonaigaaGreatDoorNMk
namespace Go.Proofs.YtknainelonaigaaGreatDoor
open Go.RowKit

structure ShE (lo hi : Nat) (w : World) (a : Option Addr) (n cap : Nat) : Prop where
  fits : n ≤ cap ∧ cap ≤ 9223372036854775807
  cells : n = 0 ∨ ∃ b off, a = some ⟨b, off, none⟩ ∧ lo ≤ b ∧ b < hi ∧ ∀ i, i < n → (∃ z, w.cell? ⟨b, off + i * 2, none⟩ = some (.int .i64 z)) ∧ ∃ z, w.cell? ⟨b, off + i * 2 + 1, none⟩ = some (.int .i64 z)

theorem RP.she {lo hi : Nat} {w : World} {a : Option Addr} {n cap : Nat} {xs : List (Int × Int)} (h : RP lo hi w a n cap xs) : ShE lo hi w a n cap := by
  refine ⟨h.fits, ?_⟩
  rcases h.cells with h0 | ⟨b, off, e, h1, h2, hc⟩
  · exact .inl h0
  · exact .inr ⟨b, off, e, h1, h2, fun i hi => ⟨⟨_, (hc i hi).1⟩, ⟨_, (hc i hi).2⟩⟩⟩
theorem ShE.mark {lo hi lo' hi' : Nat} {w w' : World} (hm : MarkW lo' hi' w w') {a : Option Addr} {n cap : Nat} (h : ShE lo hi w a n cap) : ShE lo hi w' a n cap := by
  refine ⟨h.fits, ?_⟩
  rcases h.cells with h0 | ⟨b, off, e, h1, h2, hc⟩
  · exact .inl h0
  · refine .inr ⟨b, off, e, h1, h2, fun i hi => ?_⟩
    obtain ⟨⟨z, q1⟩, ⟨z', q2⟩⟩ := hc i hi
    exact ⟨hm.int q1, hm.int q2⟩

set_option maxHeartbeats 1600000 in
theorem markPW_any (a : Option Addr) (n cap : Nat) (k : Int) (w : World) {lo hi : Nat} (h : ShE lo hi w a n cap) (hF : Free lo hi w) (hhi : hi ≤ w.heap.size) (hn : n ≤ 1048576) (hk : 0 ≤ k ∧ k ≤ 2000000000000000000) :
    Calls Tryz.prog 61 #[.slice a n cap, .int .i64 k] w fun e w' => e = .returned (.int .i64 (k + ((2 * n : Nat) : Int))) ∧ MarkW lo hi w w' := by
  obtain ⟨hk0, hk1⟩ := hk
  have hfit := h.fits
  have HR : Hid (ShE lo hi w a n cap) := h
  have HF : Hid (Free lo hi w) := hF
  clear h hF
  go_enter Tryz.func61, Tryz.ntmps61
  go_wp2
  go_loopw [1, 5] (fun q i wr => ∃ j : Nat, j ≤ n ∧ i = .int .i64 j ∧ q = .int .i64 (k + ((2 * j : Nat) : Int)) ∧ MarkW lo hi w wr) (fun _ i _ => n - (intOf i).toNat)
  case atStart => exact ⟨0, Nat.zero_le _, rfl, by simp, MarkW.refl _ _ _⟩
  case round =>
    obtain ⟨j, hj, rfl, rfl, hm⟩ := hrel
    have HM : Hid (MarkW lo hi w wr) := hm
    by_cases hlt : j < n
    · have hji : (j : Int) < (n : Int) := by omega
      have hFr := HF.out.markW hm hhi
      rcases (HR.out.mark hm).cells with h0 | ⟨b, off, rfl, h1, h2, hc⟩
      · omega
      · obtain ⟨⟨y, c0⟩, ⟨y', c1⟩⟩ := hc j hlt
        have f0 := hFr b h1 h2 (off + j * 2)
        have f1 := hFr b h1 h2 (off + j * 2 + 1)
        obtain ⟨z, hz⟩ : ∃ z, z = k + ((2 * j : Nat) : Int) := ⟨_, rfl⟩
        have hm1 := MarkW.setI (lo := lo) (hi := hi) c0 h1 h2 z
        have c1' : (wr.setCell ⟨b, off + j * 2, none⟩ (.int .i64 z)).cell? ⟨b, off + j * 2 + 1, none⟩ = some (.int .i64 y') := (World.cell?_setCell_other wr ⟨b, off + j * 2, none⟩ ⟨b, off + j * 2 + 1, none⟩ (.int .i64 z) (fun e => by simp at e)).trans c1
        have hm2 := MarkW.setI (lo := lo) (hi := hi) c1' h1 h2 (z + 1)
        have HM2 : Hid (MarkW lo hi w ((wr.setCell ⟨b, off + j * 2, none⟩ (.int .i64 z)).setCell ⟨b, off + j * 2 + 1, none⟩ (.int .i64 (z + 1)))) := HM.out.trans (hm1.trans hm2)
        have hw1 : IntKind.i64.wrap (z + 1) = z + 1 := wrap64_id (by omega)
        have hw2 : IntKind.i64.wrap (z + 1 + 1) = z + 1 + 1 := wrap64_id (by omega)
        have HZ : Hid (z + 1 + 1 = k + ((2 * (j + 1) : Nat) : Int)) := by unfold Hid; omega
        rw [← hz]
        clear hm hc hFr hm1 hm2 c1' hz
        go_wp2_with fail
        go_roundw
        case rel => exact ⟨j + 1, by omega, by go_num, by rw [← HZ.out], HM2.out⟩
        case measure => simp [intOf]; omega
    · have hjn : j = n := by omega
      have HE : Hid (j = n) := hjn
      clear hm hjn
      go_wp2_with fail
      go_ret
      exact ⟨ri (by rw [HE.out]), HM.out⟩

/-- Clauses that may be marked. -/
structure ShG (lo hi : Nat) (w : World) (a : Option Addr) (n cap : Nat) : Prop where
  fits : n ≤ cap ∧ cap ≤ 9223372036854775807
  cells : n = 0 ∨ ∃ b off, a = some ⟨b, off, none⟩ ∧ lo ≤ b ∧ b < hi ∧ ∀ j, j < n → (∀ m, m < 11 → m ≠ 8 → ∃ y, w.cell? ⟨b, off + j * 11 + m, none⟩ = some (.int .i64 y)) ∧ ∃ ia im ic, w.cell? ⟨b, off + j * 11 + 8, none⟩ = some (.slice ia im ic) ∧ im ≤ 1048576 ∧ ShE lo hi w ia im ic
theorem RdG.sh {lo hi : Nat} {w : World} {a : Option Addr} {n cap : Nat} {xs : List CL} (h : RdG lo hi w a n cap xs) (hb : ∀ i, i < n → (xs.getD i CL.zero).inds.length ≤ 1048576) : ShG lo hi w a n cap := by
  refine ⟨h.fits, ?_⟩
  rcases h.cells with h0 | ⟨b, off, e, h1, h2, hc⟩
  · exact .inl h0
  · refine .inr ⟨b, off, e, h1, h2, fun j hj => ?_⟩
    obtain ⟨ia, im, ic, q0, q1, q2, q3, q4, q5, q6, q7, q8, q9, q10, hr⟩ := hc j hj
    refine ⟨fun m hm h8 => ?_, ia, im, ic, q8, by have := hb j hj; rw [hr.len] at this; exact this, hr.she⟩
    match m, hm, h8 with
    | 0, _, _ => exact ⟨_, q0⟩
    | 1, _, _ => exact ⟨_, q1⟩
    | 2, _, _ => exact ⟨_, q2⟩
    | 3, _, _ => exact ⟨_, q3⟩
    | 4, _, _ => exact ⟨_, q4⟩
    | 5, _, _ => exact ⟨_, q5⟩
    | 6, _, _ => exact ⟨_, q6⟩
    | 7, _, _ => exact ⟨_, q7⟩
    | 9, _, _ => exact ⟨_, q9⟩
    | 10, _, _ => exact ⟨_, q10⟩
theorem ShG.mark {lo hi lo' hi' : Nat} {w w' : World} (hm : MarkW lo' hi' w w') {a : Option Addr} {n cap : Nat} (h : ShG lo hi w a n cap) : ShG lo hi w' a n cap := by
  refine ⟨h.fits, ?_⟩
  rcases h.cells with h0 | ⟨b, off, e, h1, h2, hc⟩
  · exact .inl h0
  · refine .inr ⟨b, off, e, h1, h2, fun j hj => ?_⟩
    obtain ⟨hi1, ia, im, ic, q8, hl, hr⟩ := hc j hj
    refine ⟨fun m hm' h8 => ?_, ia, im, ic, hm.slice q8, hl, hr.mark hm⟩
    obtain ⟨y, hy⟩ := hi1 m hm' h8
    exact hm.int hy

set_option maxRecDepth 100000 in
set_option maxHeartbeats 8000000 in
theorem markGS_any (a : Option Addr) (n cap : Nat) (k : Int) (w : World) {lo hi : Nat} (h : ShG lo hi w a n cap) (hF : Free lo hi w) (hhi : hi ≤ w.heap.size) (hn : n ≤ 1048576) (hk : 0 ≤ k ∧ k ≤ 90000000000000000) :
    Calls Tryz.prog 32 #[.slice a n cap, .int .i64 k] w fun e w' => ∃ t : Nat, e = .returned (.int .i64 (k + t)) ∧ MarkW lo hi w w' := by
  obtain ⟨hk0, hk1⟩ := hk
  have hfit := h.fits
  have HR : Hid (ShG lo hi w a n cap) := h
  have HF : Hid (Free lo hi w) := hF
  clear h hF
  go_enter Tryz.func32, Tryz.ntmps32
  go_wp2
  go_loopw [1, 5] (fun q i wr => ∃ j : Nat, j ≤ n ∧ i = .int .i64 j ∧ (∃ t : Nat, t ≤ j * 2097163 ∧ q = .int .i64 (k + t)) ∧ MarkW lo hi w wr) (fun _ i _ => n - (intOf i).toNat)
  case atStart => exact ⟨0, Nat.zero_le _, rfl, ⟨0, by omega, by simp⟩, MarkW.refl _ _ _⟩
  case round =>
    obtain ⟨j, hj, rfl, ⟨t, ht, rfl⟩, hm⟩ := hrel
    have HM0 : Hid (MarkW lo hi w wr) := hm
    by_cases hlt : j < n
    · have hji : (j : Int) < (n : Int) := by omega
      rcases HR.out.cells with h0 | ⟨b, off, rfl, h1, h2, hc⟩
      · omega
      · obtain ⟨hint, ia0, im0, ic0, q80, hl0, hr0⟩ := hc j hlt
        have HI : Hid (∀ V, MarkW lo hi w V → ∀ m, m < 11 → m ≠ 8 → (∃ y, V.cell? ⟨b, off + j * 11 + m, none⟩ = some (.int .i64 y)) ∧ V.frozen? ⟨b, off + j * 11 + m, none⟩ = false) := fun V hV m hm' h8 => by
          obtain ⟨y, hy⟩ := hint m hm' h8
          exact ⟨hV.int hy, HF.out.markW hV hhi b h1 h2 _⟩
        have HP : Hid (∀ V, MarkW lo hi w V → ∃ ia im ic, V.cell? ⟨b, off + j * 11 + 8, none⟩ = some (.slice ia im ic) ∧ im ≤ 1048576 ∧ ShE lo hi V ia im ic) := fun V hV => ⟨ia0, im0, ic0, hV.slice q80, hl0, hr0.mark hV⟩
        obtain ⟨x0, hx0⟩ : ∃ x0, x0 = k + (t : Int) := ⟨_, rfl⟩
        have Ix0 : Hid (x0 = k + (t : Int)) := hx0
        have htb : t ≤ 2199034789888 := by omega
        have bx0 : 0 ≤ x0 ∧ x0 ≤ 100000000000000000 := by omega
        rw [← hx0]
        clear hm hc hint q80 hr0 hl0 hx0
        obtain ⟨y0, c0⟩ := (HI.out wr HM0.out 0 (by decide) (by decide)).1
        have f0 := (HI.out wr HM0.out 0 (by decide) (by decide)).2
        simp only [Nat.add_zero] at c0 f0
        obtain ⟨x1, hx1⟩ : ∃ t, t = x0 + 1 := ⟨_, rfl⟩
        have bx1 : 0 ≤ x1 ∧ x1 ≤ 100000000000000001 := by omega
        have ex1 : IntKind.i64.wrap (x0 + 1) = x1 := by rw [hx1]; exact wrap64_id (by omega)
        have HM1 : Hid (MarkW lo hi w (wr.setCell ⟨b, off + j * 11, none⟩ (.int .i64 x0))) := HM0.out.trans (MarkW.setI (lo := lo) (hi := hi) c0 h1 h2 x0)
        obtain ⟨V1, hV1⟩ : ∃ V, V = wr.setCell ⟨b, off + j * 11, none⟩ (.int .i64 x0) := ⟨_, rfl⟩
        have E0 : Hid (V1 = wr.setCell ⟨b, off + j * 11, none⟩ (.int .i64 x0)) := hV1
        rw [← hV1] at HM1
        have Ix1 : Hid (x1 = x0 + 1) := hx1
        clear hx1 hV1
        go_upto_region 6 with fail
        rw [← E0.out]
        clear c0 f0 ex1
        obtain ⟨y1, c1⟩ := (HI.out V1 HM1.out 1 (by decide) (by decide)).1
        have f1 := (HI.out V1 HM1.out 1 (by decide) (by decide)).2
        skip
        obtain ⟨x2, hx2⟩ : ∃ t, t = x1 + 1 := ⟨_, rfl⟩
        have bx2 : 0 ≤ x2 ∧ x2 ≤ 100000000000000002 := by omega
        have ex2 : IntKind.i64.wrap (x1 + 1) = x2 := by rw [hx2]; exact wrap64_id (by omega)
        have HM2 : Hid (MarkW lo hi w (V1.setCell ⟨b, off + j * 11 + 1, none⟩ (.int .i64 x1))) := HM1.out.trans (MarkW.setI (lo := lo) (hi := hi) c1 h1 h2 x1)
        obtain ⟨V2, hV2⟩ : ∃ V, V = V1.setCell ⟨b, off + j * 11 + 1, none⟩ (.int .i64 x1) := ⟨_, rfl⟩
        have E1 : Hid (V2 = V1.setCell ⟨b, off + j * 11 + 1, none⟩ (.int .i64 x1)) := hV2
        rw [← hV2] at HM2
        have Ix2 : Hid (x2 = x1 + 1) := hx2
        clear hx2 hV2
        go_upto_region 8 with fail
        rw [← E1.out]
        clear c1 f1 ex2
        obtain ⟨y2, c2⟩ := (HI.out V2 HM2.out 2 (by decide) (by decide)).1
        have f2 := (HI.out V2 HM2.out 2 (by decide) (by decide)).2
        skip
        obtain ⟨x3, hx3⟩ : ∃ t, t = x2 + 1 := ⟨_, rfl⟩
        have bx3 : 0 ≤ x3 ∧ x3 ≤ 100000000000000003 := by omega
        have ex3 : IntKind.i64.wrap (x2 + 1) = x3 := by rw [hx3]; exact wrap64_id (by omega)
        have HM3 : Hid (MarkW lo hi w (V2.setCell ⟨b, off + j * 11 + 2, none⟩ (.int .i64 x2))) := HM2.out.trans (MarkW.setI (lo := lo) (hi := hi) c2 h1 h2 x2)
        obtain ⟨V3, hV3⟩ : ∃ V, V = V2.setCell ⟨b, off + j * 11 + 2, none⟩ (.int .i64 x2) := ⟨_, rfl⟩
        have E2 : Hid (V3 = V2.setCell ⟨b, off + j * 11 + 2, none⟩ (.int .i64 x2)) := hV3
        rw [← hV3] at HM3
        have Ix3 : Hid (x3 = x2 + 1) := hx3
        clear hx3 hV3
        go_upto_region 10 with fail
        rw [← E2.out]
        clear c2 f2 ex3
        obtain ⟨y3, c3⟩ := (HI.out V3 HM3.out 3 (by decide) (by decide)).1
        have f3 := (HI.out V3 HM3.out 3 (by decide) (by decide)).2
        skip
        obtain ⟨x4, hx4⟩ : ∃ t, t = x3 + 1 := ⟨_, rfl⟩
        have bx4 : 0 ≤ x4 ∧ x4 ≤ 100000000000000004 := by omega
        have ex4 : IntKind.i64.wrap (x3 + 1) = x4 := by rw [hx4]; exact wrap64_id (by omega)
        have HM4 : Hid (MarkW lo hi w (V3.setCell ⟨b, off + j * 11 + 3, none⟩ (.int .i64 x3))) := HM3.out.trans (MarkW.setI (lo := lo) (hi := hi) c3 h1 h2 x3)
        obtain ⟨V4, hV4⟩ : ∃ V, V = V3.setCell ⟨b, off + j * 11 + 3, none⟩ (.int .i64 x3) := ⟨_, rfl⟩
        have E3 : Hid (V4 = V3.setCell ⟨b, off + j * 11 + 3, none⟩ (.int .i64 x3)) := hV4
        rw [← hV4] at HM4
        have Ix4 : Hid (x4 = x3 + 1) := hx4
        clear hx4 hV4
        go_upto_region 12 with fail
        rw [← E3.out]
        clear c3 f3 ex4
        obtain ⟨y4, c4⟩ := (HI.out V4 HM4.out 4 (by decide) (by decide)).1
        have f4 := (HI.out V4 HM4.out 4 (by decide) (by decide)).2
        skip
        obtain ⟨x5, hx5⟩ : ∃ t, t = x4 + 1 := ⟨_, rfl⟩
        have bx5 : 0 ≤ x5 ∧ x5 ≤ 100000000000000005 := by omega
        have ex5 : IntKind.i64.wrap (x4 + 1) = x5 := by rw [hx5]; exact wrap64_id (by omega)
        have HM5 : Hid (MarkW lo hi w (V4.setCell ⟨b, off + j * 11 + 4, none⟩ (.int .i64 x4))) := HM4.out.trans (MarkW.setI (lo := lo) (hi := hi) c4 h1 h2 x4)
        obtain ⟨V5, hV5⟩ : ∃ V, V = V4.setCell ⟨b, off + j * 11 + 4, none⟩ (.int .i64 x4) := ⟨_, rfl⟩
        have E4 : Hid (V5 = V4.setCell ⟨b, off + j * 11 + 4, none⟩ (.int .i64 x4)) := hV5
        rw [← hV5] at HM5
        have Ix5 : Hid (x5 = x4 + 1) := hx5
        clear hx5 hV5
        go_upto_region 14 with fail
        rw [← E4.out]
        clear c4 f4 ex5
        obtain ⟨y5, c5⟩ := (HI.out V5 HM5.out 5 (by decide) (by decide)).1
        have f5 := (HI.out V5 HM5.out 5 (by decide) (by decide)).2
        skip
        obtain ⟨x6, hx6⟩ : ∃ t, t = x5 + 1 := ⟨_, rfl⟩
        have bx6 : 0 ≤ x6 ∧ x6 ≤ 100000000000000006 := by omega
        have ex6 : IntKind.i64.wrap (x5 + 1) = x6 := by rw [hx6]; exact wrap64_id (by omega)
        have HM6 : Hid (MarkW lo hi w (V5.setCell ⟨b, off + j * 11 + 5, none⟩ (.int .i64 x5))) := HM5.out.trans (MarkW.setI (lo := lo) (hi := hi) c5 h1 h2 x5)
        obtain ⟨V6, hV6⟩ : ∃ V, V = V5.setCell ⟨b, off + j * 11 + 5, none⟩ (.int .i64 x5) := ⟨_, rfl⟩
        have E5 : Hid (V6 = V5.setCell ⟨b, off + j * 11 + 5, none⟩ (.int .i64 x5)) := hV6
        rw [← hV6] at HM6
        have Ix6 : Hid (x6 = x5 + 1) := hx6
        clear hx6 hV6
        go_upto_region 16 with fail
        rw [← E5.out]
        clear c5 f5 ex6
        obtain ⟨y6, c6⟩ := (HI.out V6 HM6.out 6 (by decide) (by decide)).1
        have f6 := (HI.out V6 HM6.out 6 (by decide) (by decide)).2
        skip
        obtain ⟨x7, hx7⟩ : ∃ t, t = x6 + 1 := ⟨_, rfl⟩
        have bx7 : 0 ≤ x7 ∧ x7 ≤ 100000000000000007 := by omega
        have ex7 : IntKind.i64.wrap (x6 + 1) = x7 := by rw [hx7]; exact wrap64_id (by omega)
        have HM7 : Hid (MarkW lo hi w (V6.setCell ⟨b, off + j * 11 + 6, none⟩ (.int .i64 x6))) := HM6.out.trans (MarkW.setI (lo := lo) (hi := hi) c6 h1 h2 x6)
        obtain ⟨V7, hV7⟩ : ∃ V, V = V6.setCell ⟨b, off + j * 11 + 6, none⟩ (.int .i64 x6) := ⟨_, rfl⟩
        have E6 : Hid (V7 = V6.setCell ⟨b, off + j * 11 + 6, none⟩ (.int .i64 x6)) := hV7
        rw [← hV7] at HM7
        have Ix7 : Hid (x7 = x6 + 1) := hx7
        clear hx7 hV7
        go_upto_region 18 with fail
        rw [← E6.out]
        clear c6 f6 ex7
        obtain ⟨y7, c7⟩ := (HI.out V7 HM7.out 7 (by decide) (by decide)).1
        have f7 := (HI.out V7 HM7.out 7 (by decide) (by decide)).2
        skip
        obtain ⟨x8, hx8⟩ : ∃ t, t = x7 + 1 := ⟨_, rfl⟩
        have bx8 : 0 ≤ x8 ∧ x8 ≤ 100000000000000008 := by omega
        have ex8 : IntKind.i64.wrap (x7 + 1) = x8 := by rw [hx8]; exact wrap64_id (by omega)
        have HM8 : Hid (MarkW lo hi w (V7.setCell ⟨b, off + j * 11 + 7, none⟩ (.int .i64 x7))) := HM7.out.trans (MarkW.setI (lo := lo) (hi := hi) c7 h1 h2 x7)
        obtain ⟨V8, hV8⟩ : ∃ V, V = V7.setCell ⟨b, off + j * 11 + 7, none⟩ (.int .i64 x7) := ⟨_, rfl⟩
        have E7 : Hid (V8 = V7.setCell ⟨b, off + j * 11 + 7, none⟩ (.int .i64 x7)) := hV8
        rw [← hV8] at HM8
        have Ix8 : Hid (x8 = x7 + 1) := hx8
        clear hx8 hV8
        go_upto_region 20 with fail
        rw [← E7.out]
        clear c7 f7 ex8
        obtain ⟨ia, im, ic, c8, him, hsh⟩ := HP.out V8 HM8.out
        have HSh : Hid (ShE lo hi V8 ia im ic) := hsh
        have HFr8 : Hid (Free lo hi V8 ∧ hi ≤ V8.heap.size) := ⟨HF.out.markW HM8.out hhi, Nat.le_trans hhi HM8.out.size⟩
        clear hsh
        go_wp2_with fail
        refine (markPW_any ia im ic x8 V8 HSh.out HFr8.out.1 HFr8.out.2 him ⟨by omega, by omega⟩).mono ?_
        rintro e U ⟨rfl, hmU⟩
        have HM8' : Hid (MarkW lo hi w U) := HM8.out.trans hmU
        obtain ⟨x9, hx9⟩ : ∃ t, t = x8 + ((2 * im : Nat) : Int) := ⟨_, rfl⟩
        rw [← hx9]
        have bx9 : 0 ≤ x9 ∧ x9 ≤ 100000000002097200 := by omega
        have Ix9 : Hid (x9 = x8 + ((2 * im : Nat) : Int)) := hx9
        clear hmU hx9 c8
        obtain ⟨y9, c9⟩ := (HI.out U HM8'.out 9 (by decide) (by decide)).1
        have f9 := (HI.out U HM8'.out 9 (by decide) (by decide)).2
        obtain ⟨x10, hx10⟩ : ∃ t, t = x9 + 1 := ⟨_, rfl⟩
        have bx10 : 0 ≤ x10 ∧ x10 ≤ 100000000002097210 := by omega
        have ex10 : IntKind.i64.wrap (x9 + 1) = x10 := by rw [hx10]; exact wrap64_id (by omega)
        have HM10 : Hid (MarkW lo hi w (U.setCell ⟨b, off + j * 11 + 9, none⟩ (.int .i64 x9))) := HM8'.out.trans (MarkW.setI (lo := lo) (hi := hi) c9 h1 h2 x9)
        obtain ⟨V10, hV10⟩ : ∃ V, V = U.setCell ⟨b, off + j * 11 + 9, none⟩ (.int .i64 x9) := ⟨_, rfl⟩
        have E9 : Hid (V10 = U.setCell ⟨b, off + j * 11 + 9, none⟩ (.int .i64 x9)) := hV10
        rw [← hV10] at HM10
        have Ix10 : Hid (x10 = x9 + 1) := hx10
        clear hx10 hV10
        go_upto_region 23 with fail
        rw [← E9.out]
        clear c9 f9 ex10
        obtain ⟨y10, c10⟩ := (HI.out V10 HM10.out 10 (by decide) (by decide)).1
        have f10 := (HI.out V10 HM10.out 10 (by decide) (by decide)).2
        obtain ⟨x11, hx11⟩ : ∃ t, t = x10 + 1 := ⟨_, rfl⟩
        have bx11 : 0 ≤ x11 ∧ x11 ≤ 100000000002097220 := by omega
        have ex11 : IntKind.i64.wrap (x10 + 1) = x11 := by rw [hx11]; exact wrap64_id (by omega)
        have HM11 : Hid (MarkW lo hi w (V10.setCell ⟨b, off + j * 11 + 10, none⟩ (.int .i64 x10))) := HM10.out.trans (MarkW.setI (lo := lo) (hi := hi) c10 h1 h2 x10)
        obtain ⟨V11, hV11⟩ : ∃ V, V = V10.setCell ⟨b, off + j * 11 + 10, none⟩ (.int .i64 x10) := ⟨_, rfl⟩
        have E10 : Hid (V11 = V10.setCell ⟨b, off + j * 11 + 10, none⟩ (.int .i64 x10)) := hV11
        rw [← hV11] at HM11
        have Ix11 : Hid (x11 = x10 + 1) := hx11
        clear hx11 hV11
        have HZ : Hid (∃ t' : Nat, t' ≤ (j + 1) * 2097163 ∧ x11 = k + t') := by
          have a1 := Ix1.out; have a2 := Ix2.out; have a3 := Ix3.out; have a4 := Ix4.out; have a5 := Ix5.out; have a6 := Ix6.out; have a7 := Ix7.out; have a8 := Ix8.out; have a9 := Ix9.out; have a10 := Ix10.out; have a11 := Ix11.out; have a0 := Ix0.out
          exact ⟨t + 10 + 2 * im, by omega, by omega⟩
        go_wp2_with fail
        go_roundw
        case rel => exact ⟨j + 1, by omega, by go_num, HZ.out.elim (fun t' h => ⟨t', h.1, by rw [h.2]⟩), by rw [← E10.out]; exact HM11.out⟩
        case measure => simp [intOf]; omega
    · clear hm
      go_wp2_with fail
      go_ret
      exact ⟨t, rfl, HM0.out⟩

set_option maxRecDepth 100000 in
set_option maxHeartbeats 1600000 in
theorem markS_any {d : Nat} {aa : Option Addr} {an ac : Nat} {ra : Option Addr} {rn rc : Nat} {wa : Option Addr} {wn wc : Nat} {la : Option Addr} {ln lc : Nat} {s : CS} {w : World} {lo hi : Nat} (h : RdS lo hi w d aa an ac ra rn rc wa wn wc la ln lc s) (hF : Free lo hi w) (hhi : hi ≤ w.heap.size) (hfit : FitS s an rn wn ln) (hbk : bulks s.atoms ≤ 1048576) :
    Calls Tryz.prog 10 #[.agg #[.slice aa an ac, .slice ra rn rc, .slice wa wn wc, .slice la ln lc], .int .i64 1] w fun e w' => ∃ q : Int, e = .returned (.int .i64 q) ∧ 0 ≤ q ∧ MarkW lo hi w w' := by
  obtain ⟨W, hW⟩ : ∃ W, W = w.alloc (.cells #[.slice aa an ac, .slice ra rn rc, .slice wa wn wc, .slice la ln lc] 33) := ⟨_, rfl⟩
  have HW : Hid (W = w.alloc (.cells #[.slice aa an ac, .slice ra rn rc, .slice wa wn wc, .slice la ln lc] 33)) := hW
  have hb0 : Below w.heap.size w W := by rw [hW]; exact (Below.refl _ _).alloc (Nat.le_refl _) _
  have HM0 : Hid (MarkW lo hi w W) := (MarkRel.of_below hb0).toW
  have hs0 : hi ≤ W.heap.size := Nat.le_trans hhi hb0.size
  have hbx : Blk W w.heap.size 33 (.slice aa an ac) (.slice ra rn rc) (.slice wa wn wc) (.slice la ln lc) := by rw [hW]; exact Blk.alloc_new w _ _ _ _ _ _ rfl
  have HBx : Hid (∀ V, MarkW lo hi W V → Blk V w.heap.size 33 (.slice aa an ac) (.slice ra rn rc) (.slice wa wn wc) (.slice la ln lc)) := fun V hV => hbx.of_block (hV.out w.heap.size hbx.lt (.inr hhi))
  have HA : Hid (RdL (ShC lo hi W d) lo hi W aa an ac s.atoms) := (h.atoms.below hb0 hhi).imp (fun _ _ hr => hr.sh) (fun _ _ _ => rfl) (Nat.le_refl _) (Nat.le_refl _)
  have HS1 : Hid (markBBSh lo hi W ra rn rc) := (h.roles.below hb0 hhi).sh hfit.2.1.2
  have HS2 : Hid (markBBSh lo hi W wa wn wc) := (h.who.below hb0 hhi).sh hfit.2.2.1.2
  have HS3 : Hid (ShG lo hi W la ln lc) := (h.l.below hb0 hhi).sh hfit.2.2.2.2
  have HFr : Hid (∀ V, MarkW lo hi W V → Free lo hi V ∧ hi ≤ V.heap.size) := fun V hV => ⟨(hF.same (Same.of_below hb0 hhi)).markW hV hs0, Nat.le_trans hs0 hV.size⟩
  have H0 : Hid (MarkW lo hi W W) := MarkW.refl _ _ _
  have HBk : Hid (bulks s.atoms ≤ 1048576) := hbk
  have hrn : rn ≤ 1048576 := hfit.2.1.1
  have hwn : wn ≤ 1048576 := hfit.2.2.1.1
  have hln : ln ≤ 1048576 := hfit.2.2.2.1
  obtain ⟨z0, z1, z2, z3, _⟩ := hbx.cells
  clear h hF hb0 hbx hW hfit
  go_enter Tryz.func10, Tryz.ntmps10
  go_upto_region 1 with fail
  rw [← HW.out]
  go_wp2_with fail
  refine (mkL_any d aa an ac s.atoms 1 W lo hi HA.out (HFr.out _ H0.out).2 (HFr.out _ H0.out).1 HBk.out (by omega) (by have := HBk.out; omega)).mono ?_
  rintro e w1 ⟨rfl, hm1⟩
  have H1 : Hid (MarkW lo hi W w1) := hm1.toW
  obtain ⟨k1, hk1⟩ : ∃ k1 : Int, k1 = 1 + (bulks s.atoms : Int) := ⟨_, rfl⟩
  have hk1b : 0 ≤ k1 ∧ k1 ≤ 1048577 := by have := HBk.out; omega
  rw [← hk1]
  clear hm1 hk1 z0 z1 z2 z3
  obtain ⟨z0, z1, z2, z3, _⟩ := (HBx.out _ H1.out).cells
  go_wp2_with fail
  refine (markBB_any ra rn rc k1 w1 (HS1.out.mark H1.out) (HFr.out _ H1.out).1 (HFr.out _ H1.out).2 hrn ⟨by omega, by omega⟩).mono ?_
  rintro e w2 ⟨t2, rfl, ht2, hm2⟩
  have H2 : Hid (MarkW lo hi W w2) := H1.out.trans hm2
  obtain ⟨k2, hk2⟩ : ∃ k2 : Int, k2 = k1 + (t2 : Int) := ⟨_, rfl⟩
  have hk2b : 0 ≤ k2 ∧ k2 ≤ 1099512676353 := by omega
  rw [← hk2]
  clear hm2 hk2 ht2 z0 z1 z2 z3
  obtain ⟨z0, z1, z2, z3, _⟩ := (HBx.out _ H2.out).cells
  go_wp2_with fail
  refine (markBB_any wa wn wc k2 w2 (HS2.out.mark H2.out) (HFr.out _ H2.out).1 (HFr.out _ H2.out).2 hwn ⟨by omega, by omega⟩).mono ?_
  rintro e w3 ⟨t3, rfl, ht3, hm3⟩
  have H3 : Hid (MarkW lo hi W w3) := H2.out.trans hm3
  obtain ⟨k3, hk3⟩ : ∃ k3 : Int, k3 = k2 + (t3 : Int) := ⟨_, rfl⟩
  have hk3b : 0 ≤ k3 ∧ k3 ≤ 2199024304129 := by omega
  rw [← hk3]
  clear hm3 hk3 ht3 z0 z1 z2 z3
  obtain ⟨z0, z1, z2, z3, _⟩ := (HBx.out _ H3.out).cells
  go_wp2_with fail
  refine (markGS_any la ln lc k3 w3 (HS3.out.mark H3.out) (HFr.out _ H3.out).1 (HFr.out _ H3.out).2 hln ⟨by omega, by omega⟩).mono ?_
  rintro e w4 ⟨t4, rfl, hm4⟩
  have H4 : Hid (MarkW lo hi w w4) := HM0.out.trans (H3.out.trans hm4)
  obtain ⟨k4, hk4⟩ : ∃ k4 : Int, k4 = k3 + (t4 : Int) := ⟨_, rfl⟩
  have hk4b : 0 ≤ k4 := by omega
  rw [← hk4]
  clear hm4 hk4 z0 z1 z2 z3
  go_wp2_with fail
  go_ret
  exact ⟨k4, rfl, hk4b, H4.out⟩

end Go.Proofs.YtknainelonaigaaGreatDoor
