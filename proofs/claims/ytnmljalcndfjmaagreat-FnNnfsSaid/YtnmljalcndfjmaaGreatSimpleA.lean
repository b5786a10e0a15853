/- laws.simple: is Not ahead of names alone? Where it is, it says so. -/
import Derived.Test.YtnmljalcndfjmaaGreatNG16
import Derived.Test.YtnmljalcndfjmaaGreatNG1
import Derived.Test.YtnmljalcndfjmaaGreatConClone2
import Derived.Test.YtnmljalcndfjmaaGreatBent1
namespace Go.Proofs.YtnmljalcndfjmaaGreat
open Go.RowKit

theorem rdlAt {lo hi d : Nat} {w : World} {b off n cap : Nat} {cs : List CN} (h : RdL (RdC lo hi w d) lo hi w (some ⟨b, off, none⟩) n cap cs) {i : Nat} (hin : i < n) :
    ∃ k na nn nc ra rn rc ka kn kc, w.cell? ⟨b, off + i * 4, none⟩ = some (.int .i64 k) ∧ w.cell? ⟨b, off + i * 4 + 1, none⟩ = some (.slice na nn nc) ∧ w.cell? ⟨b, off + i * 4 + 2, none⟩ = some (.slice ra rn rc) ∧ w.cell? ⟨b, off + i * 4 + 3, none⟩ = some (.slice ka kn kc) ∧ RdC lo hi w d (.agg #[.int .i64 k, .slice na nn nc, .slice ra rn rc, .slice ka kn kc]) (cs.getD i CN.zero) ∧ k = (cs.getD i CN.zero).kind := by
  rcases h.cells with h0 | ⟨b', off', e, _, _, hc⟩
  · omega
  · simp only [Option.some.injEq, Addr.mk.injEq, and_true] at e
    obtain ⟨rfl, rfl⟩ := e
    obtain ⟨v0, v1, v2, v3, c0, c1, c2, c3, hr⟩ := hc i hin
    obtain ⟨rfl, ⟨na, nn, nc, rfl⟩, ⟨ra, rn, rc, rfl⟩, ⟨ka, kn, kc, rfl⟩⟩ := hr.formS
    exact ⟨_, na, nn, nc, ra, rn, rc, ka, kn, kc, c0, c1, c2, c3, hr, rfl⟩

def SmP (d : Nat) : Prop := ∀ {v : Value} {c : CN} {w : World} {lo hi : Nat}, RdC lo hi w d v c → hi ≤ w.heap.size → simpleC c = true →
    Calls Tryz.prog 12 #[v] w fun e w' => e = .returned (.bool true) ∧ Below w.heap.size w w'

set_option maxRecDepth 100000 in
set_option maxHeartbeats 4000000 in
theorem smP_of {d : Nat} (ih : SmP d) : SmP (d + 1) := by
  intro v c w lo hi h hhi hs
  obtain ⟨na, nn, nc, ra, rn, rc, ka, kn, kc, rfl, _, _, hl⟩ := h
  obtain ⟨k, hk⟩ : ∃ k, k = c.kind := ⟨_, rfl⟩
  rw [← hk]
  obtain ⟨W0, HW0⟩ : ∃ W, Hid (W = w.alloc (.cells #[.int .i64 k, .slice na nn nc, .slice ra rn rc, .slice ka kn kc] 30)) := ⟨_, rfl⟩
  have hb0 : Below w.heap.size w W0 := by rw [HW0.out]; exact (Below.refl _ _).alloc (Nat.le_refl _) _
  have hX0 : BoxC W0 w.heap.size (.int .i64 k) (.slice na nn nc) (.slice ra rn rc) (.slice ka kn kc) := by rw [HW0.out]; exact BoxC.new w _ _ _ _
  have HXs : Hid (∀ V, Below W0.heap.size W0 V → BoxC V w.heap.size (.int .i64 k) (.slice na nn nc) (.slice ra rn rc) (.slice ka kn kc)) := fun V hV => BoxC.below hX0 hV (BoxC.lt hX0)
  have hhi0 : hi ≤ W0.heap.size := Nat.le_trans hhi hb0.size
  have HLs : Hid (∀ V, Below W0.heap.size W0 V → RdL (RdC lo hi V d) lo hi V ka kn kc c.kids) := fun V hV => (hl.same (Same.of_below hb0 hhi)).same (Same.of_below hV hhi0)
  have HB0 : Hid (Below w.heap.size w W0) := hb0
  have HKd : Hid (k = c.kind) := hk
  have HS : Hid (simpleC c = true) := hs
  have HSk : Hid (∀ i, i < kn → simpleC (c.kids.getD i CN.zero) = true) := by
    intro i hi
    have h2 : simpleL c.kids = true := by
      have := hs
      rw [simpleC_eq, Bool.and_eq_true] at this
      exact this.2
    exact simpleL_getD c.kids i (by rw [hl.len]; exact hi) h2
  have HLen : Hid (c.kids.length = kn) := hl.len
  have hkb : kn ≤ 9223372036854775807 := Nat.le_trans hl.fits.1 hl.fits.2
  clear hl hs hk hb0 hX0 hhi
  obtain ⟨x0, x1, x2, x3⟩ := (HXs.out W0 (Below.refl _ _)).cells
  go_enter Tryz.func12, Tryz.ntmps12
  go_upto_region 1 with fail
  rw [← HW0.out]
  go_cut [14] from 4 to 13 (fun q wx => q = .bool false ∧ wx = W0)
  case first =>
    by_cases h3 : k = 3
    · subst h3
      obtain ⟨hl0, hk2⟩ := simple_head HS.out HKd.out.symm
      rw [HLen.out] at hl0
      obtain ⟨kb, ko, hka⟩ : ∃ kb ko, ka = some ⟨kb, ko, none⟩ := by
        rcases (HLs.out W0 (Below.refl _ _)).cells with h0 | ⟨b, o, e, _⟩
        · omega
        · exact ⟨b, o, e⟩
      subst hka
      obtain ⟨k1, na1, nn1, nc1, ra1, rn1, rc1, ka1, kn1, kc1, f0, f1, f2, f3, _, hkk⟩ := rdlAt (HLs.out W0 (Below.refl _ _)) (i := 0) hl0
      rw [hk2] at hkk
      subst hkk
      rw [Nat.zero_mul, Nat.add_zero] at f0 f1 f2 f3
      have hl0i : (0 : Int) < (kn : Int) := by omega
      clear hk2
      go_wp2_with fail
      go_meet
      case rel => exact ⟨rfl, rfl⟩
    · have h3b : (k == 3) = false := by simpa using h3
      go_wp2_with fail
      go_meet
      case rel => exact ⟨rfl, rfl⟩
  case rest =>
    obtain ⟨rfl, hwc⟩ := hcut
    subst hwc
    go_wp2_with fail
    clear x0 x1 x2 x3
    go_loopw [3] (fun q wr => ∃ i : Nat, i ≤ kn ∧ q = .int .i64 i ∧ Below wc.heap.size wc wr) (fun q _ => kn - (intOf q).toNat)
    case atStart => exact ⟨0, Nat.zero_le _, rfl, Below.refl _ _⟩
    case round =>
      obtain ⟨i, hi1, rfl, hb⟩ := hrel
      obtain ⟨wo, hwo⟩ : ∃ wo : World, wo = wr := ⟨_, rfl⟩
      subst hwo
      have HB : Hid (Below wc.heap.size wc wo) := hb
      clear hb
      obtain ⟨x0, x1, x2, x3⟩ := (HXs.out wo HB.out).cells
      by_cases hlt : i < kn
      · have hii : (i : Int) < (kn : Int) := by omega
        obtain ⟨kb, ko, hka⟩ : ∃ kb ko, ka = some ⟨kb, ko, none⟩ := by
          rcases (HLs.out wo HB.out).cells with h0 | ⟨b, o, e, _⟩
          · omega
          · exact ⟨b, o, e⟩
        subst hka
        obtain ⟨k1, na1, nn1, nc1, ra1, rn1, rc1, ka1, kn1, kc1, f0, f1, f2, f3, hr, hkk⟩ := rdlAt (HLs.out wo HB.out) (i := i) hlt
        have HR : Hid (RdC lo hi wo d (.agg #[.int .i64 k1, .slice na1 nn1 nc1, .slice ra1 rn1 rc1, .slice ka1 kn1 kc1]) (c.kids.getD i CN.zero)) := hr
        clear hr hkk
        go_wp2_with fail
        refine (ih HR.out (Nat.le_trans hhi0 HB.out.size) (HSk.out i hlt)).mono ?_
        rintro r w6 ⟨rfl, hb6⟩
        have H6 : Hid (Below wc.heap.size wc w6) := HB.out.trans (hb6.mono HB.out.size)
        clear hb6
        go_wp2_with fail
        go_roundw
        case rel => first | exact ⟨i + 1, by omega, by go_num, H6.out⟩ | ((repeat apply Exists.intro); exact ⟨⟨by omega, by go_num, H6.out⟩, rfl⟩)
        case measure => simp [intOf]; omega
      · have hii : ¬ (i : Int) < (kn : Int) := by omega
        go_wp2
        go_ret
        exact ⟨rfl, HB0.out.trans (HB.out.mono HB0.out.size)⟩

theorem smP_any : ∀ d, SmP d
  | 0 => fun h _ _ => h.elim
  | d + 1 => smP_of (smP_any d)

end Go.Proofs.YtnmljalcndfjmaaGreat
