/- The program's own small steps on the way to tokens: blanks and brackets, where a piece ends, what it is, a copy of its bytes: a contract each. -/
import Derived.Test.YthojlfcahhjfaaaNTT
import Derived.Test.YthojlfcahhjfaaaNW
import Derived.Deep.DeepCutAuto
namespace Go.Proofs.Ythojlfcahhjfaaa
open Go.RowKit

theorem isBlank_any (c : Int) (w : World) : Calls Try.prog 89 #[.int .u8 c] w fun e w' => e = .returned (.bool (blankB c)) ∧ w' = w := by
  cases h : (c == 32)
  · go_enter Try.func89, Try.ntmps89
    go_wp2
    go_ret
    exact ⟨by simp [blankB, h], rfl⟩
  · go_enter Try.func89, Try.ntmps89
    go_wp2
    go_ret
    exact ⟨by simp [blankB, h], rfl⟩

def brackB (c : Int) : Bool := c == 40 || c == 41

theorem isBracket_any (c : Int) (w : World) : Calls Try.prog 119 #[.int .u8 c] w fun e w' => e = .returned (.bool (brackB c)) ∧ w' = w := by
  cases h : (c == 40)
  · go_enter Try.func119, Try.ntmps119
    go_wp2
    go_ret
    exact ⟨by simp [brackB, h], rfl⟩
  · go_enter Try.func119, Try.ntmps119
    go_wp2
    go_ret
    exact ⟨by simp [brackB, h], rfl⟩

/-- Where the program's piece at i ends: a blank is one by itself. -/
def pendI (zs : List Int) (i : Nat) : Nat := if blankB (zs.getD i 0) then i + 1 else pend zs i

theorem pendI_short (zs : List Int) (i : Nat) (h : blankB (zs.getD i 0) = true ∨ brackB (zs.getD i 0) = true) : pendI zs i = i + 1 := by
  unfold pendI
  by_cases hb : blankB (zs.getD i 0) = true
  · rw [if_pos hb]
  · rw [if_neg hb]
    have h2 : brackB (zs.getD i 0) = true := by rcases h with h | h; exact absurd h hb; exact h
    unfold pend
    rw [if_pos]
    generalize zs.getD i 0 = c at h2
    simpa [brackB] using h2

theorem pendI_long (zs : List Int) (i : Nat) (h : blankB (zs.getD i 0) = false) (h' : brackB (zs.getD i 0) = false) : pendI zs i = i + 1 + runLow zs (i + 1) := by
  unfold pendI
  rw [h]
  simp only [Bool.false_eq_true, if_false]
  unfold pend
  rw [if_neg]
  generalize zs.getD i 0 = c at h'
  simpa [brackB] using h'

set_option maxHeartbeats 400000 in
theorem pieceEnd_any (a : Option Addr) (n cap : Nat) (zs : List Int) (i : Nat) (w : World) {lo hi : Nat} (h : Rd lo hi w a n cap zs) (hi' : i < n) :
    Calls Try.prog 88 #[.slice a n cap, .int .i64 i] w fun e w' => e = .returned (.int .i64 (pendI zs i)) ∧ w' = w := by
  obtain ⟨hl, ⟨hn, hm⟩, hby, hcs⟩ := h
  rcases hcs with h0 | ⟨b, off, rfl, hlo, hb, hcs⟩
  · omega
  · obtain ⟨c0, hc0⟩ : ∃ c, c = zs.getD i 0 := ⟨_, rfl⟩
    have hck : w.cell? ⟨b, off + i, none⟩ = some (.int .u8 c0) := by rw [hc0]; exact hcs i hi'
    have HCell : Hid (∀ j, j < n → w.cell? ⟨b, off + j, none⟩ = some (.int .u8 (zs.getD j 0))) := hcs
    have HC : Hid (c0 = zs.getD i 0) := hc0
    have HL : Hid (zs.length = n) := hl
    clear hcs hby hl hc0
    cases hbl : blankB c0
    · cases hbr : brackB c0
      · have HE : Hid (pendI zs i = i + 1 + runLow zs (i + 1)) := pendI_long zs i (by rw [← HC.out]; exact hbl) (by rw [← HC.out]; exact hbr)
        go_enter Try.func88, Try.ntmps88
        go_wp2_with (first | (go_at_call 89; refine (isBlank_any _ _).mono ?_; rintro e w1 ⟨rfl, hw⟩; subst hw; rw [hbl]) | (go_at_call 119; refine (isBracket_any _ _).mono ?_; rintro e w1 ⟨rfl, hw⟩; subst hw; rw [hbr]))
        go_loop [5] (fun v => ∃ k : Nat, i + 1 ≤ k ∧ k ≤ n ∧ v = .int .i64 k ∧ runLow zs (i + 1) = (k - (i + 1)) + runLow zs k) (fun v => n - (intOf v).toNat)
        case atStart => exact ⟨i + 1, by omega, by omega, by go_num, by simp⟩
        case round =>
          obtain ⟨k, hk, hkn, rfl, hrun⟩ := hrel
          have HR : Hid (runLow zs (i + 1) = (k - (i + 1)) + runLow zs k) := hrun
          clear hrun
          by_cases hkl : k < n
          · obtain ⟨c, HC'⟩ : ∃ c, Hid (c = zs.getD k 0) := ⟨_, rfl⟩
            have hck' := HCell.out k hkl
            rw [← HC'.out] at hck'
            have hkd : decide ((k : Int) < (n : Int)) = true := by simp; omega
            cases hlow : lowB c
            · have HZ : Hid (runLow zs k = 0) := runLow_stop zs k (.inr (by rw [← HC'.out]; exact hlow))
              go_wp2_with (go_at_call 90; refine (isLower_any _ _).mono ?_; rintro e w' ⟨rfl, rfl⟩; rw [hlow])
              go_ret
              exact ⟨ri (by have := HR.out; have := HZ.out; have := HE.out; omega), rfl⟩
            · have HZ : Hid (runLow zs k = runLow zs (k + 1) + 1) := runLow_go zs k (by rw [HL.out]; exact hkl) (by rw [← HC'.out]; exact hlow)
              go_wp2_with (go_at_call 90; refine (isLower_any _ _).mono ?_; rintro e w' ⟨rfl, rfl⟩; rw [hlow])
              go_round
              case rel => exact ⟨k + 1, by omega, by omega, by go_num, by have := HR.out; have := HZ.out; omega⟩
              case measure => simp [intOf]; omega
          · have hkd : decide ((k : Int) < (n : Int)) = false := by simp; omega
            have HZ : Hid (runLow zs k = 0) := runLow_stop zs k (.inl (by rw [HL.out]; omega))
            go_wp2
            go_ret
            exact ⟨ri (by have := HR.out; have := HZ.out; have := HE.out; omega), rfl⟩
      · have HE : Hid (pendI zs i = i + 1) := pendI_short zs i (.inr (by rw [← HC.out]; exact hbr))
        go_enter Try.func88, Try.ntmps88
        go_wp2_with (first | (go_at_call 89; refine (isBlank_any _ _).mono ?_; rintro e w1 ⟨rfl, hw⟩; subst hw; rw [hbl]) | (go_at_call 119; refine (isBracket_any _ _).mono ?_; rintro e w1 ⟨rfl, hw⟩; subst hw; rw [hbr]))
        go_ret
        exact ⟨ri (by have := HE.out; omega), rfl⟩
    · have HE : Hid (pendI zs i = i + 1) := pendI_short zs i (.inl (by rw [← HC.out]; exact hbl))
      go_enter Try.func88, Try.ntmps88
      go_wp2_with (go_at_call 89; refine (isBlank_any _ _).mono ?_; rintro e w1 ⟨rfl, hw⟩; subst hw; rw [hbl])
      go_ret
      exact ⟨ri (by have := HE.out; omega), rfl⟩

theorem strOf_toList (p : List Int) : (strOfNums p).toList = p.map fun n => UInt8.ofNat n.toNat := by
  rw [ByteArray.toList_eq]; rfl

theorem str_one (p : List Int) (hb : ∀ i, 0 ≤ p.getD i 0 ∧ p.getD i 0 ≤ 255) (c : Nat) (hc : c ≤ 255) : ((strOfNums p).toList == [UInt8.ofNat c]) = decide (p = [(c : Int)]) := by
  rw [strOf_toList, Bool.eq_iff_iff, beq_iff_eq, decide_eq_true_iff]
  constructor
  · intro h
    have hlen : p.length = 1 := by have := congrArg List.length h; simpa using this
    obtain ⟨x, rfl⟩ := List.length_eq_one_iff.1 hlen
    · have hx := hb 0
      simp at hx h
      have h2 := congrArg UInt8.toNat h
      simp only [UInt8.toNat_ofNat'] at h2
      rw [Nat.mod_eq_of_lt (by omega), Nat.mod_eq_of_lt (by omega)] at h2
      simp; omega
  · intro h
    rw [h]; simp

set_option maxHeartbeats 400000 in
theorem pieceKind_any (a : Option Addr) (n cap : Nat) (p : List Int) (w : World) {lo hi : Nat} (h : Rd lo hi w a n cap p) :
    Calls Try.prog 48 #[.slice a n cap] w fun e w' => e = .returned (.int .i64 (kindOf p)) ∧ w' = w := by
  have hcv := conv_any h
  have h40 := str_one p h.byte 40 (by omega)
  have h41 := str_one p h.byte 41 (by omega)
  have H : Hid (Rd lo hi w a n cap p) := h
  obtain ⟨s, hs⟩ : ∃ s, s = strOfNums p := ⟨_, rfl⟩
  rw [← hs] at hcv h40 h41
  clear hs h
  cases hu : upOk p
  · cases hl : lowOk p
    · by_cases e40 : p = [40]
      · have hb : (s.toList == [40]) = true := by rw [show ([40] : List UInt8) = [UInt8.ofNat 40] from rfl, h40]; simpa using e40
        have HK : Hid (kindOf p = 3) := by unfold Hid kindOf; rw [hu, hl, if_neg (by simp), if_neg (by simp), if_pos e40]
        clear h40 h41 e40
        go_enter Try.func48, Try.ntmps48
        go_wp2_with (first | (go_at_call 15; refine (implUpperOk_any _ _ _ p _ H.out).mono ?_; rintro e w1 ⟨rfl, hw⟩; subst hw; rw [hu]) | (go_at_call 16; refine (implLowerOk_any _ _ _ p _ H.out).mono ?_; rintro e w1 ⟨rfl, hw⟩; subst hw; rw [hl]))
        go_ret
        exact ⟨ri HK.out.symm, rfl⟩
      · have hb : (s.toList == [40]) = false := by rw [show ([40] : List UInt8) = [UInt8.ofNat 40] from rfl, h40]; simpa using e40
        by_cases e41 : p = [41]
        · have hb' : (s.toList == [41]) = true := by rw [show ([41] : List UInt8) = [UInt8.ofNat 41] from rfl, h41]; simpa using e41
          have HK : Hid (kindOf p = 4) := by unfold Hid kindOf; rw [hu, hl, if_neg (by simp), if_neg (by simp), if_neg e40, if_pos e41]
          clear h40 h41 e40 e41
          go_enter Try.func48, Try.ntmps48
          go_wp2_with (first | (go_at_call 15; refine (implUpperOk_any _ _ _ p _ H.out).mono ?_; rintro e w1 ⟨rfl, hw⟩; subst hw; rw [hu]) | (go_at_call 16; refine (implLowerOk_any _ _ _ p _ H.out).mono ?_; rintro e w1 ⟨rfl, hw⟩; subst hw; rw [hl]))
          go_ret
          exact ⟨ri HK.out.symm, rfl⟩
        · have hb' : (s.toList == [41]) = false := by rw [show ([41] : List UInt8) = [UInt8.ofNat 41] from rfl, h41]; simpa using e41
          have HK : Hid (kindOf p = 0) := by unfold Hid kindOf; rw [hu, hl, if_neg (by simp), if_neg (by simp), if_neg e40, if_neg e41]
          clear h40 h41 e40 e41
          go_enter Try.func48, Try.ntmps48
          go_wp2_with (first | (go_at_call 15; refine (implUpperOk_any _ _ _ p _ H.out).mono ?_; rintro e w1 ⟨rfl, hw⟩; subst hw; rw [hu]) | (go_at_call 16; refine (implLowerOk_any _ _ _ p _ H.out).mono ?_; rintro e w1 ⟨rfl, hw⟩; subst hw; rw [hl]))
          go_ret
          exact ⟨ri HK.out.symm, rfl⟩
    · have HK : Hid (kindOf p = 2) := by unfold Hid kindOf; rw [hu, hl, if_neg (by simp), if_pos rfl]
      clear h40 h41
      go_enter Try.func48, Try.ntmps48
      go_wp2_with (first | (go_at_call 15; refine (implUpperOk_any _ _ _ p _ H.out).mono ?_; rintro e w1 ⟨rfl, hw⟩; subst hw; rw [hu]) | (go_at_call 16; refine (implLowerOk_any _ _ _ p _ H.out).mono ?_; rintro e w1 ⟨rfl, hw⟩; subst hw; rw [hl]))
      go_ret
      exact ⟨ri HK.out.symm, rfl⟩
  · have HK : Hid (kindOf p = 1) := by unfold Hid kindOf; rw [hu, if_pos rfl]
    clear h40 h41
    go_enter Try.func48, Try.ntmps48
    go_wp2_with (go_at_call 15; refine (implUpperOk_any _ _ _ p _ H.out).mono ?_; rintro e w1 ⟨rfl, hw⟩; subst hw; rw [hu])
    go_ret
    exact ⟨ri HK.out.symm, rfl⟩

set_option maxHeartbeats 400000 in
/-- A copy of bytes, of one at least, in a row of its own. -/
theorem clone_any (b off n cap : Nat) (p : List Int) (w : World) {lo hi : Nat} (h : Rd lo hi w (some ⟨b, off, none⟩) n cap p) (hhi : hi ≤ w.heap.size) (hn : 0 < n) (hbig : n ≤ 1048576) :
    Calls Try.prog 49 #[.slice (some ⟨b, off, none⟩) n cap] w fun e w' => ∃ g c, e = .returned (.slice (some ⟨g, 0, none⟩) n c) ∧ w.heap.size ≤ g ∧ Row w' g c p ∧ c ≤ 9223372036854775807 ∧ Below w.heap.size w w' := by
  obtain ⟨hl, ⟨hle, hm⟩, hby, hcs⟩ := h
  rcases hcs with h0 | ⟨b', off', e, hlo, hb, hcs⟩
  · omega
  · simp only [Option.some.injEq, Addr.mk.injEq, and_true] at e
    obtain ⟨rfl, rfl⟩ := e
    have hnil := fun w : World => Lib.run_eql_slice_nil (P := Try.prog) (t := 22) (a := some ⟨b, off, none⟩) (n := n) (c := cap) (w := w)
    obtain ⟨i0, hi0, hz0, hz1, hz2⟩ := info_parts Try.info5
    have HN : Hid (∀ W : World, Below w.heap.size w W → ∀ j u, (p.map (Value.int .u8))[j]? = some u → W.cell? ((⟨b, off, none⟩ : Addr).add j) = some u) := by
      intro W hW j u hu
      have hj : j < p.length := by simpa using (List.getElem?_eq_some_iff.1 hu).1
      rw [Addr.add_lit, hW.cell (p := ⟨b, off + j, none⟩) (by show b < _; omega), hcs j (by omega), ← hu]
      simp [List.getD, hj]
    have HL : Hid (p.length = n) := hl
    clear hcs hby hl
    go_enter Try.func49, Try.ntmps49
    go_wp2_with (at_builtin; refine wpList_append_own _ rfl (.tmp 5) (.tmp 6) 22 rfl w.heap.size 5 i0 (.int .u8 0) 1 1 Try.underlying22 hi0 hz0 hz1 hz2 rfl (by decide) (.slice (some ⟨w.heap.size, 0, none⟩) 0 0) 0 [] rfl (ownsRow_empty _ _ _ rfl (Nat.le_refl _)) ⟨b, off, none⟩ n cap (p.map (Value.int .u8)) rfl (by simp [HL.out]) (HN.out _ ((Below.refl _ _).alloc (Nat.le_refl _) _)) (oneC _) (by unfold maxLen; omega) (by omega) (by simp) ?_; intro v' w1 hown' hgrow _; obtain ⟨g, c, hv, hg, hrow, hc⟩ := row_of_owns hown' (by omega); rw [Nat.zero_add] at hv; subst hv; have hb1 := ((Below.refl w.heap.size w).alloc (Nat.le_refl _) _).grown hgrow (by simp) (fun k e => by simp [Value.ownBlock] at e; omega); have HR : Hid (Row w1 g c p) := hrow; have HB : Hid (Below w.heap.size w w1) := hb1; clear hown' hgrow hrow hb1)
    go_ret
    exact ⟨g, c, rfl, hg, HR.out, hc, HB.out⟩

end Go.Proofs.Ythojlfcahhjfaaa
