/- What the small functions on letters answer: one contract a function, for every byte and for every list of bytes that a slice holds. -/
import Derived.Test.YthojlfcahhjfaaaBytes
import Derived.WalkKit
import Derived.WalkSpells
import Derived.WalkLawsBesides
namespace Go.Proofs.Ythojlfcahhjfaaa
open Go.RowKit

def lowB (c : Int) : Bool := decide (97 ≤ c) && decide (c ≤ 122)
def upB (c : Int) : Bool := decide (65 ≤ c) && decide (c ≤ 90)

theorem isLower_any (c : Int) (w : World) : Calls Try.prog 90 #[.int .u8 c] w fun e w' => e = .returned (.bool (lowB c)) ∧ w' = w := by
  by_cases h : 97 ≤ c
  · go_enter Try.func90, Try.ntmps90
    go_wp2
    go_ret
    exact ⟨by simp [lowB, h], rfl⟩
  · have hd : decide (97 ≤ c) = false := by simpa using h
    go_enter Try.func90, Try.ntmps90
    go_wp2
    go_ret
    exact ⟨by simp [lowB]; omega, rfl⟩

theorem l1small_any (c : Int) (w : World) : Calls Try.prog 121 #[.int .u8 c] w fun e w' => e = .returned (.bool (lowB c)) ∧ w' = w := by
  by_cases h : 97 ≤ c
  · go_enter Try.func121, Try.ntmps121
    go_wp2
    go_ret
    exact ⟨by simp [lowB, h], rfl⟩
  · have hd : decide (97 ≤ c) = false := by simpa using h
    go_enter Try.func121, Try.ntmps121
    go_wp2
    go_ret
    exact ⟨by simp [lowB]; omega, rfl⟩

theorem isUpper_any (c : Int) (w : World) : Calls Try.prog 52 #[.int .u8 c] w fun e w' => e = .returned (.bool (upB c)) ∧ w' = w := by
  by_cases h : 65 ≤ c
  · go_enter Try.func52, Try.ntmps52
    go_wp2
    go_ret
    exact ⟨by simp [upB, h], rfl⟩
  · have hd : decide (65 ≤ c) = false := by simpa using h
    go_enter Try.func52, Try.ntmps52
    go_wp2
    go_ret
    exact ⟨by simp [upB]; omega, rfl⟩

theorem l1great_any (c : Int) (w : World) : Calls Try.prog 120 #[.int .u8 c] w fun e w' => e = .returned (.bool (upB c)) ∧ w' = w := by
  by_cases h : 65 ≤ c
  · go_enter Try.func120, Try.ntmps120
    go_wp2
    go_ret
    exact ⟨by simp [upB, h], rfl⟩
  · have hd : decide (65 ≤ c) = false := by simpa using h
    go_enter Try.func120, Try.ntmps120
    go_wp2
    go_ret
    exact ⟨by simp [upB]; omega, rfl⟩

def longB (n : Nat) : Bool := decide (1 ≤ n) && decide (n ≤ 6)

theorem nameLong_any (a : Option Addr) (n cap : Nat) (w : World) : Calls Try.prog 51 #[.slice a n cap] w fun e w' => e = .returned (.bool (longB n)) ∧ w' = w := by
  by_cases h : (1 : Int) ≤ (n : Int)
  · have h' : 1 ≤ n := by omega
    go_enter Try.func51, Try.ntmps51
    go_wp2
    go_ret
    exact ⟨by simp [longB, h']; omega, rfl⟩
  · have hd : decide ((1 : Int) ≤ (n : Int)) = false := by simpa using h
    go_enter Try.func51, Try.ntmps51
    go_wp2
    go_ret
    exact ⟨by simp [longB]; omega, rfl⟩

theorem all_take_succ (zs : List Int) (k : Nat) (h : k < zs.length) : (zs.take (k + 1)).all lowB = ((zs.take k).all lowB && lowB (zs.getD k 0)) := by
  rw [List.take_succ_eq_append_getElem h, List.all_append]; simp [List.getD, h]

theorem all_false_of (zs : List Int) (k : Nat) (h : k < zs.length) (hf : lowB (zs.getD k 0) = false) : zs.all lowB = false := by
  rw [List.all_eq_false]; exact ⟨zs[k], List.getElem_mem h, by simpa [List.getD, h] using hf⟩

set_option maxHeartbeats 400000 in
theorem allLower_any (a : Option Addr) (n cap : Nat) (zs : List Int) (w : World) {lo hi : Nat} (h : Rd lo hi w a n cap zs) :
    Calls Try.prog 53 #[.slice a n cap] w fun e w' => e = .returned (.bool (zs.all lowB)) ∧ w' = w := by
  obtain ⟨hl, ⟨hn, hm⟩, hby, hc⟩ := h
  rcases hc with h0 | ⟨b, off, rfl, hlo, hb, hc⟩
  · subst h0
    have hz : zs = [] := List.eq_nil_of_length_eq_zero hl
    go_enter Try.func53, Try.ntmps53
    go_wp2
    refine wp_loop_rounds 1 ?_
    rw [rounds_succ]
    go_wp2
    go_ret
    exact ⟨by simp [hz], rfl⟩
  · go_enter Try.func53, Try.ntmps53
    go_wp2
    go_loop [7] (fun i => ∃ k : Nat, k ≤ n ∧ i = .int .i64 k ∧ (zs.take k).all lowB = true) (fun i => n - (intOf i).toNat)
    case atStart => exact ⟨0, Nat.zero_le _, rfl, by simp⟩
    case round =>
      obtain ⟨k, hk, rfl, hall⟩ := hrel
      have HA : Hid ((zs.take k).all lowB = true) := hall
      clear hall
      by_cases hlt : k < n
      · obtain ⟨c, HC⟩ : ∃ c, Hid (c = zs.getD k 0) := ⟨_, rfl⟩
        have hck : w.cell? ⟨b, off + k, none⟩ = some (.int .u8 c) := by rw [HC.out]; exact hc k hlt
        clear hc hby
        cases hlow : lowB c
        · have hf := all_false_of zs k (by omega) (by rw [← HC.out]; exact hlow)
          have HF : Hid (zs.all lowB = false) := hf
          clear hf
          go_wp2_with (go_at_call 90; refine (isLower_any _ _).mono ?_; rintro e w' ⟨rfl, rfl⟩; rw [hlow])
          go_ret
          exact ⟨rb HF.out.symm, rfl⟩
        · have hf := all_take_succ zs k (by omega)
          rw [HA.out, ← HC.out, hlow] at hf
          have HF : Hid ((zs.take (k + 1)).all lowB = true) := hf
          clear hf
          go_wp2_with (go_at_call 90; refine (isLower_any _ _).mono ?_; rintro e w' ⟨rfl, rfl⟩; rw [hlow])
          go_round
          case rel => exact ⟨k + 1, by omega, by go_num, HF.out⟩
          case measure => simp [intOf]; omega
      · have ht : zs.take k = zs := List.take_of_length_le (by omega)
        have HF : Hid (zs.all lowB = true) := by rw [← ht]; exact HA.out
        clear ht hc hby
        go_wp2
        go_ret
        exact ⟨rb HF.out.symm, rfl⟩


/-- A capital and small letters behind it, 1 to 6 in all. -/
def upOk (zs : List Int) : Bool := longB zs.length && (upB (zs.getD 0 0) && (zs.drop 1).all lowB)
def lowOk (zs : List Int) : Bool := longB zs.length && zs.all lowB

set_option maxHeartbeats 400000 in
theorem implUpperOk_any (a : Option Addr) (n cap : Nat) (zs : List Int) (w : World) {lo hi : Nat} (h : Rd lo hi w a n cap zs) :
    Calls Try.prog 15 #[.slice a n cap] w fun e w' => e = .returned (.bool (upOk zs)) ∧ w' = w := by
  obtain ⟨hl, ⟨hn, hm⟩, hby, hc⟩ := h
  cases hlong : longB n
  · have HF : Hid (upOk zs = false) := by simp [upOk, Hid, hl, hlong]
    clear hby hc hl
    go_enter Try.func15, Try.ntmps15
    go_wp2_with (go_at_call 51; refine (nameLong_any _ _ _ _).mono ?_; rintro e w' ⟨rfl, rfl⟩; rw [hlong])
    go_ret
    exact ⟨rb HF.out.symm, rfl⟩
  · have h1 : 1 ≤ n ∧ n ≤ 6 := by simpa [longB] using hlong
    rcases hc with h0 | ⟨b, off, rfl, hlo, hb, hc⟩
    · omega
    · obtain ⟨c, HC⟩ : ∃ c, Hid (c = zs.getD 0 0) := ⟨_, rfl⟩
      have hck : w.cell? ⟨b, off, none⟩ = some (.int .u8 c) := by rw [HC.out]; exact hc 0 (by omega)
      have hT : Hid (Rd lo hi w (some ⟨b, off + 1, none⟩) (n - 1) (cap - 1) (zs.drop 1)) := Rd.tail ⟨hl, ⟨hn, hm⟩, hby, .inr ⟨b, off, rfl, hlo, hb, hc⟩⟩ h1.1
      have HU : Hid (upOk zs = (upB c && (zs.drop 1).all lowB)) := by unfold Hid upOk; rw [hl, hlong, HC.out]; rfl
      have hE : Hid (n ≤ 1 → Rd lo hi w (some ⟨b, off, none⟩) (n - 1) 0 (zs.drop 1)) := by
        intro h
        have e1 : n - 1 = 0 := by omega
        have e2 : zs.drop 1 = [] := by rw [List.drop_eq_nil_iff, hl]; omega
        rw [e1, e2]; exact Rd.none_of (by omega)
      clear hby hc hl
      obtain ⟨g1, g6⟩ := h1
      cases hup : upB c
      · have HF : Hid (upOk zs = false) := by unfold Hid; rw [HU.out, hup]; rfl
        go_enter Try.func15, Try.ntmps15
        go_wp2_with (first | (go_at_call 51; refine (nameLong_any _ _ _ _).mono ?_; rintro e w' ⟨rfl, rfl⟩; rw [hlong]) | (go_at_call 52; refine (isUpper_any _ _).mono ?_; rintro e w' ⟨rfl, rfl⟩; rw [hup]))
        go_ret
        exact ⟨rb HF.out.symm, rfl⟩
      · have HF : Hid (upOk zs = (zs.drop 1).all lowB) := by unfold Hid; rw [HU.out, hup]; rfl
        go_enter Try.func15, Try.ntmps15
        go_wp2_with (first | (go_at_call 51; refine (nameLong_any _ _ _ _).mono ?_; rintro e w' ⟨rfl, rfl⟩; rw [hlong]) | (go_at_call 52; refine (isUpper_any _ _).mono ?_; rintro e w' ⟨rfl, rfl⟩; rw [hup]))
        all_goals
          refine (allLower_any _ _ _ (zs.drop 1) _ (lo := lo) (hi := hi) (by first | exact hT.out | exact hE.out (by omega))).mono ?_
          rintro e w'' ⟨rfl, rfl⟩
          go_wp2
          go_ret
          exact ⟨rb (by rw [HF.out, List.drop_one]), rfl⟩

set_option maxHeartbeats 400000 in
theorem specUpperOk_any (a : Option Addr) (n cap : Nat) (zs : List Int) (w : World) {lo hi : Nat} (h : Rd lo hi w a n cap zs) :
    Calls Try.prog 94 #[.slice a n cap] w fun e w' => e = .returned (.bool (upOk zs)) ∧ w' = w := by
  obtain ⟨hl, ⟨hn, hm⟩, hby, hc⟩ := h
  cases hlong : longB n
  · have HF : Hid (upOk zs = false) := by simp [upOk, Hid, hl, hlong]
    have h1 : n < 1 ∨ 6 < n := by simp [longB] at hlong; omega
    clear hby hc hl
    rcases h1 with h1 | h1
    · go_enter Try.func94, Try.ntmps94
      go_wp2
      go_ret
      exact ⟨rb HF.out.symm, rfl⟩
    · have hd : decide ((n : Int) < 1) = false := by simp; omega
      go_enter Try.func94, Try.ntmps94
      go_wp2
      go_ret
      exact ⟨rb HF.out.symm, rfl⟩
  · have h1 : 1 ≤ n ∧ n ≤ 6 := by simpa [longB] using hlong
    have hd : decide ((n : Int) < 1) = false := by simp; omega
    have hd6 : decide ((6 : Int) < (n : Int)) = false := by simp; omega
    rcases hc with h0 | ⟨b, off, rfl, hlo, hb, hc⟩
    · omega
    · obtain ⟨c, HC⟩ : ∃ c, Hid (c = zs.getD 0 0) := ⟨_, rfl⟩
      have hck : w.cell? ⟨b, off, none⟩ = some (.int .u8 c) := by rw [HC.out]; exact hc 0 (by omega)
      have HU : Hid (upOk zs = (upB c && (zs.drop 1).all lowB)) := by unfold Hid upOk; rw [hl, hlong, HC.out]; rfl
      have HCell : Hid (∀ j, j + 1 < n → w.cell? ⟨b, off + (j + 1), none⟩ = some (.int .u8 ((zs.drop 1).getD j 0))) := by
        intro j hj; have := hc (j + 1) hj; simpa [List.getD] using this
      have HL : Hid ((zs.drop 1).length = n - 1) := by simp [Hid, hl]
      clear hby hc hl
      obtain ⟨g1, g6⟩ := h1
      cases hup : upB c
      · have HF : Hid (upOk zs = false) := by unfold Hid; rw [HU.out, hup]; rfl
        go_enter Try.func94, Try.ntmps94
        go_wp2_with (go_at_call 120; refine (l1great_any _ _).mono ?_; rintro e w' ⟨rfl, rfl⟩; rw [hup])
        go_ret
        exact ⟨rb HF.out.symm, rfl⟩
      · have HF : Hid (upOk zs = (zs.drop 1).all lowB) := by unfold Hid; rw [HU.out, hup]; rfl
        obtain ⟨ys, HY⟩ : ∃ ys, Hid (ys = zs.drop 1) := ⟨_, rfl⟩
        rw [← HY.out] at HF HL HCell
        go_enter Try.func94, Try.ntmps94
        go_wp2_with (go_at_call 120; refine (l1great_any _ _).mono ?_; rintro e w1 ⟨rfl, hw⟩; subst hw; rw [hup])
        go_loop [3] (fun i => ∃ k : Nat, k + 1 ≤ n ∧ i = .int .i64 (k + 1 : Nat) ∧ (ys.take k).all lowB = true) (fun i => n - (intOf i).toNat)
        case atStart => exact ⟨0, by omega, rfl, by simp⟩
        case round =>
          obtain ⟨k, hk, rfl, hall⟩ := hrel
          have HA : Hid ((ys.take k).all lowB = true) := hall
          clear hall
          by_cases hlt : k + 1 < n
          · obtain ⟨c', HC'⟩ : ∃ c, Hid (c = ys.getD k 0) := ⟨_, rfl⟩
            have hck' : w1.cell? ⟨b, off + (k + 1), none⟩ = some (.int .u8 c') := by rw [HC'.out]; exact HCell.out k hlt
            cases hlow : lowB c'
            · have HF' : Hid (ys.all lowB = false) := all_false_of ys k (by rw [HL.out]; omega) (by rw [← HC'.out]; exact hlow)
              go_wp2_with (go_at_call 121; refine (l1small_any _ _).mono ?_; rintro e w' ⟨rfl, rfl⟩; rw [hlow])
              go_ret
              exact ⟨rb (HF.out.trans HF'.out).symm, rfl⟩
            · have hf := all_take_succ ys k (by rw [HL.out]; omega)
              rw [HA.out, ← HC'.out, hlow] at hf
              have HF' : Hid ((ys.take (k + 1)).all lowB = true) := hf
              clear hf
              go_wp2_with (go_at_call 121; refine (l1small_any _ _).mono ?_; rintro e w' ⟨rfl, rfl⟩; rw [hlow])
              go_round
              case rel => exact ⟨k + 1, by omega, by go_num, HF'.out⟩
              case measure => simp [intOf]; omega
          · have ht : ys.take k = ys := List.take_of_length_le (by rw [HL.out]; omega)
            have HF' : Hid (ys.all lowB = true) := by rw [← ht]; exact HA.out
            clear ht
            go_wp2
            go_ret
            exact ⟨rb (HF.out.trans HF'.out).symm, rfl⟩

set_option maxHeartbeats 400000 in
theorem implLowerOk_any (a : Option Addr) (n cap : Nat) (zs : List Int) (w : World) {lo hi : Nat} (h : Rd lo hi w a n cap zs) :
    Calls Try.prog 16 #[.slice a n cap] w fun e w' => e = .returned (.bool (lowOk zs)) ∧ w' = w := by
  have hl := h.len
  cases hlong : longB n
  · have HF : Hid (lowOk zs = false) := by simp [lowOk, Hid, hl, hlong]
    clear h hl
    go_enter Try.func16, Try.ntmps16
    go_wp2_with (go_at_call 51; refine (nameLong_any _ _ _ _).mono ?_; rintro e w' ⟨rfl, rfl⟩; rw [hlong])
    go_ret
    exact ⟨rb HF.out.symm, rfl⟩
  · have HF : Hid (lowOk zs = zs.all lowB) := by simp [lowOk, Hid, hl, hlong]
    have H : Hid (Rd lo hi w a n cap zs) := h
    clear h hl
    go_enter Try.func16, Try.ntmps16
    go_wp2_with (first | (go_at_call 51; refine (nameLong_any _ _ _ _).mono ?_; rintro e w' ⟨rfl, rfl⟩; rw [hlong]) | (go_at_call 53; refine (allLower_any _ _ _ zs _ H.out).mono ?_; rintro e w' ⟨rfl, rfl⟩))
    go_ret
    exact ⟨rb HF.out.symm, rfl⟩

set_option maxHeartbeats 400000 in
theorem specLowerOk_any (a : Option Addr) (n cap : Nat) (ys : List Int) (w : World) {lo hi : Nat} (h : Rd lo hi w a n cap ys) :
    Calls Try.prog 96 #[.slice a n cap] w fun e w' => e = .returned (.bool (lowOk ys)) ∧ w' = w := by
  obtain ⟨hl, ⟨hn, hm⟩, hby, hc⟩ := h
  cases hlong : longB n
  · have HF : Hid (lowOk ys = false) := by simp [lowOk, Hid, hl, hlong]
    have h1 : n < 1 ∨ 6 < n := by simp [longB] at hlong; omega
    clear hby hc hl
    rcases h1 with h1 | h1
    · go_enter Try.func96, Try.ntmps96
      go_wp2
      go_ret
      exact ⟨rb HF.out.symm, rfl⟩
    · have hd : decide ((n : Int) < 1) = false := by simp; omega
      go_enter Try.func96, Try.ntmps96
      go_wp2
      go_ret
      exact ⟨rb HF.out.symm, rfl⟩
  · have h1 : 1 ≤ n ∧ n ≤ 6 := by simpa [longB] using hlong
    have hd : decide ((n : Int) < 1) = false := by simp; omega
    have hd6 : decide ((6 : Int) < (n : Int)) = false := by simp; omega
    rcases hc with h0 | ⟨b, off, rfl, hlo, hb, hc⟩
    · omega
    · have HF : Hid (lowOk ys = ys.all lowB) := by simp [lowOk, Hid, hl, hlong]
      have HCell : Hid (∀ j, j < n → w.cell? ⟨b, off + j, none⟩ = some (.int .u8 (ys.getD j 0))) := hc
      have HL : Hid (ys.length = n) := hl
      clear hby hc hl
      obtain ⟨g1, g6⟩ := h1
      go_enter Try.func96, Try.ntmps96
      go_wp2
      go_loop [3] (fun i => ∃ k : Nat, k ≤ n ∧ i = .int .i64 k ∧ (ys.take k).all lowB = true) (fun i => n - (intOf i).toNat)
      case atStart => exact ⟨0, by omega, rfl, by simp⟩
      case round =>
        obtain ⟨k, hk, rfl, hall⟩ := hrel
        have HA : Hid ((ys.take k).all lowB = true) := hall
        clear hall
        by_cases hlt : k < n
        · obtain ⟨c', HC'⟩ : ∃ c, Hid (c = ys.getD k 0) := ⟨_, rfl⟩
          have hck' : w.cell? ⟨b, off + k, none⟩ = some (.int .u8 c') := by rw [HC'.out]; exact HCell.out k hlt
          cases hlow : lowB c'
          · have HF' : Hid (ys.all lowB = false) := all_false_of ys k (by rw [HL.out]; omega) (by rw [← HC'.out]; exact hlow)
            go_wp2_with (go_at_call 121; refine (l1small_any _ _).mono ?_; rintro e w' ⟨rfl, rfl⟩; rw [hlow])
            go_ret
            exact ⟨rb (HF.out.trans HF'.out).symm, rfl⟩
          · have hf := all_take_succ ys k (by rw [HL.out]; omega)
            rw [HA.out, ← HC'.out, hlow] at hf
            have HF' : Hid ((ys.take (k + 1)).all lowB = true) := hf
            clear hf
            go_wp2_with (go_at_call 121; refine (l1small_any _ _).mono ?_; rintro e w' ⟨rfl, rfl⟩; rw [hlow])
            go_round
            case rel => exact ⟨k + 1, by omega, by go_num, HF'.out⟩
            case measure => simp [intOf]; omega
        · have ht : ys.take k = ys := List.take_of_length_le (by rw [HL.out]; omega)
          have HF' : Hid (ys.all lowB = true) := by rw [← ht]; exact HA.out
          clear ht
          go_wp2
          go_ret
          exact ⟨rb (HF.out.trans HF'.out).symm, rfl⟩

end Go.Proofs.Ythojlfcahhjfaaa
