/- Several texts in one: Words, Conv, Kept, CmpB. -/
import Derived.Test.YtknainelonaigaaGreatDoorNBase
import Derived.WalkKit
import Derived.WalkSpells
import Derived.WalkLawsBesides
import Derived.Laws.BytesArg
import Derived.Lib.BytesEntry
namespace Go.Proofs.YtknainelonaigaaGreatDoor

section
open Go.RowKit

def lowB (c : Int) : Bool := decide (97 ≤ c) && decide (c ≤ 122)
def upB (c : Int) : Bool := decide (65 ≤ c) && decide (c ≤ 90)

theorem isLower_any (c : Int) (w : World) : Calls Tryz.prog 99 #[.int .u8 c] w fun e w' => e = .returned (.bool (lowB c)) ∧ w' = w := by
  by_cases h : 97 ≤ c
  · go_enter Tryz.func99, Tryz.ntmps99
    go_wp2
    go_ret
    exact ⟨by simp [lowB, h], rfl⟩
  · have hd : decide (97 ≤ c) = false := by simpa using h
    go_enter Tryz.func99, Tryz.ntmps99
    go_wp2
    go_ret
    exact ⟨by simp [lowB]; omega, rfl⟩

theorem l1small_any (c : Int) (w : World) : Calls Tryz.prog 89 #[.int .u8 c] w fun e w' => e = .returned (.bool (lowB c)) ∧ w' = w := by
  by_cases h : 97 ≤ c
  · go_enter Tryz.func89, Tryz.ntmps89
    go_wp2
    go_ret
    exact ⟨by simp [lowB, h], rfl⟩
  · have hd : decide (97 ≤ c) = false := by simpa using h
    go_enter Tryz.func89, Tryz.ntmps89
    go_wp2
    go_ret
    exact ⟨by simp [lowB]; omega, rfl⟩

theorem isUpper_any (c : Int) (w : World) : Calls Tryz.prog 126 #[.int .u8 c] w fun e w' => e = .returned (.bool (upB c)) ∧ w' = w := by
  by_cases h : 65 ≤ c
  · go_enter Tryz.func126, Tryz.ntmps126
    go_wp2
    go_ret
    exact ⟨by simp [upB, h], rfl⟩
  · have hd : decide (65 ≤ c) = false := by simpa using h
    go_enter Tryz.func126, Tryz.ntmps126
    go_wp2
    go_ret
    exact ⟨by simp [upB]; omega, rfl⟩

theorem l1great_any (c : Int) (w : World) : Calls Tryz.prog 88 #[.int .u8 c] w fun e w' => e = .returned (.bool (upB c)) ∧ w' = w := by
  by_cases h : 65 ≤ c
  · go_enter Tryz.func88, Tryz.ntmps88
    go_wp2
    go_ret
    exact ⟨by simp [upB, h], rfl⟩
  · have hd : decide (65 ≤ c) = false := by simpa using h
    go_enter Tryz.func88, Tryz.ntmps88
    go_wp2
    go_ret
    exact ⟨by simp [upB]; omega, rfl⟩

def longB (n : Nat) : Bool := decide (1 ≤ n) && decide (n ≤ 6)

theorem nameLong_any (a : Option Addr) (n cap : Nat) (w : World) : Calls Tryz.prog 76 #[.slice a n cap] w fun e w' => e = .returned (.bool (longB n)) ∧ w' = w := by
  by_cases h : (1 : Int) ≤ (n : Int)
  · have h' : 1 ≤ n := by omega
    go_enter Tryz.func76, Tryz.ntmps76
    go_wp2
    go_ret
    exact ⟨by simp [longB, h']; omega, rfl⟩
  · have hd : decide ((1 : Int) ≤ (n : Int)) = false := by simpa using h
    go_enter Tryz.func76, Tryz.ntmps76
    go_wp2
    go_ret
    exact ⟨by simp [longB]; omega, rfl⟩

theorem all_take_succ (zs : List Int) (k : Nat) (h : k < zs.length) : (zs.take (k + 1)).all lowB = ((zs.take k).all lowB && lowB (zs.getD k 0)) := by
  rw [List.take_succ_eq_append_getElem h, List.all_append]; simp [List.getD, h]

theorem all_false_of (zs : List Int) (k : Nat) (h : k < zs.length) (hf : lowB (zs.getD k 0) = false) : zs.all lowB = false := by
  rw [List.all_eq_false]; exact ⟨zs[k], List.getElem_mem h, by simpa [List.getD, h] using hf⟩

set_option maxHeartbeats 400000 in
theorem allLower_any (a : Option Addr) (n cap : Nat) (zs : List Int) (w : World) {lo hi : Nat} (h : Rd lo hi w a n cap zs) :
    Calls Tryz.prog 77 #[.slice a n cap] w fun e w' => e = .returned (.bool (zs.all lowB)) ∧ w' = w := by
  obtain ⟨hl, ⟨hn, hm⟩, hby, hc⟩ := h
  rcases hc with h0 | ⟨b, off, rfl, hlo, hb, hc⟩
  · subst h0
    have hz : zs = [] := List.eq_nil_of_length_eq_zero hl
    go_enter Tryz.func77, Tryz.ntmps77
    go_wp2
    refine wp_loop_rounds 1 ?_
    rw [rounds_succ]
    go_wp2
    go_ret
    exact ⟨by simp [hz], rfl⟩
  · go_enter Tryz.func77, Tryz.ntmps77
    go_wp2
    go_loop [7] (fun i => ∃ k : Nat, k ≤ n ∧ i = .int .i64 k ∧ (zs.take k).all lowB = true) (fun i => n - (intOf i).toNat)
    case atStart => exact ⟨0, Nat.zero_le _, rfl, by simp⟩
    case round =>
      obtain ⟨k, hk, rfl, hall⟩ := hrel
      have HA : Hid ((zs.take k).all lowB = true) := hall
      clear hall
      by_cases hlt : k < n
      · obtain ⟨c, HC⟩ : ∃ c, Hid (c = zs.getD k 0) := ⟨_, rfl⟩
        have hck : w.cell? ⟨b, off + k, none⟩ = some (.int .u8 c) := by rw [HC.out]; exact hc k hlt
        clear hc hby
        cases hlow : lowB c
        · have hf := all_false_of zs k (by omega) (by rw [← HC.out]; exact hlow)
          have HF : Hid (zs.all lowB = false) := hf
          clear hf
          go_wp2_with (go_at_call 99; refine (isLower_any _ _).mono ?_; rintro e w' ⟨rfl, rfl⟩; rw [hlow])
          go_ret
          exact ⟨rb HF.out.symm, rfl⟩
        · have hf := all_take_succ zs k (by omega)
          rw [HA.out, ← HC.out, hlow] at hf
          have HF : Hid ((zs.take (k + 1)).all lowB = true) := hf
          clear hf
          go_wp2_with (go_at_call 99; refine (isLower_any _ _).mono ?_; rintro e w' ⟨rfl, rfl⟩; rw [hlow])
          go_round
          case rel => exact ⟨k + 1, by omega, by go_num, HF.out⟩
          case measure => simp [intOf]; omega
      · have ht : zs.take k = zs := List.take_of_length_le (by omega)
        have HF : Hid (zs.all lowB = true) := by rw [← ht]; exact HA.out
        clear ht hc hby
        go_wp2
        go_ret
        exact ⟨rb HF.out.symm, rfl⟩

/-- A capital and small letters behind it, 1 to 6 in all. -/
def upOk (zs : List Int) : Bool := longB zs.length && (upB (zs.getD 0 0) && (zs.drop 1).all lowB)
def lowOk (zs : List Int) : Bool := longB zs.length && zs.all lowB

set_option maxHeartbeats 400000 in
theorem implUpperOk_any (a : Option Addr) (n cap : Nat) (zs : List Int) (w : World) {lo hi : Nat} (h : Rd lo hi w a n cap zs) :
    Calls Tryz.prog 120 #[.slice a n cap] w fun e w' => e = .returned (.bool (upOk zs)) ∧ w' = w := by
  obtain ⟨hl, ⟨hn, hm⟩, hby, hc⟩ := h
  cases hlong : longB n
  · have HF : Hid (upOk zs = false) := by simp [upOk, Hid, hl, hlong]
    clear hby hc hl
    go_enter Tryz.func120, Tryz.ntmps120
    go_wp2_with (go_at_call 76; refine (nameLong_any _ _ _ _).mono ?_; rintro e w' ⟨rfl, rfl⟩; rw [hlong])
    go_ret
    exact ⟨rb HF.out.symm, rfl⟩
  · have h1 : 1 ≤ n ∧ n ≤ 6 := by simpa [longB] using hlong
    rcases hc with h0 | ⟨b, off, rfl, hlo, hb, hc⟩
    · omega
    · obtain ⟨c, HC⟩ : ∃ c, Hid (c = zs.getD 0 0) := ⟨_, rfl⟩
      have hck : w.cell? ⟨b, off, none⟩ = some (.int .u8 c) := by rw [HC.out]; exact hc 0 (by omega)
      have hT : Hid (Rd lo hi w (some ⟨b, off + 1, none⟩) (n - 1) (cap - 1) (zs.drop 1)) := Rd.tail ⟨hl, ⟨hn, hm⟩, hby, .inr ⟨b, off, rfl, hlo, hb, hc⟩⟩ h1.1
      have HU : Hid (upOk zs = (upB c && (zs.drop 1).all lowB)) := by unfold Hid upOk; rw [hl, hlong, HC.out]; rfl
      have hE : Hid (n ≤ 1 → Rd lo hi w (some ⟨b, off, none⟩) (n - 1) 0 (zs.drop 1)) := by
        intro h
        have e1 : n - 1 = 0 := by omega
        have e2 : zs.drop 1 = [] := by rw [List.drop_eq_nil_iff, hl]; omega
        rw [e1, e2]; exact Rd.none_of (by omega)
      clear hby hc hl
      obtain ⟨g1, g6⟩ := h1
      cases hup : upB c
      · have HF : Hid (upOk zs = false) := by unfold Hid; rw [HU.out, hup]; rfl
        go_enter Tryz.func120, Tryz.ntmps120
        go_wp2_with (first | (go_at_call 76; refine (nameLong_any _ _ _ _).mono ?_; rintro e w' ⟨rfl, rfl⟩; rw [hlong]) | (go_at_call 126; refine (isUpper_any _ _).mono ?_; rintro e w' ⟨rfl, rfl⟩; rw [hup]))
        go_ret
        exact ⟨rb HF.out.symm, rfl⟩
      · have HF : Hid (upOk zs = (zs.drop 1).all lowB) := by unfold Hid; rw [HU.out, hup]; rfl
        go_enter Tryz.func120, Tryz.ntmps120
        go_wp2_with (first | (go_at_call 76; refine (nameLong_any _ _ _ _).mono ?_; rintro e w' ⟨rfl, rfl⟩; rw [hlong]) | (go_at_call 126; refine (isUpper_any _ _).mono ?_; rintro e w' ⟨rfl, rfl⟩; rw [hup]))
        all_goals
          refine (allLower_any _ _ _ (zs.drop 1) _ (lo := lo) (hi := hi) (by first | exact hT.out | exact hE.out (by omega))).mono ?_
          rintro e w'' ⟨rfl, rfl⟩
          go_wp2
          go_ret
          exact ⟨rb (by rw [HF.out, List.drop_one]), rfl⟩

set_option maxHeartbeats 400000 in
theorem specUpperOk_any (a : Option Addr) (n cap : Nat) (zs : List Int) (w : World) {lo hi : Nat} (h : Rd lo hi w a n cap zs) :
    Calls Tryz.prog 63 #[.slice a n cap] w fun e w' => e = .returned (.bool (upOk zs)) ∧ w' = w := by
  obtain ⟨hl, ⟨hn, hm⟩, hby, hc⟩ := h
  cases hlong : longB n
  · have HF : Hid (upOk zs = false) := by simp [upOk, Hid, hl, hlong]
    have h1 : n < 1 ∨ 6 < n := by simp [longB] at hlong; omega
    clear hby hc hl
    rcases h1 with h1 | h1
    · go_enter Tryz.func63, Tryz.ntmps63
      go_wp2
      go_ret
      exact ⟨rb HF.out.symm, rfl⟩
    · have hd : decide ((n : Int) < 1) = false := by simp; omega
      go_enter Tryz.func63, Tryz.ntmps63
      go_wp2
      go_ret
      exact ⟨rb HF.out.symm, rfl⟩
  · have h1 : 1 ≤ n ∧ n ≤ 6 := by simpa [longB] using hlong
    have hd : decide ((n : Int) < 1) = false := by simp; omega
    have hd6 : decide ((6 : Int) < (n : Int)) = false := by simp; omega
    rcases hc with h0 | ⟨b, off, rfl, hlo, hb, hc⟩
    · omega
    · obtain ⟨c, HC⟩ : ∃ c, Hid (c = zs.getD 0 0) := ⟨_, rfl⟩
      have hck : w.cell? ⟨b, off, none⟩ = some (.int .u8 c) := by rw [HC.out]; exact hc 0 (by omega)
      have HU : Hid (upOk zs = (upB c && (zs.drop 1).all lowB)) := by unfold Hid upOk; rw [hl, hlong, HC.out]; rfl
      have HCell : Hid (∀ j, j + 1 < n → w.cell? ⟨b, off + (j + 1), none⟩ = some (.int .u8 ((zs.drop 1).getD j 0))) := by
        intro j hj; have := hc (j + 1) hj; simpa [List.getD] using this
      have HL : Hid ((zs.drop 1).length = n - 1) := by simp [Hid, hl]
      clear hby hc hl
      obtain ⟨g1, g6⟩ := h1
      cases hup : upB c
      · have HF : Hid (upOk zs = false) := by unfold Hid; rw [HU.out, hup]; rfl
        go_enter Tryz.func63, Tryz.ntmps63
        go_wp2_with (go_at_call 88; refine (l1great_any _ _).mono ?_; rintro e w' ⟨rfl, rfl⟩; rw [hup])
        go_ret
        exact ⟨rb HF.out.symm, rfl⟩
      · have HF : Hid (upOk zs = (zs.drop 1).all lowB) := by unfold Hid; rw [HU.out, hup]; rfl
        obtain ⟨ys, HY⟩ : ∃ ys, Hid (ys = zs.drop 1) := ⟨_, rfl⟩
        rw [← HY.out] at HF HL HCell
        go_enter Tryz.func63, Tryz.ntmps63
        go_wp2_with (go_at_call 88; refine (l1great_any _ _).mono ?_; rintro e w1 ⟨rfl, hw⟩; subst hw; rw [hup])
        go_loop [3] (fun i => ∃ k : Nat, k + 1 ≤ n ∧ i = .int .i64 (k + 1 : Nat) ∧ (ys.take k).all lowB = true) (fun i => n - (intOf i).toNat)
        case atStart => exact ⟨0, by omega, rfl, by simp⟩
        case round =>
          obtain ⟨k, hk, rfl, hall⟩ := hrel
          have HA : Hid ((ys.take k).all lowB = true) := hall
          clear hall
          by_cases hlt : k + 1 < n
          · obtain ⟨c', HC'⟩ : ∃ c, Hid (c = ys.getD k 0) := ⟨_, rfl⟩
            have hck' : w1.cell? ⟨b, off + (k + 1), none⟩ = some (.int .u8 c') := by rw [HC'.out]; exact HCell.out k hlt
            cases hlow : lowB c'
            · have HF' : Hid (ys.all lowB = false) := all_false_of ys k (by rw [HL.out]; omega) (by rw [← HC'.out]; exact hlow)
              go_wp2_with (go_at_call 89; refine (l1small_any _ _).mono ?_; rintro e w' ⟨rfl, rfl⟩; rw [hlow])
              go_ret
              exact ⟨rb (HF.out.trans HF'.out).symm, rfl⟩
            · have hf := all_take_succ ys k (by rw [HL.out]; omega)
              rw [HA.out, ← HC'.out, hlow] at hf
              have HF' : Hid ((ys.take (k + 1)).all lowB = true) := hf
              clear hf
              go_wp2_with (go_at_call 89; refine (l1small_any _ _).mono ?_; rintro e w' ⟨rfl, rfl⟩; rw [hlow])
              go_round
              case rel => exact ⟨k + 1, by omega, by go_num, HF'.out⟩
              case measure => simp [intOf]; omega
          · have ht : ys.take k = ys := List.take_of_length_le (by rw [HL.out]; omega)
            have HF' : Hid (ys.all lowB = true) := by rw [← ht]; exact HA.out
            clear ht
            go_wp2
            go_ret
            exact ⟨rb (HF.out.trans HF'.out).symm, rfl⟩

set_option maxHeartbeats 400000 in
theorem implLowerOk_any (a : Option Addr) (n cap : Nat) (zs : List Int) (w : World) {lo hi : Nat} (h : Rd lo hi w a n cap zs) :
    Calls Tryz.prog 48 #[.slice a n cap] w fun e w' => e = .returned (.bool (lowOk zs)) ∧ w' = w := by
  have hl := h.len
  cases hlong : longB n
  · have HF : Hid (lowOk zs = false) := by simp [lowOk, Hid, hl, hlong]
    clear h hl
    go_enter Tryz.func48, Tryz.ntmps48
    go_wp2_with (go_at_call 76; refine (nameLong_any _ _ _ _).mono ?_; rintro e w' ⟨rfl, rfl⟩; rw [hlong])
    go_ret
    exact ⟨rb HF.out.symm, rfl⟩
  · have HF : Hid (lowOk zs = zs.all lowB) := by simp [lowOk, Hid, hl, hlong]
    have H : Hid (Rd lo hi w a n cap zs) := h
    clear h hl
    go_enter Tryz.func48, Tryz.ntmps48
    go_wp2_with (first | (go_at_call 76; refine (nameLong_any _ _ _ _).mono ?_; rintro e w' ⟨rfl, rfl⟩; rw [hlong]) | (go_at_call 77; refine (allLower_any _ _ _ zs _ H.out).mono ?_; rintro e w' ⟨rfl, rfl⟩))
    go_ret
    exact ⟨rb HF.out.symm, rfl⟩

set_option maxHeartbeats 400000 in
theorem specLowerOk_any (a : Option Addr) (n cap : Nat) (ys : List Int) (w : World) {lo hi : Nat} (h : Rd lo hi w a n cap ys) :
    Calls Tryz.prog 64 #[.slice a n cap] w fun e w' => e = .returned (.bool (lowOk ys)) ∧ w' = w := by
  obtain ⟨hl, ⟨hn, hm⟩, hby, hc⟩ := h
  cases hlong : longB n
  · have HF : Hid (lowOk ys = false) := by simp [lowOk, Hid, hl, hlong]
    have h1 : n < 1 ∨ 6 < n := by simp [longB] at hlong; omega
    clear hby hc hl
    rcases h1 with h1 | h1
    · go_enter Tryz.func64, Tryz.ntmps64
      go_wp2
      go_ret
      exact ⟨rb HF.out.symm, rfl⟩
    · have hd : decide ((n : Int) < 1) = false := by simp; omega
      go_enter Tryz.func64, Tryz.ntmps64
      go_wp2
      go_ret
      exact ⟨rb HF.out.symm, rfl⟩
  · have h1 : 1 ≤ n ∧ n ≤ 6 := by simpa [longB] using hlong
    have hd : decide ((n : Int) < 1) = false := by simp; omega
    have hd6 : decide ((6 : Int) < (n : Int)) = false := by simp; omega
    rcases hc with h0 | ⟨b, off, rfl, hlo, hb, hc⟩
    · omega
    · have HF : Hid (lowOk ys = ys.all lowB) := by simp [lowOk, Hid, hl, hlong]
      have HCell : Hid (∀ j, j < n → w.cell? ⟨b, off + j, none⟩ = some (.int .u8 (ys.getD j 0))) := hc
      have HL : Hid (ys.length = n) := hl
      clear hby hc hl
      obtain ⟨g1, g6⟩ := h1
      go_enter Tryz.func64, Tryz.ntmps64
      go_wp2
      go_loop [3] (fun i => ∃ k : Nat, k ≤ n ∧ i = .int .i64 k ∧ (ys.take k).all lowB = true) (fun i => n - (intOf i).toNat)
      case atStart => exact ⟨0, by omega, rfl, by simp⟩
      case round =>
        obtain ⟨k, hk, rfl, hall⟩ := hrel
        have HA : Hid ((ys.take k).all lowB = true) := hall
        clear hall
        by_cases hlt : k < n
        · obtain ⟨c', HC'⟩ : ∃ c, Hid (c = ys.getD k 0) := ⟨_, rfl⟩
          have hck' : w.cell? ⟨b, off + k, none⟩ = some (.int .u8 c') := by rw [HC'.out]; exact HCell.out k hlt
          cases hlow : lowB c'
          · have HF' : Hid (ys.all lowB = false) := all_false_of ys k (by rw [HL.out]; omega) (by rw [← HC'.out]; exact hlow)
            go_wp2_with (go_at_call 89; refine (l1small_any _ _).mono ?_; rintro e w' ⟨rfl, rfl⟩; rw [hlow])
            go_ret
            exact ⟨rb (HF.out.trans HF'.out).symm, rfl⟩
          · have hf := all_take_succ ys k (by rw [HL.out]; omega)
            rw [HA.out, ← HC'.out, hlow] at hf
            have HF' : Hid ((ys.take (k + 1)).all lowB = true) := hf
            clear hf
            go_wp2_with (go_at_call 89; refine (l1small_any _ _).mono ?_; rintro e w' ⟨rfl, rfl⟩; rw [hlow])
            go_round
            case rel => exact ⟨k + 1, by omega, by go_num, HF'.out⟩
            case measure => simp [intOf]; omega
        · have ht : ys.take k = ys := List.take_of_length_le (by rw [HL.out]; omega)
          have HF' : Hid (ys.all lowB = true) := by rw [← ht]; exact HA.out
          clear ht
          go_wp2
          go_ret
          exact ⟨rb (HF.out.trans HF'.out).symm, rfl⟩
end

section
open Go.RowKit

theorem conv_any {a : Option Addr} {n cap : Nat} {zs : List Int} {w : World} {lo hi : Nat} (h : Rd lo hi w a n cap zs) : (convert 28 9 (.slice a n cap)).run Tryz.prog w = .ok (.string (strOfNums zs)) w := by
  obtain ⟨hl, _, _, hc⟩ := h
  rcases hc with h0 | ⟨b, off, rfl, hlo, hb, hc⟩
  · subst h0
    have hz : zs = [] := List.eq_nil_of_length_eq_zero hl
    subst hz
    rw [run_convert_bytes_string w 28 9 5 _ 0 cap Tryz.underlying28 Tryz.underlying5 Tryz.underlying9]
    cases a <;> simp [Conv.bytesToString, loadCells]
    all_goals rfl
  · exact run_convert_bytes_arg w 28 5 Tryz.underlying28 Tryz.underlying5 b off n cap zs hl hc 9 Tryz.underlying9
end

section
open Go.RowKit

/-- Top, Bot, Not, And, Or, Some, All, Sub, Eq, Dis, Role, Is, Rel, by their bytes. -/
def keptWords : List (List UInt8) := [[84, 111, 112], [66, 111, 116], [78, 111, 116], [65, 110, 100], [79, 114], [83, 111, 109, 101], [65, 108, 108], [83, 117, 98], [69, 113], [68, 105, 115], [82, 111, 108, 101], [73, 115], [82, 101, 108]]
def keptB (l : List UInt8) : Bool := (l == [84, 111, 112]) || ((l == [66, 111, 116]) || ((l == [78, 111, 116]) || ((l == [65, 110, 100]) || ((l == [79, 114]) || ((l == [83, 111, 109, 101]) || ((l == [65, 108, 108]) || ((l == [83, 117, 98]) || ((l == [69, 113]) || ((l == [68, 105, 115]) || ((l == [82, 111, 108, 101]) || ((l == [73, 115]) || (l == [82, 101, 108]))))))))))))

set_option maxRecDepth 100000 in
set_option maxHeartbeats 1000000 in
theorem implKept_any (a : Option Addr) (n cap : Nat) (zs : List Int) (w : World) {lo hi : Nat} (h : Rd lo hi w a n cap zs) :
    Calls Tryz.prog 121 #[.slice a n cap] w fun e w' => e = .returned (.bool (keptB (strOfNums zs).toList)) ∧ w' = w := by
  have hcv := conv_any h
  obtain ⟨s, hs⟩ : ∃ s, s = strOfNums zs := ⟨_, rfl⟩
  rw [← hs] at hcv ⊢
  clear hs h
  go_enter Tryz.func121, Tryz.ntmps121
  go_wp2
  all_goals
    go_ret
    refine ⟨rb ?_, rfl⟩
    clear hcv
    first | (simp only [keptB, *, Bool.true_or, Bool.false_or]; done) | (exfalso; simp_all; done)

theorem keptB_eq (l : List UInt8) : keptB l = keptWords.any (fun x => x == l) := by
  simp only [keptB, keptWords, List.any_cons, List.any_nil, Bool.or_false, Bool.beq_comm (a := l)]

def wordVal (j : Nat) : Value := .string ⟨(keptWords.getD j []).toArray⟩

theorem toList_mk (l : List UInt8) : (ByteArray.mk l.toArray).toList = l := by
  rw [ByteArray.toList_eq]

theorem any_take_succ (k : Nat) (hk : k < 13) (l : List UInt8) : (keptWords.take (k + 1)).any (fun x => x == l) = ((keptWords.take k).any (fun x => x == l) || (keptWords.getD k [] == l)) := by
  have : k < keptWords.length := by simp [keptWords]; omega
  rw [List.take_succ_eq_append_getElem this, List.any_append]; simp [List.getD, this]

theorem any_true_of (k : Nat) (hk : k < 13) (l : List UInt8) (h : (keptWords.getD k [] == l) = true) : keptB l = true := by
  have hk' : k < keptWords.length := by simp [keptWords]; omega
  rw [keptB_eq, List.any_eq_true]
  exact ⟨keptWords[k], List.getElem_mem hk', by simpa [List.getD, hk'] using h⟩

set_option maxRecDepth 100000 in
set_option maxHeartbeats 1000000 in
theorem specKept_any (a : Option Addr) (n cap : Nat) (zs : List Int) (w : World) {lo hi : Nat} (h : Rd lo hi w a n cap zs) (hhi : hi ≤ w.heap.size) :
    Calls Tryz.prog 91 #[.slice a n cap] w fun e w' => e = .returned (.bool (keptB (strOfNums zs).toList)) ∧ Below w.heap.size w w' := by
  have H : Hid (Rd lo hi w a n cap zs) := h
  clear h
  obtain ⟨s, HS⟩ : ∃ s, Hid (s = strOfNums zs) := ⟨_, rfl⟩
  rw [← HS.out]
  go_enter Tryz.func91, Tryz.ntmps91
  go_wp2
  go_loopw [4] (fun i wr => ∃ k : Nat, k ≤ 13 ∧ i = .int .i64 k ∧ wr.rowIs w.heap.size 9 13 wordVal ∧ Below w.heap.size w wr ∧ (keptWords.take k).any (fun x => x == s.toList) = false) (fun i _ => 13 - (intOf i).toNat)
  case atStart =>
    refine ⟨0, Nat.zero_le _, rfl, ?_, (Below.refl _ _).alloc (Nat.le_refl _) _, by simp⟩
    refine World.rowIs_alloc w _ 9 wordVal (fun i hi => ?_)
    simp at hi
    match i, hi with
    | 0, _ | 1, _ | 2, _ | 3, _ | 4, _ | 5, _ | 6, _ | 7, _ | 8, _ | 9, _ | 10, _ | 11, _ | 12, _ => rfl
  case round =>
    obtain ⟨k, hk, rfl, hrow, hbel, hany⟩ := hrel
    have HN : Hid ((keptWords.take k).any (fun x => x == s.toList) = false) := hany
    clear hany
    by_cases hlt : k < 13
    · have hki : (k : Int) < 13 := by omega
      obtain ⟨t, HT⟩ : ∃ t, Hid (t = ByteArray.mk (keptWords.getD k []).toArray) := ⟨_, rfl⟩
      have hcell : wr.cell? ⟨w.heap.size, k, none⟩ = some (.string t) := by rw [HT.out]; exact hrow.cell hlt
      have hcv : ∀ m, (convert 28 9 (.slice a n cap)).run Tryz.prog (wr.drewN m) = .ok (.string s) (wr.drewN m) := by
        intro m; rw [HS.out]; exact conv_any (H.out.below (below_drewN hbel m) hhi)
      have HR : Hid (wr.rowIs w.heap.size 9 13 wordVal) := hrow
      have HB : Hid (Below w.heap.size w wr) := hbel
      clear hrow hbel
      cases hb : (t.toList == s.toList)
      · have HF : Hid ((keptWords.take (k + 1)).any (fun x => x == s.toList) = false) := by
          unfold Hid; rw [any_take_succ k hlt, HN.out, Bool.false_or]; rw [HT.out, toList_mk] at hb; exact hb
        go_wp2
        go_quiet (fail)
        go_wp2
        go_roundw
        case rel => exact ⟨k + 1, by omega, by go_num, World.rowIs.of_block HR.out rfl, below_drewN HB.out _, HF.out⟩
        case measure => simp [intOf]; omega
      · have HF : Hid (keptB s.toList = true) := any_true_of k hlt _ (by rw [HT.out, toList_mk] at hb; exact hb)
        go_wp2
        go_quiet (fail)
        go_wp2
        go_ret
        exact ⟨rb HF.out.symm, below_drewN HB.out _⟩
    · have HF : Hid (keptB s.toList = false) := by
        have e : keptWords.take k = keptWords := List.take_of_length_le (by simp [keptWords]; omega)
        unfold Hid; rw [keptB_eq, ← e]; exact HN.out
      have HB : Hid (Below w.heap.size w wr) := hbel
      clear hrow hbel
      go_wp2
      go_ret
      exact ⟨rb HF.out.symm, HB.out⟩
end

section
open Go.RowKit

/-- -1, 0, 1: by their bytes. -/
def cmpZ (xs ys : List Int) : Int := Lib.compareBytes (strOfNums xs).toList (strOfNums ys).toList

theorem bytesOf_any {a : Option Addr} {n cap : Nat} {zs : List Int} {w : World} {lo hi : Nat} (h : Rd lo hi w a n cap zs) : (Extern.Bytes.bytesOf (.slice a n cap)).run Tryz.prog w = .ok (strOfNums zs) w := by
  rcases h.cells with h0 | ⟨b, off, rfl, _, _, hc⟩
  · subst h0
    have hz : zs = [] := List.eq_nil_of_length_eq_zero h.len
    subst hz
    cases a with
    | none => rfl
    | some a => rfl
  · have hl := Lib.run_loadBytesX (P := Tryz.prog) w zs ⟨b, off, none⟩ .empty (fun j x hj => by
      have hjl : j < zs.length := (List.getElem?_eq_some_iff.1 hj).1
      have e : (⟨b, off, none⟩ : Addr).add j = ⟨b, off + j, none⟩ := by unfold Addr.add; split <;> simp_all
      rw [e, hc j (by have := h.len; omega), List.getD_eq_getElem?_getD, hj]
      rfl)
    rw [h.len] at hl
    show (Extern.Bytes.loadBytes ⟨b, off, none⟩ n .empty).run Tryz.prog w = _
    rw [hl]
    congr 1
    apply ByteArray.ext
    show (#[] : Array UInt8) ++ (Lib.bytesOf zs).toArray = _
    simp [Lib.bytesOf, strOfNums]

theorem compare_run {a a' : Option Addr} {n cap n' cap' : Nat} {xs ys : List Int} {w : World} {lo hi lo' hi' : Nat} (h : Rd lo hi w a n cap xs) (h' : Rd lo' hi' w a' n' cap' ys) :
    (Extern.BytealgCompare.compare #[.slice a n cap, .slice a' n' cap']).run Tryz.prog w = .ok (.int .i64 (cmpZ xs ys)) w := by
  change Sem.run Tryz.prog (do pure (goInt (Extern.BytealgCompare.cmp (← Extern.Bytes.bytesOf (.slice a n cap)) (← Extern.Bytes.bytesOf (.slice a' n' cap'))))) w = _
  simp only [Sem.run_bind, Sem.run_pure, bytesOf_any h, bytesOf_any h', Result.andThen]
  rw [Lib.cmp_eq]
  unfold cmpZ
  rw [ByteArray.toList_eq, ByteArray.toList_eq]
  rfl

set_option maxHeartbeats 1000000 in
set_option maxRecDepth 100000 in
theorem bytesCompare_any {a a' : Option Addr} {n cap n' cap' : Nat} {xs ys : List Int} {w : World} {lo hi lo' hi' : Nat} (h : Rd lo hi w a n cap xs) (h' : Rd lo' hi' w a' n' cap' ys) :
    Calls Tryz.prog 75 #[.slice a n cap, .slice a' n' cap'] w fun e w' => e = .returned (.int .i64 (cmpZ xs ys)) ∧ w' = w := by
  have HC : Hid ((Extern.BytealgCompare.compare #[.slice a n cap, .slice a' n' cap']).run Tryz.prog w = .ok (.int .i64 (cmpZ xs ys)) w) := compare_run h h'
  clear h h'
  go_enter Tryz.func75, Tryz.ntmps75
  go_wp2
  rw [run_callFunc_extern Tryz.func98 (by kernel_rfl) (by kernel_rfl) (by kernel_rfl) (e := Extern.BytealgCompare.compare) (by kernel_rfl), HC.out]
  simp only [Result.andThen]
  rw [Oper.upon_value]
  go_wp2
  go_ret
  exact ⟨rfl, rfl⟩

theorem less_cmp : ∀ (a b : List UInt8), (if Op.bytesLess a b = true then (-1 : Int) else if Op.bytesLess b a = true then 1 else 0) = Lib.compareBytes a b
  | [], [] => by simp [Op.bytesLess, Lib.compareBytes]
  | [], b :: ys => by simp [Op.bytesLess, Lib.compareBytes]
  | a :: xs, [] => by simp [Op.bytesLess, Lib.compareBytes]
  | a :: xs, b :: ys => by
    have ih := less_cmp xs ys
    rw [Lib.compareBytes, ← ih]
    by_cases h1 : a < b
    · simp [Op.bytesLess, h1]
    · by_cases h2 : b < a
      · have hne : ¬ a = b := fun e => by subst e; exact h1 h2
        simp [Op.bytesLess, h1, h2, hne]
      · have he : a = b := UInt8.le_antisymm (UInt8.not_lt.1 h2) (UInt8.not_lt.1 h1)
        subst he
        simp [Op.bytesLess]
end

end Go.Proofs.YtknainelonaigaaGreatDoor
