/- Several texts in one: Words, OwnB. -/
import Derived.Test.YtckhjoancfbkfaaGreatNG2
import Derived.WalkKit
import Derived.WalkSpells
import Derived.WalkLawsBesides
import Derived.Laws.AppendOwn
namespace Go.Proofs.YtckhjoancfbkfaaGreat

section
open Go.RowKit

def lowB (c : Int) : Bool := decide (97 ≤ c) && decide (c ≤ 122)
def upB (c : Int) : Bool := decide (65 ≤ c) && decide (c ≤ 90)

theorem isLower_any (c : Int) (w : World) : Calls Tryz.prog 161 #[.int .u8 c] w fun e w' => e = .returned (.bool (lowB c)) ∧ w' = w := by
  by_cases h : 97 ≤ c
  · go_enter Tryz.func161, Tryz.ntmps161
    go_wp2
    go_ret
    exact ⟨by simp [lowB, h], rfl⟩
  · have hd : decide (97 ≤ c) = false := by simpa using h
    go_enter Tryz.func161, Tryz.ntmps161
    go_wp2
    go_ret
    exact ⟨by simp [lowB]; omega, rfl⟩

theorem l1small_any (c : Int) (w : World) : Calls Tryz.prog 119 #[.int .u8 c] w fun e w' => e = .returned (.bool (lowB c)) ∧ w' = w := by
  by_cases h : 97 ≤ c
  · go_enter Tryz.func119, Tryz.ntmps119
    go_wp2
    go_ret
    exact ⟨by simp [lowB, h], rfl⟩
  · have hd : decide (97 ≤ c) = false := by simpa using h
    go_enter Tryz.func119, Tryz.ntmps119
    go_wp2
    go_ret
    exact ⟨by simp [lowB]; omega, rfl⟩

theorem isUpper_any (c : Int) (w : World) : Calls Tryz.prog 164 #[.int .u8 c] w fun e w' => e = .returned (.bool (upB c)) ∧ w' = w := by
  by_cases h : 65 ≤ c
  · go_enter Tryz.func164, Tryz.ntmps164
    go_wp2
    go_ret
    exact ⟨by simp [upB, h], rfl⟩
  · have hd : decide (65 ≤ c) = false := by simpa using h
    go_enter Tryz.func164, Tryz.ntmps164
    go_wp2
    go_ret
    exact ⟨by simp [upB]; omega, rfl⟩

theorem l1great_any (c : Int) (w : World) : Calls Tryz.prog 146 #[.int .u8 c] w fun e w' => e = .returned (.bool (upB c)) ∧ w' = w := by
  by_cases h : 65 ≤ c
  · go_enter Tryz.func146, Tryz.ntmps146
    go_wp2
    go_ret
    exact ⟨by simp [upB, h], rfl⟩
  · have hd : decide (65 ≤ c) = false := by simpa using h
    go_enter Tryz.func146, Tryz.ntmps146
    go_wp2
    go_ret
    exact ⟨by simp [upB]; omega, rfl⟩

def longB (n : Nat) : Bool := decide (1 ≤ n) && decide (n ≤ 6)

theorem nameLong_any (a : Option Addr) (n cap : Nat) (w : World) : Calls Tryz.prog 140 #[.slice a n cap] w fun e w' => e = .returned (.bool (longB n)) ∧ w' = w := by
  by_cases h : (1 : Int) ≤ (n : Int)
  · have h' : 1 ≤ n := by omega
    go_enter Tryz.func140, Tryz.ntmps140
    go_wp2
    go_ret
    exact ⟨by simp [longB, h']; omega, rfl⟩
  · have hd : decide ((1 : Int) ≤ (n : Int)) = false := by simpa using h
    go_enter Tryz.func140, Tryz.ntmps140
    go_wp2
    go_ret
    exact ⟨by simp [longB]; omega, rfl⟩

theorem all_take_succ (zs : List Int) (k : Nat) (h : k < zs.length) : (zs.take (k + 1)).all lowB = ((zs.take k).all lowB && lowB (zs.getD k 0)) := by
  rw [List.take_succ_eq_append_getElem h, List.all_append]; simp [List.getD, h]

theorem all_false_of (zs : List Int) (k : Nat) (h : k < zs.length) (hf : lowB (zs.getD k 0) = false) : zs.all lowB = false := by
  rw [List.all_eq_false]; exact ⟨zs[k], List.getElem_mem h, by simpa [List.getD, h] using hf⟩

set_option maxHeartbeats 400000 in
theorem allLower_any (a : Option Addr) (n cap : Nat) (zs : List Int) (w : World) {lo hi : Nat} (h : Rd lo hi w a n cap zs) :
    Calls Tryz.prog 141 #[.slice a n cap] w fun e w' => e = .returned (.bool (zs.all lowB)) ∧ w' = w := by
  obtain ⟨hl, ⟨hn, hm⟩, hby, hc⟩ := h
  rcases hc with h0 | ⟨b, off, rfl, hlo, hb, hc⟩
  · subst h0
    have hz : zs = [] := List.eq_nil_of_length_eq_zero hl
    go_enter Tryz.func141, Tryz.ntmps141
    go_wp2
    refine wp_loop_rounds 1 ?_
    rw [rounds_succ]
    go_wp2
    go_ret
    exact ⟨by simp [hz], rfl⟩
  · go_enter Tryz.func141, Tryz.ntmps141
    go_wp2
    go_loop [7] (fun i => ∃ k : Nat, k ≤ n ∧ i = .int .i64 k ∧ (zs.take k).all lowB = true) (fun i => n - (intOf i).toNat)
    case atStart => exact ⟨0, Nat.zero_le _, rfl, by simp⟩
    case round =>
      obtain ⟨k, hk, rfl, hall⟩ := hrel
      have HA : Hid ((zs.take k).all lowB = true) := hall
      clear hall
      by_cases hlt : k < n
      · obtain ⟨c, HC⟩ : ∃ c, Hid (c = zs.getD k 0) := ⟨_, rfl⟩
        have hck : w.cell? ⟨b, off + k, none⟩ = some (.int .u8 c) := by rw [HC.out]; exact hc k hlt
        clear hc hby
        cases hlow : lowB c
        · have hf := all_false_of zs k (by omega) (by rw [← HC.out]; exact hlow)
          have HF : Hid (zs.all lowB = false) := hf
          clear hf
          go_wp2_with (go_at_call 161; refine (isLower_any _ _).mono ?_; rintro e w' ⟨rfl, rfl⟩; rw [hlow])
          go_ret
          exact ⟨rb HF.out.symm, rfl⟩
        · have hf := all_take_succ zs k (by omega)
          rw [HA.out, ← HC.out, hlow] at hf
          have HF : Hid ((zs.take (k + 1)).all lowB = true) := hf
          clear hf
          go_wp2_with (go_at_call 161; refine (isLower_any _ _).mono ?_; rintro e w' ⟨rfl, rfl⟩; rw [hlow])
          go_round
          case rel => exact ⟨k + 1, by omega, by go_num, HF.out⟩
          case measure => simp [intOf]; omega
      · have ht : zs.take k = zs := List.take_of_length_le (by omega)
        have HF : Hid (zs.all lowB = true) := by rw [← ht]; exact HA.out
        clear ht hc hby
        go_wp2
        go_ret
        exact ⟨rb HF.out.symm, rfl⟩

/-- A capital and small letters behind it, 1 to 6 in all. -/
def upOk (zs : List Int) : Bool := longB zs.length && (upB (zs.getD 0 0) && (zs.drop 1).all lowB)
def lowOk (zs : List Int) : Bool := longB zs.length && zs.all lowB

set_option maxHeartbeats 400000 in
theorem implUpperOk_any (a : Option Addr) (n cap : Nat) (zs : List Int) (w : World) {lo hi : Nat} (h : Rd lo hi w a n cap zs) :
    Calls Tryz.prog 154 #[.slice a n cap] w fun e w' => e = .returned (.bool (upOk zs)) ∧ w' = w := by
  obtain ⟨hl, ⟨hn, hm⟩, hby, hc⟩ := h
  cases hlong : longB n
  · have HF : Hid (upOk zs = false) := by simp [upOk, Hid, hl, hlong]
    clear hby hc hl
    go_enter Tryz.func154, Tryz.ntmps154
    go_wp2_with (go_at_call 140; refine (nameLong_any _ _ _ _).mono ?_; rintro e w' ⟨rfl, rfl⟩; rw [hlong])
    go_ret
    exact ⟨rb HF.out.symm, rfl⟩
  · have h1 : 1 ≤ n ∧ n ≤ 6 := by simpa [longB] using hlong
    rcases hc with h0 | ⟨b, off, rfl, hlo, hb, hc⟩
    · omega
    · obtain ⟨c, HC⟩ : ∃ c, Hid (c = zs.getD 0 0) := ⟨_, rfl⟩
      have hck : w.cell? ⟨b, off, none⟩ = some (.int .u8 c) := by rw [HC.out]; exact hc 0 (by omega)
      have hT : Hid (Rd lo hi w (some ⟨b, off + 1, none⟩) (n - 1) (cap - 1) (zs.drop 1)) := Rd.tail ⟨hl, ⟨hn, hm⟩, hby, .inr ⟨b, off, rfl, hlo, hb, hc⟩⟩ h1.1
      have HU : Hid (upOk zs = (upB c && (zs.drop 1).all lowB)) := by unfold Hid upOk; rw [hl, hlong, HC.out]; rfl
      have hE : Hid (n ≤ 1 → Rd lo hi w (some ⟨b, off, none⟩) (n - 1) 0 (zs.drop 1)) := by
        intro h
        have e1 : n - 1 = 0 := by omega
        have e2 : zs.drop 1 = [] := by rw [List.drop_eq_nil_iff, hl]; omega
        rw [e1, e2]; exact Rd.none_of (by omega)
      clear hby hc hl
      obtain ⟨g1, g6⟩ := h1
      cases hup : upB c
      · have HF : Hid (upOk zs = false) := by unfold Hid; rw [HU.out, hup]; rfl
        go_enter Tryz.func154, Tryz.ntmps154
        go_wp2_with (first | (go_at_call 140; refine (nameLong_any _ _ _ _).mono ?_; rintro e w' ⟨rfl, rfl⟩; rw [hlong]) | (go_at_call 164; refine (isUpper_any _ _).mono ?_; rintro e w' ⟨rfl, rfl⟩; rw [hup]))
        go_ret
        exact ⟨rb HF.out.symm, rfl⟩
      · have HF : Hid (upOk zs = (zs.drop 1).all lowB) := by unfold Hid; rw [HU.out, hup]; rfl
        go_enter Tryz.func154, Tryz.ntmps154
        go_wp2_with (first | (go_at_call 140; refine (nameLong_any _ _ _ _).mono ?_; rintro e w' ⟨rfl, rfl⟩; rw [hlong]) | (go_at_call 164; refine (isUpper_any _ _).mono ?_; rintro e w' ⟨rfl, rfl⟩; rw [hup]))
        all_goals
          refine (allLower_any _ _ _ (zs.drop 1) _ (lo := lo) (hi := hi) (by first | exact hT.out | exact hE.out (by omega))).mono ?_
          rintro e w'' ⟨rfl, rfl⟩
          go_wp2
          go_ret
          exact ⟨rb (by rw [HF.out, List.drop_one]), rfl⟩

set_option maxHeartbeats 400000 in
theorem specUpperOk_any (a : Option Addr) (n cap : Nat) (zs : List Int) (w : World) {lo hi : Nat} (h : Rd lo hi w a n cap zs) :
    Calls Tryz.prog 100 #[.slice a n cap] w fun e w' => e = .returned (.bool (upOk zs)) ∧ w' = w := by
  obtain ⟨hl, ⟨hn, hm⟩, hby, hc⟩ := h
  cases hlong : longB n
  · have HF : Hid (upOk zs = false) := by simp [upOk, Hid, hl, hlong]
    have h1 : n < 1 ∨ 6 < n := by simp [longB] at hlong; omega
    clear hby hc hl
    rcases h1 with h1 | h1
    · go_enter Tryz.func100, Tryz.ntmps100
      go_wp2
      go_ret
      exact ⟨rb HF.out.symm, rfl⟩
    · have hd : decide ((n : Int) < 1) = false := by simp; omega
      go_enter Tryz.func100, Tryz.ntmps100
      go_wp2
      go_ret
      exact ⟨rb HF.out.symm, rfl⟩
  · have h1 : 1 ≤ n ∧ n ≤ 6 := by simpa [longB] using hlong
    have hd : decide ((n : Int) < 1) = false := by simp; omega
    have hd6 : decide ((6 : Int) < (n : Int)) = false := by simp; omega
    rcases hc with h0 | ⟨b, off, rfl, hlo, hb, hc⟩
    · omega
    · obtain ⟨c, HC⟩ : ∃ c, Hid (c = zs.getD 0 0) := ⟨_, rfl⟩
      have hck : w.cell? ⟨b, off, none⟩ = some (.int .u8 c) := by rw [HC.out]; exact hc 0 (by omega)
      have HU : Hid (upOk zs = (upB c && (zs.drop 1).all lowB)) := by unfold Hid upOk; rw [hl, hlong, HC.out]; rfl
      have HCell : Hid (∀ j, j + 1 < n → w.cell? ⟨b, off + (j + 1), none⟩ = some (.int .u8 ((zs.drop 1).getD j 0))) := by
        intro j hj; have := hc (j + 1) hj; simpa [List.getD] using this
      have HL : Hid ((zs.drop 1).length = n - 1) := by simp [Hid, hl]
      clear hby hc hl
      obtain ⟨g1, g6⟩ := h1
      cases hup : upB c
      · have HF : Hid (upOk zs = false) := by unfold Hid; rw [HU.out, hup]; rfl
        go_enter Tryz.func100, Tryz.ntmps100
        go_wp2_with (go_at_call 146; refine (l1great_any _ _).mono ?_; rintro e w' ⟨rfl, rfl⟩; rw [hup])
        go_ret
        exact ⟨rb HF.out.symm, rfl⟩
      · have HF : Hid (upOk zs = (zs.drop 1).all lowB) := by unfold Hid; rw [HU.out, hup]; rfl
        obtain ⟨ys, HY⟩ : ∃ ys, Hid (ys = zs.drop 1) := ⟨_, rfl⟩
        rw [← HY.out] at HF HL HCell
        go_enter Tryz.func100, Tryz.ntmps100
        go_wp2_with (go_at_call 146; refine (l1great_any _ _).mono ?_; rintro e w1 ⟨rfl, hw⟩; subst hw; rw [hup])
        go_loop [3] (fun i => ∃ k : Nat, k + 1 ≤ n ∧ i = .int .i64 (k + 1 : Nat) ∧ (ys.take k).all lowB = true) (fun i => n - (intOf i).toNat)
        case atStart => exact ⟨0, by omega, rfl, by simp⟩
        case round =>
          obtain ⟨k, hk, rfl, hall⟩ := hrel
          have HA : Hid ((ys.take k).all lowB = true) := hall
          clear hall
          by_cases hlt : k + 1 < n
          · obtain ⟨c', HC'⟩ : ∃ c, Hid (c = ys.getD k 0) := ⟨_, rfl⟩
            have hck' : w1.cell? ⟨b, off + (k + 1), none⟩ = some (.int .u8 c') := by rw [HC'.out]; exact HCell.out k hlt
            cases hlow : lowB c'
            · have HF' : Hid (ys.all lowB = false) := all_false_of ys k (by rw [HL.out]; omega) (by rw [← HC'.out]; exact hlow)
              go_wp2_with (go_at_call 119; refine (l1small_any _ _).mono ?_; rintro e w' ⟨rfl, rfl⟩; rw [hlow])
              go_ret
              exact ⟨rb (HF.out.trans HF'.out).symm, rfl⟩
            · have hf := all_take_succ ys k (by rw [HL.out]; omega)
              rw [HA.out, ← HC'.out, hlow] at hf
              have HF' : Hid ((ys.take (k + 1)).all lowB = true) := hf
              clear hf
              go_wp2_with (go_at_call 119; refine (l1small_any _ _).mono ?_; rintro e w' ⟨rfl, rfl⟩; rw [hlow])
              go_round
              case rel => exact ⟨k + 1, by omega, by go_num, HF'.out⟩
              case measure => simp [intOf]; omega
          · have ht : ys.take k = ys := List.take_of_length_le (by rw [HL.out]; omega)
            have HF' : Hid (ys.all lowB = true) := by rw [← ht]; exact HA.out
            clear ht
            go_wp2
            go_ret
            exact ⟨rb (HF.out.trans HF'.out).symm, rfl⟩

set_option maxHeartbeats 400000 in
theorem implLowerOk_any (a : Option Addr) (n cap : Nat) (zs : List Int) (w : World) {lo hi : Nat} (h : Rd lo hi w a n cap zs) :
    Calls Tryz.prog 91 #[.slice a n cap] w fun e w' => e = .returned (.bool (lowOk zs)) ∧ w' = w := by
  have hl := h.len
  cases hlong : longB n
  · have HF : Hid (lowOk zs = false) := by simp [lowOk, Hid, hl, hlong]
    clear h hl
    go_enter Tryz.func91, Tryz.ntmps91
    go_wp2_with (go_at_call 140; refine (nameLong_any _ _ _ _).mono ?_; rintro e w' ⟨rfl, rfl⟩; rw [hlong])
    go_ret
    exact ⟨rb HF.out.symm, rfl⟩
  · have HF : Hid (lowOk zs = zs.all lowB) := by simp [lowOk, Hid, hl, hlong]
    have H : Hid (Rd lo hi w a n cap zs) := h
    clear h hl
    go_enter Tryz.func91, Tryz.ntmps91
    go_wp2_with (first | (go_at_call 140; refine (nameLong_any _ _ _ _).mono ?_; rintro e w' ⟨rfl, rfl⟩; rw [hlong]) | (go_at_call 141; refine (allLower_any _ _ _ zs _ H.out).mono ?_; rintro e w' ⟨rfl, rfl⟩))
    go_ret
    exact ⟨rb HF.out.symm, rfl⟩

set_option maxHeartbeats 400000 in
theorem specLowerOk_any (a : Option Addr) (n cap : Nat) (ys : List Int) (w : World) {lo hi : Nat} (h : Rd lo hi w a n cap ys) :
    Calls Tryz.prog 73 #[.slice a n cap] w fun e w' => e = .returned (.bool (lowOk ys)) ∧ w' = w := by
  obtain ⟨hl, ⟨hn, hm⟩, hby, hc⟩ := h
  cases hlong : longB n
  · have HF : Hid (lowOk ys = false) := by simp [lowOk, Hid, hl, hlong]
    have h1 : n < 1 ∨ 6 < n := by simp [longB] at hlong; omega
    clear hby hc hl
    rcases h1 with h1 | h1
    · go_enter Tryz.func73, Tryz.ntmps73
      go_wp2
      go_ret
      exact ⟨rb HF.out.symm, rfl⟩
    · have hd : decide ((n : Int) < 1) = false := by simp; omega
      go_enter Tryz.func73, Tryz.ntmps73
      go_wp2
      go_ret
      exact ⟨rb HF.out.symm, rfl⟩
  · have h1 : 1 ≤ n ∧ n ≤ 6 := by simpa [longB] using hlong
    have hd : decide ((n : Int) < 1) = false := by simp; omega
    have hd6 : decide ((6 : Int) < (n : Int)) = false := by simp; omega
    rcases hc with h0 | ⟨b, off, rfl, hlo, hb, hc⟩
    · omega
    · have HF : Hid (lowOk ys = ys.all lowB) := by simp [lowOk, Hid, hl, hlong]
      have HCell : Hid (∀ j, j < n → w.cell? ⟨b, off + j, none⟩ = some (.int .u8 (ys.getD j 0))) := hc
      have HL : Hid (ys.length = n) := hl
      clear hby hc hl
      obtain ⟨g1, g6⟩ := h1
      go_enter Tryz.func73, Tryz.ntmps73
      go_wp2
      go_loop [3] (fun i => ∃ k : Nat, k ≤ n ∧ i = .int .i64 k ∧ (ys.take k).all lowB = true) (fun i => n - (intOf i).toNat)
      case atStart => exact ⟨0, by omega, rfl, by simp⟩
      case round =>
        obtain ⟨k, hk, rfl, hall⟩ := hrel
        have HA : Hid ((ys.take k).all lowB = true) := hall
        clear hall
        by_cases hlt : k < n
        · obtain ⟨c', HC'⟩ : ∃ c, Hid (c = ys.getD k 0) := ⟨_, rfl⟩
          have hck' : w.cell? ⟨b, off + k, none⟩ = some (.int .u8 c') := by rw [HC'.out]; exact HCell.out k hlt
          cases hlow : lowB c'
          · have HF' : Hid (ys.all lowB = false) := all_false_of ys k (by rw [HL.out]; omega) (by rw [← HC'.out]; exact hlow)
            go_wp2_with (go_at_call 119; refine (l1small_any _ _).mono ?_; rintro e w' ⟨rfl, rfl⟩; rw [hlow])
            go_ret
            exact ⟨rb (HF.out.trans HF'.out).symm, rfl⟩
          · have hf := all_take_succ ys k (by rw [HL.out]; omega)
            rw [HA.out, ← HC'.out, hlow] at hf
            have HF' : Hid ((ys.take (k + 1)).all lowB = true) := hf
            clear hf
            go_wp2_with (go_at_call 119; refine (l1small_any _ _).mono ?_; rintro e w' ⟨rfl, rfl⟩; rw [hlow])
            go_round
            case rel => exact ⟨k + 1, by omega, by go_num, HF'.out⟩
            case measure => simp [intOf]; omega
        · have ht : ys.take k = ys := List.take_of_length_le (by rw [HL.out]; omega)
          have HF' : Hid (ys.all lowB = true) := by rw [← ht]; exact HA.out
          clear ht
          go_wp2
          go_ret
          exact ⟨rb (HF.out.trans HF'.out).symm, rfl⟩
end

section
open Go.RowKit

theorem longB_of_low {zs : List Int} (h : lowOk zs = true) : 1 ≤ zs.length ∧ zs.length ≤ 6 := by
  unfold lowOk longB at h
  simp only [Bool.and_eq_true, decide_eq_true_eq] at h
  exact h.1

/-! ### A slice of bytes of the call's own -/

def OwnB (base : Nat) (w : World) (v : Value) (zs : List Int) : Prop := w.ownsRow base 5 1 v zs.length (zs.map (Value.int .u8))

theorem OwnB.nil (base : Nat) (w : World) : OwnB base w (.slice none 0 0) [] := World.ownsRow_nil _ _ _ _

theorem OwnB.below {base B : Nat} {w w' : World} {v : Value} {zs : List Int} (h : OwnB base w v zs) (hb : Below B w w') (hB : w.heap.size ≤ B) : OwnB base w' v zs := by
  obtain ⟨h1, h2⟩ := h
  refine ⟨h1, ?_⟩
  rcases h2 with h2 | ⟨g, cap, cur, hv, hg, hh, r⟩
  · exact .inl h2
  · exact .inr ⟨g, cap, cur, hv, hg, by rw [hb.block g (Nat.lt_of_lt_of_le (Array.getElem?_eq_some_iff.1 hh).1 hB)]; exact hh, r⟩

/-- What it is: nil, with nothing in it; or a row of its own. -/
theorem OwnB.form {base : Nat} {w : World} {v : Value} {zs : List Int} (h : OwnB base w v zs) (hby : ∀ i, 0 ≤ zs.getD i 0 ∧ zs.getD i 0 ≤ 255) :
    ∃ a c b, v = .slice a zs.length c ∧ Rd base w.heap.size w a zs.length c zs ∧ (zs.length = 0 ∨ a = some ⟨b, 0, none⟩) ∧ LeafOk w (leafB b 0 zs.length) ∧ (zs.length = 0 ∨ (base ≤ b ∧ b < w.heap.size)) := by
  by_cases hz : zs.length = 0
  · rcases h.2 with ⟨hv, _⟩ | ⟨g, cap, cur, hv, _, _, _, hc2, _⟩
    · refine ⟨none, 0, 0, by rw [hv, hz], ?_, .inl hz, ?_, .inl hz⟩
      · rw [List.eq_nil_of_length_eq_zero hz]; exact Rd.none_of (by omega)
      · rw [hz]; intro x hx; simp [leafB] at hx
    · unfold maxLen at hc2
      refine ⟨_, cap, 0, hv, ?_, .inl hz, ?_, .inl hz⟩
      · rw [List.eq_nil_of_length_eq_zero hz]; exact Rd.none_of hc2
      · rw [hz]; intro x hx; simp [leafB] at hx
  · obtain ⟨h1, h2⟩ := h
    rcases h2 with ⟨_, h0⟩ | ⟨g, cap, cur, hv, hg, hh, hc1, hc2, hc3, hc4⟩
    · exact absurd h0 hz
    · simp only [Nat.mul_one] at hc3 hc4
      unfold maxLen at hc2
      have hrow : Row w g cap zs := by
        refine ⟨cur, hh, hc3, hc1, fun i hi => ?_⟩
        have e : (cur.toList.take zs.length)[i]? = (zs.map (Value.int .u8))[i]? := by rw [hc4]
        rw [List.getElem?_take, if_pos hi] at e
        simp only [Array.getElem?_toList] at e
        rw [e]
        simp [List.getD, hi]
      refine ⟨_, cap, g, hv, hrow.rd rfl hby hc2 hg hrow.lt, .inr rfl, ?_, .inr ⟨hg, hrow.lt⟩⟩
      intro x hx
      simp only [leafB, List.mem_map, List.mem_range] at hx
      obtain ⟨j, hj, rfl⟩ := hx
      simp only [Nat.zero_add]
      exact ⟨⟨_, hrow.cell hj⟩, hrow.frozen _⟩

theorem leafB_nodup (b off n : Nat) : ((leafB b off n).map (·.1)).Nodup := by
  rw [List.nodup_iff_pairwise_ne, List.pairwise_iff_getElem]
  intro i j hi hj hij
  simp [leafB] <;> omega

theorem oneCB (zs : List Int) : ∀ u ∈ zs.map (Value.int .u8), u.oneCell' = true := by
  intro u hu; simp only [List.mem_map] at hu; obtain ⟨x, _, rfl⟩ := hu; rfl

theorem rd_news {lo hi : Nat} {w : World} {b off n cap : Nat} {zs : List Int} (h : Rd lo hi w (some ⟨b, off, none⟩) n cap zs) : ∀ j u, (zs.map (Value.int .u8))[j]? = some u → w.cell? ((⟨b, off, none⟩ : Addr).add j) = some u := by
  intro j u hu
  have hj : j < zs.length := by simpa using (List.getElem?_eq_some_iff.1 hu).1
  rcases h.cells with h0 | ⟨b', off', e, _, _, hc⟩
  · have := h.len; omega
  · simp only [Option.some.injEq, Addr.mk.injEq, and_true] at e
    obtain ⟨rfl, rfl⟩ := e
    rw [Addr.add_lit, hc j (by have := h.len; omega), ← hu]
    simp [List.getD, hj]

/-- All that lay below base is as it was, and all blocks that are no bytes. -/
def Keep5 (base : Nat) (w w' : World) : Prop := Below base w w' ∧ ∀ (b : Nat) (c : Array Value) (t : TypeId) (f : Nat × Nat), t ≠ 5 → w.heap[b]? = some (.cells c t f) → w'.heap[b]? = some (.cells c t f)

theorem Keep5.refl (base : Nat) (w : World) : Keep5 base w w := ⟨Below.refl _ _, fun _ _ _ _ _ h => h⟩
theorem Keep5.trans {base : Nat} {a b c : World} (h : Keep5 base a b) (k : Keep5 base b c) : Keep5 base a c := ⟨h.1.trans k.1, fun x c t f h1 h2 => k.2 x c t f h1 (h.2 x c t f h1 h2)⟩
theorem Keep5.of_below {base : Nat} {w w' : World} (h : Below w.heap.size w w') (hb : base ≤ w.heap.size) : Keep5 base w w' := ⟨h.mono hb, fun b _ _ _ _ h2 => (h.block b (Array.getElem?_eq_some_iff.1 h2).1).trans h2⟩
theorem Keep5.drew {base : Nat} {w w' : World} (h : Keep5 base w w') : Keep5 base w w'.drew := ⟨h.1.drew, h.2⟩

theorem ownB_app {base : Nat} {W w2 : World} {v v' : Value} {xs ys : List Int} (hO : OwnB base W v xs) (hb : base ≤ W.heap.size)
    (hown : w2.ownsRow base 5 1 v' (xs.length + ys.length) (xs.map (Value.int .u8) ++ ys.map (Value.int .u8))) (hgrow : W.grownBy w2 v.ownBlock) :
    OwnB base w2 v' (xs ++ ys) ∧ Keep5 base W w2 := by
  refine ⟨by unfold OwnB; simpa using hown, (Below.refl base W).grown hgrow hb (fun x hx => ?_), fun b c t f ht hh => ?_⟩
  · rcases hO.2 with ⟨rfl, _⟩ | ⟨g1, cap1, cur, rfl, hg1, _⟩
    · simp [Value.ownBlock] at hx
    · simp [Value.ownBlock] at hx; omega
  · refine (hgrow.block b (Array.getElem?_eq_some_iff.1 hh).1 (fun e => ?_)).trans hh
    rcases hO.2 with ⟨rfl, _⟩ | ⟨g1, cap1, cur, rfl, hg1, hgb, _⟩
    · simp [Value.ownBlock] at e
    · simp [Value.ownBlock] at e
      subst e
      rw [hh] at hgb
      simp at hgb
      exact ht hgb.2.1
end

end Go.Proofs.YtckhjoancfbkfaaGreat
