/- The program's look at a field of what is told. -/
import Derived.Test.YtnmljalcndfjmaaGreatNG5
import Derived.Test.YtnmljalcndfjmaaGreatNG1
import Derived.Test.YtnmljalcndfjmaaGreatNG10
import Derived.Lib.Bytealg
import Derived.Test.YtnmljalcndfjmaaGreatNG8
import Derived.Deep.RegionWith
import Derived.Deep.RegionHeld
import Derived.Deep.DeepCutAuto
namespace Go.Proofs.YtnmljalcndfjmaaGreat

section
open Go.RowKit

/-- Whether a byte is in a string. -/
def inS (s : ByteArray) (c : Nat) : Bool := decide (0 ≤ Lib.indexByte s.data.toList c.toUInt8)

/-- The fields of a kind. -/
def fieldsS (k : Int) : ByteArray := if k = 0 ∨ k = 1 ∨ k = 2 then ⟨#[67, 68]⟩ else if k = 3 then ⟨#[82, 83]⟩ else if k = 4 then ⟨#[65, 67]⟩ else if k = 5 then ⟨#[82, 65, 66]⟩ else ⟨#[]⟩

set_option maxRecDepth 100000 in
set_option maxHeartbeats 400000 in
theorem indexByte_any (s : ByteArray) (c : Int) (w : World) : Calls Tryz.prog 163 #[.string s, .int .u8 c] w fun e w' => e = .returned (.int .i64 (Lib.indexByte s.data.toList c.toNat.toUInt8)) ∧ w' = w := by
  have HC : Hid ((Extern.BytealgIndexByte.indexByte #[.string s, .int .u8 c]).run Tryz.prog w = .ok (.int .i64 (Lib.indexByte s.data.toList c.toNat.toUInt8)) w) := Lib.run_indexByteString s c w
  go_enter Tryz.func163, Tryz.ntmps163
  go_wp2
  rw [run_callFunc_extern Tryz.func174 (by kernel_rfl) (by kernel_rfl) (by kernel_rfl) (e := Extern.BytealgIndexByte.indexByte) (by kernel_rfl), HC.out]
  simp only [Result.andThen]
  rw [Oper.upon_value]
  go_wp2
  go_ret
  exact ⟨rfl, rfl⟩

set_option maxRecDepth 100000 in
set_option maxHeartbeats 1000000 in
theorem indexC (s : ByteArray) (w : World) (hs : (([67] : List UInt8) == s.toList) = false) : Calls Tryz.prog 150 #[.string s, .string ⟨#[67]⟩] w fun e w' => e = .returned (.int .i64 (Lib.indexByte s.data.toList (67 : Nat).toUInt8)) ∧ w' = w := by
  go_enter Tryz.func150, Tryz.ntmps150
  go_wp2_with (go_at_call 163; refine (indexByte_any s 67 _).mono ?_; rintro e w' ⟨rfl, hw⟩; rw [hw]; clear hw)
  go_ret
  exact ⟨rfl, rfl⟩

set_option maxRecDepth 100000 in
set_option maxHeartbeats 1000000 in
theorem hasAxC (s : ByteArray) (p : Nat) (w : World) (hp : w.cell? ⟨p, 0, none⟩ = some (.string s)) (hs : (([67] : List UInt8) == s.toList) = false) : Calls Tryz.prog 63 #[.string ⟨#[67]⟩, .pointer (some ⟨p, 0, none⟩)] w fun e w' => e = .returned (.bool (inS s 67)) ∧ w' = w := by
  obtain ⟨b, hb⟩ : ∃ b, b = inS s 67 := ⟨_, rfl⟩
  rw [← hb]
  have hb' : decide (0 ≤ Lib.indexByte s.data.toList (67 : Nat).toUInt8) = b := by rw [hb]; rfl
  obtain ⟨z, hz⟩ : ∃ z, z = Lib.indexByte s.data.toList (67 : Nat).toUInt8 := ⟨_, rfl⟩
  rw [← hz] at hb'
  have HZ : Hid (z = Lib.indexByte s.data.toList (67 : Nat).toUInt8) := hz
  have hb2 : decide (z ≥ 0) = b := hb'
  clear hb hz
  have hI : ∀ W : World, Calls Tryz.prog 119 #[.string s, .string ⟨#[67]⟩] W fun e w' => e = .returned (.int .i64 z) ∧ w' = W := by
    intro W
    go_enter Tryz.func119, Tryz.ntmps119
    go_wp2_with (go_at_call 150; refine (indexC s _ hs).mono ?_; rintro e w' ⟨rfl, hw⟩; rw [hw, ← HZ.out]; clear hw)
    go_ret
    exact ⟨rfl, rfl⟩
  have hC : ∀ W : World, Calls Tryz.prog 64 #[.string s, .string ⟨#[67]⟩] W fun e w' => e = .returned (.bool b) ∧ w' = W := by
    intro W
    go_enter Tryz.func64, Tryz.ntmps64
    go_wp2_with (go_at_call 119; refine (hI _).mono ?_; rintro e w' ⟨rfl, hw⟩; rw [hw]; clear hw)
    go_ret
    exact ⟨rb (by first | rfl | exact hb' | exact hb2), rfl⟩
  clear hb' hb2 hI
  go_enter Tryz.func63, Tryz.ntmps63
  go_wp2_with (go_at_call 64; refine (hC _).mono ?_; rintro e w' ⟨rfl, hw⟩; rw [hw]; clear hw)
  go_ret
  exact ⟨rfl, rfl⟩

set_option maxRecDepth 100000 in
set_option maxHeartbeats 1000000 in
theorem indexD (s : ByteArray) (w : World) (hs : (([68] : List UInt8) == s.toList) = false) : Calls Tryz.prog 150 #[.string s, .string ⟨#[68]⟩] w fun e w' => e = .returned (.int .i64 (Lib.indexByte s.data.toList (68 : Nat).toUInt8)) ∧ w' = w := by
  go_enter Tryz.func150, Tryz.ntmps150
  go_wp2_with (go_at_call 163; refine (indexByte_any s 68 _).mono ?_; rintro e w' ⟨rfl, hw⟩; rw [hw]; clear hw)
  go_ret
  exact ⟨rfl, rfl⟩

set_option maxRecDepth 100000 in
set_option maxHeartbeats 1000000 in
theorem hasAxD (s : ByteArray) (p : Nat) (w : World) (hp : w.cell? ⟨p, 0, none⟩ = some (.string s)) (hs : (([68] : List UInt8) == s.toList) = false) : Calls Tryz.prog 63 #[.string ⟨#[68]⟩, .pointer (some ⟨p, 0, none⟩)] w fun e w' => e = .returned (.bool (inS s 68)) ∧ w' = w := by
  obtain ⟨b, hb⟩ : ∃ b, b = inS s 68 := ⟨_, rfl⟩
  rw [← hb]
  have hb' : decide (0 ≤ Lib.indexByte s.data.toList (68 : Nat).toUInt8) = b := by rw [hb]; rfl
  obtain ⟨z, hz⟩ : ∃ z, z = Lib.indexByte s.data.toList (68 : Nat).toUInt8 := ⟨_, rfl⟩
  rw [← hz] at hb'
  have HZ : Hid (z = Lib.indexByte s.data.toList (68 : Nat).toUInt8) := hz
  have hb2 : decide (z ≥ 0) = b := hb'
  clear hb hz
  have hI : ∀ W : World, Calls Tryz.prog 119 #[.string s, .string ⟨#[68]⟩] W fun e w' => e = .returned (.int .i64 z) ∧ w' = W := by
    intro W
    go_enter Tryz.func119, Tryz.ntmps119
    go_wp2_with (go_at_call 150; refine (indexD s _ hs).mono ?_; rintro e w' ⟨rfl, hw⟩; rw [hw, ← HZ.out]; clear hw)
    go_ret
    exact ⟨rfl, rfl⟩
  have hC : ∀ W : World, Calls Tryz.prog 64 #[.string s, .string ⟨#[68]⟩] W fun e w' => e = .returned (.bool b) ∧ w' = W := by
    intro W
    go_enter Tryz.func64, Tryz.ntmps64
    go_wp2_with (go_at_call 119; refine (hI _).mono ?_; rintro e w' ⟨rfl, hw⟩; rw [hw]; clear hw)
    go_ret
    exact ⟨rb (by first | rfl | exact hb' | exact hb2), rfl⟩
  clear hb' hb2 hI
  go_enter Tryz.func63, Tryz.ntmps63
  go_wp2_with (go_at_call 64; refine (hC _).mono ?_; rintro e w' ⟨rfl, hw⟩; rw [hw]; clear hw)
  go_ret
  exact ⟨rfl, rfl⟩

set_option maxRecDepth 100000 in
set_option maxHeartbeats 1000000 in
theorem indexR (s : ByteArray) (w : World) (hs : (([82] : List UInt8) == s.toList) = false) : Calls Tryz.prog 150 #[.string s, .string ⟨#[82]⟩] w fun e w' => e = .returned (.int .i64 (Lib.indexByte s.data.toList (82 : Nat).toUInt8)) ∧ w' = w := by
  go_enter Tryz.func150, Tryz.ntmps150
  go_wp2_with (go_at_call 163; refine (indexByte_any s 82 _).mono ?_; rintro e w' ⟨rfl, hw⟩; rw [hw]; clear hw)
  go_ret
  exact ⟨rfl, rfl⟩

set_option maxRecDepth 100000 in
set_option maxHeartbeats 1000000 in
theorem hasAxR (s : ByteArray) (p : Nat) (w : World) (hp : w.cell? ⟨p, 0, none⟩ = some (.string s)) (hs : (([82] : List UInt8) == s.toList) = false) : Calls Tryz.prog 63 #[.string ⟨#[82]⟩, .pointer (some ⟨p, 0, none⟩)] w fun e w' => e = .returned (.bool (inS s 82)) ∧ w' = w := by
  obtain ⟨b, hb⟩ : ∃ b, b = inS s 82 := ⟨_, rfl⟩
  rw [← hb]
  have hb' : decide (0 ≤ Lib.indexByte s.data.toList (82 : Nat).toUInt8) = b := by rw [hb]; rfl
  obtain ⟨z, hz⟩ : ∃ z, z = Lib.indexByte s.data.toList (82 : Nat).toUInt8 := ⟨_, rfl⟩
  rw [← hz] at hb'
  have HZ : Hid (z = Lib.indexByte s.data.toList (82 : Nat).toUInt8) := hz
  have hb2 : decide (z ≥ 0) = b := hb'
  clear hb hz
  have hI : ∀ W : World, Calls Tryz.prog 119 #[.string s, .string ⟨#[82]⟩] W fun e w' => e = .returned (.int .i64 z) ∧ w' = W := by
    intro W
    go_enter Tryz.func119, Tryz.ntmps119
    go_wp2_with (go_at_call 150; refine (indexR s _ hs).mono ?_; rintro e w' ⟨rfl, hw⟩; rw [hw, ← HZ.out]; clear hw)
    go_ret
    exact ⟨rfl, rfl⟩
  have hC : ∀ W : World, Calls Tryz.prog 64 #[.string s, .string ⟨#[82]⟩] W fun e w' => e = .returned (.bool b) ∧ w' = W := by
    intro W
    go_enter Tryz.func64, Tryz.ntmps64
    go_wp2_with (go_at_call 119; refine (hI _).mono ?_; rintro e w' ⟨rfl, hw⟩; rw [hw]; clear hw)
    go_ret
    exact ⟨rb (by first | rfl | exact hb' | exact hb2), rfl⟩
  clear hb' hb2 hI
  go_enter Tryz.func63, Tryz.ntmps63
  go_wp2_with (go_at_call 64; refine (hC _).mono ?_; rintro e w' ⟨rfl, hw⟩; rw [hw]; clear hw)
  go_ret
  exact ⟨rfl, rfl⟩

set_option maxRecDepth 100000 in
set_option maxHeartbeats 1000000 in
theorem indexS (s : ByteArray) (w : World) (hs : (([83] : List UInt8) == s.toList) = false) : Calls Tryz.prog 150 #[.string s, .string ⟨#[83]⟩] w fun e w' => e = .returned (.int .i64 (Lib.indexByte s.data.toList (83 : Nat).toUInt8)) ∧ w' = w := by
  go_enter Tryz.func150, Tryz.ntmps150
  go_wp2_with (go_at_call 163; refine (indexByte_any s 83 _).mono ?_; rintro e w' ⟨rfl, hw⟩; rw [hw]; clear hw)
  go_ret
  exact ⟨rfl, rfl⟩

set_option maxRecDepth 100000 in
set_option maxHeartbeats 1000000 in
theorem hasAxS (s : ByteArray) (p : Nat) (w : World) (hp : w.cell? ⟨p, 0, none⟩ = some (.string s)) (hs : (([83] : List UInt8) == s.toList) = false) : Calls Tryz.prog 63 #[.string ⟨#[83]⟩, .pointer (some ⟨p, 0, none⟩)] w fun e w' => e = .returned (.bool (inS s 83)) ∧ w' = w := by
  obtain ⟨b, hb⟩ : ∃ b, b = inS s 83 := ⟨_, rfl⟩
  rw [← hb]
  have hb' : decide (0 ≤ Lib.indexByte s.data.toList (83 : Nat).toUInt8) = b := by rw [hb]; rfl
  obtain ⟨z, hz⟩ : ∃ z, z = Lib.indexByte s.data.toList (83 : Nat).toUInt8 := ⟨_, rfl⟩
  rw [← hz] at hb'
  have HZ : Hid (z = Lib.indexByte s.data.toList (83 : Nat).toUInt8) := hz
  have hb2 : decide (z ≥ 0) = b := hb'
  clear hb hz
  have hI : ∀ W : World, Calls Tryz.prog 119 #[.string s, .string ⟨#[83]⟩] W fun e w' => e = .returned (.int .i64 z) ∧ w' = W := by
    intro W
    go_enter Tryz.func119, Tryz.ntmps119
    go_wp2_with (go_at_call 150; refine (indexS s _ hs).mono ?_; rintro e w' ⟨rfl, hw⟩; rw [hw, ← HZ.out]; clear hw)
    go_ret
    exact ⟨rfl, rfl⟩
  have hC : ∀ W : World, Calls Tryz.prog 64 #[.string s, .string ⟨#[83]⟩] W fun e w' => e = .returned (.bool b) ∧ w' = W := by
    intro W
    go_enter Tryz.func64, Tryz.ntmps64
    go_wp2_with (go_at_call 119; refine (hI _).mono ?_; rintro e w' ⟨rfl, hw⟩; rw [hw]; clear hw)
    go_ret
    exact ⟨rb (by first | rfl | exact hb' | exact hb2), rfl⟩
  clear hb' hb2 hI
  go_enter Tryz.func63, Tryz.ntmps63
  go_wp2_with (go_at_call 64; refine (hC _).mono ?_; rintro e w' ⟨rfl, hw⟩; rw [hw]; clear hw)
  go_ret
  exact ⟨rfl, rfl⟩

set_option maxRecDepth 100000 in
set_option maxHeartbeats 1000000 in
theorem indexA (s : ByteArray) (w : World) (hs : (([65] : List UInt8) == s.toList) = false) : Calls Tryz.prog 150 #[.string s, .string ⟨#[65]⟩] w fun e w' => e = .returned (.int .i64 (Lib.indexByte s.data.toList (65 : Nat).toUInt8)) ∧ w' = w := by
  go_enter Tryz.func150, Tryz.ntmps150
  go_wp2_with (go_at_call 163; refine (indexByte_any s 65 _).mono ?_; rintro e w' ⟨rfl, hw⟩; rw [hw]; clear hw)
  go_ret
  exact ⟨rfl, rfl⟩

set_option maxRecDepth 100000 in
set_option maxHeartbeats 1000000 in
theorem hasAxA (s : ByteArray) (p : Nat) (w : World) (hp : w.cell? ⟨p, 0, none⟩ = some (.string s)) (hs : (([65] : List UInt8) == s.toList) = false) : Calls Tryz.prog 63 #[.string ⟨#[65]⟩, .pointer (some ⟨p, 0, none⟩)] w fun e w' => e = .returned (.bool (inS s 65)) ∧ w' = w := by
  obtain ⟨b, hb⟩ : ∃ b, b = inS s 65 := ⟨_, rfl⟩
  rw [← hb]
  have hb' : decide (0 ≤ Lib.indexByte s.data.toList (65 : Nat).toUInt8) = b := by rw [hb]; rfl
  obtain ⟨z, hz⟩ : ∃ z, z = Lib.indexByte s.data.toList (65 : Nat).toUInt8 := ⟨_, rfl⟩
  rw [← hz] at hb'
  have HZ : Hid (z = Lib.indexByte s.data.toList (65 : Nat).toUInt8) := hz
  have hb2 : decide (z ≥ 0) = b := hb'
  clear hb hz
  have hI : ∀ W : World, Calls Tryz.prog 119 #[.string s, .string ⟨#[65]⟩] W fun e w' => e = .returned (.int .i64 z) ∧ w' = W := by
    intro W
    go_enter Tryz.func119, Tryz.ntmps119
    go_wp2_with (go_at_call 150; refine (indexA s _ hs).mono ?_; rintro e w' ⟨rfl, hw⟩; rw [hw, ← HZ.out]; clear hw)
    go_ret
    exact ⟨rfl, rfl⟩
  have hC : ∀ W : World, Calls Tryz.prog 64 #[.string s, .string ⟨#[65]⟩] W fun e w' => e = .returned (.bool b) ∧ w' = W := by
    intro W
    go_enter Tryz.func64, Tryz.ntmps64
    go_wp2_with (go_at_call 119; refine (hI _).mono ?_; rintro e w' ⟨rfl, hw⟩; rw [hw]; clear hw)
    go_ret
    exact ⟨rb (by first | rfl | exact hb' | exact hb2), rfl⟩
  clear hb' hb2 hI
  go_enter Tryz.func63, Tryz.ntmps63
  go_wp2_with (go_at_call 64; refine (hC _).mono ?_; rintro e w' ⟨rfl, hw⟩; rw [hw]; clear hw)
  go_ret
  exact ⟨rfl, rfl⟩

set_option maxRecDepth 100000 in
set_option maxHeartbeats 1000000 in
theorem indexB (s : ByteArray) (w : World) (hs : (([66] : List UInt8) == s.toList) = false) : Calls Tryz.prog 150 #[.string s, .string ⟨#[66]⟩] w fun e w' => e = .returned (.int .i64 (Lib.indexByte s.data.toList (66 : Nat).toUInt8)) ∧ w' = w := by
  go_enter Tryz.func150, Tryz.ntmps150
  go_wp2_with (go_at_call 163; refine (indexByte_any s 66 _).mono ?_; rintro e w' ⟨rfl, hw⟩; rw [hw]; clear hw)
  go_ret
  exact ⟨rfl, rfl⟩

set_option maxRecDepth 100000 in
set_option maxHeartbeats 1000000 in
theorem hasAxB (s : ByteArray) (p : Nat) (w : World) (hp : w.cell? ⟨p, 0, none⟩ = some (.string s)) (hs : (([66] : List UInt8) == s.toList) = false) : Calls Tryz.prog 63 #[.string ⟨#[66]⟩, .pointer (some ⟨p, 0, none⟩)] w fun e w' => e = .returned (.bool (inS s 66)) ∧ w' = w := by
  obtain ⟨b, hb⟩ : ∃ b, b = inS s 66 := ⟨_, rfl⟩
  rw [← hb]
  have hb' : decide (0 ≤ Lib.indexByte s.data.toList (66 : Nat).toUInt8) = b := by rw [hb]; rfl
  obtain ⟨z, hz⟩ : ∃ z, z = Lib.indexByte s.data.toList (66 : Nat).toUInt8 := ⟨_, rfl⟩
  rw [← hz] at hb'
  have HZ : Hid (z = Lib.indexByte s.data.toList (66 : Nat).toUInt8) := hz
  have hb2 : decide (z ≥ 0) = b := hb'
  clear hb hz
  have hI : ∀ W : World, Calls Tryz.prog 119 #[.string s, .string ⟨#[66]⟩] W fun e w' => e = .returned (.int .i64 z) ∧ w' = W := by
    intro W
    go_enter Tryz.func119, Tryz.ntmps119
    go_wp2_with (go_at_call 150; refine (indexB s _ hs).mono ?_; rintro e w' ⟨rfl, hw⟩; rw [hw, ← HZ.out]; clear hw)
    go_ret
    exact ⟨rfl, rfl⟩
  have hC : ∀ W : World, Calls Tryz.prog 64 #[.string s, .string ⟨#[66]⟩] W fun e w' => e = .returned (.bool b) ∧ w' = W := by
    intro W
    go_enter Tryz.func64, Tryz.ntmps64
    go_wp2_with (go_at_call 119; refine (hI _).mono ?_; rintro e w' ⟨rfl, hw⟩; rw [hw]; clear hw)
    go_ret
    exact ⟨rb (by first | rfl | exact hb' | exact hb2), rfl⟩
  clear hb' hb2 hI
  go_enter Tryz.func63, Tryz.ntmps63
  go_wp2_with (go_at_call 64; refine (hC _).mono ?_; rintro e w' ⟨rfl, hw⟩; rw [hw]; clear hw)
  go_ret
  exact ⟨rfl, rfl⟩

set_option maxHeartbeats 1000000 in
theorem axiomFields_any (k : Int) (w : World) : Calls Tryz.prog 62 #[.int .i64 k] w fun e w' => e = .returned (.string (fieldsS k)) ∧ w' = w := by
  by_cases hk : 0 ≤ k ∧ k ≤ 5
  · have hkk : k = 0 ∨ k = 1 ∨ k = 2 ∨ k = 3 ∨ k = 4 ∨ k = 5 := by omega
    clear hk
    rcases hkk with rfl | rfl | rfl | rfl | rfl | rfl
    all_goals
      go_enter Tryz.func62, Tryz.ntmps62
      go_wp2
      go_ret
      exact ⟨rfl, rfl⟩
  · have HE : Hid (fieldsS k = ⟨#[]⟩) := by unfold Hid fieldsS; rw [if_neg (by omega), if_neg (by omega), if_neg (by omega), if_neg (by omega)]
    have b0 : (k == 0) = false := by simp; omega
    have b1 : (k == 1) = false := by simp; omega
    have b2 : (k == 2) = false := by simp; omega
    have b3 : (k == 3) = false := by simp; omega
    have b4 : (k == 4) = false := by simp; omega
    have b5 : (k == 5) = false := by simp; omega
    clear hk
    go_enter Tryz.func62, Tryz.ntmps62
    go_wp2
    go_ret
    exact ⟨by rw [HE.out]; rfl, rfl⟩

set_option maxRecDepth 100000 in
set_option maxHeartbeats 1000000 in
theorem lowerFits_any (a : Option Addr) (n cap : Nat) (zs : List Int) (wanted : Bool) (w : World) {lo hi : Nat} (h : Rd lo hi w a n cap zs) : Calls Tryz.prog 66 #[.slice a n cap, .bool wanted] w fun e w' => e = .returned (.bool (fitL zs wanted)) ∧ w' = w := by
  have HR : Hid (Rd lo hi w a n cap zs) := h
  have hl := h.len
  clear h
  cases wanted with
  | true =>
    clear hl
    go_enter Tryz.func66, Tryz.ntmps66
    go_wp2_with (go_at_call 48; refine (implLowerOk_any a n cap zs _ HR.out).mono ?_; rintro e w' ⟨rfl, hw⟩; rw [hw]; clear hw)
    go_ret
    exact ⟨rfl, rfl⟩
  | false =>
    by_cases h0 : n = 0
    · have hb : ((n : Int) == 0) = true := by simp; omega
      have HE : Hid (fitL zs false = true) := by unfold Hid fitL; simp [hl, h0]
      clear h0 hl
      go_enter Tryz.func66, Tryz.ntmps66
      go_wp2_with fail
      go_ret
      exact ⟨rb HE.out.symm, rfl⟩
    · have hb : ((n : Int) == 0) = false := by simp; omega
      have HE : Hid (fitL zs false = false) := by unfold Hid fitL; simp [hl, h0]
      clear h0 hl
      go_enter Tryz.func66, Tryz.ntmps66
      go_wp2_with fail
      go_ret
      exact ⟨rb HE.out.symm, rfl⟩

theorem strNil (zs : List Int) : ((strOfNums zs).toList == (strOfNums []).toList) = decide (zs.length = 0) := by
  by_cases h : zs.length = 0
  · rw [List.eq_nil_of_length_eq_zero h]; simp
  · have hl : (strOfNums zs).toList.length = zs.length := by rw [ByteArray.toList_eq]; simp [strOfNums]
    have hl0 : (strOfNums []).toList = [] := by rw [ByteArray.toList_eq]; simp [strOfNums]
    rw [hl0, decide_eq_false h]
    cases e : (strOfNums zs).toList with
    | nil => rw [e] at hl; simp at hl; omega
    | cons x xs => rfl

set_option maxRecDepth 100000 in
set_option maxHeartbeats 1000000 in
theorem bytesEqual_nil (a : Option Addr) (n cap : Nat) (zs : List Int) (w : World) {lo hi : Nat} (h : Rd lo hi w a n cap zs) : Calls Tryz.prog 151 #[.slice a n cap, .slice none 0 0] w fun e w' => e = .returned (.bool (decide (n = 0))) ∧ w' = w := by
  have hc1 : (convert 22 9 (.slice a n cap)).run Tryz.prog w = .ok (.string (strOfNums zs)) w := conv_any h
  have hc2 : (convert 22 9 (.slice none 0 0)).run Tryz.prog w = .ok (.string (strOfNums [])) w := conv_any (lo := 0) (hi := 0) (Rd.none_of (by omega))
  have hE := strNil zs
  rw [h.len] at hE
  obtain ⟨s, hs⟩ : ∃ s, s = strOfNums zs := ⟨_, rfl⟩
  obtain ⟨t, ht⟩ : ∃ t, t = strOfNums [] := ⟨_, rfl⟩
  rw [← hs] at hc1 hE
  rw [← ht] at hc2 hE
  clear h hs ht
  cases hb : (s.toList == t.toList)
  · rw [hb] at hE
    go_enter Tryz.func151, Tryz.ntmps151
    go_wp2
    go_ret
    exact ⟨by first | rfl | exact rb hE, rfl⟩
  · rw [hb] at hE
    go_enter Tryz.func151, Tryz.ntmps151
    go_wp2
    go_ret
    exact ⟨by first | rfl | exact rb hE, rfl⟩

set_option maxRecDepth 100000 in
set_option maxHeartbeats 1000000 in
theorem equalFunc_nil (a : Option Addr) (n cap : Nat) (f : Value) (w : World) : Calls Tryz.prog 152 #[.slice a n cap, .slice none 0 0, f] w fun e w' => e = .returned (.bool (decide (n = 0))) ∧ w' = w := by
  by_cases h0 : n = 0
  · subst h0
    go_enter Tryz.func152, Tryz.ntmps152
    go_wp2_with fail
    refine wp_loop_rounds 1 ?_
    rw [rounds_succ]
    go_wp2_with fail
    go_ret
    exact ⟨rfl, rfl⟩
  · have hb : ((n : Int) != 0) = true := by simp; omega
    have HE : Hid (decide (n = 0) = false) := by unfold Hid; simp [h0]
    clear h0
    go_enter Tryz.func152, Tryz.ntmps152
    go_wp2_with fail
    go_ret
    exact ⟨rb HE.out.symm, rfl⟩
end

section
open Go.RowKit

set_option maxRecDepth 100000 in
set_option maxHeartbeats 2000000 in
theorem sameCon_zero {d : Nat} {v : Value} {c : CN} {w : World} {lo hi : Nat} (h : RdC lo hi w d v c) (hhi : hi ≤ w.heap.size) :
    Calls Tryz.prog 120 #[v, .agg #[.int .i64 0, .slice none 0 0, .slice none 0 0, .slice none 0 0]] w fun e w' => e = .returned (.bool (zeroB c)) ∧ Below w.heap.size w w' := by
  cases d with
  | zero => exact h.elim
  | succ d =>
    obtain ⟨na, nn, nc, ra, rn, rc, ka, kn, kc, rfl, hn, hr, hks⟩ := h
    obtain ⟨k, hk⟩ : ∃ k, k = c.kind := ⟨_, rfl⟩
    rw [← hk]
    have HZ : Hid (zeroB c = (decide (k = 0) && (decide (nn = 0) && (decide (rn = 0) && decide (kn = 0))))) := zeroB_of hk hn.len hr.len hks.len
    have HB : Hid (Below w.heap.size w ((w.alloc (.cells #[.int .i64 k, .slice na nn nc, .slice ra rn rc, .slice ka kn kc] 30)).alloc (.cells #[.int .i64 0, .slice none 0 0, .slice none 0 0, .slice none 0 0] 30))) := ((Below.refl _ _).alloc (Nat.le_refl _) _).alloc (by simp) _
    have HN : Hid (Rd lo hi w na nn nc c.name) := hn
    have HR : Hid (Rd lo hi w ra rn rc c.role) := hr
    clear hk hn hr hks
    by_cases h0 : k = 0
    · have b0 : (k == 0) = true := by simpa using h0
      cases hN : decide (nn = 0)
      · have HE : Hid (zeroB c = false) := by unfold Hid; rw [HZ.out]; simp [hN]
        clear h0
        go_enter Tryz.func120, Tryz.ntmps120
        go_wp2_with (first | (go_at_call_of 151 na; refine (bytesEqual_nil na nn nc c.name _ (lo := lo) (hi := hi) (HN.out.below HB.out hhi)).mono ?_; rintro e w' ⟨rfl, hw⟩; rw [hw, hN]; clear hw) | (go_at_call_of 151 ra; refine (bytesEqual_nil ra rn rc c.role _ (lo := lo) (hi := hi) (HR.out.below HB.out hhi)).mono ?_; rintro e w' ⟨rfl, hw⟩; rw [hw, hRr]; clear hw) | (go_at_call 152; refine (equalFunc_nil ka kn kc _ _).mono ?_; rintro e w' ⟨rfl, hw⟩; rw [hw, hKk]; clear hw))
        go_ret
        exact ⟨rb HE.out.symm, HB.out⟩
      · cases hRr : decide (rn = 0)
        · have HE : Hid (zeroB c = false) := by unfold Hid; rw [HZ.out]; simp [hRr]
          clear h0
          go_enter Tryz.func120, Tryz.ntmps120
          go_wp2_with (first | (go_at_call_of 151 na; refine (bytesEqual_nil na nn nc c.name _ (lo := lo) (hi := hi) (HN.out.below HB.out hhi)).mono ?_; rintro e w' ⟨rfl, hw⟩; rw [hw, hN]; clear hw) | (go_at_call_of 151 ra; refine (bytesEqual_nil ra rn rc c.role _ (lo := lo) (hi := hi) (HR.out.below HB.out hhi)).mono ?_; rintro e w' ⟨rfl, hw⟩; rw [hw, hRr]; clear hw) | (go_at_call 152; refine (equalFunc_nil ka kn kc _ _).mono ?_; rintro e w' ⟨rfl, hw⟩; rw [hw, hKk]; clear hw))
          go_ret
          exact ⟨rb HE.out.symm, HB.out⟩
        · cases hKk : decide (kn = 0)
          · have HE : Hid (zeroB c = false) := by unfold Hid; rw [HZ.out]; simp [hKk]
            clear h0
            go_enter Tryz.func120, Tryz.ntmps120
            go_wp2_with (first | (go_at_call_of 151 na; refine (bytesEqual_nil na nn nc c.name _ (lo := lo) (hi := hi) (HN.out.below HB.out hhi)).mono ?_; rintro e w' ⟨rfl, hw⟩; rw [hw, hN]; clear hw) | (go_at_call_of 151 ra; refine (bytesEqual_nil ra rn rc c.role _ (lo := lo) (hi := hi) (HR.out.below HB.out hhi)).mono ?_; rintro e w' ⟨rfl, hw⟩; rw [hw, hRr]; clear hw) | (go_at_call 152; refine (equalFunc_nil ka kn kc _ _).mono ?_; rintro e w' ⟨rfl, hw⟩; rw [hw, hKk]; clear hw))
            go_ret
            exact ⟨rb HE.out.symm, HB.out⟩
          · have HE : Hid (zeroB c = true) := by unfold Hid; rw [HZ.out]; simp [h0, hN, hRr, hKk]
            clear h0
            go_enter Tryz.func120, Tryz.ntmps120
            go_wp2_with (first | (go_at_call_of 151 na; refine (bytesEqual_nil na nn nc c.name _ (lo := lo) (hi := hi) (HN.out.below HB.out hhi)).mono ?_; rintro e w' ⟨rfl, hw⟩; rw [hw, hN]; clear hw) | (go_at_call_of 151 ra; refine (bytesEqual_nil ra rn rc c.role _ (lo := lo) (hi := hi) (HR.out.below HB.out hhi)).mono ?_; rintro e w' ⟨rfl, hw⟩; rw [hw, hRr]; clear hw) | (go_at_call 152; refine (equalFunc_nil ka kn kc _ _).mono ?_; rintro e w' ⟨rfl, hw⟩; rw [hw, hKk]; clear hw))
            go_ret
            exact ⟨rb HE.out.symm, HB.out⟩
    · have b0 : (k == 0) = false := by simpa using h0
      have HE : Hid (zeroB c = false) := by unfold Hid; rw [HZ.out]; simp [h0]
      clear h0
      go_enter Tryz.func120, Tryz.ntmps120
      go_wp2_with fail
      go_ret
      exact ⟨rb HE.out.symm, HB.out⟩

set_option maxRecDepth 100000 in
set_option maxHeartbeats 2000000 in
theorem conFits_any {d : Nat} {v : Value} {c : CN} {w : World} {lo hi : Nat} (wanted : Bool) (h : RdC lo hi w d v c) (hhi : hi ≤ w.heap.size) (hbk : c.bulk ≤ 1048576) :
    Calls Tryz.prog 65 #[v, .bool wanted] w fun e w' => e = .returned (.bool (fitC c wanted)) ∧ Below w.heap.size w w' := by
  have HRd : Hid (RdC lo hi w d v c) := h
  obtain ⟨k, na, nn, nc, ra, rn, rc, ka, kn, kc, rfl⟩ := h.shape
  have hb0 : Below w.heap.size w (w.alloc (.cells #[.int .i64 k, .slice na nn nc, .slice ra rn rc, .slice ka kn kc] 30)) := (Below.refl _ _).alloc (Nat.le_refl _) _
  have HB0 : Hid (Below w.heap.size w (w.alloc (.cells #[.int .i64 k, .slice na nn nc, .slice ra rn rc, .slice ka kn kc] 30))) := hb0
  have HR0 : Hid (RdC lo hi (w.alloc (.cells #[.int .i64 k, .slice na nn nc, .slice ra rn rc, .slice ka kn kc] 30)) d (.agg #[.int .i64 k, .slice na nn nc, .slice ra rn rc, .slice ka kn kc]) c) := HRd.out.below hb0 hhi
  have HBk : Hid (c.bulk ≤ 1048576) := hbk
  clear hb0 h hbk
  cases wanted with
  | true =>
    go_enter Tryz.func65, Tryz.ntmps65
    go_wp2_with (go_at_call 32; refine (implConOk_any HR0.out (Nat.le_trans hhi HB0.out.size) HBk.out).mono ?_; rintro e w1 ⟨rfl, hb1⟩; have HB1 : Hid (Below w.heap.size w w1) := HB0.out.trans (hb1.mono HB0.out.size); clear hb1)
    go_ret
    exact ⟨rfl, HB1.out⟩
  | false =>
    go_enter Tryz.func65, Tryz.ntmps65
    go_wp2_with (go_at_call 120; refine (sameCon_zero HR0.out (Nat.le_trans hhi HB0.out.size)).mono ?_; rintro e w1 ⟨rfl, hb1⟩; have HB1 : Hid (Below w.heap.size w w1) := HB0.out.trans (hb1.mono HB0.out.size); clear hb1)
    go_ret
    exact ⟨rfl, HB1.out⟩
end

section
open Go.RowKit

theorem has_fields {k : Int} (h : 0 ≤ k ∧ k ≤ 5) : inS (fieldsS k) 67 = wantC k ∧ inS (fieldsS k) 68 = wantD k ∧ inS (fieldsS k) 82 = wantR k ∧ inS (fieldsS k) 83 = wantS k ∧ inS (fieldsS k) 65 = wantA k ∧ inS (fieldsS k) 66 = wantB k := by
  have hkk : k = 0 ∨ k = 1 ∨ k = 2 ∨ k = 3 ∨ k = 4 ∨ k = 5 := by omega
  rcases hkk with rfl | rfl | rfl | rfl | rfl | rfl <;> decide +kernel

theorem fields_long {k : Int} (h : 0 ≤ k ∧ k ≤ 5) : 2 ≤ (fieldsS k).toList.length := by
  have hkk : k = 0 ∨ k = 1 ∨ k = 2 ∨ k = 3 ∨ k = 4 ∨ k = 5 := by omega
  rcases hkk with rfl | rfl | rfl | rfl | rfl | rfl <;> (rw [ByteArray.toList_eq]; decide +kernel)

theorem one_ne {c : UInt8} {l : List UInt8} (h : 2 ≤ l.length) : (([c] : List UInt8) == l) = false := by
  match l, h with
  | x :: y :: l, _ => simp

theorem ne_nil {l : List UInt8} (h : 2 ≤ l.length) : (l != []) = true ∧ (l == []) = false := by
  match l, h with
  | x :: y :: l, _ => exact ⟨rfl, rfl⟩
end

end Go.Proofs.YtnmljalcndfjmaaGreat
