/- What impl.AxiomOk calls: the fields of a kind, whether one is among them, whether a concept or a word fits: a contract each. -/
import Derived.Test.YtnhiccklpllkhaaAxMem
import Derived.Test.YtnhiccklpllkhaaConv
import Derived.Test.YtnhiccklpllkhaaConOkImpl
import Derived.Test.YtnhiccklpllkhaaConTo
import Derived.Lib.Bytealg
namespace Go.Proofs.Ytnhiccklpllkhaa
open Go.RowKit

/-- Whether a byte is in a string. -/
def inS (s : ByteArray) (c : Nat) : Bool := decide (0 ≤ Lib.indexByte s.data.toList c.toUInt8)

/-- The fields of a kind. -/
def fieldsS (k : Int) : ByteArray := if k = 0 ∨ k = 1 ∨ k = 2 then ⟨#[67, 68]⟩ else if k = 3 then ⟨#[82, 83]⟩ else if k = 4 then ⟨#[65, 67]⟩ else if k = 5 then ⟨#[82, 65, 66]⟩ else ⟨#[]⟩

set_option maxRecDepth 100000 in
set_option maxHeartbeats 400000 in
theorem indexByte_any (s : ByteArray) (c : Int) (w : World) : Calls Try.prog 121 #[.string s, .int .u8 c] w fun e w' => e = .returned (.int .i64 (Lib.indexByte s.data.toList c.toNat.toUInt8)) ∧ w' = w := by
  have HC : Hid ((Extern.BytealgIndexByte.indexByte #[.string s, .int .u8 c]).run Try.prog w = .ok (.int .i64 (Lib.indexByte s.data.toList c.toNat.toUInt8)) w) := Lib.run_indexByteString s c w
  go_enter Try.func121, Try.ntmps121
  go_wp2
  rw [run_callFunc_extern Try.func127 (by kernel_rfl) (by kernel_rfl) (by kernel_rfl) (e := Extern.BytealgIndexByte.indexByte) (by kernel_rfl), HC.out]
  simp only [Result.andThen]
  rw [Oper.upon_value]
  go_wp2
  go_ret
  exact ⟨rfl, rfl⟩

set_option maxRecDepth 100000 in
set_option maxHeartbeats 1000000 in
theorem indexC (s : ByteArray) (w : World) (hs : (([67] : List UInt8) == s.toList) = false) : Calls Try.prog 107 #[.string s, .string ⟨#[67]⟩] w fun e w' => e = .returned (.int .i64 (Lib.indexByte s.data.toList (67 : Nat).toUInt8)) ∧ w' = w := by
  go_enter Try.func107, Try.ntmps107
  go_wp2_with (go_at_call 121; refine (indexByte_any s 67 _).mono ?_; rintro e w' ⟨rfl, hw⟩; rw [hw]; clear hw)
  go_ret
  exact ⟨rfl, rfl⟩

set_option maxRecDepth 100000 in
set_option maxHeartbeats 1000000 in
theorem hasC (s : ByteArray) (p : Nat) (w : World) (hp : w.cell? ⟨p, 0, none⟩ = some (.string s)) (hs : (([67] : List UInt8) == s.toList) = false) : Calls Try.prog 62 #[.string ⟨#[67]⟩, .pointer (some ⟨p, 0, none⟩)] w fun e w' => e = .returned (.bool (inS s 67)) ∧ w' = w := by
  obtain ⟨b, hb⟩ : ∃ b, b = inS s 67 := ⟨_, rfl⟩
  rw [← hb]
  have hb' : decide (0 ≤ Lib.indexByte s.data.toList (67 : Nat).toUInt8) = b := by rw [hb]; rfl
  obtain ⟨z, hz⟩ : ∃ z, z = Lib.indexByte s.data.toList (67 : Nat).toUInt8 := ⟨_, rfl⟩
  rw [← hz] at hb'
  have HZ : Hid (z = Lib.indexByte s.data.toList (67 : Nat).toUInt8) := hz
  have hb2 : decide (z ≥ 0) = b := hb'
  clear hb hz
  have hI : ∀ W : World, Calls Try.prog 95 #[.string s, .string ⟨#[67]⟩] W fun e w' => e = .returned (.int .i64 z) ∧ w' = W := by
    intro W
    go_enter Try.func95, Try.ntmps95
    go_wp2_with (go_at_call 107; refine (indexC s _ hs).mono ?_; rintro e w' ⟨rfl, hw⟩; rw [hw, ← HZ.out]; clear hw)
    go_ret
    exact ⟨rfl, rfl⟩
  have hC : ∀ W : World, Calls Try.prog 63 #[.string s, .string ⟨#[67]⟩] W fun e w' => e = .returned (.bool b) ∧ w' = W := by
    intro W
    go_enter Try.func63, Try.ntmps63
    go_wp2_with (go_at_call 95; refine (hI _).mono ?_; rintro e w' ⟨rfl, hw⟩; rw [hw]; clear hw)
    go_ret
    exact ⟨rb (by first | rfl | exact hb' | exact hb2), rfl⟩
  clear hb' hb2 hI
  go_enter Try.func62, Try.ntmps62
  go_wp2_with (go_at_call 63; refine (hC _).mono ?_; rintro e w' ⟨rfl, hw⟩; rw [hw]; clear hw)
  go_ret
  exact ⟨rfl, rfl⟩

set_option maxRecDepth 100000 in
set_option maxHeartbeats 1000000 in
theorem indexD (s : ByteArray) (w : World) (hs : (([68] : List UInt8) == s.toList) = false) : Calls Try.prog 107 #[.string s, .string ⟨#[68]⟩] w fun e w' => e = .returned (.int .i64 (Lib.indexByte s.data.toList (68 : Nat).toUInt8)) ∧ w' = w := by
  go_enter Try.func107, Try.ntmps107
  go_wp2_with (go_at_call 121; refine (indexByte_any s 68 _).mono ?_; rintro e w' ⟨rfl, hw⟩; rw [hw]; clear hw)
  go_ret
  exact ⟨rfl, rfl⟩

set_option maxRecDepth 100000 in
set_option maxHeartbeats 1000000 in
theorem hasD (s : ByteArray) (p : Nat) (w : World) (hp : w.cell? ⟨p, 0, none⟩ = some (.string s)) (hs : (([68] : List UInt8) == s.toList) = false) : Calls Try.prog 62 #[.string ⟨#[68]⟩, .pointer (some ⟨p, 0, none⟩)] w fun e w' => e = .returned (.bool (inS s 68)) ∧ w' = w := by
  obtain ⟨b, hb⟩ : ∃ b, b = inS s 68 := ⟨_, rfl⟩
  rw [← hb]
  have hb' : decide (0 ≤ Lib.indexByte s.data.toList (68 : Nat).toUInt8) = b := by rw [hb]; rfl
  obtain ⟨z, hz⟩ : ∃ z, z = Lib.indexByte s.data.toList (68 : Nat).toUInt8 := ⟨_, rfl⟩
  rw [← hz] at hb'
  have HZ : Hid (z = Lib.indexByte s.data.toList (68 : Nat).toUInt8) := hz
  have hb2 : decide (z ≥ 0) = b := hb'
  clear hb hz
  have hI : ∀ W : World, Calls Try.prog 95 #[.string s, .string ⟨#[68]⟩] W fun e w' => e = .returned (.int .i64 z) ∧ w' = W := by
    intro W
    go_enter Try.func95, Try.ntmps95
    go_wp2_with (go_at_call 107; refine (indexD s _ hs).mono ?_; rintro e w' ⟨rfl, hw⟩; rw [hw, ← HZ.out]; clear hw)
    go_ret
    exact ⟨rfl, rfl⟩
  have hC : ∀ W : World, Calls Try.prog 63 #[.string s, .string ⟨#[68]⟩] W fun e w' => e = .returned (.bool b) ∧ w' = W := by
    intro W
    go_enter Try.func63, Try.ntmps63
    go_wp2_with (go_at_call 95; refine (hI _).mono ?_; rintro e w' ⟨rfl, hw⟩; rw [hw]; clear hw)
    go_ret
    exact ⟨rb (by first | rfl | exact hb' | exact hb2), rfl⟩
  clear hb' hb2 hI
  go_enter Try.func62, Try.ntmps62
  go_wp2_with (go_at_call 63; refine (hC _).mono ?_; rintro e w' ⟨rfl, hw⟩; rw [hw]; clear hw)
  go_ret
  exact ⟨rfl, rfl⟩

set_option maxRecDepth 100000 in
set_option maxHeartbeats 1000000 in
theorem indexR (s : ByteArray) (w : World) (hs : (([82] : List UInt8) == s.toList) = false) : Calls Try.prog 107 #[.string s, .string ⟨#[82]⟩] w fun e w' => e = .returned (.int .i64 (Lib.indexByte s.data.toList (82 : Nat).toUInt8)) ∧ w' = w := by
  go_enter Try.func107, Try.ntmps107
  go_wp2_with (go_at_call 121; refine (indexByte_any s 82 _).mono ?_; rintro e w' ⟨rfl, hw⟩; rw [hw]; clear hw)
  go_ret
  exact ⟨rfl, rfl⟩

set_option maxRecDepth 100000 in
set_option maxHeartbeats 1000000 in
theorem hasR (s : ByteArray) (p : Nat) (w : World) (hp : w.cell? ⟨p, 0, none⟩ = some (.string s)) (hs : (([82] : List UInt8) == s.toList) = false) : Calls Try.prog 62 #[.string ⟨#[82]⟩, .pointer (some ⟨p, 0, none⟩)] w fun e w' => e = .returned (.bool (inS s 82)) ∧ w' = w := by
  obtain ⟨b, hb⟩ : ∃ b, b = inS s 82 := ⟨_, rfl⟩
  rw [← hb]
  have hb' : decide (0 ≤ Lib.indexByte s.data.toList (82 : Nat).toUInt8) = b := by rw [hb]; rfl
  obtain ⟨z, hz⟩ : ∃ z, z = Lib.indexByte s.data.toList (82 : Nat).toUInt8 := ⟨_, rfl⟩
  rw [← hz] at hb'
  have HZ : Hid (z = Lib.indexByte s.data.toList (82 : Nat).toUInt8) := hz
  have hb2 : decide (z ≥ 0) = b := hb'
  clear hb hz
  have hI : ∀ W : World, Calls Try.prog 95 #[.string s, .string ⟨#[82]⟩] W fun e w' => e = .returned (.int .i64 z) ∧ w' = W := by
    intro W
    go_enter Try.func95, Try.ntmps95
    go_wp2_with (go_at_call 107; refine (indexR s _ hs).mono ?_; rintro e w' ⟨rfl, hw⟩; rw [hw, ← HZ.out]; clear hw)
    go_ret
    exact ⟨rfl, rfl⟩
  have hC : ∀ W : World, Calls Try.prog 63 #[.string s, .string ⟨#[82]⟩] W fun e w' => e = .returned (.bool b) ∧ w' = W := by
    intro W
    go_enter Try.func63, Try.ntmps63
    go_wp2_with (go_at_call 95; refine (hI _).mono ?_; rintro e w' ⟨rfl, hw⟩; rw [hw]; clear hw)
    go_ret
    exact ⟨rb (by first | rfl | exact hb' | exact hb2), rfl⟩
  clear hb' hb2 hI
  go_enter Try.func62, Try.ntmps62
  go_wp2_with (go_at_call 63; refine (hC _).mono ?_; rintro e w' ⟨rfl, hw⟩; rw [hw]; clear hw)
  go_ret
  exact ⟨rfl, rfl⟩

set_option maxRecDepth 100000 in
set_option maxHeartbeats 1000000 in
theorem indexS (s : ByteArray) (w : World) (hs : (([83] : List UInt8) == s.toList) = false) : Calls Try.prog 107 #[.string s, .string ⟨#[83]⟩] w fun e w' => e = .returned (.int .i64 (Lib.indexByte s.data.toList (83 : Nat).toUInt8)) ∧ w' = w := by
  go_enter Try.func107, Try.ntmps107
  go_wp2_with (go_at_call 121; refine (indexByte_any s 83 _).mono ?_; rintro e w' ⟨rfl, hw⟩; rw [hw]; clear hw)
  go_ret
  exact ⟨rfl, rfl⟩

set_option maxRecDepth 100000 in
set_option maxHeartbeats 1000000 in
theorem hasS (s : ByteArray) (p : Nat) (w : World) (hp : w.cell? ⟨p, 0, none⟩ = some (.string s)) (hs : (([83] : List UInt8) == s.toList) = false) : Calls Try.prog 62 #[.string ⟨#[83]⟩, .pointer (some ⟨p, 0, none⟩)] w fun e w' => e = .returned (.bool (inS s 83)) ∧ w' = w := by
  obtain ⟨b, hb⟩ : ∃ b, b = inS s 83 := ⟨_, rfl⟩
  rw [← hb]
  have hb' : decide (0 ≤ Lib.indexByte s.data.toList (83 : Nat).toUInt8) = b := by rw [hb]; rfl
  obtain ⟨z, hz⟩ : ∃ z, z = Lib.indexByte s.data.toList (83 : Nat).toUInt8 := ⟨_, rfl⟩
  rw [← hz] at hb'
  have HZ : Hid (z = Lib.indexByte s.data.toList (83 : Nat).toUInt8) := hz
  have hb2 : decide (z ≥ 0) = b := hb'
  clear hb hz
  have hI : ∀ W : World, Calls Try.prog 95 #[.string s, .string ⟨#[83]⟩] W fun e w' => e = .returned (.int .i64 z) ∧ w' = W := by
    intro W
    go_enter Try.func95, Try.ntmps95
    go_wp2_with (go_at_call 107; refine (indexS s _ hs).mono ?_; rintro e w' ⟨rfl, hw⟩; rw [hw, ← HZ.out]; clear hw)
    go_ret
    exact ⟨rfl, rfl⟩
  have hC : ∀ W : World, Calls Try.prog 63 #[.string s, .string ⟨#[83]⟩] W fun e w' => e = .returned (.bool b) ∧ w' = W := by
    intro W
    go_enter Try.func63, Try.ntmps63
    go_wp2_with (go_at_call 95; refine (hI _).mono ?_; rintro e w' ⟨rfl, hw⟩; rw [hw]; clear hw)
    go_ret
    exact ⟨rb (by first | rfl | exact hb' | exact hb2), rfl⟩
  clear hb' hb2 hI
  go_enter Try.func62, Try.ntmps62
  go_wp2_with (go_at_call 63; refine (hC _).mono ?_; rintro e w' ⟨rfl, hw⟩; rw [hw]; clear hw)
  go_ret
  exact ⟨rfl, rfl⟩

set_option maxRecDepth 100000 in
set_option maxHeartbeats 1000000 in
theorem indexA (s : ByteArray) (w : World) (hs : (([65] : List UInt8) == s.toList) = false) : Calls Try.prog 107 #[.string s, .string ⟨#[65]⟩] w fun e w' => e = .returned (.int .i64 (Lib.indexByte s.data.toList (65 : Nat).toUInt8)) ∧ w' = w := by
  go_enter Try.func107, Try.ntmps107
  go_wp2_with (go_at_call 121; refine (indexByte_any s 65 _).mono ?_; rintro e w' ⟨rfl, hw⟩; rw [hw]; clear hw)
  go_ret
  exact ⟨rfl, rfl⟩

set_option maxRecDepth 100000 in
set_option maxHeartbeats 1000000 in
theorem hasA (s : ByteArray) (p : Nat) (w : World) (hp : w.cell? ⟨p, 0, none⟩ = some (.string s)) (hs : (([65] : List UInt8) == s.toList) = false) : Calls Try.prog 62 #[.string ⟨#[65]⟩, .pointer (some ⟨p, 0, none⟩)] w fun e w' => e = .returned (.bool (inS s 65)) ∧ w' = w := by
  obtain ⟨b, hb⟩ : ∃ b, b = inS s 65 := ⟨_, rfl⟩
  rw [← hb]
  have hb' : decide (0 ≤ Lib.indexByte s.data.toList (65 : Nat).toUInt8) = b := by rw [hb]; rfl
  obtain ⟨z, hz⟩ : ∃ z, z = Lib.indexByte s.data.toList (65 : Nat).toUInt8 := ⟨_, rfl⟩
  rw [← hz] at hb'
  have HZ : Hid (z = Lib.indexByte s.data.toList (65 : Nat).toUInt8) := hz
  have hb2 : decide (z ≥ 0) = b := hb'
  clear hb hz
  have hI : ∀ W : World, Calls Try.prog 95 #[.string s, .string ⟨#[65]⟩] W fun e w' => e = .returned (.int .i64 z) ∧ w' = W := by
    intro W
    go_enter Try.func95, Try.ntmps95
    go_wp2_with (go_at_call 107; refine (indexA s _ hs).mono ?_; rintro e w' ⟨rfl, hw⟩; rw [hw, ← HZ.out]; clear hw)
    go_ret
    exact ⟨rfl, rfl⟩
  have hC : ∀ W : World, Calls Try.prog 63 #[.string s, .string ⟨#[65]⟩] W fun e w' => e = .returned (.bool b) ∧ w' = W := by
    intro W
    go_enter Try.func63, Try.ntmps63
    go_wp2_with (go_at_call 95; refine (hI _).mono ?_; rintro e w' ⟨rfl, hw⟩; rw [hw]; clear hw)
    go_ret
    exact ⟨rb (by first | rfl | exact hb' | exact hb2), rfl⟩
  clear hb' hb2 hI
  go_enter Try.func62, Try.ntmps62
  go_wp2_with (go_at_call 63; refine (hC _).mono ?_; rintro e w' ⟨rfl, hw⟩; rw [hw]; clear hw)
  go_ret
  exact ⟨rfl, rfl⟩

set_option maxRecDepth 100000 in
set_option maxHeartbeats 1000000 in
theorem indexB (s : ByteArray) (w : World) (hs : (([66] : List UInt8) == s.toList) = false) : Calls Try.prog 107 #[.string s, .string ⟨#[66]⟩] w fun e w' => e = .returned (.int .i64 (Lib.indexByte s.data.toList (66 : Nat).toUInt8)) ∧ w' = w := by
  go_enter Try.func107, Try.ntmps107
  go_wp2_with (go_at_call 121; refine (indexByte_any s 66 _).mono ?_; rintro e w' ⟨rfl, hw⟩; rw [hw]; clear hw)
  go_ret
  exact ⟨rfl, rfl⟩

set_option maxRecDepth 100000 in
set_option maxHeartbeats 1000000 in
theorem hasB (s : ByteArray) (p : Nat) (w : World) (hp : w.cell? ⟨p, 0, none⟩ = some (.string s)) (hs : (([66] : List UInt8) == s.toList) = false) : Calls Try.prog 62 #[.string ⟨#[66]⟩, .pointer (some ⟨p, 0, none⟩)] w fun e w' => e = .returned (.bool (inS s 66)) ∧ w' = w := by
  obtain ⟨b, hb⟩ : ∃ b, b = inS s 66 := ⟨_, rfl⟩
  rw [← hb]
  have hb' : decide (0 ≤ Lib.indexByte s.data.toList (66 : Nat).toUInt8) = b := by rw [hb]; rfl
  obtain ⟨z, hz⟩ : ∃ z, z = Lib.indexByte s.data.toList (66 : Nat).toUInt8 := ⟨_, rfl⟩
  rw [← hz] at hb'
  have HZ : Hid (z = Lib.indexByte s.data.toList (66 : Nat).toUInt8) := hz
  have hb2 : decide (z ≥ 0) = b := hb'
  clear hb hz
  have hI : ∀ W : World, Calls Try.prog 95 #[.string s, .string ⟨#[66]⟩] W fun e w' => e = .returned (.int .i64 z) ∧ w' = W := by
    intro W
    go_enter Try.func95, Try.ntmps95
    go_wp2_with (go_at_call 107; refine (indexB s _ hs).mono ?_; rintro e w' ⟨rfl, hw⟩; rw [hw, ← HZ.out]; clear hw)
    go_ret
    exact ⟨rfl, rfl⟩
  have hC : ∀ W : World, Calls Try.prog 63 #[.string s, .string ⟨#[66]⟩] W fun e w' => e = .returned (.bool b) ∧ w' = W := by
    intro W
    go_enter Try.func63, Try.ntmps63
    go_wp2_with (go_at_call 95; refine (hI _).mono ?_; rintro e w' ⟨rfl, hw⟩; rw [hw]; clear hw)
    go_ret
    exact ⟨rb (by first | rfl | exact hb' | exact hb2), rfl⟩
  clear hb' hb2 hI
  go_enter Try.func62, Try.ntmps62
  go_wp2_with (go_at_call 63; refine (hC _).mono ?_; rintro e w' ⟨rfl, hw⟩; rw [hw]; clear hw)
  go_ret
  exact ⟨rfl, rfl⟩

set_option maxHeartbeats 1000000 in
theorem axiomFields_any (k : Int) (w : World) : Calls Try.prog 61 #[.int .i64 k] w fun e w' => e = .returned (.string (fieldsS k)) ∧ w' = w := by
  by_cases hk : 0 ≤ k ∧ k ≤ 5
  · have hkk : k = 0 ∨ k = 1 ∨ k = 2 ∨ k = 3 ∨ k = 4 ∨ k = 5 := by omega
    clear hk
    rcases hkk with rfl | rfl | rfl | rfl | rfl | rfl
    all_goals
      go_enter Try.func61, Try.ntmps61
      go_wp2
      go_ret
      exact ⟨rfl, rfl⟩
  · have HE : Hid (fieldsS k = ⟨#[]⟩) := by unfold Hid fieldsS; rw [if_neg (by omega), if_neg (by omega), if_neg (by omega), if_neg (by omega)]
    have b0 : (k == 0) = false := by simp; omega
    have b1 : (k == 1) = false := by simp; omega
    have b2 : (k == 2) = false := by simp; omega
    have b3 : (k == 3) = false := by simp; omega
    have b4 : (k == 4) = false := by simp; omega
    have b5 : (k == 5) = false := by simp; omega
    clear hk
    go_enter Try.func61, Try.ntmps61
    go_wp2
    go_ret
    exact ⟨by rw [HE.out]; rfl, rfl⟩

set_option maxRecDepth 100000 in
set_option maxHeartbeats 1000000 in
theorem lowerFits_any (a : Option Addr) (n cap : Nat) (zs : List Int) (wanted : Bool) (w : World) {lo hi : Nat} (h : Rd lo hi w a n cap zs) : Calls Try.prog 65 #[.slice a n cap, .bool wanted] w fun e w' => e = .returned (.bool (fitL zs wanted)) ∧ w' = w := by
  have HR : Hid (Rd lo hi w a n cap zs) := h
  have hl := h.len
  clear h
  cases wanted with
  | true =>
    clear hl
    go_enter Try.func65, Try.ntmps65
    go_wp2_with (go_at_call 97; refine (implLowerOk_any a n cap zs _ HR.out).mono ?_; rintro e w' ⟨rfl, hw⟩; rw [hw]; clear hw)
    go_ret
    exact ⟨rfl, rfl⟩
  | false =>
    by_cases h0 : n = 0
    · have hb : ((n : Int) == 0) = true := by simp; omega
      have HE : Hid (fitL zs false = true) := by unfold Hid fitL; simp [hl, h0]
      clear h0 hl
      go_enter Try.func65, Try.ntmps65
      go_wp2_with fail
      go_ret
      exact ⟨rb HE.out.symm, rfl⟩
    · have hb : ((n : Int) == 0) = false := by simp; omega
      have HE : Hid (fitL zs false = false) := by unfold Hid fitL; simp [hl, h0]
      clear h0 hl
      go_enter Try.func65, Try.ntmps65
      go_wp2_with fail
      go_ret
      exact ⟨rb HE.out.symm, rfl⟩

theorem strNil (zs : List Int) : ((strOfNums zs).toList == (strOfNums []).toList) = decide (zs.length = 0) := by
  by_cases h : zs.length = 0
  · rw [List.eq_nil_of_length_eq_zero h]; simp
  · have hl : (strOfNums zs).toList.length = zs.length := by rw [ByteArray.toList_eq]; simp [strOfNums]
    have hl0 : (strOfNums []).toList = [] := by rw [ByteArray.toList_eq]; simp [strOfNums]
    rw [hl0, decide_eq_false h]
    cases e : (strOfNums zs).toList with
    | nil => rw [e] at hl; simp at hl; omega
    | cons x xs => rfl

set_option maxRecDepth 100000 in
set_option maxHeartbeats 1000000 in
theorem bytesEqual_nil (a : Option Addr) (n cap : Nat) (zs : List Int) (w : World) {lo hi : Nat} (h : Rd lo hi w a n cap zs) : Calls Try.prog 108 #[.slice a n cap, .slice none 0 0] w fun e w' => e = .returned (.bool (decide (n = 0))) ∧ w' = w := by
  have hc1 : (convert 22 9 (.slice a n cap)).run Try.prog w = .ok (.string (strOfNums zs)) w := conv_any h
  have hc2 : (convert 22 9 (.slice none 0 0)).run Try.prog w = .ok (.string (strOfNums [])) w := conv_any (lo := 0) (hi := 0) (Rd.none_of (by omega))
  have hE := strNil zs
  rw [h.len] at hE
  obtain ⟨s, hs⟩ : ∃ s, s = strOfNums zs := ⟨_, rfl⟩
  obtain ⟨t, ht⟩ : ∃ t, t = strOfNums [] := ⟨_, rfl⟩
  rw [← hs] at hc1 hE
  rw [← ht] at hc2 hE
  clear h hs ht
  cases hb : (s.toList == t.toList)
  · rw [hb] at hE
    go_enter Try.func108, Try.ntmps108
    go_wp2
    go_ret
    exact ⟨by first | rfl | exact rb hE, rfl⟩
  · rw [hb] at hE
    go_enter Try.func108, Try.ntmps108
    go_wp2
    go_ret
    exact ⟨by first | rfl | exact rb hE, rfl⟩

set_option maxRecDepth 100000 in
set_option maxHeartbeats 1000000 in
theorem equalFunc_nil (a : Option Addr) (n cap : Nat) (f : Value) (w : World) : Calls Try.prog 109 #[.slice a n cap, .slice none 0 0, f] w fun e w' => e = .returned (.bool (decide (n = 0))) ∧ w' = w := by
  by_cases h0 : n = 0
  · subst h0
    go_enter Try.func109, Try.ntmps109
    go_wp2_with fail
    refine wp_loop_rounds 1 ?_
    rw [rounds_succ]
    go_wp2_with fail
    go_ret
    exact ⟨rfl, rfl⟩
  · have hb : ((n : Int) != 0) = true := by simp; omega
    have HE : Hid (decide (n = 0) = false) := by unfold Hid; simp [h0]
    clear h0
    go_enter Try.func109, Try.ntmps109
    go_wp2_with fail
    go_ret
    exact ⟨rb HE.out.symm, rfl⟩

end Go.Proofs.Ytnhiccklpllkhaa
