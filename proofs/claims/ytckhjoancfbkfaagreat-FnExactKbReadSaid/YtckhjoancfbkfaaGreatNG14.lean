/- Several texts in one: AxImplM, KbLawM. -/
import Derived.Test.YtckhjoancfbkfaaGreatNG6
import Derived.Test.YtckhjoancfbkfaaGreatNG2
import Derived.Test.YtckhjoancfbkfaaGreatNG13
import Derived.Lib.Bytealg
import Derived.Test.YtckhjoancfbkfaaGreatNG9
import Derived.Deep.RegionWith
import Derived.Deep.RegionHeld
import Derived.Deep.DeepCutAuto
import Derived.Test.YtckhjoancfbkfaaGreatKbVocM
import Derived.Test.YtckhjoancfbkfaaGreatNG12
import Derived.Test.YtckhjoancfbkfaaGreatNG1
import Derived.Deep.RegionHeld3
import Derived.RangeFuncBox
import Derived.Deep.Slices
namespace Go.Proofs.YtckhjoancfbkfaaGreat

section
section
open Go.RowKit

/-- Whether a byte is in a string. -/
def inS (s : ByteArray) (c : Nat) : Bool := decide (0 ≤ Lib.indexByte s.data.toList c.toUInt8)

/-- The fields of a kind. -/
def fieldsS (k : Int) : ByteArray := if k = 0 ∨ k = 1 ∨ k = 2 then ⟨#[67, 68]⟩ else if k = 3 then ⟨#[82, 83]⟩ else if k = 4 then ⟨#[65, 67]⟩ else if k = 5 then ⟨#[82, 65, 66]⟩ else ⟨#[]⟩

set_option maxRecDepth 100000 in
set_option maxHeartbeats 400000 in
theorem indexByte_any (s : ByteArray) (c : Int) (w : World) : Calls Tryz.prog 157 #[.string s, .int .u8 c] w fun e w' => e = .returned (.int .i64 (Lib.indexByte s.data.toList c.toNat.toUInt8)) ∧ w' = w := by
  have HC : Hid ((Extern.BytealgIndexByte.indexByte #[.string s, .int .u8 c]).run Tryz.prog w = .ok (.int .i64 (Lib.indexByte s.data.toList c.toNat.toUInt8)) w) := Lib.run_indexByteString s c w
  go_enter Tryz.func157, Tryz.ntmps157
  go_wp2
  rw [run_callFunc_extern Tryz.func165 (by kernel_rfl) (by kernel_rfl) (by kernel_rfl) (e := Extern.BytealgIndexByte.indexByte) (by kernel_rfl), HC.out]
  simp only [Result.andThen]
  rw [Oper.upon_value]
  go_wp2
  go_ret
  exact ⟨rfl, rfl⟩

set_option maxRecDepth 100000 in
set_option maxHeartbeats 1000000 in
theorem indexL {c : UInt8} {n : Nat} (hc : c = 67 ∧ n = 67 ∨ c = 68 ∧ n = 68 ∨ c = 82 ∧ n = 82 ∨ c = 83 ∧ n = 83 ∨ c = 65 ∧ n = 65 ∨ c = 66 ∧ n = 66) (s : ByteArray) (w : World) (hs : (([c] : List UInt8) == s.toList) = false) : Calls Tryz.prog 137 #[.string s, .string ⟨#[c]⟩] w fun e w' => e = .returned (.int .i64 (Lib.indexByte s.data.toList n.toUInt8)) ∧ w' = w := by
  rcases hc with ⟨rfl, rfl⟩ | ⟨rfl, rfl⟩ | ⟨rfl, rfl⟩ | ⟨rfl, rfl⟩ | ⟨rfl, rfl⟩ | ⟨rfl, rfl⟩
  all_goals
    go_enter Tryz.func137, Tryz.ntmps137
    go_wp2_with (go_at_call 157; refine (indexByte_any s _ _).mono ?_; rintro e w' ⟨rfl, hw⟩; rw [hw]; clear hw)
    go_ret
    exact ⟨rfl, rfl⟩

set_option maxRecDepth 100000 in
set_option maxHeartbeats 1000000 in
theorem hasL {c : UInt8} {n : Nat} (hc : c = 67 ∧ n = 67 ∨ c = 68 ∧ n = 68 ∨ c = 82 ∧ n = 82 ∨ c = 83 ∧ n = 83 ∨ c = 65 ∧ n = 65 ∨ c = 66 ∧ n = 66) (s : ByteArray) (p : Nat) (w : World) (hp : w.cell? ⟨p, 0, none⟩ = some (.string s)) (hs : (([c] : List UInt8) == s.toList) = false) : Calls Tryz.prog 50 #[.string ⟨#[c]⟩, .pointer (some ⟨p, 0, none⟩)] w fun e w' => e = .returned (.bool (inS s n)) ∧ w' = w := by
  obtain ⟨b, hb⟩ : ∃ b, b = inS s n := ⟨_, rfl⟩
  rw [← hb]
  have hb' : decide (0 ≤ Lib.indexByte s.data.toList n.toUInt8) = b := by rw [hb]; rfl
  obtain ⟨z, hz⟩ : ∃ z, z = Lib.indexByte s.data.toList n.toUInt8 := ⟨_, rfl⟩
  rw [← hz] at hb'
  have HZ : Hid (z = Lib.indexByte s.data.toList n.toUInt8) := hz
  have hb2 : decide (z ≥ 0) = b := hb'
  clear hb hz
  have hI : ∀ W : World, Calls Tryz.prog 89 #[.string s, .string ⟨#[c]⟩] W fun e w' => e = .returned (.int .i64 z) ∧ w' = W := by
    intro W
    go_enter Tryz.func89, Tryz.ntmps89
    go_wp2_with (go_at_call 137; refine (indexL hc s _ hs).mono ?_; rintro e w' ⟨rfl, hw⟩; rw [hw, ← HZ.out]; clear hw)
    go_ret
    exact ⟨rfl, rfl⟩
  have hC : ∀ W : World, Calls Tryz.prog 51 #[.string s, .string ⟨#[c]⟩] W fun e w' => e = .returned (.bool b) ∧ w' = W := by
    intro W
    go_enter Tryz.func51, Tryz.ntmps51
    go_wp2_with (go_at_call 89; refine (hI _).mono ?_; rintro e w' ⟨rfl, hw⟩; rw [hw]; clear hw)
    go_ret
    exact ⟨rb (by first | rfl | exact hb' | exact hb2), rfl⟩
  clear hb' hb2 hI
  go_enter Tryz.func50, Tryz.ntmps50
  go_wp2_with (go_at_call 51; refine (hC _).mono ?_; rintro e w' ⟨rfl, hw⟩; rw [hw]; clear hw)
  go_ret
  exact ⟨rfl, rfl⟩

theorem hasAxC (s : ByteArray) (p : Nat) (w : World) (hp : w.cell? ⟨p, 0, none⟩ = some (.string s)) (hs : (([67] : List UInt8) == s.toList) = false) : Calls Tryz.prog 50 #[.string ⟨#[67]⟩, .pointer (some ⟨p, 0, none⟩)] w fun e w' => e = .returned (.bool (inS s 67)) ∧ w' = w := hasL (by simp) s p w hp hs
theorem hasAxD (s : ByteArray) (p : Nat) (w : World) (hp : w.cell? ⟨p, 0, none⟩ = some (.string s)) (hs : (([68] : List UInt8) == s.toList) = false) : Calls Tryz.prog 50 #[.string ⟨#[68]⟩, .pointer (some ⟨p, 0, none⟩)] w fun e w' => e = .returned (.bool (inS s 68)) ∧ w' = w := hasL (by simp) s p w hp hs
theorem hasAxR (s : ByteArray) (p : Nat) (w : World) (hp : w.cell? ⟨p, 0, none⟩ = some (.string s)) (hs : (([82] : List UInt8) == s.toList) = false) : Calls Tryz.prog 50 #[.string ⟨#[82]⟩, .pointer (some ⟨p, 0, none⟩)] w fun e w' => e = .returned (.bool (inS s 82)) ∧ w' = w := hasL (by simp) s p w hp hs
theorem hasAxS (s : ByteArray) (p : Nat) (w : World) (hp : w.cell? ⟨p, 0, none⟩ = some (.string s)) (hs : (([83] : List UInt8) == s.toList) = false) : Calls Tryz.prog 50 #[.string ⟨#[83]⟩, .pointer (some ⟨p, 0, none⟩)] w fun e w' => e = .returned (.bool (inS s 83)) ∧ w' = w := hasL (by simp) s p w hp hs
theorem hasAxA (s : ByteArray) (p : Nat) (w : World) (hp : w.cell? ⟨p, 0, none⟩ = some (.string s)) (hs : (([65] : List UInt8) == s.toList) = false) : Calls Tryz.prog 50 #[.string ⟨#[65]⟩, .pointer (some ⟨p, 0, none⟩)] w fun e w' => e = .returned (.bool (inS s 65)) ∧ w' = w := hasL (by simp) s p w hp hs
theorem hasAxB (s : ByteArray) (p : Nat) (w : World) (hp : w.cell? ⟨p, 0, none⟩ = some (.string s)) (hs : (([66] : List UInt8) == s.toList) = false) : Calls Tryz.prog 50 #[.string ⟨#[66]⟩, .pointer (some ⟨p, 0, none⟩)] w fun e w' => e = .returned (.bool (inS s 66)) ∧ w' = w := hasL (by simp) s p w hp hs

set_option maxHeartbeats 1000000 in
theorem axiomFields_any (k : Int) (w : World) : Calls Tryz.prog 49 #[.int .i64 k] w fun e w' => e = .returned (.string (fieldsS k)) ∧ w' = w := by
  by_cases hk : 0 ≤ k ∧ k ≤ 5
  · have hkk : k = 0 ∨ k = 1 ∨ k = 2 ∨ k = 3 ∨ k = 4 ∨ k = 5 := by omega
    clear hk
    rcases hkk with rfl | rfl | rfl | rfl | rfl | rfl
    all_goals
      go_enter Tryz.func49, Tryz.ntmps49
      go_wp2
      go_ret
      exact ⟨rfl, rfl⟩
  · have HE : Hid (fieldsS k = ⟨#[]⟩) := by unfold Hid fieldsS; rw [if_neg (by omega), if_neg (by omega), if_neg (by omega), if_neg (by omega)]
    have b0 : (k == 0) = false := by simp; omega
    have b1 : (k == 1) = false := by simp; omega
    have b2 : (k == 2) = false := by simp; omega
    have b3 : (k == 3) = false := by simp; omega
    have b4 : (k == 4) = false := by simp; omega
    have b5 : (k == 5) = false := by simp; omega
    clear hk
    go_enter Tryz.func49, Tryz.ntmps49
    go_wp2
    go_ret
    exact ⟨by rw [HE.out]; rfl, rfl⟩

set_option maxRecDepth 100000 in
set_option maxHeartbeats 1000000 in
theorem lowerFits_any (a : Option Addr) (n cap : Nat) (zs : List Int) (wanted : Bool) (w : World) {lo hi : Nat} (h : Rd lo hi w a n cap zs) : Calls Tryz.prog 53 #[.slice a n cap, .bool wanted] w fun e w' => e = .returned (.bool (fitL zs wanted)) ∧ w' = w := by
  have HR : Hid (Rd lo hi w a n cap zs) := h
  have hl := h.len
  clear h
  cases wanted with
  | true =>
    clear hl
    go_enter Tryz.func53, Tryz.ntmps53
    go_wp2_with (go_at_call 91; refine (implLowerOk_any a n cap zs _ HR.out).mono ?_; rintro e w' ⟨rfl, hw⟩; rw [hw]; clear hw)
    go_ret
    exact ⟨rfl, rfl⟩
  | false =>
    by_cases h0 : n = 0
    · have hb : ((n : Int) == 0) = true := by simp; omega
      have HE : Hid (fitL zs false = true) := by unfold Hid fitL; simp [hl, h0]
      clear h0 hl
      go_enter Tryz.func53, Tryz.ntmps53
      go_wp2_with fail
      go_ret
      exact ⟨rb HE.out.symm, rfl⟩
    · have hb : ((n : Int) == 0) = false := by simp; omega
      have HE : Hid (fitL zs false = false) := by unfold Hid fitL; simp [hl, h0]
      clear h0 hl
      go_enter Tryz.func53, Tryz.ntmps53
      go_wp2_with fail
      go_ret
      exact ⟨rb HE.out.symm, rfl⟩

theorem strNil (zs : List Int) : ((strOfNums zs).toList == (strOfNums []).toList) = decide (zs.length = 0) := by
  by_cases h : zs.length = 0
  · rw [List.eq_nil_of_length_eq_zero h]; simp
  · have hl : (strOfNums zs).toList.length = zs.length := by rw [ByteArray.toList_eq]; simp [strOfNums]
    have hl0 : (strOfNums []).toList = [] := by rw [ByteArray.toList_eq]; simp [strOfNums]
    rw [hl0, decide_eq_false h]
    cases e : (strOfNums zs).toList with
    | nil => rw [e] at hl; simp at hl; omega
    | cons x xs => rfl

set_option maxRecDepth 100000 in
set_option maxHeartbeats 1000000 in
theorem bytesEqual_nil (a : Option Addr) (n cap : Nat) (zs : List Int) (w : World) {lo hi : Nat} (h : Rd lo hi w a n cap zs) : Calls Tryz.prog 138 #[.slice a n cap, .slice none 0 0] w fun e w' => e = .returned (.bool (decide (n = 0))) ∧ w' = w := by
  have hc1 : (convert 22 9 (.slice a n cap)).run Tryz.prog w = .ok (.string (strOfNums zs)) w := conv_any h
  have hc2 : (convert 22 9 (.slice none 0 0)).run Tryz.prog w = .ok (.string (strOfNums [])) w := conv_any (lo := 0) (hi := 0) (Rd.none_of (by omega))
  have hE := strNil zs
  rw [h.len] at hE
  obtain ⟨s, hs⟩ : ∃ s, s = strOfNums zs := ⟨_, rfl⟩
  obtain ⟨t, ht⟩ : ∃ t, t = strOfNums [] := ⟨_, rfl⟩
  rw [← hs] at hc1 hE
  rw [← ht] at hc2 hE
  clear h hs ht
  cases hb : (s.toList == t.toList)
  · rw [hb] at hE
    go_enter Tryz.func138, Tryz.ntmps138
    go_wp2
    go_ret
    exact ⟨by first | rfl | exact rb hE, rfl⟩
  · rw [hb] at hE
    go_enter Tryz.func138, Tryz.ntmps138
    go_wp2
    go_ret
    exact ⟨by first | rfl | exact rb hE, rfl⟩

set_option maxRecDepth 100000 in
set_option maxHeartbeats 1000000 in
theorem equalFunc_nil (a : Option Addr) (n cap : Nat) (f : Value) (w : World) : Calls Tryz.prog 139 #[.slice a n cap, .slice none 0 0, f] w fun e w' => e = .returned (.bool (decide (n = 0))) ∧ w' = w := by
  by_cases h0 : n = 0
  · subst h0
    go_enter Tryz.func139, Tryz.ntmps139
    go_wp2_with fail
    refine wp_loop_rounds 1 ?_
    rw [rounds_succ]
    go_wp2_with fail
    go_ret
    exact ⟨rfl, rfl⟩
  · have hb : ((n : Int) != 0) = true := by simp; omega
    have HE : Hid (decide (n = 0) = false) := by unfold Hid; simp [h0]
    clear h0
    go_enter Tryz.func139, Tryz.ntmps139
    go_wp2_with fail
    go_ret
    exact ⟨rb HE.out.symm, rfl⟩
end

section
open Go.RowKit

set_option maxRecDepth 100000 in
set_option maxHeartbeats 2000000 in
theorem sameCon_zero {d : Nat} {v : Value} {c : CN} {w : World} {lo hi : Nat} (h : RdC lo hi w d v c) (hhi : hi ≤ w.heap.size) :
    Calls Tryz.prog 90 #[v, .agg #[.int .i64 0, .slice none 0 0, .slice none 0 0, .slice none 0 0]] w fun e w' => e = .returned (.bool (zeroB c)) ∧ Below w.heap.size w w' := by
  cases d with
  | zero => exact h.elim
  | succ d =>
    obtain ⟨na, nn, nc, ra, rn, rc, ka, kn, kc, rfl, hn, hr, hks⟩ := h
    obtain ⟨k, hk⟩ : ∃ k, k = c.kind := ⟨_, rfl⟩
    rw [← hk]
    have HZ : Hid (zeroB c = (decide (k = 0) && (decide (nn = 0) && (decide (rn = 0) && decide (kn = 0))))) := zeroB_of hk hn.len hr.len hks.len
    have HB : Hid (Below w.heap.size w ((w.alloc (.cells #[.int .i64 k, .slice na nn nc, .slice ra rn rc, .slice ka kn kc] 37)).alloc (.cells #[.int .i64 0, .slice none 0 0, .slice none 0 0, .slice none 0 0] 37))) := ((Below.refl _ _).alloc (Nat.le_refl _) _).alloc (by simp) _
    have HN : Hid (Rd lo hi w na nn nc c.name) := hn
    have HR : Hid (Rd lo hi w ra rn rc c.role) := hr
    clear hk hn hr hks
    by_cases h0 : k = 0
    · have b0 : (k == 0) = true := by simpa using h0
      cases hN : decide (nn = 0)
      · have HE : Hid (zeroB c = false) := by unfold Hid; rw [HZ.out]; simp [hN]
        clear h0
        go_enter Tryz.func90, Tryz.ntmps90
        go_wp2_with (first | (go_at_call_of 138 na; refine (bytesEqual_nil na nn nc c.name _ (lo := lo) (hi := hi) (HN.out.below HB.out hhi)).mono ?_; rintro e w' ⟨rfl, hw⟩; rw [hw, hN]; clear hw) | (go_at_call_of 138 ra; refine (bytesEqual_nil ra rn rc c.role _ (lo := lo) (hi := hi) (HR.out.below HB.out hhi)).mono ?_; rintro e w' ⟨rfl, hw⟩; rw [hw, hRr]; clear hw) | (go_at_call 139; refine (equalFunc_nil ka kn kc _ _).mono ?_; rintro e w' ⟨rfl, hw⟩; rw [hw, hKk]; clear hw))
        go_ret
        exact ⟨rb HE.out.symm, HB.out⟩
      · cases hRr : decide (rn = 0)
        · have HE : Hid (zeroB c = false) := by unfold Hid; rw [HZ.out]; simp [hRr]
          clear h0
          go_enter Tryz.func90, Tryz.ntmps90
          go_wp2_with (first | (go_at_call_of 138 na; refine (bytesEqual_nil na nn nc c.name _ (lo := lo) (hi := hi) (HN.out.below HB.out hhi)).mono ?_; rintro e w' ⟨rfl, hw⟩; rw [hw, hN]; clear hw) | (go_at_call_of 138 ra; refine (bytesEqual_nil ra rn rc c.role _ (lo := lo) (hi := hi) (HR.out.below HB.out hhi)).mono ?_; rintro e w' ⟨rfl, hw⟩; rw [hw, hRr]; clear hw) | (go_at_call 139; refine (equalFunc_nil ka kn kc _ _).mono ?_; rintro e w' ⟨rfl, hw⟩; rw [hw, hKk]; clear hw))
          go_ret
          exact ⟨rb HE.out.symm, HB.out⟩
        · cases hKk : decide (kn = 0)
          · have HE : Hid (zeroB c = false) := by unfold Hid; rw [HZ.out]; simp [hKk]
            clear h0
            go_enter Tryz.func90, Tryz.ntmps90
            go_wp2_with (first | (go_at_call_of 138 na; refine (bytesEqual_nil na nn nc c.name _ (lo := lo) (hi := hi) (HN.out.below HB.out hhi)).mono ?_; rintro e w' ⟨rfl, hw⟩; rw [hw, hN]; clear hw) | (go_at_call_of 138 ra; refine (bytesEqual_nil ra rn rc c.role _ (lo := lo) (hi := hi) (HR.out.below HB.out hhi)).mono ?_; rintro e w' ⟨rfl, hw⟩; rw [hw, hRr]; clear hw) | (go_at_call 139; refine (equalFunc_nil ka kn kc _ _).mono ?_; rintro e w' ⟨rfl, hw⟩; rw [hw, hKk]; clear hw))
            go_ret
            exact ⟨rb HE.out.symm, HB.out⟩
          · have HE : Hid (zeroB c = true) := by unfold Hid; rw [HZ.out]; simp [h0, hN, hRr, hKk]
            clear h0
            go_enter Tryz.func90, Tryz.ntmps90
            go_wp2_with (first | (go_at_call_of 138 na; refine (bytesEqual_nil na nn nc c.name _ (lo := lo) (hi := hi) (HN.out.below HB.out hhi)).mono ?_; rintro e w' ⟨rfl, hw⟩; rw [hw, hN]; clear hw) | (go_at_call_of 138 ra; refine (bytesEqual_nil ra rn rc c.role _ (lo := lo) (hi := hi) (HR.out.below HB.out hhi)).mono ?_; rintro e w' ⟨rfl, hw⟩; rw [hw, hRr]; clear hw) | (go_at_call 139; refine (equalFunc_nil ka kn kc _ _).mono ?_; rintro e w' ⟨rfl, hw⟩; rw [hw, hKk]; clear hw))
            go_ret
            exact ⟨rb HE.out.symm, HB.out⟩
    · have b0 : (k == 0) = false := by simpa using h0
      have HE : Hid (zeroB c = false) := by unfold Hid; rw [HZ.out]; simp [h0]
      clear h0
      go_enter Tryz.func90, Tryz.ntmps90
      go_wp2_with fail
      go_ret
      exact ⟨rb HE.out.symm, HB.out⟩

set_option maxRecDepth 100000 in
set_option maxHeartbeats 2000000 in
theorem conFits_any {d : Nat} {v : Value} {c : CN} {w : World} {lo hi : Nat} (wanted : Bool) (h : RdC lo hi w d v c) (hhi : hi ≤ w.heap.size) (hbk : c.bulk ≤ 1048576) :
    Calls Tryz.prog 52 #[v, .bool wanted] w fun e w' => e = .returned (.bool (fitC c wanted)) ∧ Below w.heap.size w w' := by
  have HRd : Hid (RdC lo hi w d v c) := h
  obtain ⟨k, na, nn, nc, ra, rn, rc, ka, kn, kc, rfl⟩ := h.shape
  have hb0 : Below w.heap.size w (w.alloc (.cells #[.int .i64 k, .slice na nn nc, .slice ra rn rc, .slice ka kn kc] 37)) := (Below.refl _ _).alloc (Nat.le_refl _) _
  have HB0 : Hid (Below w.heap.size w (w.alloc (.cells #[.int .i64 k, .slice na nn nc, .slice ra rn rc, .slice ka kn kc] 37))) := hb0
  have HR0 : Hid (RdC lo hi (w.alloc (.cells #[.int .i64 k, .slice na nn nc, .slice ra rn rc, .slice ka kn kc] 37)) d (.agg #[.int .i64 k, .slice na nn nc, .slice ra rn rc, .slice ka kn kc]) c) := HRd.out.below hb0 hhi
  have HBk : Hid (c.bulk ≤ 1048576) := hbk
  clear hb0 h hbk
  cases wanted with
  | true =>
    go_enter Tryz.func52, Tryz.ntmps52
    go_wp2_with (go_at_call 87; refine (implConOk_any HR0.out (Nat.le_trans hhi HB0.out.size) HBk.out).mono ?_; rintro e w1 ⟨rfl, hb1⟩; have HB1 : Hid (Below w.heap.size w w1) := HB0.out.trans (hb1.mono HB0.out.size); clear hb1)
    go_ret
    exact ⟨rfl, HB1.out⟩
  | false =>
    go_enter Tryz.func52, Tryz.ntmps52
    go_wp2_with (go_at_call 90; refine (sameCon_zero HR0.out (Nat.le_trans hhi HB0.out.size)).mono ?_; rintro e w1 ⟨rfl, hb1⟩; have HB1 : Hid (Below w.heap.size w w1) := HB0.out.trans (hb1.mono HB0.out.size); clear hb1)
    go_ret
    exact ⟨rfl, HB1.out⟩
end

section
open Go.RowKit

theorem has_fields {k : Int} (h : 0 ≤ k ∧ k ≤ 5) : inS (fieldsS k) 67 = wantC k ∧ inS (fieldsS k) 68 = wantD k ∧ inS (fieldsS k) 82 = wantR k ∧ inS (fieldsS k) 83 = wantS k ∧ inS (fieldsS k) 65 = wantA k ∧ inS (fieldsS k) 66 = wantB k := by
  have hkk : k = 0 ∨ k = 1 ∨ k = 2 ∨ k = 3 ∨ k = 4 ∨ k = 5 := by omega
  rcases hkk with rfl | rfl | rfl | rfl | rfl | rfl <;> decide +kernel

theorem fields_long {k : Int} (h : 0 ≤ k ∧ k ≤ 5) : 2 ≤ (fieldsS k).toList.length := by
  have hkk : k = 0 ∨ k = 1 ∨ k = 2 ∨ k = 3 ∨ k = 4 ∨ k = 5 := by omega
  rcases hkk with rfl | rfl | rfl | rfl | rfl | rfl <;> (rw [ByteArray.toList_eq]; decide +kernel)

theorem one_ne {c : UInt8} {l : List UInt8} (h : 2 ≤ l.length) : (([c] : List UInt8) == l) = false := by
  match l, h with
  | x :: y :: l, _ => simp

theorem ne_nil {l : List UInt8} (h : 2 ≤ l.length) : (l != []) = true ∧ (l == []) = false := by
  match l, h with
  | x :: y :: l, _ => exact ⟨rfl, rfl⟩
end
end

section
section
open Go.RowKit

theorem below_drew' (w : World) : Below w.heap.size w w.drew := (Below.refl _ _).drew

set_option maxRecDepth 100000 in
set_option maxHeartbeats 8000000 in
theorem eqAxs_any {a : Option Addr} {n cap : Nat} {xs : List AX} {dp : Nat} {w : World} {lo hi : Nat} {a' : Option Addr} {cap' dp' lo' hi' : Nat} (h : RdK lo hi w dp a n cap xs) (h' : RdK lo' hi' w dp' a' n cap' xs) (hhi : hi ≤ w.heap.size) (hhi' : hi' ≤ w.heap.size) :
    Calls Tryz.prog 64 #[.slice a n cap, .slice a' n cap'] w fun e w' => e = .returned (.bool true) ∧ Below w.heap.size w w' := by
  have HK : Hid (RdK lo hi w dp a n cap xs) := h
  have HK' : Hid (RdK lo' hi' w dp' a' n cap' xs) := h'
  have HL : Hid (xs.length = n) := h.len
  have hf := h.fits
  have hf' := h'.fits
  clear h h'
  go_enter Tryz.func64, Tryz.ntmps64
  go_wp2_with fail
  go_loopw [5] (fun i wr => ∃ k : Nat, k ≤ n ∧ i = .int .i64 k ∧ Below w.heap.size w wr) (fun i _ => n - (intOf i).toNat)
  case atStart => exact ⟨0, Nat.zero_le _, rfl, Below.refl _ _⟩
  case round =>
    obtain ⟨k, hk, rfl, hbel⟩ := hrel
    have HB : Hid (Below w.heap.size w wr) := hbel
    by_cases hlt : k < n
    · have hK := HK.out.below hbel hhi
      have hK' := HK'.out.below hbel hhi'
      rcases hK.cells with hz | ⟨b, off, e1, _, hbh, hc⟩
      · omega
      · rcases hK'.cells with hz | ⟨b', off', e1', _, hbh', hc'⟩
        · omega
        · subst e1 e1'
          obtain ⟨c0, c1, c2, c3, d0, d1, d2, d3, ra, rn, rc, sa, sn, sc, aa, an, ac, ba, bn, bc, q0, q1, q2, q3, q4, q5, q6, q7, q8, q9, q10, q11, q12, hrd⟩ := hc k hlt
          obtain ⟨c0', c1', c2', c3', d0', d1', d2', d3', ra', rn', rc', sa', sn', sc', aa', an', ac', ba', bn', bc', q0', q1', q2', q3', q4', q5', q6', q7', q8', q9', q10', q11', q12', hrd'⟩ := hc' k hlt
          have HRd : Hid (RdA lo hi wr.drew dp c0 c1 c2 c3 d0 d1 d2 d3 ra rn rc sa sn sc aa an ac ba bn bc (xs.getD k AX.zero)) := hrd.same (fun _ _ _ => rfl)
          have HRd' : Hid (RdA lo' hi' wr.drew dp' c0' c1' c2' c3' d0' d1' d2' d3' ra' rn' rc' sa' sn' sc' aa' an' ac' ba' bn' bc' (xs.getD k AX.zero)) := hrd'.same (fun _ _ _ => rfl)
          have hki : (k : Int) < (n : Int) := by omega
          obtain ⟨kk, hkk⟩ : ∃ kk, kk = (xs.getD k AX.zero).kind := ⟨_, rfl⟩
          rw [← hkk] at q0 q0'
          have hh1 : hi ≤ wr.heap.size := Nat.le_trans hhi hbel.size
          have hh2 : hi' ≤ wr.heap.size := Nat.le_trans hhi' hbel.size
          clear hK hK' hc hc' hrd hrd' hbel hkk
          go_upto_region 6 with fail
          first | go_region_with (first
            | (go_at_call 112; refine (eqAx_any HRd.out HRd'.out hh1 hh2 kk).mono ?_; rintro e w7 ⟨rfl, hb7⟩; have H7 : Hid (Below w.heap.size w w7) := HB.out.trans ((below_drew' wr).trans hb7 |>.mono HB.out.size); clear hb7)) | fail
          all_goals
            go_wp2_with fail
            go_roundw
            case rel => exact ⟨k + 1, by omega, by go_num, H7.out⟩
            case measure => simp [intOf]; omega
    · clear hbel
      go_wp2_with fail
      go_ret
      exact ⟨rfl, HB.out⟩

set_option maxRecDepth 100000 in
set_option maxHeartbeats 1000000 in
theorem eqKb_any {a : Option Addr} {n cap : Nat} {xs : List AX} {dp : Nat} {w : World} {lo hi : Nat} {a' : Option Addr} {cap' dp' lo' hi' : Nat} (h : RdK lo hi w dp a n cap xs) (h' : RdK lo' hi' w dp' a' n cap' xs) (hhi : hi ≤ w.heap.size) (hhi' : hi' ≤ w.heap.size) :
    Calls Tryz.prog 27 #[.agg #[.slice a n cap], .agg #[.slice a' n cap']] w fun e w' => e = .returned (.bool true) ∧ Below w.heap.size w w' := by
  obtain ⟨W0, hW0⟩ : ∃ W0, W0 = (w.alloc (.cells #[.slice a n cap] 25)).alloc (.cells #[.slice a' n cap'] 25) := ⟨_, rfl⟩
  have HW0 : Hid (W0 = (w.alloc (.cells #[.slice a n cap] 25)).alloc (.cells #[.slice a' n cap'] 25)) := hW0
  have hb0 : Below w.heap.size w W0 := by rw [hW0]; exact ((Below.refl _ _).alloc (Nat.le_refl _) _).alloc (by simp) _
  have HB0 : Hid (Below w.heap.size w W0) := hb0
  have HK : Hid (RdK lo hi W0 dp a n cap xs) := h.below hb0 hhi
  have HK' : Hid (RdK lo' hi' W0 dp' a' n cap' xs) := h'.below hb0 hhi'
  clear h h' hb0 hW0
  go_enter Tryz.func27, Tryz.ntmps27
  go_wp2_with fail
  rw [← HW0.out]
  refine (eqAxs_any HK.out HK'.out (Nat.le_trans hhi HB0.out.size) (Nat.le_trans hhi' HB0.out.size)).mono ?_
  rintro e w1 ⟨rfl, hb1⟩
  have HB1 : Hid (Below w.heap.size w w1) := HB0.out.trans (hb1.mono HB0.out.size)
  clear hb1
  go_wp2_with fail
  go_ret
  exact ⟨rfl, HB1.out⟩
end

section
open Go.RowKit

theorem RdA.mono {lo hi lo' hi' : Nat} {w : World} {dp : Nat} {c0 c1 c2 c3 d0 d1 d2 d3 : Value} {ra : Option Addr} {rn rc : Nat} {sa : Option Addr} {sn sc : Nat} {aa : Option Addr} {an ac : Nat} {ba : Option Addr} {bn bc : Nat} {x : AX}
    (h : RdA lo hi w dp c0 c1 c2 c3 d0 d1 d2 d3 ra rn rc sa sn sc aa an ac ba bn bc x) (h1 : lo' ≤ lo) (h2 : hi ≤ hi') : RdA lo' hi' w dp c0 c1 c2 c3 d0 d1 d2 d3 ra rn rc sa sn sc aa an ac ba bn bc x :=
  ⟨h.c.mono h1 h2, h.d.mono h1 h2, h.r.mono h1 h2, h.s.mono h1 h2, h.a.mono h1 h2, h.b.mono h1 h2⟩

theorem Ax13.mono {lo hi lo' hi' : Nat} {w : World} {dp b o : Nat} {x : AX} (h : Ax13 lo hi w dp b o x) (h1 : lo' ≤ lo) (h2 : hi ≤ hi') : Ax13 lo' hi' w dp b o x := by
  obtain ⟨c0, c1, c2, c3, d0, d1, d2, d3, ra, rn, rc, sa, sn, sc, aa, an, ac, ba, bn, bc, q0, q1, q2, q3, q4, q5, q6, q7, q8, q9, q10, q11, q12, hr⟩ := h
  exact ⟨c0, c1, c2, c3, d0, d1, d2, d3, ra, rn, rc, sa, sn, sc, aa, an, ac, ba, bn, bc, q0, q1, q2, q3, q4, q5, q6, q7, q8, q9, q10, q11, q12, hr.mono h1 h2⟩
theorem RdK.mono {lo hi lo' hi' dp : Nat} {w : World} {a : Option Addr} {n cap : Nat} {xs : List AX} (h : RdK lo hi w dp a n cap xs) (h1 : lo' ≤ lo) (h2 : hi ≤ hi') : RdK lo' hi' w dp a n cap xs := by
  obtain ⟨hl, hm, hc⟩ := h
  refine ⟨hl, hm, ?_⟩
  rcases hc with h0 | ⟨b, off, e, q1, q2, hc⟩
  · exact .inl h0
  · exact .inr ⟨b, off, e, by omega, by omega, fun i hi => (hc i hi).mono h1 h2⟩

end

section
open Go.RowKit Go.Deep Go.ChangeShapes Go.WideShapes

instance : Inhabited AX := ⟨AX.zero⟩

end
end

end Go.Proofs.YtckhjoancfbkfaaGreat
