/- Several texts in one: DigT, Dig6. -/
import Derived.Test.YtknainelonaigaaGreatDoorNCon
import Derived.Lib.AppendStr
import Derived.RangeFuncRecord
import Derived.Deep.RegionWith
import Derived.Deep.DeepCutAuto
namespace Go.Proofs.YtknainelonaigaaGreatDoor

section
open Go.RowKit

def digT (n : Nat) : List Int := if n < 10 then [48 + (n : Int)] else [48 + ((n / 10 : Nat) : Int), 48 + ((n % 10 : Nat) : Int)]
theorem digT_len (n : Nat) : 1 ≤ (digT n).length ∧ (digT n).length ≤ 2 := by unfold digT; split <;> simp
theorem digT_byt {n : Nat} (h : n < 100) : ∀ x ∈ digT n, 0 ≤ x ∧ x ≤ 255 := by
  unfold digT
  intro x hx
  split at hx
  · simp at hx; omega
  · simp at hx; omega
def digB (n : Nat) : ByteArray := ⟨((digT n).map (fun z => UInt8.ofNat z.toNat)).toArray⟩
theorem bytes_cells : ∀ (L : List Int), (∀ x ∈ L, 0 ≤ x ∧ x ≤ 255) → (L.map (fun z => UInt8.ofNat z.toNat)).map (fun b => Value.int .u8 b.toNat) = L.map (Value.int .u8)
  | [], _ => rfl
  | x :: L, h => by
    have hx := h x (by simp)
    simp only [List.map_cons, bytes_cells L (fun y hy => h y (by simp [hy]))]
    have e0 : (UInt8.ofNat x.toNat).toNat = x.toNat := by rw [UInt8.toNat_ofNat']; exact Nat.mod_eq_of_lt (by omega)
    have e : ((UInt8.ofNat x.toNat).toNat : Int) = x := by rw [e0]; omega
    rw [e]
theorem digB_cells {n : Nat} (h : n < 100) : Lib.strCells (digB n) = (digT n).map (Value.int .u8) := by
  unfold Lib.strCells digB
  simp only []
  exact bytes_cells _ (digT_byt h)
theorem digB_size {n : Nat} (h : n < 100) : (digB n).size = (digT n).length := by rw [← Lib.strCells_length, digB_cells h, List.length_map]

theorem Tryz.info5d : (Tryz.prog.info? 5).map (fun i => (i.zero, i.size, i.bytes)) = some (some (.int .u8 0), 1, 1) := by kernel_rfl
theorem rs {s t : ByteArray} (h : s = t) : Ending.returned (.string s) = Ending.returned (.string t) := by rw [h]

def lowS : ByteArray := { data := #[48, 49, 50, 51, 52, 53, 54, 55, 56, 57, 97, 98, 99, 100, 101, 102, 103, 104, 105, 106, 107, 108, 109, 110, 111, 112, 113, 114, 115, 116, 117, 118, 119, 120, 121, 122] }
def highS : ByteArray := { data := (([48, 48, 48, 49, 48, 50, 48, 51, 48, 52, 48, 53, 48, 54, 48, 55, 48, 56, 48, 57, 49, 48, 49, 49, 49, 50, 49, 51, 49, 52, 49, 53, 49, 54, 49, 55, 49, 56, 49, 57, 50, 48, 50, 49, 50, 50, 50, 51, 50, 52].append [50, 53, 50, 54, 50, 55, 50, 56, 50, 57, 51, 48, 51, 49, 51, 50, 51, 51, 51, 52, 51, 53, 51, 54, 51, 55, 51, 56, 51, 57, 52, 48, 52, 49, 52, 50, 52, 51, 52, 52, 52, 53, 52, 54, 52, 55, 52, 56, 52, 57]).append ([53, 48, 53, 49, 53, 50, 53, 51, 53, 52, 53, 53, 53, 54, 53, 55, 53, 56, 53, 57, 54, 48, 54, 49, 54, 50, 54, 51, 54, 52, 54, 53, 54, 54, 54, 55, 54, 56, 54, 57, 55, 48, 55, 49, 55, 50, 55, 51, 55, 52].append [55, 53, 55, 54, 55, 55, 55, 56, 55, 57, 56, 48, 56, 49, 56, 50, 56, 51, 56, 52, 56, 53, 56, 54, 56, 55, 56, 56, 56, 57, 57, 48, 57, 49, 57, 50, 57, 51, 57, 52, 57, 53, 57, 54, 57, 55, 57, 56, 57, 57])).toArray }
theorem low_dig : ∀ q, q < 10 → lowS.extract q (q + 1) = digB q := by decide +kernel
theorem high_dig : ∀ q, q < 100 → ¬ q < 10 → highS.extract (q * 2) (q * 2 + 2) = digB q := by decide +kernel
set_option maxRecDepth 100000 in
theorem small_any {n : Nat} (h : n < 100) (w : World) : Calls Tryz.prog 114 #[.int .i64 (n : Nat)] w fun e w' => e = .returned (.string (digB n)) ∧ w' = w := by
  by_cases h10 : n < 10
  · have hi : (n : Int) < 10 := by omega
    have HE : Hid (lowS.extract n (n + 1) = digB n) := low_dig n h10
    go_enter Tryz.func114, Tryz.ntmps114
    go_wp2
    go_ret
    exact ⟨rs HE.out, rfl⟩
  · have hi : ¬ (n : Int) < 10 := by omega
    have HE : Hid (highS.extract (n * 2) (n * 2 + 2) = digB n) := high_dig n h h10
    have hw : IntKind.i64.wrap ((n : Int) * 2) = ((n * 2 : Nat) : Int) := by rw [show (n : Int) * 2 = ((n * 2 : Nat) : Int) by omega]; exact wrap64_id (by omega)
    have hw2 : IntKind.i64.wrap (((n * 2 : Nat) : Int) + 2) = ((n * 2 + 2 : Nat) : Int) := by rw [show ((n * 2 : Nat) : Int) + 2 = ((n * 2 + 2 : Nat) : Int) by omega]; exact wrap64_id (by omega)
    go_enter Tryz.func114, Tryz.ntmps114
    go_wp2
    go_ret
    exact ⟨rs HE.out, rfl⟩

theorem ownB_one (w : World) (c : Int) : OwnB w.heap.size (w.alloc (.cells #[.int .u8 c] 5)) (.slice (some ⟨w.heap.size, 0, none⟩) 1 1) [c] :=
  ownsZ_of ⟨rfl, .inr ⟨w.heap.size, 1, #[.int .u8 c], rfl, Nat.le_refl _, World.alloc_heap_new w _, Nat.le_refl _, by unfold maxLen; omega, rfl, rfl⟩⟩

set_option maxRecDepth 100000 in
set_option maxHeartbeats 1000000 in
theorem l5digits_low {n : Nat} (h : n < 10) (w : World) :
    Calls Tryz.prog 17 #[.int .i64 (n : Nat)] w fun e w' => ∃ v, e = .returned v ∧ OwnB w.heap.size w' v (digT n) ∧ Below w.heap.size w w' := by
  have hi : (n : Int) < 10 := by omega
  have HD : Hid (digT n = [48 + (n : Int)]) := if_pos h
  have hcv : IntKind.u8.wrap (48 + (n : Int)) = 48 + (n : Int) := (by decide +kernel : ∀ q : Nat, q < 10 → IntKind.u8.wrap (48 + (q : Int)) = 48 + (q : Int)) n h
  go_enter Tryz.func17, Tryz.ntmps17
  go_wp2_with fail
  go_ret
  exact ⟨_, rfl, by rw [HD.out]; exact ownB_one w _, (Below.refl _ _).alloc (Nat.le_refl _) _⟩

set_option maxRecDepth 100000 in
set_option maxHeartbeats 1000000 in
theorem l5digits_any {n : Nat} (h : n < 100) (w : World) :
    Calls Tryz.prog 17 #[.int .i64 (n : Nat)] w fun e w' => ∃ v, e = .returned v ∧ OwnB w.heap.size w' v (digT n) ∧ Below w.heap.size w w' := by
  by_cases h10 : n < 10
  · exact l5digits_low h10 w
  have hi : ¬ (n : Int) < 10 := by omega
  obtain ⟨p, hp⟩ : ∃ p, p = n / 10 := ⟨_, rfl⟩
  obtain ⟨q, hq⟩ : ∃ q, q = n % 10 := ⟨_, rfl⟩
  have hp10 : p < 10 := by omega
  have HD : Hid (digT n = digT p ++ [48 + (q : Int)]) := by
    unfold Hid digT
    rw [if_neg h10, if_pos hp10, ← hp, ← hq]
    rfl
  have hdv : (n : Int) / 10 = (p : Int) := by omega
  have hdv2 : Int.tdiv (n : Int) 10 = (p : Int) := by rw [Int.tdiv_eq_ediv_of_nonneg (by omega)]; omega
  have hmd : Int.tmod (n : Int) 10 = (q : Int) := by rw [Int.tmod_eq_emod_of_nonneg (by omega)]; omega
  have hmd2 : (n : Int) % 10 = (q : Int) := by omega
  have hq10 : q < 10 := by omega
  have hcv : IntKind.u8.wrap (48 + (q : Int)) = 48 + (q : Int) := (by decide +kernel : ∀ q : Nat, q < 10 → IntKind.u8.wrap (48 + (q : Int)) = 48 + (q : Int)) q hq10
  have hdl := digT_len p
  obtain ⟨i0, hi0, hz0, hz1, hz2⟩ := info_parts Tryz.info5d
  clear hp hq
  go_enter Tryz.func17, Tryz.ntmps17
  go_wp2_with fail
  refine (l5digits_low hp10 w).mono ?_
  rintro e w1 ⟨v1, rfl, h1, h2⟩
  have HO1 : Hid (OwnB w.heap.size w1 v1 (digT p)) := h1
  have HB1 : Hid (Below w.heap.size w w1) := h2
  have s1 := h2.size
  clear h1 h2
  go_wp2_with (first
    | (at_builtin; refine listZ _ rfl (.tmp 11) (.tmp 16) 28 rfl w.heap.size 5 i0 (.int .u8 0) 1 1 Tryz.underlying28 hi0 hz0 hz1 hz2 rfl (by decide) v1 (digT p).length ((digT p).map (Value.int .u8)) rfl (HO1.out.below ((Below.refl w1.heap.size w1).alloc (Nat.le_refl _) _) (Nat.le_refl _)) ⟨w1.heap.size, 0, none⟩ 1 1 [.int .u8 (48 + (q : Int))] rfl rfl (cell_one_new _ _ _) (by simp [Value.oneCell']) (by unfold maxLen; omega) (by omega) (by simp; omega) ?_; intro v3 w3 hown3 hgrow3 hnil3) | fail)
  go_ret
  have hO2 : OwnB w.heap.size (w1.alloc (.cells #[.int .u8 (48 + (q : Int))] 5)) v1 (digT p) := HO1.out.below ((Below.refl w1.heap.size w1).alloc (Nat.le_refl _) _) (Nat.le_refl _)
  refine ⟨v3, rfl, ?_, (HB1.out.alloc s1 _).grown hgrow3 (by simp; omega) (fun g hg => (ownsZ.lt hO2 g hg).1)⟩
  rw [HD.out]
  unfold OwnB
  rw [List.length_append, List.map_append]
  exact hown3
end

section
open Go.RowKit

theorem ownB_dig6 {base : Nat} {W w2 : World} {v v' : Value} {xs : List Int} {n : Nat} (h : n < 100) (hO : OwnB base W v xs) (hb : base ≤ W.heap.size)
    (hown : ownsZ w2 base 5 1 v' (xs.length + (digB n).size) (xs.map (Value.int .u8) ++ Lib.strCells (digB n))) (hgrow : W.grownBy w2 v.ownBlock) (hat : v'.ownBlock = v.ownBlock ∨ v'.ownBlock = some W.heap.size) :
    OwnB base w2 v' (xs ++ digT n) ∧ Keep6 base W v w2 v' := by
  rw [digB_size h, digB_cells h] at hown
  exact ownB_app6 hO hb hown hgrow hat

set_option maxRecDepth 100000 in
set_option maxHeartbeats 1000000 in
theorem appendUint6 {base : Nat} {w : World} {v : Value} {xs : List Int} {n : Nat} (h : n < 100) (hO : OwnB base w v xs) (hb : base ≤ w.heap.size) (hl : xs.length ≤ 1073741824) :
    Calls Tryz.prog 100 #[v, .int .u64 (n : Nat), .int .i64 10] w fun e w' => ∃ v', e = .returned v' ∧ OwnB base w' v' (xs ++ digT n) ∧ Keep6 base w v w' v' := by
  have HO : Hid (OwnB base w v xs) := hO
  have hi : (n : Int) < 100 := by omega
  have hds := digB_size h
  have hdl := digT_len n
  obtain ⟨i0, hi0, hz0, hz1, hz2⟩ := info_parts Tryz.info5d
  have hcv : IntKind.i64.wrap (n : Int) = (n : Int) := wrap64_id (by omega)
  clear hO
  go_enter Tryz.func100, Tryz.ntmps100
  go_wp2_with (first
    | (go_at_call 114; refine (small_any h _).mono ?_; rintro e w' ⟨rfl, hw⟩; rw [hw]; clear hw)
    | (at_builtin; refine list_append_strAt rfl (.tmp 13) (.tmp 16) 28 9 rfl base 5 i0 Tryz.underlying28 Tryz.underlying9 hi0 hz0 hz1 hz2 v xs.length (xs.map (Value.int .u8)) rfl HO.out (digB n) rfl (by unfold maxLen; omega) (by omega) hb ?_; intro v1 w1 hown' hgrow hnil; have HF1 : Hid (OwnB base w1 v1 (xs ++ digT n) ∧ Keep6 base w v w1 v1) := ownB_dig6 h HO.out hb hown' hgrow hnil; clear hown' hgrow hnil))
  go_ret
  exact ⟨v1, rfl, HF1.out.1, HF1.out.2⟩

set_option maxRecDepth 100000 in
set_option maxHeartbeats 1000000 in
theorem appendIntI6 {base : Nat} {w : World} {v : Value} {xs : List Int} {n : Nat} (h : n < 100) (hO : OwnB base w v xs) (hb : base ≤ w.heap.size) (hl : xs.length ≤ 1073741824) :
    Calls Tryz.prog 80 #[v, .int .i64 (n : Nat), .int .i64 10] w fun e w' => ∃ v', e = .returned v' ∧ OwnB base w' v' (xs ++ digT n) ∧ Keep6 base w v w' v' := by
  have HO : Hid (OwnB base w v xs) := hO
  have hi : ¬ (n : Int) < 0 := by omega
  have hcv : IntKind.u64.wrap (n : Int) = (n : Int) := (by decide +kernel : ∀ q : Nat, q < 100 → IntKind.u64.wrap (q : Int) = (q : Int)) n h
  clear hO
  go_enter Tryz.func80, Tryz.ntmps80
  go_wp2_with fail
  refine (appendUint6 h HO.out hb hl).mono ?_
  rintro e w1 ⟨v1, rfl, h1, h2⟩
  have HF1 : Hid (OwnB base w1 v1 (xs ++ digT n) ∧ Keep6 base w v w1 v1) := ⟨h1, h2⟩
  clear h1 h2
  go_wp2_with fail
  go_ret
  exact ⟨v1, rfl, HF1.out.1, HF1.out.2⟩

set_option maxRecDepth 100000 in
theorem appendInt6 {base : Nat} {w : World} {v : Value} {xs : List Int} {n : Nat} (h : n < 100) (hO : OwnB base w v xs) (hb : base ≤ w.heap.size) (hl : xs.length ≤ 1073741824) :
    Calls Tryz.prog 52 #[v, .int .i64 (n : Nat), .int .i64 10] w fun e w' => ∃ v', e = .returned v' ∧ OwnB base w' v' (xs ++ digT n) ∧ Keep6 base w v w' v' := by
  have HO : Hid (OwnB base w v xs) := hO
  clear hO
  go_enter Tryz.func52, Tryz.ntmps52
  go_wp2_with fail
  refine (appendIntI6 h HO.out hb hl).mono ?_
  rintro e w1 ⟨v1, rfl, h1, h2⟩
  have HF1 : Hid (OwnB base w1 v1 (xs ++ digT n) ∧ Keep6 base w v w1 v1) := ⟨h1, h2⟩
  clear h1 h2
  go_wp2_with fail
  go_ret
  exact ⟨v1, rfl, HF1.out.1, HF1.out.2⟩

set_option maxRecDepth 100000 in
set_option maxHeartbeats 1000000 in
theorem addNumber6 {base : Nat} {w : World} {v : Value} {xs : List Int} {n : Nat} (s : ByteArray) (ss : List Int) (hss : Lib.strCells s = ss.map (Value.int .u8)) (h : n < 100) (hO : OwnB base w v xs) (hb : base ≤ w.heap.size) (hl : xs.length + ss.length ≤ 536870912) :
    Calls Tryz.prog 24 #[v, .string s, .int .i64 (n : Nat)] w fun e w' => ∃ v', e = .returned v' ∧ OwnB base w' v' (xs ++ ss ++ digT n) ∧ Keep6 base w v w' v' := by
  have HO : Hid (OwnB base w v xs) := hO
  have hsz : s.size = ss.length := by rw [← Lib.strCells_length, hss, List.length_map]
  have HSs : Hid (Lib.strCells s = ss.map (Value.int .u8)) := hss
  obtain ⟨i0, hi0, hz0, hz1, hz2⟩ := info_parts Tryz.info5d
  clear hO hss
  go_enter Tryz.func24, Tryz.ntmps24
  go_wp2_with (first
    | (at_builtin; refine list_append_strAt rfl (.tmp 7) (.tmp 8) 28 9 rfl base 5 i0 Tryz.underlying28 Tryz.underlying9 hi0 hz0 hz1 hz2 v xs.length (xs.map (Value.int .u8)) rfl HO.out s rfl (by unfold maxLen; omega) (by omega) hb ?_; intro v1 w1 hown' hgrow hnil; have HF1 : Hid (OwnB base w1 v1 (xs ++ ss) ∧ Keep6 base w v w1 v1) := ownB_app6 HO.out hb (by rw [hsz, HSs.out] at hown'; exact hown') hgrow hnil; clear hown' hgrow hnil)
    | (go_at_call 52; refine (appendInt6 h HF1.out.1 (Nat.le_trans hb HF1.out.2.k5.1.size) (by rw [List.length_append]; omega)).mono ?_; rintro e w2 ⟨v2, rfl, h1, h2⟩; have HF2 : Hid (OwnB base w2 v2 (xs ++ ss ++ digT n) ∧ Keep6 base w v w2 v2) := ⟨h1, HF1.out.2.trans h2⟩; clear h1 h2))
  go_ret
  exact ⟨v2, rfl, HF2.out.1, HF2.out.2⟩
end

end Go.Proofs.YtknainelonaigaaGreatDoor
