/- Several texts in one: ExtW0, Worlds. -/
import Derived.Test.YtnmljalcndfjmaaNG7
import Derived.Test.YtnmljalcndfjmaaNG22
import Derived.Test.YtnmljalcndfjmaaNG13
import Derived.Test.YtnmljalcndfjmaaDrawWd0
import Derived.Test.YtnmljalcndfjmaaNG16
import Derived.Test.YtnmljalcndfjmaaConAt
import Derived.Deep.RegionHeld3
import Derived.Lib.SlBytesConst
namespace Go.Proofs.Ytnmljalcndfjmaa

section
open Go.RowKit

theorem pickI_split {f : Nat → Bool} {e n : Nat} (h : e ≤ n) : ∃ r, pickI f n = pickI f e ++ r ∧ ∀ z ∈ r, (e : Int) ≤ z := by
  induction n with
  | zero => obtain rfl : e = 0 := by omega
            exact ⟨[], by simp, by simp⟩
  | succ n ih =>
    by_cases h1 : e = n + 1
    · subst h1; exact ⟨[], by simp, by simp⟩
    · obtain ⟨r, hr, hz⟩ := ih (by omega)
      cases hf : f n with
      | true =>
        refine ⟨r ++ [(n : Int)], by rw [pickI_yes hf, hr, List.append_assoc], fun z hz' => ?_⟩
        rw [List.mem_append] at hz'
        rcases hz' with q | q
        · exact hz z q
        · simp at q; omega
      | false => exact ⟨r, by rw [pickI_no hf, hr], hz⟩

theorem pickI_at {f : Nat → Bool} {e n : Nat} (h : e < n) (hf : f e = true) : (pickI f e).length < (pickI f n).length ∧ (pickI f n).getD (pickI f e).length 0 = (e : Int) := by
  obtain ⟨r, hr, _⟩ := pickI_split (f := f) (show e + 1 ≤ n from h)
  rw [hr, pickI_yes hf]
  simp [List.getD]

theorem pickI_skip {f : Nat → Bool} {e n : Nat} (h : e < n) (hf : f e = false) (hk : (pickI f e).length < (pickI f n).length) : (pickI f n).getD (pickI f e).length 0 ≠ (e : Int) := by
  obtain ⟨r, hr, hz⟩ := pickI_split (f := f) (show e + 1 ≤ n from h)
  rw [pickI_no hf] at hr
  rw [hr] at hk ⊢
  cases r with
  | nil => simp at hk
  | cons z r =>
    have := hz z (by simp)
    simp [List.getD]
    omega

/-- How many of those below e it holds of. -/
def cntP (x : WD) (L : Nat) (c : CN) (e : Nat) : Nat := (pickI (fun j => holdC x L c j) e).length
theorem cntP_yes {x : WD} {L : Nat} {c : CN} {e : Nat} (h : holdC x L c e = true) : cntP x L c (e + 1) = cntP x L c e + 1 := by
  unfold cntP; rw [pickI_yes h]; simp
theorem cntP_no {x : WD} {L : Nat} {c : CN} {e : Nat} (h : holdC x L c e = false) : cntP x L c (e + 1) = cntP x L c e := by
  unfold cntP; rw [pickI_no h]
theorem cntP_le (x : WD) (L : Nat) (c : CN) (e : Nat) : cntP x L c e ≤ e := pickI_len _ _
theorem cntP_at {x : WD} {L : Nat} {c : CN} {e n : Nat} (he : e < n) (h : holdC x L c e = true) : cntP x L c e < (pickI (fun j => holdC x L c j) n).length ∧ (pickI (fun j => holdC x L c j) n).getD (cntP x L c e) 0 = (e : Int) := pickI_at (f := fun j => holdC x L c j) he h
theorem cntP_skip {x : WD} {L : Nat} {c : CN} {e n : Nat} (he : e < n) (h : holdC x L c e = false) (hk : cntP x L c e < (pickI (fun j => holdC x L c j) n).length) : (pickI (fun j => holdC x L c j) n).getD (cntP x L c e) 0 ≠ (e : Int) := pickI_skip (f := fun j => holdC x L c j) he h hk

theorem rdOne (W : World) (z : Int) (hz : 0 ≤ z ∧ z ≤ 255) (f : Nat × Nat) : Rd 0 (W.heap.size + 1) (W.alloc (.cells #[.int .u8 z] 5 f)) (some ⟨W.heap.size, 0, none⟩) 1 1 [z] := by
  obtain ⟨a, n, c, e, h⟩ := (word_lit (w := W.alloc (.cells #[.int .u8 z] 5 f)) (base := 0) (f := f) (allocAt rfl) (Nat.zero_le _) hz).slb
  injection e with e1 e2 e3
  subst e1 e2 e3
  simpa using h

theorem rdWrap {W : World} {hi d g1 g2 : Nat} {kd : Int} {v0 v1 v2 v3 : Value} {c : CN} (hr : Rd 0 hi W (some ⟨g1, 0, none⟩) 1 1 [114]) (hb : BoxC W g2 v0 v1 v2 v3) (hg : g2 < hi) (hc : RdC 0 hi W d (.agg #[v0, v1, v2, v3]) c) :
    RdC 0 hi W (d + 1) (.agg #[.int .i64 kd, .slice none 0 0, .slice (some ⟨g1, 0, none⟩) 1 1, .slice (some ⟨g2, 0, none⟩) 1 1]) (.mk kd [] [114] [c]) := by
  have h0 : Rd 0 hi W none 0 0 [] := ⟨rfl, ⟨by omega, by omega⟩, by simp, .inl rfl⟩
  refine ⟨none, 0, 0, _, 1, 1, _, 1, 1, rfl, h0, hr, ⟨rfl, ⟨Nat.le_refl _, by omega⟩, .inr ⟨g2, 0, rfl, Nat.zero_le _, hg, fun i hi => ?_⟩⟩⟩
  obtain rfl : i = 0 := by omega
  obtain ⟨e0, e1, e2, e3⟩ := hb.cells
  exact ⟨v0, v1, v2, v3, e0, e1, e2, e3, hc⟩

theorem worldB_n {x : WD} (h : worldB x = true) : 1 ≤ x.n ∧ x.n ≤ 128 := by
  unfold worldB at h
  simp only [Bool.and_eq_true, decide_eq_true_eq] at h
  exact h.1.1
theorem holdsB_at {x : WD} {c : CN} {N e : Nat} (hw : worldB x = true) (hc : conOk c = true) (hN : x.n = (N : Int)) (he : e < N) : holdsB x c (e : Int) = holdC x N c e := by
  unfold holdsB hasB
  rw [hw, hc, hN]
  have : decide ((0 : Int) ≤ (e : Int) ∧ (e : Int) < (N : Int)) = true := decide_eq_true (by omega)
  rw [this]
  simp
theorem inRelB_at {x : WD} {wd : List Int} {N e y : Nat} (hw : worldB x = true) (hN : x.n = (N : Int)) (he : e < N) (hy : y < N) : inRelB x wd (e : Int) (y : Int) = relO x wd e y N := by
  unfold inRelB hasB
  rw [hw, hN]
  have h1 : decide ((0 : Int) ≤ (e : Int) ∧ (e : Int) < (N : Int)) = true := decide_eq_true (by omega)
  have h2 : decide ((0 : Int) ≤ (y : Int) ∧ (y : Int) < (N : Int)) = true := decide_eq_true (by omega)
  rw [h1, h2]
  simp

/-- Some, all of those below y. -/
def someU (x : WD) (L : Nat) (r : List Int) (c : CN) (e y : Nat) : Bool := (List.range y).any (fun y => relO x r e y L && holdC x L c y)
def allU (x : WD) (L : Nat) (r : List Int) (c : CN) (e y : Nat) : Bool := (List.range y).all (fun y => !(relO x r e y L) || holdC x L c y)
theorem someU_succ (x : WD) (L : Nat) (r : List Int) (c : CN) (e y : Nat) : someU x L r c e (y + 1) = (someU x L r c e y || (relO x r e y L && holdC x L c y)) := by
  unfold someU; rw [List.range_succ, List.any_append]; simp
theorem allU_succ (x : WD) (L : Nat) (r : List Int) (c : CN) (e y : Nat) : allU x L r c e (y + 1) = (allU x L r c e y && (!(relO x r e y L) || holdC x L c y)) := by
  unfold allU; rw [List.range_succ, List.all_append]; simp
theorem hold_some (x : WD) (L : Nat) (r : List Int) (c : CN) (e : Nat) : holdC x L (.mk 6 [] r [c]) e = someU x L r c e L := by
  rw [holdC]; simp [holdK, someU]
theorem hold_all (x : WD) (L : Nat) (r : List Int) (c : CN) (e : Nat) : holdC x L (.mk 7 [] r [c]) e = allU x L r c e L := by
  rw [holdC]; simp [holdK, allU]
theorem conOk_all (r : List Int) (c : CN) : conOk (.mk 7 [] r [c]) = conOk (.mk 6 [] r [c]) := by
  have h : shapeB (.mk 7 [] r [c]) = shapeB (.mk 6 [] r [c]) := rfl
  unfold conOk
  simp only [parts, partsL, List.length_cons, List.all_cons, okOne, h]
  rfl
end

section
open Go.RowKit

def wdA : WD := ⟨1, [[65]], [[true]], [], [], [], []⟩
theorem wdA_ok : worldB wdA = true := by kernel_rfl
theorem readConA : (conRead (numsOf { data := #[65] })).1 = CN.mk 2 [65] [] [] := by kernel_rfl
theorem readConNA : (conRead (numsOf { data := #[78, 111, 116, 40, 65, 41] })).1 = CN.mk 3 [] [] [CN.mk 2 [65] [] []] := by kernel_rfl
theorem holdA : holdsB wdA (CN.mk 2 [65] [] []) 0 = true := by kernel_rfl
theorem holdNA : holdsB wdA (CN.mk 3 [] [] [CN.mk 2 [65] [] []]) 0 = false := by kernel_rfl
theorem inSetA : inSetB wdA [65] 0 = true := by kernel_rfl

theorem wcAt (W : World) (g : Nat) (x : Int) (h : g = W.heap.size) : (convert 22 22 (.slice (some ⟨g, 0, none⟩) 1 1)).run Try.prog (W.alloc (.cells #[.int .u8 x] 5)) = .ok (.slice (some ⟨g, 0, none⟩) 1 1) (W.alloc (.cells #[.int .u8 x] 5 (1, 2))) :=
  by subst h; exact Lib.run_convert_bytes_const W 22 5 #[.int .u8 x] 1 1 Try.underlying22 Try.underlying5

theorem litA (w : World) : Rd w.heap.size (w.heap.size + 1) (w.alloc (.cells #[.int .u8 65] 5 (1, 2))) (some ⟨w.heap.size, 0, none⟩) 1 1 [65] := rd_lits w [65] (1, 2) (by simp) (byteLit (by decide))
theorem litA_size (w : World) : w.heap.size + 1 ≤ (w.alloc (.cells #[.int .u8 65] 5 (1, 2))).heap.size := by simp

theorem boxAt {t : Nat} {W : World} {k : Nat} {m : Int} {x1 x2 x3 x4 x5 x6 : Value} (h : k = W.heap.size) : BoxW t (W.alloc (.cells #[.int .i64 m, x1, x2, x3, x4, x5, x6] t)) k m x1 x2 x3 x4 x5 x6 := by subst h; exact BoxW.new _ W _ _ _ _ _ _ _

theorem wdA_rd (w V : World) (h0 : V.heap[w.heap.size]? = some (.cells #[.int .u8 65] 5 (1, 2))) (h1 : V.heap[w.heap.size + 1]? = some (.cells #[.slice (some ⟨w.heap.size, 0, none⟩) 1 1] 22 (0, 0)))
    (h2 : V.heap[w.heap.size + 2]? = some (.cells #[.bool true] 4 (0, 0))) (h3 : V.heap[w.heap.size + 3]? = some (.cells #[.slice (some ⟨w.heap.size + 2, 0, none⟩) 1 1] 50 (0, 0))) : RdW 0 V.heap.size V (some ⟨w.heap.size + 1, 0, none⟩) 1 1 (some ⟨w.heap.size + 3, 0, none⟩) 1 1 none 0 0 none 0 0 none 0 0 none 0 0 wdA := by
  have l0 := (Array.getElem?_eq_some_iff.1 h0).1
  have l1 := (Array.getElem?_eq_some_iff.1 h1).1
  have l2 := (Array.getElem?_eq_some_iff.1 h2).1
  have l3 := (Array.getElem?_eq_some_iff.1 h3).1
  have c0 : V.cell? ⟨w.heap.size, 0 + 0, none⟩ = some (.int .u8 65) := by simp [World.cell?, h0]
  have c1 : V.cell? ⟨w.heap.size + 1, 0 + 0, none⟩ = some (.slice (some ⟨w.heap.size, 0, none⟩) 1 1) := by simp [World.cell?, h1]
  have c2 : V.cell? ⟨w.heap.size + 2, 0 + 0, none⟩ = some (.bool true) := by simp [World.cell?, h2]
  have c3 : V.cell? ⟨w.heap.size + 3, 0 + 0, none⟩ = some (.slice (some ⟨w.heap.size + 2, 0, none⟩) 1 1) := by simp [World.cell?, h3]
  have r0 : Rd 0 V.heap.size V (some ⟨w.heap.size, 0, none⟩) 1 1 [65] := by
    refine ⟨rfl, by omega, fun i => ?_, .inr ⟨_, _, rfl, Nat.zero_le _, l0, fun i hi => ?_⟩⟩
    · match i with
      | 0 => exact ⟨by decide, by decide⟩
      | i + 1 => exact ⟨by simp, by simp⟩
    · have : i = 0 := by omega
      subst this
      exact c0
  have r2 : RB 0 V.heap.size V (some ⟨w.heap.size + 2, 0, none⟩) 1 1 [true] := by
    refine ⟨rfl, by omega, .inr ⟨_, _, rfl, Nat.zero_le _, l2, fun i hi => ?_⟩⟩
    have : i = 0 := by omega
    subst this
    exact ⟨_, c2, rfl⟩
  refine ⟨⟨rfl, by omega, .inr ⟨_, _, rfl, Nat.zero_le _, l1, fun i hi => ?_⟩⟩, ⟨rfl, by omega, .inr ⟨_, _, rfl, Nat.zero_le _, l3, fun i hi => ?_⟩⟩, ⟨rfl, by omega, .inl rfl⟩, ⟨rfl, by omega, .inl rfl⟩, ⟨rfl, by omega, .inl rfl⟩, ⟨rfl, by omega, .inl rfl⟩⟩
  · have : i = 0 := by omega
    subst this
    exact ⟨_, c1, _, _, _, rfl, r0⟩
  · have : i = 0 := by omega
    subst this
    exact ⟨_, c3, _, _, _, rfl, r2⟩

set_option maxRecDepth 100000 in
set_option maxHeartbeats 8000000 in
theorem worlds_any (w : World) : Calls Try.prog 8 #[] w fun e w' => e = .returned (.bool true) ∧ Below w.heap.size w w' := by
  have kc0 := wcAt w w.heap.size 65 rfl
  go_enter Try.func8, Try.ntmps8
  go_upto_region 2 with fail
  refine Code.wp_name (fun W1 hW1 => ?_)
  simp only [Nat.add_assoc, Nat.reduceAdd] at hW1 ⊢
  have hs1 : W1.heap.size = w.heap.size + 5 := by rw [hW1]; simp
  have hb0 : W1.heap[w.heap.size]? = some (.cells #[.int .u8 65] 5 (1, 2)) := by
    rw [hW1]
    repeat rw [allocOld (by first | (simp; done) | (simp; omega))]
    exact allocAt (by simp)
  have hb1 : W1.heap[w.heap.size + 1]? = some (.cells #[.slice (some ⟨w.heap.size, 0, none⟩) 1 1] 22 (0, 0)) := by
    rw [hW1]
    repeat rw [allocOld (by first | (simp; done) | (simp; omega))]
    exact allocAt (by simp)
  have hb2 : W1.heap[w.heap.size + 2]? = some (.cells #[.bool true] 4 (0, 0)) := by
    rw [hW1]
    repeat rw [allocOld (by first | (simp; done) | (simp; omega))]
    exact allocAt (by simp)
  have hb3 : W1.heap[w.heap.size + 3]? = some (.cells #[.slice (some ⟨w.heap.size + 2, 0, none⟩) 1 1] 50 (0, 0)) := by
    rw [hW1]
    repeat rw [allocOld (by first | (simp; done) | (simp; omega))]
    exact allocAt (by simp)
  have hbx : BoxW 27 W1 (w.heap.size + 4) 1 (.slice (some ⟨w.heap.size + 1, 0, none⟩) 1 1) (.slice (some ⟨w.heap.size + 3, 0, none⟩) 1 1) (.slice none 0 0) (.slice none 0 0) (.slice none 0 0) (.slice none 0 0) := by
    rw [hW1]
    exact boxAt (by simp)
  have HB1 : Hid (Below w.heap.size w W1) := by
    unfold Hid
    rw [hW1]
    refine Below.alloc (Below.alloc (Below.alloc (Below.alloc (Below.alloc (Below.refl _ _) ?_ _) ?_ _) ?_ _) ?_ _) ?_ _ <;> first | (simp; done) | (simp; omega)
  have HBx : Hid (∀ V, Below W1.heap.size W1 V → V.cell? ⟨w.heap.size + 4, 0, none⟩ = some (.int .i64 1) ∧ V.cell? ⟨w.heap.size + 4, 1, none⟩ = some (.slice (some ⟨w.heap.size + 1, 0, none⟩) 1 1) ∧ V.cell? ⟨w.heap.size + 4, 2, none⟩ = some (.slice (some ⟨w.heap.size + 3, 0, none⟩) 1 1) ∧ V.cell? ⟨w.heap.size + 4, 3, none⟩ = some (.slice none 0 0) ∧ V.cell? ⟨w.heap.size + 4, 4, none⟩ = some (.slice none 0 0) ∧ V.cell? ⟨w.heap.size + 4, 5, none⟩ = some (.slice none 0 0) ∧ V.cell? ⟨w.heap.size + 4, 6, none⟩ = some (.slice none 0 0)) := fun V hV => (hbx.below hV (by omega)).cells
  have HRd : Hid (∀ V, Below W1.heap.size W1 V → RdW 0 W1.heap.size V (some ⟨w.heap.size + 1, 0, none⟩) 1 1 (some ⟨w.heap.size + 3, 0, none⟩) 1 1 none 0 0 none 0 0 none 0 0 none 0 0 wdA ∧ W1.heap.size ≤ V.heap.size) := fun V hV => ⟨(wdA_rd w W1 hb0 hb1 hb2 hb3).below hV (Nat.le_refl _), hV.size⟩
  have HTo : Hid (∀ V, Below W1.heap.size W1 V → Below w.heap.size w V) := fun V hV => HB1.out.trans (hV.mono HB1.out.size)
  have Hd : Hid (Below W1.heap.size W1 W1.drew) := (Below.refl _ _).drew
  have hwn : wdA.n = 1 := rfl
  have hs6 : ({ data := #[78, 111, 116, 40, 65, 41] } : ByteArray).size ≤ 255 := by decide
  have hs1' : ({ data := #[65] } : ByteArray).size ≤ 255 := by decide
  have hbkA : (CN.mk 2 [65] [] []).bulk ≤ 1048576 := by simp [CN.bulk, bulks]
  have hbkN : (CN.mk 3 [] [] [CN.mk 2 [65] [] []]).bulk ≤ 1048576 := by simp [CN.bulk, bulks]
  have HKA : Hid ((CN.mk 2 [65] [] []).bulk ≤ 1048576) := hbkA
  have HKN : Hid ((CN.mk 3 [] [] [CN.mk 2 [65] [] []]).bulk ≤ 1048576) := hbkN
  obtain ⟨z0, z1, z2, z3, z4, z5, z6⟩ := HBx.out _ Hd.out
  clear hbx hb0 hb1 hb2 hb3 hs1 hW1 kc0 hbkA hbkN
  first
  | go_region_with (first
    | (go_at_call 22; (with_reducible refine (implInSet_any (nx := 1) (z := 0) (HRd.out _ (H6.out.alloc H6.out.size _)).1 HRA.out hwn (HRd.out _ (H6.out.alloc H6.out.size _)).2 hsA).mono ?_); rintro e w8 ⟨he, hb8⟩; rw [inSetA] at he; subst he; have H8 : Hid (Below W1.heap.size W1 w8) := (H6.out.alloc H6.out.size _).trans (hb8.mono (H6.out.alloc H6.out.size _).size); clear hb8)
    | (go_at_call 9; (with_reducible refine (implHolds_any (nx := 1) (z := 0) (HRd.out _ H5.out).1 HR5.out hwn (HRd.out _ H5.out).2 (Nat.le_refl _) HKN.out).mono ?_); rintro e w6 ⟨he, hb6⟩; rw [holdNA] at he; subst he; have H6 : Hid (Below W1.heap.size W1 w6) := H5.out.trans (hb6.mono H5.out.size); have kc6 := wcAt w6 w6.heap.size 65 rfl; have HRA : Hid (Rd w6.heap.size (w6.heap.size + 1) (w6.alloc (.cells #[.int .u8 65] 5 (1, 2))) (some ⟨w6.heap.size, 0, none⟩) 1 1 [65]) := litA w6; have hsA := litA_size w6; clear hb6 z0 z1 z2 z3 z4 z5 z6; obtain ⟨z0, z1, z2, z3, z4, z5, z6⟩ := HBx.out _ H6.out; have hs46 : w.heap.size + 4 < w6.heap.size := World.block_lt_of_cell? w6 _ z0)
    | (go_at_call 9; (with_reducible refine (implHolds_any (nx := 1) (z := 0) (HRd.out _ H3.out).1 HR3.out hwn (HRd.out _ H3.out).2 (Nat.le_refl _) HKA.out).mono ?_); rintro e w4 ⟨he, hb4⟩; rw [holdA] at he; subst he; have H4 : Hid (Below W1.heap.size W1 w4) := H3.out.trans (hb4.mono H3.out.size); clear hb4 z0 z1 z2 z3 z4 z5 z6; obtain ⟨z0, z1, z2, z3, z4, z5, z6⟩ := HBx.out _ H4.out)
    | (go_at_call 21; (with_reducible refine (con_any { data := #[78, 111, 116, 40, 65, 41] } hs6 w4).mono ?_); rintro e w5 ⟨v5, rfl, hr5, hb5⟩; rw [readConNA] at hr5; have HR5 : Hid (RdC w4.heap.size w5.heap.size w5 6 v5 (CN.mk 3 [] [] [CN.mk 2 [65] [] []])) := hr5; have H5 : Hid (Below W1.heap.size W1 w5) := H4.out.trans (hb5.mono H4.out.size); clear hr5 hb5 z0 z1 z2 z3 z4 z5 z6; obtain ⟨z0, z1, z2, z3, z4, z5, z6⟩ := HBx.out _ H5.out)
    | (go_at_call 21; (with_reducible refine (con_any { data := #[65] } hs1' w2).mono ?_); rintro e w3 ⟨v3, rfl, hr3, hb3⟩; rw [readConA] at hr3; have HR3 : Hid (RdC w2.heap.size w3.heap.size w3 6 v3 (CN.mk 2 [65] [] [])) := hr3; have H3 : Hid (Below W1.heap.size W1 w3) := H2.out.trans (hb3.mono H2.out.size); clear hr3 hb3 z0 z1 z2 z3 z4 z5 z6; obtain ⟨z0, z1, z2, z3, z4, z5, z6⟩ := HBx.out _ H3.out)
    | (go_at_call 20; (with_reducible refine (implWorldOk_any (nx := 1) (HRd.out _ Hd.out).1 hwn (HRd.out _ Hd.out).2).mono ?_); rintro e w2 ⟨he, hb2⟩; rw [wdA_ok] at he; subst he; have H2 : Hid (Below W1.heap.size W1 w2) := Hd.out.trans (hb2.mono Hd.out.size); clear hb2 z0 z1 z2 z3 z4 z5 z6; obtain ⟨z0, z1, z2, z3, z4, z5, z6⟩ := HBx.out _ H2.out))
  | fail
  all_goals
    go_wp2
    go_ret
    exact ⟨rfl, HTo.out _ H8.out⟩
end

end Go.Proofs.Ytnmljalcndfjmaa
