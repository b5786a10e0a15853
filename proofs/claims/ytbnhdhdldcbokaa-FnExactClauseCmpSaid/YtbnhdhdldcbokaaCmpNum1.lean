/- The numbers of a clause in one list, as the document lays them: a contract. -/
import Derived.Test.YtbnhdhdldcbokaaClStr1
import Derived.Deep.RegionLaw
import Derived.Deep.AppendLies
namespace Go.Proofs.Ytbnhdhdldcbokaa
open Go.RowKit

def indN (xs : List (Int × Int)) : List Int := xs.flatMap (fun p => [p.1, p.2])
def numsL (k f r u xp xn yp yn : Int) (xs : List (Int × Int)) (a b : Int) : List Int := [k, f, r, u, xp, xn, yp, yn, a, b] ++ indN xs

theorem indN_take (xs : List (Int × Int)) {j : Nat} (h : j < xs.length) : indN (xs.take (j + 1)) = indN (xs.take j) ++ [(xs.getD j (0, 0)).1, (xs.getD j (0, 0)).2] := by
  have e : xs.take (j + 1) = xs.take j ++ [xs.getD j (0, 0)] := by
    rw [List.take_add_one, List.getElem?_eq_getElem h]
    simp [List.getD, h]
  rw [e]
  simp [indN]
theorem indN_len (xs : List (Int × Int)) : (indN xs).length = 2 * xs.length := by
  induction xs with
  | nil => rfl
  | cons p xs ih => simp [indN] at ih ⊢; omega

theorem Try.infoInt : (Try.prog.info? 3).map (fun i => (i.zero, i.size, i.bytes)) = some (some (.int .i64 0), 1, 8) := by kernel_rfl

/-- A row of numbers of its own reads as them. -/
theorem owns_rd {w : World} {base : Nat} {v : Value} {n : Nat} {l : List Int} (h : w.ownsRow base 3 1 v n (l.map (Value.int .i64))) (hn : 0 < n) : ∃ g cap, v = .slice (some ⟨g, 0, none⟩) n cap ∧ base ≤ g ∧ g < w.heap.size ∧ n ≤ cap ∧ l.length = n ∧ ∀ i, i < n → w.cell? ⟨g, i, none⟩ = some (.int .i64 (l.getD i 0)) := by
  obtain ⟨hl, h⟩ := h
  rcases h with ⟨_, h0⟩ | ⟨g, cap, cur, rfl, hb, hg, hc, _, hsz, hcs⟩
  · omega
  · have hll : l.length = n := by simpa using hl
    refine ⟨g, cap, rfl, hb, (Array.getElem?_eq_some_iff.1 hg).1, hc, hll, fun i hi => ?_⟩
    have e : (cur.toList.take (n * 1))[i]? = some (.int .i64 (l.getD i 0)) := by
      rw [hcs, List.getElem?_map, List.getElem?_eq_getElem (by omega)]
      simp [List.getD, show i < l.length by omega]
    rw [List.getElem?_take, if_pos (by omega), Array.getElem?_toList] at e
    simp only [World.cell?, hg]
    exact e

theorem owns_keep {w w' : World} {base g cap n : Nat} {xs : List Value} (h : w.ownsRow base 3 1 (.slice (some ⟨g, 0, none⟩) n cap) n xs) (hk : w'.heap[g]? = w.heap[g]?) : w'.ownsRow base 3 1 (.slice (some ⟨g, 0, none⟩) n cap) n xs := by
  obtain ⟨hl, h⟩ := h
  refine ⟨hl, ?_⟩
  rcases h with ⟨h0, h1⟩ | ⟨g', cap', cur, e, r⟩
  · exact .inl ⟨h0, h1⟩
  · simp only [Value.slice.injEq, Option.some.injEq, Addr.mk.injEq, and_true, true_and] at e
    obtain ⟨rfl, rfl⟩ := e
    exact .inr ⟨g, cap, cur, rfl, r.1, hk.trans r.2.1, r.2.2⟩

set_option maxRecDepth 100000 in
set_option maxHeartbeats 4000000 in
theorem l5nums_any {k f r u xp xn yp yn : Int} {ia : Option Addr} {im ic : Nat} {a b : Int} {xs : List (Int × Int)} {w : World} {lo hi : Nat} (h : RP lo hi w ia im ic xs) (hhi : hi ≤ w.heap.size) (him : im ≤ 4) :
    Calls Try.prog 42 #[.agg #[.int .i64 k, .int .i64 f, .int .i64 r, .int .i64 u, .int .i64 xp, .int .i64 xn, .int .i64 yp, .int .i64 yn, .slice ia im ic, .int .i64 a, .int .i64 b]] w fun e w' => ∃ g cap, e = .returned (.slice (some ⟨g, 0, none⟩) (10 + 2 * im) cap) ∧ 10 + 2 * im ≤ cap ∧ w.heap.size ≤ g ∧ g < w'.heap.size ∧ (∀ i, i < 10 + 2 * im → w'.cell? ⟨g, i, none⟩ = some (.int .i64 ((numsL k f r u xp xn yp yn xs a b).getD i 0))) ∧ Below w.heap.size w w' := by
  obtain ⟨W, hW⟩ : ∃ W, W = w.alloc (.cells #[.int .i64 k, .int .i64 f, .int .i64 r, .int .i64 u, .int .i64 xp, .int .i64 xn, .int .i64 yp, .int .i64 yn, .slice ia im ic, .int .i64 a, .int .i64 b] 37) := ⟨_, rfl⟩
  have HW : Hid (W = w.alloc (.cells #[.int .i64 k, .int .i64 f, .int .i64 r, .int .i64 u, .int .i64 xp, .int .i64 xn, .int .i64 yp, .int .i64 yn, .slice ia im ic, .int .i64 a, .int .i64 b] 37)) := hW
  have hb0 : Below w.heap.size w W := by rw [hW]; exact (Below.refl _ _).alloc (Nat.le_refl _) _
  have HB0 : Hid (Below w.heap.size w W) := hb0
  have hbx : BoxK 37 W w.heap.size k f r u xp xn yp yn (.slice ia im ic) a b := by rw [hW]; exact BoxK.new _ w _ _ _ _ _ _ _ _ _ _ _
  have HX : Hid (∀ V, Below W.heap.size W V → BoxK 37 V w.heap.size k f r u xp xn yp yn (.slice ia im ic) a b) := fun V hV => hbx.below hV hbx.lt
  have HRP : Hid (∀ V, Below W.heap.size W V → RP lo hi V ia im ic xs) := fun V hV => (h.below hb0 hhi).below hV (Nat.le_trans hhi hb0.size)
  have HHi : Hid (hi ≤ W.heap.size) := Nat.le_trans hhi hb0.size
  have HL : Hid (xs.length = im) := h.len
  obtain ⟨i0, hi0, hz0, hz1, hz2⟩ := info_parts Try.infoInt
  obtain ⟨ten, hten⟩ : ∃ ten, ten = [k, f, r, u, xp, xn, yp, yn, a, b] := ⟨_, rfl⟩
  have HTen : Hid (ten = [k, f, r, u, xp, xn, yp, yn, a, b]) := hten
  have hrow0 : (W.alloc (.cells #[.int .i64 k, .int .i64 f, .int .i64 r, .int .i64 u, .int .i64 xp, .int .i64 xn, .int .i64 yp, .int .i64 yn, .int .i64 a, .int .i64 b] 3)).ownsRow W.heap.size 3 1 (.slice (some ⟨W.heap.size, 0, none⟩) 10 10) 10 (ten.map (Value.int .i64)) := by
    rw [hten]
    refine ⟨rfl, .inr ⟨W.heap.size, 10, _, rfl, Nat.le_refl _, World.alloc_heap_new W _, Nat.le_refl _, by unfold maxLen; omega, rfl, rfl⟩⟩
  have HRow0 : Hid ((W.alloc (.cells #[.int .i64 k, .int .i64 f, .int .i64 r, .int .i64 u, .int .i64 xp, .int .i64 xn, .int .i64 yp, .int .i64 yn, .int .i64 a, .int .i64 b] 3)).ownsRow W.heap.size 3 1 (.slice (some ⟨W.heap.size, 0, none⟩) 10 10) 10 (ten.map (Value.int .i64))) := hrow0
  have HBA : Hid (Below W.heap.size W (W.alloc (.cells #[.int .i64 k, .int .i64 f, .int .i64 r, .int .i64 u, .int .i64 xp, .int .i64 xn, .int .i64 yp, .int .i64 yn, .int .i64 a, .int .i64 b] 3))) := (Below.refl _ _).alloc (Nat.le_refl _) _
  obtain ⟨z0, z1, z2, z3, z4, z5, z6, z7, z8, z9, z10⟩ := hbx.cells
  clear hW hb0 hbx h hhi hten hrow0
  go_enter Try.func42, Try.ntmps42
  go_upto_region 1 with fail
  rw [← HW.out]
  go_wp2_with fail
  go_loopw [3, 4] (fun o i wr => ∃ j : Nat, j ≤ im ∧ i = .int .i64 j ∧ wr.ownsRow W.heap.size 3 1 o (10 + 2 * j) ((ten ++ indN (xs.take j)).map (Value.int .i64)) ∧ Below W.heap.size W wr) (fun _ i _ => im - (intOf i).toNat)
  case atStart => exact ⟨0, Nat.zero_le _, rfl, by simpa [indN] using HRow0.out, HBA.out⟩
  case round =>
    obtain ⟨j, hj, rfl, hrow, hbel⟩ := hrel
    have HB : Hid (Below W.heap.size W wr) := hbel
    clear z0 z1 z2 z3 z4 z5 z6 z7 z8 z9 z10
    obtain ⟨z0, z1, z2, z3, z4, z5, z6, z7, z8, z9, z10⟩ := (HX.out _ hbel).cells
    have hrp := HRP.out _ hbel
    have hfit := hrp.fits
    obtain ⟨g, cap, rfl, hg1, hg2, hcap, hlen, hcells⟩ := owns_rd hrow (by omega)
    have HRow : Hid (wr.ownsRow W.heap.size 3 1 (.slice (some ⟨g, 0, none⟩) (10 + 2 * j) cap) (10 + 2 * j) ((ten ++ indN (xs.take j)).map (Value.int .i64))) := hrow
    by_cases hlt : j < im
    · rcases hrp.cells with h0 | ⟨bb, off, e1, _, hbh, hc⟩
      · omega
      · subst e1
        obtain ⟨c1, c2⟩ := hc j hlt
        obtain ⟨t, ht⟩ : ∃ t, t = xs.getD j (0, 0) := ⟨_, rfl⟩
        have HT : Hid (t = xs.getD j (0, 0)) := ht
        rw [← ht] at c1 c2
        obtain ⟨tp, tn⟩ := t
        have hki : (j : Int) < (im : Int) := by omega
        have hblt : bb < wr.heap.size := Nat.lt_of_lt_of_le hbh (Nat.le_trans HHi.out hbel.size)
        have hbw : w.heap.size < wr.heap.size := (HX.out _ hbel).lt
        obtain ⟨Wa, hWa⟩ : ∃ Wa, Wa = (wr.alloc (.cells #[.int .i64 tp, .int .i64 tn] 3)).drew := ⟨_, rfl⟩
        have HWa : Hid (Wa = (wr.alloc (.cells #[.int .i64 tp, .int .i64 tn] 3)).drew) := hWa
        have hba : Below wr.heap.size wr Wa := by rw [hWa]; exact ((Below.refl _ _).alloc (Nat.le_refl _) _).drew
        have HBa : Hid (Below W.heap.size W Wa) := hbel.trans (hba.mono hbel.size)
        have HRowA : Hid (Wa.ownsRow W.heap.size 3 1 (.slice (some ⟨g, 0, none⟩) (10 + 2 * j) cap) (10 + 2 * j) ((ten ++ indN (xs.take j)).map (Value.int .i64))) := owns_keep hrow (hba.block g hg2)
        have hga : Wa.heap[wr.heap.size]? = some (.cells #[.int .i64 tp, .int .i64 tn] 3 (0, 0)) := by rw [hWa]; exact World.alloc_heap_new wr _
        have HNews : Hid (∀ i u, [Value.int .i64 tp, Value.int .i64 tn][i]? = some u → Wa.cell? ((⟨wr.heap.size, 0, none⟩ : Addr).add i) = some u) := by
          intro i u hu
          match i with
          | 0 => simp at hu; subst hu; simp [Addr.add, World.cell?, hga]
          | 1 => simp at hu; subst hu; simp [Addr.add_lit, World.cell?, hga]
          | i + 2 => simp at hu
        have HOne : Hid (∀ u ∈ [Value.int .i64 tp, Value.int .i64 tn], u.oneCell' = true) := by simp [Hid, Value.oneCell']
        have HSa : Hid (W.heap.size ≤ Wa.heap.size) := HBa.out.size
        have HE : Hid ((ten ++ indN (xs.take j)).map (Value.int .i64) ++ [Value.int .i64 tp, Value.int .i64 tn] = (ten ++ indN (xs.take (j + 1))).map (Value.int .i64)) := by
          have hl := HL.out
          unfold Hid
          rw [indN_take xs (by omega), ← HT.out]
          simp
        clear hrp hc ht hbel hrow hcells hlen hWa hba hga
        go_wp2_with fail
        first | go_region_law (first
          | (try rw [← HWa.out]; refine step_append_lies _ rfl (.tmp 37) (.tmp 50) 50 rfl W.heap.size 3 i0 (.int .i64 0) 1 8 Try.underlying50 hi0 hz0 hz1 hz2 rfl (by decide) (.slice (some ⟨g, 0, none⟩) (10 + 2 * j) cap) (10 + 2 * j) ((ten ++ indN (xs.take j)).map (Value.int .i64)) (by simp [Act.eval]) HRowA.out ⟨wr.heap.size, 0, none⟩ 2 2 [Value.int .i64 tp, Value.int .i64 tn] (by simp [Act.eval]) rfl HNews.out HOne.out (by decide) (by unfold maxLen; omega) (by omega) HSa.out _ rfl ?_; intro g' cap' w6 hown hgrow hat hlt6; have HOwn : Hid (w6.ownsRow W.heap.size 3 1 (.slice (some ⟨g', 0, none⟩) (10 + 2 * j + 2) cap') (10 + 2 * (j + 1)) ((ten ++ indN (xs.take (j + 1))).map (Value.int .i64))) := (by have e : 10 + 2 * (j + 1) = 10 + 2 * j + 2 := (by omega); rw [e, ← HE.out]; exact hown); have HB6 : Hid (Below W.heap.size W w6) := HBa.out.trans ⟨hgrow.os, hgrow.tape, hgrow.output, hgrow.size, fun k hk => hgrow.block k (Nat.lt_of_lt_of_le hk HSa.out) (fun e => by simp [Value.ownBlock] at e; omega)⟩; clear hown hgrow hat hlt6)) | fail
        all_goals
          (try go_simp)
          go_wp2_with fail
          go_roundw
          case rel => exact ⟨j + 1, by omega, by go_num, HOwn.out, HB6.out⟩
          case measure => simp [intOf]; omega
    · have hjm : j = im := by omega
      have HFin : Hid (∀ i, i < 10 + 2 * im → wr.cell? ⟨g, i, none⟩ = some (.int .i64 ((numsL k f r u xp xn yp yn xs a b).getD i 0))) := by
        intro i hi
        have e : ten ++ indN (xs.take j) = numsL k f r u xp xn yp yn xs a b := by
          rw [HTen.out, List.take_of_length_le (by have := HL.out; omega)]
          rfl
        rw [← e]
        exact hcells i (by omega)
      have hd : decide ((j : Int) < (im : Int)) = false := by simp; omega
      have HBf : Hid (Below w.heap.size w wr) := HB0.out.trans (HB.out.mono HB0.out.size)
      have HG : Hid (w.heap.size ≤ g) := Nat.le_trans HB0.out.size hg1
      have HCp : Hid (10 + 2 * im ≤ cap) := by unfold Hid; omega
      have HV : Hid (Value.slice (some ⟨g, 0, none⟩) (10 + 2 * j) cap = .slice (some ⟨g, 0, none⟩) (10 + 2 * im) cap) := by unfold Hid; rw [hjm]
      clear hrp hbel hrow hcells hlen hjm
      go_wp2_with fail
      go_ret
      exact ⟨g, cap, congrArg Ending.returned HV.out, HCp.out, HG.out, hg2, HFin.out, HBf.out⟩

end Go.Proofs.Ytbnhdhdldcbokaa
