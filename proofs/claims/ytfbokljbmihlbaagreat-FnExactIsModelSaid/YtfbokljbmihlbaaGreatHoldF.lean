/- What a claim asks of one element: the program's functions within holders. -/
import Derived.Test.YtfbokljbmihlbaaGreatHoldE
import Derived.Test.YtfbokljbmihlbaaGreatWdRel1
namespace Go.Proofs.YtfbokljbmihlbaaGreat
open Go.RowKit Go.Deep
set_option linter.unusedVariables false

theorem topQ_any (e : Nat) (V : World) : Calls Tryz.prog 97 #[.int .i64 e] V fun r w' => r = .returned (.bool true) ∧ w' = V := by
  go_enter Tryz.func97, Tryz.ntmps97
  go_wp2_with fail
  go_ret
  exact ⟨rfl, rfl⟩

theorem botQ_any (e : Nat) (V : World) : Calls Tryz.prog 104 #[.int .i64 e] V fun r w' => r = .returned (.bool false) ∧ w' = V := by
  go_enter Tryz.func104, Tryz.ntmps104
  go_wp2_with fail
  go_ret
  exact ⟨rfl, rfl⟩

set_option maxRecDepth 100000 in
set_option maxHeartbeats 2000000 in
theorem notQ_any {po ob oc b o c L e : Nat} {f : Nat → Bool} {V : World} (h1 : V.cell? ⟨po, 0, none⟩ = some (.slice (some ⟨ob, 0, none⟩) 1 oc)) (h2 : V.cell? ⟨ob, 0, none⟩ = some (.slice (some ⟨b, o, none⟩) L c)) (hf : FlS V b o L f) (he : e < L) :
    Calls Tryz.prog 99 #[.int .i64 e, .pointer (some ⟨po, 0, none⟩)] V fun r w' => r = .returned (.bool (!(f e))) ∧ w' = V := by
  have h3 := hf.2 e he
  have hei : (e : Int) < (L : Int) := by omega
  obtain ⟨x, hx⟩ : ∃ x, x = f e := ⟨_, rfl⟩
  rw [← hx] at h3 ⊢
  clear hf hx
  go_enter Tryz.func99, Tryz.ntmps99
  go_wp2_with fail
  go_ret
  exact ⟨rfl, rfl⟩

set_option maxRecDepth 100000 in
set_option maxHeartbeats 2000000 in
theorem andQ_any {po ob oc b o c b' o' c' L e : Nat} {f g : Nat → Bool} {V : World} (h1 : V.cell? ⟨po, 0, none⟩ = some (.slice (some ⟨ob, 0, none⟩) 2 oc)) (h2 : V.cell? ⟨ob, 0, none⟩ = some (.slice (some ⟨b, o, none⟩) L c)) (h2' : V.cell? ⟨ob, 1, none⟩ = some (.slice (some ⟨b', o', none⟩) L c')) (hf : FlS V b o L f) (hg : FlS V b' o' L g) (he : e < L) :
    Calls Tryz.prog 100 #[.int .i64 e, .pointer (some ⟨po, 0, none⟩)] V fun r w' => r = .returned (.bool (f e && g e)) ∧ w' = V := by
  have h3 := hf.2 e he
  have h4 := hg.2 e he
  have hei : (e : Int) < (L : Int) := by omega
  obtain ⟨x, hx⟩ : ∃ x, x = f e := ⟨_, rfl⟩
  obtain ⟨y, hy⟩ : ∃ y, y = g e := ⟨_, rfl⟩
  rw [← hx] at h3 ⊢
  rw [← hy] at h4 ⊢
  clear hf hg hx hy
  cases x
  · go_enter Tryz.func100, Tryz.ntmps100
    go_wp2_with fail
    go_ret
    exact ⟨rfl, rfl⟩
  · go_enter Tryz.func100, Tryz.ntmps100
    go_wp2_with fail
    go_ret
    exact ⟨rfl, rfl⟩

set_option maxRecDepth 100000 in
set_option maxHeartbeats 2000000 in
theorem orQ_any {po ob oc b o c b' o' c' L e : Nat} {f g : Nat → Bool} {V : World} (h1 : V.cell? ⟨po, 0, none⟩ = some (.slice (some ⟨ob, 0, none⟩) 2 oc)) (h2 : V.cell? ⟨ob, 0, none⟩ = some (.slice (some ⟨b, o, none⟩) L c)) (h2' : V.cell? ⟨ob, 1, none⟩ = some (.slice (some ⟨b', o', none⟩) L c')) (hf : FlS V b o L f) (hg : FlS V b' o' L g) (he : e < L) :
    Calls Tryz.prog 101 #[.int .i64 e, .pointer (some ⟨po, 0, none⟩)] V fun r w' => r = .returned (.bool (f e || g e)) ∧ w' = V := by
  have h3 := hf.2 e he
  have h4 := hg.2 e he
  have hei : (e : Int) < (L : Int) := by omega
  obtain ⟨x, hx⟩ : ∃ x, x = f e := ⟨_, rfl⟩
  obtain ⟨y, hy⟩ : ∃ y, y = g e := ⟨_, rfl⟩
  rw [← hx] at h3 ⊢
  rw [← hy] at h4 ⊢
  clear hf hg hx hy
  cases x
  · go_enter Tryz.func101, Tryz.ntmps101
    go_wp2_with fail
    go_ret
    exact ⟨rfl, rfl⟩
  · go_enter Tryz.func101, Tryz.ntmps101
    go_wp2_with fail
    go_ret
    exact ⟨rfl, rfl⟩

set_option maxRecDepth 100000 in
set_option maxHeartbeats 4000000 in
theorem someQ_any {na : Option Addr} {nn nc : Nat} {sa : Option Addr} {sn sc : Nat} {ra : Option Addr} {rn rc : Nat} {la : Option Addr} {ln lc : Nat} {ia : Option Addr} {im ic : Nat} {ta : Option Addr} {tn tc : Nat} {ps pr po ob oc b o c rb ro rcc L e : Nat} {fr f : Nat → Bool} {w : World} (hL : L ≤ 128) (hs : BoxS w ps (.int .i64 L) (.slice ia im ic) (.slice ta tn tc) (.int .i64 L) (.slice na nn nc) (.slice sa sn sc) (.slice ra rn rc) (.slice la ln lc) (.slice ia im ic) (.slice ta tn tc)) (h0 : w.cell? ⟨pr, 0, none⟩ = some (.slice (some ⟨rb, ro, none⟩) (L * L) rcc)) (hrc : L * L ≤ rcc ∧ rcc ≤ 9223372036854775807) (hr : FlS w rb ro (L * L) fr)
    (h1 : w.cell? ⟨po, 0, none⟩ = some (.slice (some ⟨ob, 0, none⟩) 1 oc)) (h2 : w.cell? ⟨ob, 0, none⟩ = some (.slice (some ⟨b, o, none⟩) L c)) (hlt : pr < w.heap.size ∧ po < w.heap.size ∧ ob < w.heap.size) (hf : FlS w b o L f) (hc : L ≤ c ∧ c ≤ 9223372036854775807) (he : e < L) :
    Calls Tryz.prog 102 #[.int .i64 e, .pointer (some ⟨ps, 0, none⟩), .pointer (some ⟨pr, 0, none⟩), .pointer (some ⟨po, 0, none⟩)] w fun r w' => r = .returned (.bool ((List.range L).any (fun y => fr (e * L + y) && f y))) ∧ Below w.heap.size w w' := by
  have HSat : Hid (∀ V, Below w.heap.size w V → (V.cell? ⟨ps, 0, none⟩ = some (.int .i64 L) ∧ V.cell? ⟨ps, 1, none⟩ = some (.slice ia im ic) ∧ V.cell? ⟨ps, 2, none⟩ = some (.slice ta tn tc) ∧ V.cell? ⟨ps, 3, none⟩ = some (.int .i64 L) ∧ V.cell? ⟨ps, 4, none⟩ = some (.slice na nn nc) ∧ V.cell? ⟨ps, 5, none⟩ = some (.slice sa sn sc) ∧ V.cell? ⟨ps, 6, none⟩ = some (.slice ra rn rc) ∧ V.cell? ⟨ps, 7, none⟩ = some (.slice la ln lc) ∧ V.cell? ⟨ps, 8, none⟩ = some (.slice ia im ic) ∧ V.cell? ⟨ps, 9, none⟩ = some (.slice ta tn tc)) ∧ V.cell? ⟨pr, 0, none⟩ = some (.slice (some ⟨rb, ro, none⟩) (L * L) rcc) ∧ V.cell? ⟨po, 0, none⟩ = some (.slice (some ⟨ob, 0, none⟩) 1 oc) ∧ V.cell? ⟨ob, 0, none⟩ = some (.slice (some ⟨b, o, none⟩) L c)) := fun V hV => ⟨(hs.below hV hs.lt).cells, (hV.cell (p := ⟨pr, 0, none⟩) hlt.1).trans h0, (hV.cell (p := ⟨po, 0, none⟩) hlt.2.1).trans h1, (hV.cell (p := ⟨ob, 0, none⟩) hlt.2.2).trans h2⟩
  have Hd : Hid (Below w.heap.size w w.drew) := (Below.refl _ _).drew
  have HRow : Hid (∀ V, Below w.heap.size w V → FlS V rb (ro + e * L) L (fun y => fr (e * L + y))) := fun V hV => ⟨(hr.below hV).1, fun q hq => by
    have h := (hr.below hV).2 (e * L + q) (cell_lt he hq)
    rw [Nat.add_assoc]
    exact h⟩
  have HF : Hid (∀ V, Below w.heap.size w V → FlS V b o L f) := fun V hV => hf.below hV
  have hle : L ≤ rcc - e * L ∧ rcc - e * L ≤ 9223372036854775807 := by
    have h1 : e * L + L ≤ L * L := by
      have h2 : (e + 1) * L ≤ L * L := Nat.mul_le_mul_right _ he
      rw [Nat.add_mul, Nat.one_mul] at h2
      exact h2
    omega
  obtain ⟨R, hR⟩ : ∃ R, R = ((List.range L).any (fun y => fr (e * L + y) && f y)) := ⟨_, rfl⟩
  have HR : Hid (R = ((List.range L).any (fun y => fr (e * L + y) && f y))) := hR
  rw [← hR]
  obtain ⟨⟨a0, a1, a2, a3, a4, a5, a6, a7, a8, a9⟩, q0, q1, q2⟩ := HSat.out w (Below.refl _ _)
  clear hs h0 hr h1 h2 hf hR
  go_enter Tryz.func102, Tryz.ntmps102
  go_upto_region 1 with fail
  first | go_region_held3 (fun V => (V.cell? ⟨ps, 0, none⟩ = some (.int .i64 L) ∧ V.cell? ⟨ps, 1, none⟩ = some (.slice ia im ic) ∧ V.cell? ⟨ps, 2, none⟩ = some (.slice ta tn tc) ∧ V.cell? ⟨ps, 3, none⟩ = some (.int .i64 L) ∧ V.cell? ⟨ps, 4, none⟩ = some (.slice na nn nc) ∧ V.cell? ⟨ps, 5, none⟩ = some (.slice sa sn sc) ∧ V.cell? ⟨ps, 6, none⟩ = some (.slice ra rn rc) ∧ V.cell? ⟨ps, 7, none⟩ = some (.slice la ln lc) ∧ V.cell? ⟨ps, 8, none⟩ = some (.slice ia im ic) ∧ V.cell? ⟨ps, 9, none⟩ = some (.slice ta tn tc)) ∧ V.cell? ⟨pr, 0, none⟩ = some (.slice (some ⟨rb, ro, none⟩) (L * L) rcc) ∧ V.cell? ⟨po, 0, none⟩ = some (.slice (some ⟨ob, 0, none⟩) 1 oc) ∧ V.cell? ⟨ob, 0, none⟩ = some (.slice (some ⟨b, o, none⟩) L c)) (first | with_reducible exact HSat.out _ H2.out | with_reducible exact HSat.out _ H1.out | with_reducible exact HSat.out _ Hd.out) (first | (go_at_call 75; refine (row_any hL he hrc).mono ?_; rintro r w1 ⟨rfl, hb1⟩; have H1 : Hid (Below w.heap.size w w1) := Hd.out.trans hb1; clear hb1) | (go_at_call 71; refine (meets_any (by omega) (HRow.out w1 H1.out) (HF.out w1 H1.out) hle hc).mono ?_; rintro r w2 ⟨rfl, hw2⟩; rw [← HR.out, hw2]; have H2 : Hid (Below w.heap.size w w1) := H1.out; clear hw2)) | fail
  all_goals
    go_wp2_with fail
    go_ret
    exact ⟨rfl, H1.out⟩

set_option maxRecDepth 100000 in
set_option maxHeartbeats 4000000 in
theorem allQ_any {na : Option Addr} {nn nc : Nat} {sa : Option Addr} {sn sc : Nat} {ra : Option Addr} {rn rc : Nat} {la : Option Addr} {ln lc : Nat} {ia : Option Addr} {im ic : Nat} {ta : Option Addr} {tn tc : Nat} {ps pr po ob oc b o c rb ro rcc L e : Nat} {fr f : Nat → Bool} {w : World} (hL : L ≤ 128) (hs : BoxS w ps (.int .i64 L) (.slice ia im ic) (.slice ta tn tc) (.int .i64 L) (.slice na nn nc) (.slice sa sn sc) (.slice ra rn rc) (.slice la ln lc) (.slice ia im ic) (.slice ta tn tc)) (h0 : w.cell? ⟨pr, 0, none⟩ = some (.slice (some ⟨rb, ro, none⟩) (L * L) rcc)) (hrc : L * L ≤ rcc ∧ rcc ≤ 9223372036854775807) (hr : FlS w rb ro (L * L) fr)
    (h1 : w.cell? ⟨po, 0, none⟩ = some (.slice (some ⟨ob, 0, none⟩) 1 oc)) (h2 : w.cell? ⟨ob, 0, none⟩ = some (.slice (some ⟨b, o, none⟩) L c)) (hlt : pr < w.heap.size ∧ po < w.heap.size ∧ ob < w.heap.size) (hf : FlS w b o L f) (hc : L ≤ c ∧ c ≤ 9223372036854775807) (he : e < L) :
    Calls Tryz.prog 103 #[.int .i64 e, .pointer (some ⟨ps, 0, none⟩), .pointer (some ⟨pr, 0, none⟩), .pointer (some ⟨po, 0, none⟩)] w fun r w' => r = .returned (.bool ((List.range L).all (fun y => !(fr (e * L + y)) || f y))) ∧ Below w.heap.size w w' := by
  have HSat : Hid (∀ V, Below w.heap.size w V → (V.cell? ⟨ps, 0, none⟩ = some (.int .i64 L) ∧ V.cell? ⟨ps, 1, none⟩ = some (.slice ia im ic) ∧ V.cell? ⟨ps, 2, none⟩ = some (.slice ta tn tc) ∧ V.cell? ⟨ps, 3, none⟩ = some (.int .i64 L) ∧ V.cell? ⟨ps, 4, none⟩ = some (.slice na nn nc) ∧ V.cell? ⟨ps, 5, none⟩ = some (.slice sa sn sc) ∧ V.cell? ⟨ps, 6, none⟩ = some (.slice ra rn rc) ∧ V.cell? ⟨ps, 7, none⟩ = some (.slice la ln lc) ∧ V.cell? ⟨ps, 8, none⟩ = some (.slice ia im ic) ∧ V.cell? ⟨ps, 9, none⟩ = some (.slice ta tn tc)) ∧ V.cell? ⟨pr, 0, none⟩ = some (.slice (some ⟨rb, ro, none⟩) (L * L) rcc) ∧ V.cell? ⟨po, 0, none⟩ = some (.slice (some ⟨ob, 0, none⟩) 1 oc) ∧ V.cell? ⟨ob, 0, none⟩ = some (.slice (some ⟨b, o, none⟩) L c)) := fun V hV => ⟨(hs.below hV hs.lt).cells, (hV.cell (p := ⟨pr, 0, none⟩) hlt.1).trans h0, (hV.cell (p := ⟨po, 0, none⟩) hlt.2.1).trans h1, (hV.cell (p := ⟨ob, 0, none⟩) hlt.2.2).trans h2⟩
  have Hd : Hid (Below w.heap.size w w.drew) := (Below.refl _ _).drew
  have HRow : Hid (∀ V, Below w.heap.size w V → FlS V rb (ro + e * L) L (fun y => fr (e * L + y))) := fun V hV => ⟨(hr.below hV).1, fun q hq => by
    have h := (hr.below hV).2 (e * L + q) (cell_lt he hq)
    rw [Nat.add_assoc]
    exact h⟩
  have HF : Hid (∀ V, Below w.heap.size w V → FlS V b o L f) := fun V hV => hf.below hV
  have hle : L ≤ rcc - e * L ∧ rcc - e * L ≤ 9223372036854775807 := by
    have h1 : e * L + L ≤ L * L := by
      have h2 : (e + 1) * L ≤ L * L := Nat.mul_le_mul_right _ he
      rw [Nat.add_mul, Nat.one_mul] at h2
      exact h2
    omega
  obtain ⟨R, hR⟩ : ∃ R, R = ((List.range L).all (fun y => !(fr (e * L + y)) || f y)) := ⟨_, rfl⟩
  have HR : Hid (R = ((List.range L).all (fun y => !(fr (e * L + y)) || f y))) := hR
  rw [← hR]
  obtain ⟨⟨a0, a1, a2, a3, a4, a5, a6, a7, a8, a9⟩, q0, q1, q2⟩ := HSat.out w (Below.refl _ _)
  clear hs h0 hr h1 h2 hf hR
  go_enter Tryz.func103, Tryz.ntmps103
  go_upto_region 1 with fail
  first | go_region_held3 (fun V => (V.cell? ⟨ps, 0, none⟩ = some (.int .i64 L) ∧ V.cell? ⟨ps, 1, none⟩ = some (.slice ia im ic) ∧ V.cell? ⟨ps, 2, none⟩ = some (.slice ta tn tc) ∧ V.cell? ⟨ps, 3, none⟩ = some (.int .i64 L) ∧ V.cell? ⟨ps, 4, none⟩ = some (.slice na nn nc) ∧ V.cell? ⟨ps, 5, none⟩ = some (.slice sa sn sc) ∧ V.cell? ⟨ps, 6, none⟩ = some (.slice ra rn rc) ∧ V.cell? ⟨ps, 7, none⟩ = some (.slice la ln lc) ∧ V.cell? ⟨ps, 8, none⟩ = some (.slice ia im ic) ∧ V.cell? ⟨ps, 9, none⟩ = some (.slice ta tn tc)) ∧ V.cell? ⟨pr, 0, none⟩ = some (.slice (some ⟨rb, ro, none⟩) (L * L) rcc) ∧ V.cell? ⟨po, 0, none⟩ = some (.slice (some ⟨ob, 0, none⟩) 1 oc) ∧ V.cell? ⟨ob, 0, none⟩ = some (.slice (some ⟨b, o, none⟩) L c)) (first | with_reducible exact HSat.out _ H2.out | with_reducible exact HSat.out _ H1.out | with_reducible exact HSat.out _ Hd.out) (first | (go_at_call 75; refine (row_any hL he hrc).mono ?_; rintro r w1 ⟨rfl, hb1⟩; have H1 : Hid (Below w.heap.size w w1) := Hd.out.trans hb1; clear hb1) | (go_at_call 67; refine (within_any (by omega) (HRow.out w1 H1.out) (HF.out w1 H1.out) hle hc).mono ?_; rintro r w2 ⟨rfl, hw2⟩; rw [← HR.out, hw2]; have H2 : Hid (Below w.heap.size w w1) := H1.out; clear hw2)) | fail
  all_goals
    go_wp2_with fail
    go_ret
    exact ⟨rfl, H1.out⟩

end Go.Proofs.YtfbokljbmihlbaaGreat
