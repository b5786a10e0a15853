/- Several texts in one: KrI2, ReadI6, ReadI7, ReadI8. -/
import Derived.Test.YtckhjoancfbkfaaGreatKrO
import Derived.Test.YtckhjoancfbkfaaGreatReadI5
import Derived.Defers
import Derived.Recover
import Derived.Test.YtckhjoancfbkfaaGreatTokFin
import Derived.Test.YtckhjoancfbkfaaGreatNG13
namespace Go.Proofs.YtckhjoancfbkfaaGreat

section
open Go.RowKit
set_option linter.unusedVariables false

/-- What a field's reader leaves. -/
def FldP (pb g : Nat) (ts : List Tok) (gs : List (Nat × Nat)) (en : Int) (w0 : World) (i0 p s : Nat) (k : Int) (w : World) (r : ResX) (e : Ending) (w' : World) : Prop :=
  match r with
  | .bad q => e = gaveUp q ∧ Bt pb w0.heap.size w0 w'
  | .ok x' j' => e = .returned (.tuple #[]) ∧ (w.heap.size ≤ w'.heap.size ∧ ∀ b, b < w.heap.size → b ≠ pb → b ≠ p → w'.heap[b]? = w.heap[b]?) ∧ ∃ V' Ls', StX pb g ts gs en w0 i0 p s k w' V' x' Ls' j'

set_option maxRecDepth 100000 in
set_option maxHeartbeats 2000000 in
theorem field_C {base pb g : Nat} {ts : List Tok} {gs : List (Nat × Nat)} {en : Int} {w0 : World} {i0 p s : Nat} {k : Int} {w : World} {V : XV} {x : AX} {Ls : Nat → List (Addr × IntKind)} {j : Nat} (hS : SsX base pb g ts gs w0 p s) (h : StX pb g ts gs en w0 i0 p s k w V x Ls j) (hij : i0 ≤ j) (hj : j ≤ ts.length) :
    Calls Tryz.prog 129 #[.pointer (some ⟨pb, 0, none⟩), .pointer (some ⟨p, 0, none⟩), .int .i32 67] w (FldP pb g ts gs en w0 i0 p s k w (fieldR ts en 67 x j)) := by
  have HS : Hid (SsX base pb g ts gs w0 p s) := hS
  have HX : Hid (StX pb g ts gs en w0 i0 p s k w V x Ls j) := h
  have hpw : p < w.heap.size := h.box.lt
  have hpp : p ≠ pb := by have := hS.plt; have := hS.p0; omega
  clear h hS
  go_enter Tryz.func129, Tryz.ntmps129
  go_wp2_with fail
  refine (readC_any 6 1 (by omega) (by omega) base pb g j ts gs en _ HX.out.rdr (HX.out.tk HS.out) hj).mono ?_
  rintro e w1 hP
  cases hres : conR ts en 6 j with
  | bad q =>
    rw [hres] at hP
    obtain ⟨hb1, he⟩ := hP
    subst he
    have HF : Hid (FldP pb g ts gs en w0 i0 p s k w (fieldR ts en 67 x j) (gaveUp q) w1) := by
      have e1 : fieldR ts en 67 x j = .bad q := by simp [fieldR, hres]
      unfold Hid; rw [e1]; exact ⟨rfl, HX.out.bt.trans (hb1.mono HX.out.bt.size)⟩
    clear hb1
    unfold gaveUp at HF ⊢
    go_wp2
    exact ⟨rfl, HF.out⟩
  | ok c j' =>
    rw [hres] at hP
    obtain ⟨hb1, v, L, he, hO, hR1⟩ := hP
    subst he
    obtain ⟨zna, znn, znc, zra, zrn, zrc, zka, zkn, zkc, rfl⟩ := hO.ow.agg
    obtain ⟨zk, hzk⟩ : ∃ zk, zk = c.kind := ⟨_, rfl⟩
    rw [← hzk] at hO ⊢
    have hjj := (conR_end ts en 6 j c j' hres).1
    have hF := HX.out.setC HS.out hij (Nat.le_of_lt hjj) hb1 hO hR1
    have HF : Hid (FldP pb g ts gs en w0 i0 p s k w (fieldR ts en 67 x j) (.returned (.tuple #[])) ((((w1.setCell ⟨p, 1, none⟩ (.int .i64 zk)).setCell ⟨p, 2, none⟩ (.slice zna znn znc)).setCell ⟨p, 3, none⟩ (.slice zra zrn zrc)).setCell ⟨p, 4, none⟩ (.slice zka zkn zkc))) := by
      have e1 : fieldR ts en 67 x j = .ok { x with c := c } j' := by simp [fieldR, hres]
      unfold Hid; rw [e1]; exact ⟨rfl, ⟨by simpa using hb1.size, fun b h1 h2 h3 => by rw [Below.heap_setCell _ _ _ _ (by exact h3), Below.heap_setCell _ _ _ _ (by exact h3), Below.heap_setCell _ _ _ _ (by exact h3), Below.heap_setCell _ _ _ _ (by exact h3)]; exact hb1.block b h1 h2⟩, _, _, hF⟩
    have hB1 : BoxX w1 p k V := HX.out.box.of (hb1.block _ hpw hpp)
    obtain ⟨z0, z1, z2, z3, z4, z5, z6, z7, z8, z9, z10, z11, z12⟩ := hB1.cells
    have f1 := hB1.frz 1
    have f2 := hB1.frz 2
    have f3 := hB1.frz 3
    have f4 := hB1.frz 4
    clear hF hb1 hO hR1 hB1 hzk
    go_wp2
    refine bodyPost_end (results_none rfl _ _ _) rfl ?_
    exact HF.out

set_option maxRecDepth 100000 in
set_option maxHeartbeats 2000000 in
theorem field_D {base pb g : Nat} {ts : List Tok} {gs : List (Nat × Nat)} {en : Int} {w0 : World} {i0 p s : Nat} {k : Int} {w : World} {V : XV} {x : AX} {Ls : Nat → List (Addr × IntKind)} {j : Nat} (hS : SsX base pb g ts gs w0 p s) (h : StX pb g ts gs en w0 i0 p s k w V x Ls j) (hij : i0 ≤ j) (hj : j ≤ ts.length) :
    Calls Tryz.prog 129 #[.pointer (some ⟨pb, 0, none⟩), .pointer (some ⟨p, 0, none⟩), .int .i32 68] w (FldP pb g ts gs en w0 i0 p s k w (fieldR ts en 68 x j)) := by
  have HS : Hid (SsX base pb g ts gs w0 p s) := hS
  have HX : Hid (StX pb g ts gs en w0 i0 p s k w V x Ls j) := h
  have hpw : p < w.heap.size := h.box.lt
  have hpp : p ≠ pb := by have := hS.plt; have := hS.p0; omega
  clear h hS
  go_enter Tryz.func129, Tryz.ntmps129
  go_wp2_with fail
  refine (readC_any 6 1 (by omega) (by omega) base pb g j ts gs en _ HX.out.rdr (HX.out.tk HS.out) hj).mono ?_
  rintro e w1 hP
  cases hres : conR ts en 6 j with
  | bad q =>
    rw [hres] at hP
    obtain ⟨hb1, he⟩ := hP
    subst he
    have HF : Hid (FldP pb g ts gs en w0 i0 p s k w (fieldR ts en 68 x j) (gaveUp q) w1) := by
      have e1 : fieldR ts en 68 x j = .bad q := by simp [fieldR, hres]
      unfold Hid; rw [e1]; exact ⟨rfl, HX.out.bt.trans (hb1.mono HX.out.bt.size)⟩
    clear hb1
    unfold gaveUp at HF ⊢
    go_wp2
    exact ⟨rfl, HF.out⟩
  | ok c j' =>
    rw [hres] at hP
    obtain ⟨hb1, v, L, he, hO, hR1⟩ := hP
    subst he
    obtain ⟨zna, znn, znc, zra, zrn, zrc, zka, zkn, zkc, rfl⟩ := hO.ow.agg
    obtain ⟨zk, hzk⟩ : ∃ zk, zk = c.kind := ⟨_, rfl⟩
    rw [← hzk] at hO ⊢
    have hjj := (conR_end ts en 6 j c j' hres).1
    have hF := HX.out.setD HS.out hij (Nat.le_of_lt hjj) hb1 hO hR1
    have HF : Hid (FldP pb g ts gs en w0 i0 p s k w (fieldR ts en 68 x j) (.returned (.tuple #[])) ((((w1.setCell ⟨p, 5, none⟩ (.int .i64 zk)).setCell ⟨p, 6, none⟩ (.slice zna znn znc)).setCell ⟨p, 7, none⟩ (.slice zra zrn zrc)).setCell ⟨p, 8, none⟩ (.slice zka zkn zkc))) := by
      have e1 : fieldR ts en 68 x j = .ok { x with d := c } j' := by simp [fieldR, hres]
      unfold Hid; rw [e1]; exact ⟨rfl, ⟨by simpa using hb1.size, fun b h1 h2 h3 => by rw [Below.heap_setCell _ _ _ _ (by exact h3), Below.heap_setCell _ _ _ _ (by exact h3), Below.heap_setCell _ _ _ _ (by exact h3), Below.heap_setCell _ _ _ _ (by exact h3)]; exact hb1.block b h1 h2⟩, _, _, hF⟩
    have hB1 : BoxX w1 p k V := HX.out.box.of (hb1.block _ hpw hpp)
    obtain ⟨z0, z1, z2, z3, z4, z5, z6, z7, z8, z9, z10, z11, z12⟩ := hB1.cells
    have f5 := hB1.frz 5
    have f6 := hB1.frz 6
    have f7 := hB1.frz 7
    have f8 := hB1.frz 8
    clear hF hb1 hO hR1 hB1 hzk
    go_wp2
    refine bodyPost_end (results_none rfl _ _ _) rfl ?_
    exact HF.out

set_option maxRecDepth 100000 in
set_option maxHeartbeats 2000000 in
theorem field_R {base pb g : Nat} {ts : List Tok} {gs : List (Nat × Nat)} {en : Int} {w0 : World} {i0 p s : Nat} {k : Int} {w : World} {V : XV} {x : AX} {Ls : Nat → List (Addr × IntKind)} {j : Nat} (hS : SsX base pb g ts gs w0 p s) (h : StX pb g ts gs en w0 i0 p s k w V x Ls j) (hij : i0 ≤ j) (hj : j ≤ ts.length) :
    Calls Tryz.prog 129 #[.pointer (some ⟨pb, 0, none⟩), .pointer (some ⟨p, 0, none⟩), .int .i32 82] w (FldP pb g ts gs en w0 i0 p s k w (fieldR ts en 82 x j)) := by
  have HS : Hid (SsX base pb g ts gs w0 p s) := hS
  have HX : Hid (StX pb g ts gs en w0 i0 p s k w V x Ls j) := h
  have hpw : p < w.heap.size := h.box.lt
  have hpp : p ≠ pb := by have := hS.plt; have := hS.p0; omega
  clear h hS
  go_enter Tryz.func129, Tryz.ntmps129
  cases hk : isI ts 2 j
  · have HF0 : Hid (fieldR ts en 82 x j = .bad (hereI ts en j)) := by simp [Hid, fieldR, hk]
    go_wp2_with fail
    refine (take_bad base pb g j ts gs en 2 _ HX.out.rdr (HX.out.tk HS.out) hj hk).mono ?_
    rintro e w1 ⟨rfl, hb1⟩
    have HF : Hid (FldP pb g ts gs en w0 i0 p s k w (fieldR ts en 82 x j) (gaveUp (hereI ts en j)) w1) := by
      unfold Hid; rw [HF0.out]; exact ⟨rfl, HX.out.bt.trans (Bt.of_below (hb1.mono HX.out.bt.size))⟩
    clear hb1
    unfold gaveUp at HF ⊢
    go_wp2
    exact ⟨rfl, HF.out⟩
  · have HF0 : Hid (fieldR ts en 82 x j = .ok (putB x 82 (wordI ts j)) (j + 1)) := by simp [Hid, fieldR, hk]
    go_wp2_with fail
    refine (take_ok base pb g j ts gs en 2 _ HX.out.rdr (HX.out.tk HS.out) hk).mono ?_
    rintro e w1 ⟨rfl, hR1, hb1⟩
    obtain ⟨ta, tc, L, hx, hO, hnd, hfr, hus⟩ := tok_ows ((HX.out.tk HS.out).bt hb1 (by have := HS.out.plt; have := HX.out.bt.size; omega)) (isI_lt hk) w.heap.size
    obtain ⟨tn, htn⟩ : ∃ tn, tn = (wordI ts j).length := ⟨_, rfl⟩
    rw [← htn] at hx hO
    rw [hx]
    have hF := HX.out.setR HS.out hij hb1 hO hnd hfr (hus.mono (Nat.le_refl _) (Nat.le_refl _) (Nat.le_refl _) hb1.size) hR1
    have HF : Hid (FldP pb g ts gs en w0 i0 p s k w (fieldR ts en 82 x j) (.returned (.tuple #[])) (w1.setCell ⟨p, 9, none⟩ (.slice ta tn tc))) := by
      unfold Hid; rw [HF0.out]; exact ⟨rfl, ⟨by simpa using hb1.size, fun b h1 h2 h3 => by rw [Below.heap_setCell _ _ _ _ (by exact h3)]; exact hb1.block b h1 h2⟩, _, _, hF⟩
    have hB1 : BoxX w1 p k V := HX.out.box.of (hb1.block _ hpw hpp)
    obtain ⟨z0, z1, z2, z3, z4, z5, z6, z7, z8, z9, z10, z11, z12⟩ := hB1.cells
    have f9 := hB1.frz 9
    obtain ⟨hi, hhi⟩ : ∃ q, q = hereI ts en j := ⟨_, rfl⟩
    rw [← hhi]
    have hfld : (Instr.field 134 (.agg #[.int .i64 2, .int .i64 hi, .slice ta tn tc]) 2).run Tryz.prog w1 = .ok (.slice ta tn tc) w1 := by kernel_rfl
    clear hF hb1 hO hR1 hB1 htn hx hnd hfr hus hhi
    go_wp2
    refine bodyPost_end (results_none rfl _ _ _) rfl ?_
    exact HF.out

set_option maxRecDepth 100000 in
set_option maxHeartbeats 2000000 in
theorem field_S {base pb g : Nat} {ts : List Tok} {gs : List (Nat × Nat)} {en : Int} {w0 : World} {i0 p s : Nat} {k : Int} {w : World} {V : XV} {x : AX} {Ls : Nat → List (Addr × IntKind)} {j : Nat} (hS : SsX base pb g ts gs w0 p s) (h : StX pb g ts gs en w0 i0 p s k w V x Ls j) (hij : i0 ≤ j) (hj : j ≤ ts.length) :
    Calls Tryz.prog 129 #[.pointer (some ⟨pb, 0, none⟩), .pointer (some ⟨p, 0, none⟩), .int .i32 83] w (FldP pb g ts gs en w0 i0 p s k w (fieldR ts en 83 x j)) := by
  have HS : Hid (SsX base pb g ts gs w0 p s) := hS
  have HX : Hid (StX pb g ts gs en w0 i0 p s k w V x Ls j) := h
  have hpw : p < w.heap.size := h.box.lt
  have hpp : p ≠ pb := by have := hS.plt; have := hS.p0; omega
  clear h hS
  go_enter Tryz.func129, Tryz.ntmps129
  cases hk : isI ts 2 j
  · have HF0 : Hid (fieldR ts en 83 x j = .bad (hereI ts en j)) := by simp [Hid, fieldR, hk]
    go_wp2_with fail
    refine (take_bad base pb g j ts gs en 2 _ HX.out.rdr (HX.out.tk HS.out) hj hk).mono ?_
    rintro e w1 ⟨rfl, hb1⟩
    have HF : Hid (FldP pb g ts gs en w0 i0 p s k w (fieldR ts en 83 x j) (gaveUp (hereI ts en j)) w1) := by
      unfold Hid; rw [HF0.out]; exact ⟨rfl, HX.out.bt.trans (Bt.of_below (hb1.mono HX.out.bt.size))⟩
    clear hb1
    unfold gaveUp at HF ⊢
    go_wp2
    exact ⟨rfl, HF.out⟩
  · have HF0 : Hid (fieldR ts en 83 x j = .ok (putB x 83 (wordI ts j)) (j + 1)) := by simp [Hid, fieldR, hk]
    go_wp2_with fail
    refine (take_ok base pb g j ts gs en 2 _ HX.out.rdr (HX.out.tk HS.out) hk).mono ?_
    rintro e w1 ⟨rfl, hR1, hb1⟩
    obtain ⟨ta, tc, L, hx, hO, hnd, hfr, hus⟩ := tok_ows ((HX.out.tk HS.out).bt hb1 (by have := HS.out.plt; have := HX.out.bt.size; omega)) (isI_lt hk) w.heap.size
    obtain ⟨tn, htn⟩ : ∃ tn, tn = (wordI ts j).length := ⟨_, rfl⟩
    rw [← htn] at hx hO
    rw [hx]
    have hF := HX.out.setS HS.out hij hb1 hO hnd hfr (hus.mono (Nat.le_refl _) (Nat.le_refl _) (Nat.le_refl _) hb1.size) hR1
    have HF : Hid (FldP pb g ts gs en w0 i0 p s k w (fieldR ts en 83 x j) (.returned (.tuple #[])) (w1.setCell ⟨p, 10, none⟩ (.slice ta tn tc))) := by
      unfold Hid; rw [HF0.out]; exact ⟨rfl, ⟨by simpa using hb1.size, fun b h1 h2 h3 => by rw [Below.heap_setCell _ _ _ _ (by exact h3)]; exact hb1.block b h1 h2⟩, _, _, hF⟩
    have hB1 : BoxX w1 p k V := HX.out.box.of (hb1.block _ hpw hpp)
    obtain ⟨z0, z1, z2, z3, z4, z5, z6, z7, z8, z9, z10, z11, z12⟩ := hB1.cells
    have f10 := hB1.frz 10
    obtain ⟨hi, hhi⟩ : ∃ q, q = hereI ts en j := ⟨_, rfl⟩
    rw [← hhi]
    have hfld : (Instr.field 134 (.agg #[.int .i64 2, .int .i64 hi, .slice ta tn tc]) 2).run Tryz.prog w1 = .ok (.slice ta tn tc) w1 := by kernel_rfl
    clear hF hb1 hO hR1 hB1 htn hx hnd hfr hus hhi
    go_wp2
    refine bodyPost_end (results_none rfl _ _ _) rfl ?_
    exact HF.out

set_option maxRecDepth 100000 in
set_option maxHeartbeats 2000000 in
theorem field_A {base pb g : Nat} {ts : List Tok} {gs : List (Nat × Nat)} {en : Int} {w0 : World} {i0 p s : Nat} {k : Int} {w : World} {V : XV} {x : AX} {Ls : Nat → List (Addr × IntKind)} {j : Nat} (hS : SsX base pb g ts gs w0 p s) (h : StX pb g ts gs en w0 i0 p s k w V x Ls j) (hij : i0 ≤ j) (hj : j ≤ ts.length) :
    Calls Tryz.prog 129 #[.pointer (some ⟨pb, 0, none⟩), .pointer (some ⟨p, 0, none⟩), .int .i32 65] w (FldP pb g ts gs en w0 i0 p s k w (fieldR ts en 65 x j)) := by
  have HS : Hid (SsX base pb g ts gs w0 p s) := hS
  have HX : Hid (StX pb g ts gs en w0 i0 p s k w V x Ls j) := h
  have hpw : p < w.heap.size := h.box.lt
  have hpp : p ≠ pb := by have := hS.plt; have := hS.p0; omega
  clear h hS
  go_enter Tryz.func129, Tryz.ntmps129
  cases hk : isI ts 2 j
  · have HF0 : Hid (fieldR ts en 65 x j = .bad (hereI ts en j)) := by simp [Hid, fieldR, hk]
    go_wp2_with fail
    refine (take_bad base pb g j ts gs en 2 _ HX.out.rdr (HX.out.tk HS.out) hj hk).mono ?_
    rintro e w1 ⟨rfl, hb1⟩
    have HF : Hid (FldP pb g ts gs en w0 i0 p s k w (fieldR ts en 65 x j) (gaveUp (hereI ts en j)) w1) := by
      unfold Hid; rw [HF0.out]; exact ⟨rfl, HX.out.bt.trans (Bt.of_below (hb1.mono HX.out.bt.size))⟩
    clear hb1
    unfold gaveUp at HF ⊢
    go_wp2
    exact ⟨rfl, HF.out⟩
  · have HF0 : Hid (fieldR ts en 65 x j = .ok (putB x 65 (wordI ts j)) (j + 1)) := by simp [Hid, fieldR, hk]
    go_wp2_with fail
    refine (take_ok base pb g j ts gs en 2 _ HX.out.rdr (HX.out.tk HS.out) hk).mono ?_
    rintro e w1 ⟨rfl, hR1, hb1⟩
    obtain ⟨ta, tc, L, hx, hO, hnd, hfr, hus⟩ := tok_ows ((HX.out.tk HS.out).bt hb1 (by have := HS.out.plt; have := HX.out.bt.size; omega)) (isI_lt hk) w.heap.size
    obtain ⟨tn, htn⟩ : ∃ tn, tn = (wordI ts j).length := ⟨_, rfl⟩
    rw [← htn] at hx hO
    rw [hx]
    have hF := HX.out.setA HS.out hij hb1 hO hnd hfr (hus.mono (Nat.le_refl _) (Nat.le_refl _) (Nat.le_refl _) hb1.size) hR1
    have HF : Hid (FldP pb g ts gs en w0 i0 p s k w (fieldR ts en 65 x j) (.returned (.tuple #[])) (w1.setCell ⟨p, 11, none⟩ (.slice ta tn tc))) := by
      unfold Hid; rw [HF0.out]; exact ⟨rfl, ⟨by simpa using hb1.size, fun b h1 h2 h3 => by rw [Below.heap_setCell _ _ _ _ (by exact h3)]; exact hb1.block b h1 h2⟩, _, _, hF⟩
    have hB1 : BoxX w1 p k V := HX.out.box.of (hb1.block _ hpw hpp)
    obtain ⟨z0, z1, z2, z3, z4, z5, z6, z7, z8, z9, z10, z11, z12⟩ := hB1.cells
    have f11 := hB1.frz 11
    obtain ⟨hi, hhi⟩ : ∃ q, q = hereI ts en j := ⟨_, rfl⟩
    rw [← hhi]
    have hfld : (Instr.field 134 (.agg #[.int .i64 2, .int .i64 hi, .slice ta tn tc]) 2).run Tryz.prog w1 = .ok (.slice ta tn tc) w1 := by kernel_rfl
    clear hF hb1 hO hR1 hB1 htn hx hnd hfr hus hhi
    go_wp2
    refine bodyPost_end (results_none rfl _ _ _) rfl ?_
    exact HF.out

set_option maxRecDepth 100000 in
set_option maxHeartbeats 2000000 in
theorem field_B {base pb g : Nat} {ts : List Tok} {gs : List (Nat × Nat)} {en : Int} {w0 : World} {i0 p s : Nat} {k : Int} {w : World} {V : XV} {x : AX} {Ls : Nat → List (Addr × IntKind)} {j : Nat} (hS : SsX base pb g ts gs w0 p s) (h : StX pb g ts gs en w0 i0 p s k w V x Ls j) (hij : i0 ≤ j) (hj : j ≤ ts.length) :
    Calls Tryz.prog 129 #[.pointer (some ⟨pb, 0, none⟩), .pointer (some ⟨p, 0, none⟩), .int .i32 66] w (FldP pb g ts gs en w0 i0 p s k w (fieldR ts en 66 x j)) := by
  have HS : Hid (SsX base pb g ts gs w0 p s) := hS
  have HX : Hid (StX pb g ts gs en w0 i0 p s k w V x Ls j) := h
  have hpw : p < w.heap.size := h.box.lt
  have hpp : p ≠ pb := by have := hS.plt; have := hS.p0; omega
  clear h hS
  go_enter Tryz.func129, Tryz.ntmps129
  cases hk : isI ts 2 j
  · have HF0 : Hid (fieldR ts en 66 x j = .bad (hereI ts en j)) := by simp [Hid, fieldR, hk]
    go_wp2_with fail
    refine (take_bad base pb g j ts gs en 2 _ HX.out.rdr (HX.out.tk HS.out) hj hk).mono ?_
    rintro e w1 ⟨rfl, hb1⟩
    have HF : Hid (FldP pb g ts gs en w0 i0 p s k w (fieldR ts en 66 x j) (gaveUp (hereI ts en j)) w1) := by
      unfold Hid; rw [HF0.out]; exact ⟨rfl, HX.out.bt.trans (Bt.of_below (hb1.mono HX.out.bt.size))⟩
    clear hb1
    unfold gaveUp at HF ⊢
    go_wp2
    exact ⟨rfl, HF.out⟩
  · have HF0 : Hid (fieldR ts en 66 x j = .ok (putB x 66 (wordI ts j)) (j + 1)) := by simp [Hid, fieldR, hk]
    go_wp2_with fail
    refine (take_ok base pb g j ts gs en 2 _ HX.out.rdr (HX.out.tk HS.out) hk).mono ?_
    rintro e w1 ⟨rfl, hR1, hb1⟩
    obtain ⟨ta, tc, L, hx, hO, hnd, hfr, hus⟩ := tok_ows ((HX.out.tk HS.out).bt hb1 (by have := HS.out.plt; have := HX.out.bt.size; omega)) (isI_lt hk) w.heap.size
    obtain ⟨tn, htn⟩ : ∃ tn, tn = (wordI ts j).length := ⟨_, rfl⟩
    rw [← htn] at hx hO
    rw [hx]
    have hF := HX.out.setB HS.out hij hb1 hO hnd hfr (hus.mono (Nat.le_refl _) (Nat.le_refl _) (Nat.le_refl _) hb1.size) hR1
    have HF : Hid (FldP pb g ts gs en w0 i0 p s k w (fieldR ts en 66 x j) (.returned (.tuple #[])) (w1.setCell ⟨p, 12, none⟩ (.slice ta tn tc))) := by
      unfold Hid; rw [HF0.out]; exact ⟨rfl, ⟨by simpa using hb1.size, fun b h1 h2 h3 => by rw [Below.heap_setCell _ _ _ _ (by exact h3)]; exact hb1.block b h1 h2⟩, _, _, hF⟩
    have hB1 : BoxX w1 p k V := HX.out.box.of (hb1.block _ hpw hpp)
    obtain ⟨z0, z1, z2, z3, z4, z5, z6, z7, z8, z9, z10, z11, z12⟩ := hB1.cells
    have f12 := hB1.frz 12
    obtain ⟨hi, hhi⟩ : ∃ q, q = hereI ts en j := ⟨_, rfl⟩
    rw [← hhi]
    have hfld : (Instr.field 134 (.agg #[.int .i64 2, .int .i64 hi, .slice ta tn tc]) 2).run Tryz.prog w1 = .ok (.slice ta tn tc) w1 := by kernel_rfl
    clear hF hb1 hO hR1 hB1 htn hx hnd hfr hus hhi
    go_wp2
    refine bodyPost_end (results_none rfl _ _ _) rfl ?_
    exact HF.out

/-- Whichever field. -/
theorem field_any {base pb g : Nat} {ts : List Tok} {gs : List (Nat × Nat)} {en : Int} {w0 : World} {i0 p s : Nat} {k : Int} {w : World} {V : XV} {x : AX} {Ls : Nat → List (Addr × IntKind)} {j : Nat} (f : Nat) (hf : f = 67 ∨ f = 68 ∨ f = 82 ∨ f = 83 ∨ f = 65 ∨ f = 66) (hS : SsX base pb g ts gs w0 p s) (h : StX pb g ts gs en w0 i0 p s k w V x Ls j) (hij : i0 ≤ j) (hj : j ≤ ts.length) :
    Calls Tryz.prog 129 #[.pointer (some ⟨pb, 0, none⟩), .pointer (some ⟨p, 0, none⟩), .int .i32 (f : Nat)] w (FldP pb g ts gs en w0 i0 p s k w (fieldR ts en f x j)) := by
  rcases hf with rfl | rfl | rfl | rfl | rfl | rfl
  · exact field_C hS h hij hj
  · exact field_D hS h hij hj
  · exact field_R hS h hij hj
  · exact field_S hS h hij hj
  · exact field_A hS h hij hj
  · exact field_B hS h hij hj
end

section
open Go.RowKit

def BoxI (W : World) (b : Nat) (z : Int) : Prop := W.heap[b]? = some (.cells #[.int .i64 z] 3 (0, 0))
theorem BoxI.cell {W : World} {b : Nat} {z : Int} (h : BoxI W b z) : W.cell? ⟨b, 0, none⟩ = some (.int .i64 z) := by
  unfold BoxI at h
  simp [World.cell?, h]
theorem BoxI.frz {W : World} {b : Nat} {z : Int} (h : BoxI W b z) (o : Nat) : W.frozen? ⟨b, o, none⟩ = false := by
  unfold BoxI at h
  simp [World.frozen?, h]
theorem BoxI.lt {W : World} {b : Nat} {z : Int} (h : BoxI W b z) : b < W.heap.size := (Array.getElem?_eq_some_iff.1 h).1
theorem BoxI.set {W : World} {b : Nat} {z : Int} (h : BoxI W b z) (y : Int) : BoxI (W.setCell ⟨b, 0, none⟩ (.int .i64 y)) b y := by
  unfold BoxI
  rw [heap_setCell_same W b 0 _ _ _ h]
  rfl
theorem BoxI.of {W W' : World} {b : Nat} {z : Int} (h : BoxI W b z) (e : W'.heap[b]? = W.heap[b]?) : BoxI W' b z := e.trans h
theorem BoxI.new (W : World) (z : Int) : BoxI (W.alloc (.cells #[.int .i64 z] 3)) W.heap.size z := by
  show (W.heap.push _)[W.heap.size]? = _
  simp

theorem assert_yes (p : Int) (w : World) : (Instr.typeAssert (.iface 111 (.int .i64 p)) 20 111 true).run Tryz.prog w = .ok (.tuple #[.int .i64 p, .bool true]) w := by kernel_rfl
theorem assert_no (w : World) : (Instr.typeAssert .nilIface 20 111 true).run Tryz.prog w = .ok (.tuple #[.int .i64 0, .bool false]) w := by kernel_rfl
end

section
open Go.RowKit

theorem OwnT.set {base : Nat} {w : World} {v : Value} {ts : List Tok} {gs : List (Nat × Nat)} (h : OwnT base w v ts gs) {o i : Nat} (ho : o < base) (x : Value) : OwnT base (w.setCell ⟨o, i, none⟩ x) v ts gs :=
  ⟨h.len, ownsRow_setCell_below h.row (a := ⟨o, i, none⟩) ho x, fun j hj ht => ⟨(h.txt j hj ht).1, (h.txt j hj ht).2.1.setOf (a := ⟨o, i, none⟩) (by have := (h.txt j hj ht).1; show _ ≠ o; omega), (h.txt j hj ht).2.2⟩, h.byte, h.dist⟩

theorem OwnC.none (base : Nat) (w : World) (d : Nat) : OwnC base w (d + 1) (.agg #[.int .i64 0, .slice none 0 0, .slice none 0 0, .slice none 0 0]) CN.zero [] := by
  have h := OwnR.leaf [] [] 0 0 0 w d 0
  exact ⟨h.ow, h.nd, h.fr, fun x hx => by simp at hx⟩

/-- A concept in memory of the call's own, and a number. -/
def AnsP (w : World) (r : CN × Int) (e : Ending) (w' : World) : Prop := ∃ v L, e = .returned (.tuple #[v, .int .i64 r.2]) ∧ OwnC w.heap.size w' 6 v r.1 L ∧ Below w.heap.size w w'

theorem AnsP.mk {w w' : World} {r : CN × Int} {c : CN} {p : Int} {v : Value} {L : List (Addr × IntKind)} (hr : r = (c, p)) (hO : OwnC w.heap.size w' 6 v c L) (hB : Below w.heap.size w w') : AnsP w r (.returned (.tuple #[v, .int .i64 p])) w' := by
  subst hr; exact ⟨v, L, rfl, hO, hB⟩
end

section
open Go.RowKit
end

end Go.Proofs.YtckhjoancfbkfaaGreat
