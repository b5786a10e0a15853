/- For every list of bytes the law FnGreatest answers true and the list reads behind the call as it did before: no condition. -/
import Derived.Test.YtjnmfjfikldiiaaRows
import Derived.Test.YtjnmfjfikldiiaaGrLaw
import Derived.Test.YtjnmfjfikldiiaaClOpen
import Derived.WalkKit
import Derived.ProofKit
import Derived.OpenShut
import Derived.ShutString
import Derived.ChangeOld
import Derived.Below
namespace Go.Proofs.Ytjnmfjfikldiiaa.fnGreatest
open Go.ChangeShapes Go.WideShapes Go.ChangeAt Go.RowKit
open Go.ChangeMaps (open_string shut_string)
set_option linter.unusedVariables false

theorem own : ownKnob Try.prog.godebug = none := by kernel_rfl
theorem laidOut : laidOutB Try.prog = true := by kernel_rfl

/-- WHAT THE WALK IS TOLD OF A SLICE OF INTEGERS THAT CAME IN: it is nil; or it leads to a row of 'cap' cells, the numbers 'zs' (the first 'len' are its elements, the rest its spare room), each fitting its kind. -/
def IsRow (k : IntKind) (w : World) (a : Option Addr) (len cap : Nat) (zs : List Int) : Prop :=
  (a = none ∧ len = 0 ∧ cap = 0 ∧ zs = []) ∨
  ∃ x, a = some x ∧ len ≤ cap ∧ cap ≤ maxLen ∧ zs.length = cap ∧ (∀ i, i < zs.length → w.cell? (x.add i) = some (.int k (zs.getD i 0))) ∧ ∀ n ∈ zs, (Lit.int k n).wf = true

theorem isRow_rd {w : World} {a : Option Addr} {len cap : Nat} {zs : List Int} (h : IsRow .u8 w a len cap zs) : Rd 0 w.heap.size w a len cap (zs.take len) := by
  rcases h with ⟨rfl, rfl, rfl, rfl⟩ | ⟨x, rfl, hl, hm, hz, hc, hwf⟩
  · exact Rd.none_of (by omega)
  · unfold maxLen at hm
    refine ⟨by simp; omega, ⟨hl, hm⟩, fun i => ?_, ?_⟩
    · have := range_u8 hwf i
      simp only [List.getD, List.getElem?_take]
      split
      · exact this
      · simp
    · by_cases h0 : len = 0
      · exact .inl h0
      · obtain ⟨b, off, spot⟩ := x
        have hc0 := hc 0 (by omega)
        have hspot : spot = none := by simpa [Addr.add] using World.cell?_spot hc0
        subst hspot
        refine .inr ⟨b, off, rfl, Nat.zero_le _, block_lt_of_cell hc0, fun i hi => ?_⟩
        have := hc i (by omega)
        simp only [List.getD, List.getElem?_take, if_pos hi]
        by_cases e : i = 0
        · subst e; simpa [Addr.add, List.getD] using this
        · simpa [Addr.add, e, List.getD] using this

set_option maxRecDepth 100000 in
set_option maxHeartbeats 4000000 in
theorem walk (a0 : Option Addr) (len0 cap0 : Nat) (z0 : List Int) (w : World) (w0 : IsRow .u8 w a0 len0 cap0 z0) :
    Calls Try.prog 3 #[.slice a0 len0 cap0] w fun e w' => e = .returned (.bool true) ∧ Below w.heap.size w w' := by
  have hR := isRow_rd w0
  generalize z0.take len0 = zs at hR
  have HR : Hid (Rd 0 w.heap.size w a0 len0 cap0 zs) := hR
  clear w0 z0 hR
  have hbuild : ∀ V : World, (Instr.build 24 #[(0, .int .i64 4), (1, .int .i64 4)]).run Try.prog V = .ok (.agg #[.int .i64 4, .int .i64 4]) V := fun V => run_build V _ _ _ (by kernel_rfl)
  go_enter Try.func3, Try.ntmps3
  go_wp2_with fail
  refine (drawGreatest_any HR.out (Nat.le_refl _)).mono ?_
  rintro e w1 ⟨p, q, rfl, hb1⟩
  have H1 : Hid (Below w.heap.size w w1) := hb1
  clear hb1
  obtain ⟨w2, hw2⟩ : ∃ w2, w2 = w1.alloc (.cells #[.int .i64 p, .int .i64 q] 24) := ⟨_, rfl⟩
  have HW2 : Hid (w2 = w1.alloc (.cells #[.int .i64 p, .int .i64 q] 24)) := hw2
  have hq2 : BoxP 24 w2 w1.heap.size p q := by rw [hw2]; exact BoxP.new _ w1 _ _
  have H2 : Hid (Below w.heap.size w w2) := by unfold Hid; rw [hw2]; exact H1.out.alloc H1.out.size _
  have HQ2 : Hid (BoxP 24 w2 w1.heap.size p q) := hq2
  obtain ⟨z0, z1⟩ := hq2.cells
  clear hw2 hq2
  go_upto_region 2 with fail
  rw [← HW2.out]
  go_wp2_with fail
  refine (implGreatest_any p q w2).mono ?_
  rintro e w3 ⟨rfl, hb3⟩
  have H3 : Hid (Below w.heap.size w w3) := H2.out.trans (hb3.mono H2.out.size)
  have HQ3 : Hid (BoxP 24 w3 w1.heap.size p q) := HQ2.out.below hb3 HQ2.out.lt
  obtain ⟨g, hg⟩ : ∃ g, g = greatest p q := ⟨_, rfl⟩
  rw [← hg]
  obtain ⟨g0, g1, g2⟩ := g
  have HG : Hid (greatest p q = (g0, g1, g2)) := hg.symm
  clear hb3 z0 z1 hg
  simp only [litV]
  go_wp2_with fail
  refine (implGreatest_any 4 4 w3).mono ?_
  rintro e w4 ⟨rfl, hb4⟩
  have H4 : Hid (Below w.heap.size w w4) := H3.out.trans (hb4.mono H3.out.size)
  have HQ4 : Hid (BoxP 24 w4 w1.heap.size p q) := HQ3.out.below hb4 HQ3.out.lt
  rw [great_four]
  obtain ⟨z0, z1⟩ := HQ4.out.cells
  clear hb4
  simp only [litV]
  cases g2 with
  | false =>
    have hno := great_no (p := p) (q := q) (by rw [HG.out])
    rw [HG.out] at hno
    obtain ⟨hz, hc⟩ := hno
    simp only [Prod.mk.injEq, and_true] at hz
    obtain ⟨rfl, rfl⟩ := hz
    by_cases h0 : bits .or .i64 p q = 0
    · have hb : (bits .or .i64 p q == 0) = true := by simp [h0]
      clear h0 hc
      go_wp2_with fail
      go_ret
      exact ⟨rfl, H4.out⟩
    · have hb : (bits .or .i64 p q == 0) = false := by simpa using h0
      have hp : p < 0 ∨ ¬ p < 0 ∧ (q < 0 ∨ ¬ q < 0 ∧ (16777216 ≤ p ∨ ¬ 16777216 ≤ p ∧ 16777216 ≤ q)) := by
        rcases hc with hc | ⟨rfl, rfl⟩
        · have : ¬ ((0 ≤ p ∧ p < 16777216) ∧ (0 ≤ q ∧ q < 16777216)) := fun h => by rw [partB_iff.2 h] at hc; cases hc
          omega
        · exact absurd (by decide) h0
      clear h0 hc
      rcases hp with h1 | ⟨h1, h2 | ⟨h2, h3 | ⟨h3, h4⟩⟩⟩
      all_goals
        go_wp2_with fail
        go_ret
        exact ⟨rfl, H4.out⟩
  | true =>
    obtain ⟨l, hl, he, hp, hq, hy, hn⟩ := great_yes (p := p) (q := q) (by rw [HG.out])
    rw [HG.out] at he hy hn
    simp only at he hy hn
    subst he
    cases g1 with
    | true =>
      obtain ⟨e1, e2⟩ := hy rfl
      have b1 : (q / 2 ^ l == 1) = true := by simp [e1]
      clear hy hn e1 hp hq
      go_wp2_with fail
      go_ret
      exact ⟨rfl, H4.out⟩
    | false =>
      obtain ⟨e1, e2⟩ := hn rfl
      have b1 : (p / 2 ^ l == 1) = true := by simp [e1]
      have b2 : (q / 2 ^ l == 0) = true := by simp [e2]
      clear hy hn e1 e2 hp hq
      go_wp2_with fail
      go_ret
      exact ⟨rfl, H4.out⟩

/-! ### THE ROW's STEP: WRITTEN OUT: LEAVE IT -/
set_option maxRecDepth 100000 in
theorem lifted (os : Os) (started : os.Started) (H : Type) (enc : TypeId × Value → H) :
    ReturnsInHanded {} Try.checked os 3 .any (Rows.fnGreatestSpec.pre6 enc Try.prog Try.f3 Rows.fnGreatestRow.domain false) (Rows.fnGreatestSpec.post enc Try.prog Try.f3 false true false false) := by
  refine returnsInHanded_of_change (C := Try.checked) own started (by kernel_rfl) Try.func3
    (ChangeSpec.witness6 (enc := enc) (C := Try.checked) false ⟨#[], #[.slice none 0 0], []⟩ 8 (by kernel_rfl) (by kernel_rfl) (by kernel_rfl) (by kernel_rfl)) ?_
  intro W base args ds gs before hval0 hW hcnd _
  have hval : ∀ (j : Nat) t v, Try.f3.params[j]? = some t → args[j]? = some v → Value.okWide Try.prog W .any base t v := hval0
  have hW' := hW
  obtain ⟨p, q, hA0, hV, rfl, hfz, hnd⟩ := hW
  have hA : DataW.TrodAll enc Try.prog W 0 (fun _ => true) true Try.f3.params.toList args.toList ds p := hA0
  rw [Try.params3] at hA hval
  obtain ⟨v0, vs0, d0, ds0, p0, q0, hargs, rfl, rfl, h0, r0⟩ := trodAll_cons hA
  obtain ⟨rfl, rfl, rfl⟩ := trodAll_nil r0
  obtain rfl : args = #[v0] := by cases args; simp_all
  obtain ⟨rfl, rfl⟩ := trodVars_none hV
  obtain ⟨a0, len0, cap0, rfl⟩ := okWide_slice Try.underlying22 (hval 0 22 v0 rfl rfl)
  have k0 := h0
  have lt0 : ∀ x ∈ p0, x.block < W.heap.size := by obtain ⟨m, hm⟩ := k0; exact DataW.trod_lt m _ _ _ hm
  obtain ⟨z0, w0⟩ : ∃ zs, IsRow .u8 W a0 len0 cap0 zs := by
    obtain ⟨fuel, hf⟩ := h0
    rcases open_ints Try.underlying22 Try.underlying5 (by kernel_rfl) hf with ⟨hcs, _⟩ | ⟨x, l, c, zs, hcs, _, hl, hm, hz, _, hcell, hwz⟩
    · simp [Value.cells] at hcs
      obtain ⟨rfl, rfl, rfl⟩ := hcs
      exact ⟨[], .inl ⟨rfl, rfl, rfl, rfl⟩⟩
    · simp [Value.cells] at hcs
      obtain ⟨rfl, rfl, rfl⟩ := hcs
      exact ⟨zs, .inr ⟨_, rfl, hl, hm, by simpa using hz, hcell, hwz⟩⟩
  clear hA0 hval0
  refine (walk a0 len0 cap0 z0 W w0).mono fun e W' ⟨he, bel⟩ => ?_
  subst he
  exact ⟨_, rfl, _, _, _, [], _, [], hW', trodAll_mk1 (shut_bool Try.underlying4 _), (trodAll_cons_mk (Below.trod laidOut (by kernel_rfl) (of_decide_eq_true (by kernel_rfl)) k0 bel lt0) trodAll_mk0), rfl, bel.frame _, fun h => by cases h⟩

theorem over : Rows.fnGreatestRow.holds Try.pinned (OpenSpec.ofChange Rows.fnGreatestSpec) :=
  OpenClaim.holds_of_wide 3 Try.f3 rfl rfl rfl rfl rfl rfl rfl ⟨rfl, rfl, rfl, rfl, rfl⟩ rfl rfl rfl rfl rfl (by kernel_rfl) Try.func3 (by kernel_rfl)
    (of_decide_eq_true (by kernel_rfl)) (by unfold Func.isWrapper; first | (rw [if_pos (by decide +kernel)]; kernel_rfl) | (rw [if_neg (by decide +kernel)]; exact ⟨rfl, rfl⟩))
    (fun os started H enc _ => lifted os started H enc)

/-- ████ THE STATEMENT ████ -/
theorem proved : Rows.FnGreatestSaid := over
#print axioms proved
end Go.Proofs.Ytjnmfjfikldiiaa.fnGreatest
namespace Go.Proofs.Ytjnmfjfikldiiaa
theorem fnGreatest_holds : Rows.FnGreatestSaid := fnGreatest.proved
end Go.Proofs.Ytjnmfjfikldiiaa
