/- For every list of bytes the law FnExactTokens answers true and the list reads behind the call as it did before: no condition. -/
import Derived.Test.YtghklkfcfaaadagRows
import Derived.Test.YtghklkfcfaaadagTokFin
import Derived.WalkKit
import Derived.ProofKit
import Derived.OpenShut
import Derived.ShutString
import Derived.ChangeOld
import Derived.Below
namespace Go.Proofs.Ytghklkfcfaaadag.fnExactTokens
open Go.ChangeShapes Go.WideShapes Go.ChangeAt Go.RowKit
open Go.ChangeMaps (open_string shut_string)
set_option linter.unusedVariables false

theorem own : ownKnob Try.prog.godebug = none := by kernel_rfl
theorem laidOut : laidOutB Try.prog = true := by kernel_rfl

/-- WHAT THE WALK IS TOLD OF A SLICE OF INTEGERS THAT CAME IN: it is nil; or it leads to a row of 'cap' cells, the numbers 'zs' (the first 'len' are its elements, the rest its spare room), each fitting its kind. -/
def IsRow (k : IntKind) (w : World) (a : Option Addr) (len cap : Nat) (zs : List Int) : Prop :=
  (a = none ∧ len = 0 ∧ cap = 0 ∧ zs = []) ∨
  ∃ x, a = some x ∧ len ≤ cap ∧ cap ≤ maxLen ∧ zs.length = cap ∧ (∀ i, i < zs.length → w.cell? (x.add i) = some (.int k (zs.getD i 0))) ∧ ∀ n ∈ zs, (Lit.int k n).wf = true

theorem isRow_rd {w : World} {a : Option Addr} {len cap : Nat} {zs : List Int} (h : IsRow .u8 w a len cap zs) : Rd 0 w.heap.size w a len cap (zs.take len) := by
  rcases h with ⟨rfl, rfl, rfl, rfl⟩ | ⟨x, rfl, hl, hm, hz, hc, hwf⟩
  · exact Rd.none_of (by omega)
  · unfold maxLen at hm
    refine ⟨by simp; omega, ⟨hl, hm⟩, fun i => ?_, ?_⟩
    · have := range_u8 hwf i
      simp only [List.getD, List.getElem?_take]
      split
      · exact this
      · simp
    · by_cases h0 : len = 0
      · exact .inl h0
      · obtain ⟨b, off, spot⟩ := x
        have hc0 := hc 0 (by omega)
        have hspot : spot = none := by simpa [Addr.add] using World.cell?_spot hc0
        subst hspot
        refine .inr ⟨b, off, rfl, Nat.zero_le _, block_lt_of_cell hc0, fun i hi => ?_⟩
        have := hc i (by omega)
        simp only [List.getD, List.getElem?_take, if_pos hi]
        by_cases e : i = 0
        · subst e; simpa [Addr.add, List.getD] using this
        · simpa [Addr.add, e, List.getD] using this

theorem LeafOk.same {lo hi : Nat} {w w' : World} {L : List (Addr × IntKind)} (h : LeafOk w L) (hs : Same lo hi w w') (hb : ∀ x ∈ L, lo ≤ x.1.block ∧ x.1.block < hi) : LeafOk w' L := by
  intro x hx
  obtain ⟨⟨n, hn⟩, hf⟩ := h x hx
  obtain ⟨h1, h2⟩ := hb x hx
  exact ⟨⟨n, (hs.cell h1 h2).trans hn⟩, (World.frozen?_of_block (w := w) (hs _ h1 h2)).trans hf⟩

set_option maxHeartbeats 2000000 in
theorem walk (a0 : Option Addr) (len0 cap0 : Nat) (z0 : List Int) (w : World) (w0 : IsRow .u8 w a0 len0 cap0 z0) :
    Calls Try.prog 3 #[.slice a0 len0 cap0] w fun e w' => e = .returned (.bool true) ∧ Below w.heap.size w w' := by
  have hR := isRow_rd w0
  generalize z0.take len0 = zs at hR
  clear w0 z0
  by_cases hbig : 1048576 < len0
  · go_enter Try.func3, Try.ntmps3
    go_wp2
    go_ret
    exact ⟨rfl, Below.refl _ _⟩
  · have hle : len0 ≤ 1048576 := by omega
    have HL : Hid (zs.length = len0) := hR.len
    have HBy : Hid (∀ i, 0 ≤ zs.getD i 0 ∧ zs.getD i 0 ≤ 255) := hR.byte
    have HR : Hid (Rd 0 w.heap.size w a0 len0 cap0 zs) := hR
    obtain ⟨ts, p, htp⟩ : ∃ ts p, toks zs = (ts, p) := ⟨_, _, rfl⟩
    have HT : Hid (toks zs = (ts, p)) := htp
    have hbd := toks_bound zs
    rw [htp] at hbd
    obtain ⟨hts, htx⟩ := hbd
    have HTX : Hid (∀ i, (ts.getD i Tok.zero).text.length ≤ 1500) := htx
    have hpp : (p != p) = false := by simp
    clear hR htp htx
    go_enter Try.func3, Try.ntmps3
    go_wp2_with fail
    refine (toByteS_any _ _ _ zs _ HR.out (Nat.le_refl _) hle).mono ?_
    rintro e w1 ⟨rfl, hrow1, hb1⟩
    have hlt1 := hrow1.lt
    go_wp2_with fail
    refine (specTok_at _ _ _ zs ts p HT.out _ (hrow1.rd HL.out HBy.out (by omega) (Nat.le_refl _) (Nat.lt_succ_self _)) hlt1).mono ?_
    rintro e w2 ⟨aS, cS, rfl, hS, hb2⟩
    have hB2 := hb1.trans (hb2.mono hb1.size)
    have HS : Hid (RdT w1.heap.size w2.heap.size w2 aS ts.length cS ts) := hS
    clear hS
    go_wp2_with fail
    refine (toByteS_any _ _ _ zs _ (HR.out.below hB2 (Nat.le_refl _)) hB2.size hle).mono ?_
    rintro e w3 ⟨rfl, hrow3, hb3⟩
    have hB3 := hB2.trans (hb3.mono hB2.size)
    have hlt3 := hrow3.lt
    go_wp2_with fail
    refine (implTok_at _ _ _ _ zs ts p HT.out _ (hrow3.rd HL.out HBy.out (by omega) (Nat.zero_le _) hlt3) hlt3).mono ?_
    rintro e w4 ⟨aI, cI, gs, rfl, hO, hI, hb4⟩
    have hB4 := hB3.trans (hb4.mono hB3.size)
    obtain ⟨aL, cL, bL, hvL, haL, hHead, hLeaf, hNod, hBlk⟩ := hO.leaf (fun i => by have := HTX.out i; omega)
    simp only [Value.slice.injEq, true_and] at hvL
    obtain ⟨rfl, rfl⟩ := hvL
    have HI : Hid (RdT w3.heap.size w4.heap.size w4 aI ts.length cI ts) := hI
    have hlen := leafT_le bL 0 (txOf ts gs) 1500 (fun i => HTX.out i) ts.length
    have HLn : Hid (1 + ((leafT bL 0 (txOf ts gs) ts.length).length : Int) ≤ 1073741824) := by
      have : ts.length * (2 + 1500) ≤ 1500 * (2 + 1500) := Nat.mul_le_mul_right _ hts
      unfold Hid; omega
    have HHd : Hid (HeadT w4 bL 0 (txOf ts gs) ts.length) := hHead
    have HLf : Hid (LeafOk w4 (leafT bL 0 (txOf ts gs) ts.length)) := hLeaf
    have HNd : Hid (((leafT bL 0 (txOf ts gs) ts.length).map (·.1)).Nodup) := hNod
    have HBk : Hid (∀ x ∈ leafT bL 0 (txOf ts gs) ts.length, w3.heap.size ≤ x.1.block ∧ x.1.block < w4.heap.size) := hBlk
    have HbL : Hid (ts.length = 0 ∨ (w3.heap.size ≤ bL ∧ bL < w4.heap.size)) := by
      by_cases h0 : ts.length = 0
      · exact .inl h0
      · refine .inr (hBlk (⟨bL, 0 + 0 * 3, none⟩, .i64) ?_)
        obtain ⟨M, hM⟩ := leafT_chunk (b := bL) (off := 0) (tx := txOf ts gs) (show 0 < ts.length by omega)
        rw [hM]; simp
    have s12 : w1.heap.size ≤ w2.heap.size := hb2.size
    have s34 : w3.heap.size ≤ w4.heap.size := hb4.size
    have s01 := hb1.size
    have HS4 : Hid (RdT w1.heap.size w2.heap.size w4 aS ts.length cS ts) := HS.out.same ((Same.of_below hb3 (Nat.le_refl _)).trans (Same.of_below hb4 (by omega)))
    have HX4 : Hid (Row w4 w2.heap.size len0 zs) := hrow3.below hb4 hlt3
    have HB4 : Hid (Below w.heap.size w w4) := hB4
    clear hO hI hHead hLeaf hNod hBlk hlen HS hrow1 hrow3 hb1 hb2 hb3 hb4 hB2 hB3 hB4
    go_wp2_with fail
    refine (eqTokenS_same aI aS ts.length cI cS ts w4 HI.out HS4.out (Nat.le_refl _) (by omega)).mono ?_
    rintro e w5 ⟨rfl, hb5⟩
    have HB5 : Hid (Below w.heap.size w w5) := HB4.out.trans (hb5.mono HB4.out.size)
    have H45 : Hid (Below w4.heap.size w4 w5) := hb5
    have s45 := hb5.size
    clear hb5
    go_wp2_with fail
    refine (toByteS_any _ _ _ zs _ (HR.out.below HB5.out (Nat.le_refl _)) HB5.out.size hle).mono ?_
    rintro e w6 ⟨rfl, hrow6, hb6⟩
    have HB6 : Hid (Below w.heap.size w w6) := HB5.out.trans (hb6.mono HB5.out.size)
    have H46 : Hid (Below w4.heap.size w4 w6) := H45.out.trans (hb6.mono s45)
    have s56 := hb6.size
    have HX6 : Hid (Row w6 w2.heap.size len0 zs) := HX4.out.below H46.out (by omega)
    have HY6 : Hid (Row w6 w5.heap.size len0 zs) := hrow6
    clear hb6 hrow6
    go_wp2_with fail
    refine (eqByteS_any _ _ _ _ _ _ zs zs _ (HX6.out.rd HL.out HBy.out (by omega) (Nat.le_refl _) (Nat.lt_succ_self _)) (HY6.out.rd HL.out HBy.out (by omega) (Nat.le_refl _) (Nat.lt_succ_self _))).mono ?_
    rintro e w7 ⟨rfl, nd, hw7⟩
    have hdz : decide (zs = zs) = true := by simp
    rw [hdz]
    have H47 : Hid (Below w4.heap.size w4 w7) := by unfold Hid; rw [hw7]; exact below_drewN H46.out nd
    have HB7 : Hid (Below w.heap.size w w7) := by unfold Hid; rw [hw7]; exact below_drewN HB6.out nd
    have HX7 : Hid (Row w7 w2.heap.size len0 zs) := by unfold Hid; rw [hw7]; exact HX6.out.drewNOf
    have s67 : w6.heap.size = w7.heap.size := by rw [hw7]; rfl
    clear hw7 hdz
    go_wp2_with fail
    refine (markByteS_any (some ⟨w2.heap.size, 0, none⟩) len0 len0 1 w7 w2.heap.size 0 (.inr rfl) (leafB_ok HX7.out HL.out) hle (by omega)).mono ?_
    rintro e w8 ⟨rfl, hw8⟩
    have s78 : w7.heap.size = w8.heap.size := by rw [hw8, size_marks]
    have HB8 : Hid (Below w.heap.size w w8) := by unfold Hid; rw [hw8]; exact below_marks HB7.out (fun x hx => by rw [leafB_block x hx]; omega) 1
    have HS8 : Hid (RdT w1.heap.size w2.heap.size w8 aS ts.length cS ts) := by
      refine HS4.out.same ((Same.of_below H47.out (by omega)).trans ?_)
      rw [hw8]; exact same_marks (fun x hx => by rw [leafB_block x hx]; omega) 1
    have H48 : Hid (Same w3.heap.size w4.heap.size w4 w8) := by
      refine (Same.of_below H47.out (Nat.le_refl _)).trans ?_
      rw [hw8]; exact same_marks (fun x hx => by rw [leafB_block x hx]; omega) 1
    clear hw8
    go_wp2_with fail
    refine (eqTokenS_same aI aS ts.length cI cS ts w8 (HI.out.same H48.out) HS8.out (by omega) (by omega)).mono ?_
    rintro e w9 ⟨rfl, hb9⟩
    have HB9 : Hid (Below w.heap.size w w9) := HB8.out.trans (hb9.mono HB8.out.size)
    have HS9 : Hid (RdT w1.heap.size w2.heap.size w9 aS ts.length cS ts) := HS8.out.same (Same.of_below hb9 (by omega))
    have H49 : Hid (Same w3.heap.size w4.heap.size w4 w9) := H48.out.trans (Same.of_below hb9 (by omega))
    have s89 := hb9.size
    clear hb9
    have HHd9 : Hid (HeadT w9 bL 0 (txOf ts gs) ts.length) := HHd.out.same H49.out (by have := HbL.out; omega) (by have := HbL.out; omega)
    have HLf9 : Hid (LeafOk w9 (leafT bL 0 (txOf ts gs) ts.length)) := LeafOk.same HLf.out H49.out HBk.out
    go_wp2_with fail
    refine (markTokenS_any aI ts.length cI 1 w9 bL 0 (txOf ts gs) haL HHd9.out HLf9.out (by omega) (by omega) HLn.out).mono ?_
    rintro e w10 ⟨rfl, hw10⟩
    have s910 : w9.heap.size = w10.heap.size := by rw [hw10, size_marks]
    have HB10 : Hid (Below w.heap.size w w10) := by unfold Hid; rw [hw10]; exact below_marks HB9.out (fun x hx => by have := HBk.out x hx; omega) 1
    have HS10 : Hid (RdT w1.heap.size w2.heap.size w10 aS ts.length cS ts) := by
      refine HS9.out.same ?_
      rw [hw10]; exact same_marks (fun x hx => by have := HBk.out x hx; omega) 1
    have HHd10 : Hid (HeadT w10 bL 0 (txOf ts gs) ts.length) := by unfold Hid; rw [hw10]; exact HHd9.out.marks HLf9.out 1
    have HHe10 : Hid (Held w10 (leafT bL 0 (txOf ts gs) ts.length) 1) := by unfold Hid; rw [hw10]; exact held_marks HLf9.out HNd.out 1
    obtain ⟨m, hm⟩ : ∃ m : Int, m = 1 + ((leafT bL 0 (txOf ts gs) ts.length).length : Int) := ⟨_, rfl⟩
    have HM : Hid (m = 1 + ((leafT bL 0 (txOf ts gs) ts.length).length : Int)) := hm
    have hm0 : 0 ≤ m := by omega
    have hmm : (m != m) = false := by simp
    rw [← hm]
    clear hw10 hm
    go_wp2_with fail
    refine (heldTokenS_any aI ts.length cI 1 w10 bL 0 (txOf ts gs) haL HHd10.out HHe10.out (by omega) (by omega) HLn.out).mono ?_
    rintro e w11 ⟨rfl, hw11⟩
    rw [hw11, ← HM.out]
    clear hw11
    go_wp2_with fail
    refine (toByteS_any _ _ _ zs _ (HR.out.below HB10.out (Nat.le_refl _)) HB10.out.size hle).mono ?_
    rintro e w12 ⟨rfl, hrow12, hb12⟩
    have HB12 : Hid (Below w.heap.size w w12) := HB10.out.trans (hb12.mono HB10.out.size)
    have hlt12 := hrow12.lt
    have s12' := hb12.size
    have H1012 : Hid (Below w10.heap.size w10 w12) := hb12
    have HX12 : Hid (Row w12 w10.heap.size len0 zs) := hrow12
    clear hb12 hrow12
    go_wp2_with fail
    refine (implTok_at _ _ _ _ zs ts p HT.out _ (HX12.out.rd HL.out HBy.out (by omega) (Nat.zero_le _) hlt12) hlt12).mono ?_
    rintro e w13 ⟨aH, cH, gsH, rfl, _, hH, hb13⟩
    have HB13 : Hid (Below w.heap.size w w13) := HB12.out.trans (hb13.mono HB12.out.size)
    have H1013 : Hid (Below w10.heap.size w10 w13) := H1012.out.trans (hb13.mono s12')
    have HH : Hid (RdT w12.heap.size w13.heap.size w13 aH ts.length cH ts) := hH
    have s13 := hb13.size
    have HS13 : Hid (RdT w1.heap.size w2.heap.size w13 aS ts.length cS ts) := HS10.out.same (Same.of_below H1013.out (by omega))
    clear hH hb13
    go_wp2_with fail
    refine (eqTokenS_same aH aS ts.length cH cS ts w13 HH.out HS13.out (Nat.le_refl _) (by omega)).mono ?_
    rintro e w14 ⟨rfl, hb14⟩
    have HB14 : Hid (Below w.heap.size w w14) := HB13.out.trans (hb14.mono HB13.out.size)
    have HSm : Hid (Same w3.heap.size w4.heap.size w10 w14) := (Same.of_below H1013.out (by omega)).trans (Same.of_below hb14 (by omega))
    have HHd14 : Hid (HeadT w14 bL 0 (txOf ts gs) ts.length) := HHd10.out.same HSm.out (by have := HbL.out; omega) (by have := HbL.out; omega)
    have HHe14 : Hid (Held w14 (leafT bL 0 (txOf ts gs) ts.length) 1) := Held.same HSm.out HBk.out HHe10.out
    clear hb14
    go_wp2_with fail
    refine (heldTokenS_any aI ts.length cI 1 w14 bL 0 (txOf ts gs) haL HHd14.out HHe14.out (by omega) (by omega) HLn.out).mono ?_
    rintro e w15 ⟨rfl, hw15⟩
    rw [hw15, ← HM.out]
    clear hw15
    go_wp2
    go_ret
    exact ⟨rfl, HB14.out⟩

/-! ### THE ROW's STEP: WRITTEN OUT: LEAVE IT -/
set_option maxRecDepth 100000 in
theorem lifted (os : Os) (started : os.Started) (H : Type) (enc : TypeId × Value → H) :
    ReturnsInHanded {} Try.checked os 3 .any (Rows.fnExactTokensSpec.pre6 enc Try.prog Try.f3 Rows.fnExactTokensRow.domain false) (Rows.fnExactTokensSpec.post enc Try.prog Try.f3 false true false false) := by
  refine returnsInHanded_of_change (C := Try.checked) own started (by kernel_rfl) Try.func3
    (ChangeSpec.witness6 (enc := enc) (C := Try.checked) false ⟨#[], #[.slice none 0 0], []⟩ 8 (by kernel_rfl) (by kernel_rfl) (by kernel_rfl) (by kernel_rfl)) ?_
  intro W base args ds gs before hval0 hW hcnd _
  have hval : ∀ (j : Nat) t v, Try.f3.params[j]? = some t → args[j]? = some v → Value.okWide Try.prog W .any base t v := hval0
  have hW' := hW
  obtain ⟨p, q, hA0, hV, rfl, hfz, hnd⟩ := hW
  have hA : DataW.TrodAll enc Try.prog W 0 (fun _ => true) true Try.f3.params.toList args.toList ds p := hA0
  rw [Try.params3] at hA hval
  obtain ⟨v0, vs0, d0, ds0, p0, q0, hargs, rfl, rfl, h0, r0⟩ := trodAll_cons hA
  obtain ⟨rfl, rfl, rfl⟩ := trodAll_nil r0
  obtain rfl : args = #[v0] := by cases args; simp_all
  obtain ⟨rfl, rfl⟩ := trodVars_none hV
  obtain ⟨a0, len0, cap0, rfl⟩ := okWide_slice Try.underlying22 (hval 0 22 v0 rfl rfl)
  have k0 := h0
  have lt0 : ∀ x ∈ p0, x.block < W.heap.size := by obtain ⟨m, hm⟩ := k0; exact DataW.trod_lt m _ _ _ hm
  obtain ⟨z0, w0⟩ : ∃ zs, IsRow .u8 W a0 len0 cap0 zs := by
    obtain ⟨fuel, hf⟩ := h0
    rcases open_ints Try.underlying22 Try.underlying5 (by kernel_rfl) hf with ⟨hcs, _⟩ | ⟨x, l, c, zs, hcs, _, hl, hm, hz, _, hcell, hwz⟩
    · simp [Value.cells] at hcs
      obtain ⟨rfl, rfl, rfl⟩ := hcs
      exact ⟨[], .inl ⟨rfl, rfl, rfl, rfl⟩⟩
    · simp [Value.cells] at hcs
      obtain ⟨rfl, rfl, rfl⟩ := hcs
      exact ⟨zs, .inr ⟨_, rfl, hl, hm, by simpa using hz, hcell, hwz⟩⟩
  clear hA0 hval0
  refine (walk a0 len0 cap0 z0 W w0).mono fun e W' ⟨he, bel⟩ => ?_
  subst he
  exact ⟨_, rfl, _, _, _, [], _, [], hW', trodAll_mk1 (shut_bool Try.underlying4 _), (trodAll_cons_mk (Below.trod laidOut (by kernel_rfl) (of_decide_eq_true (by kernel_rfl)) k0 bel lt0) trodAll_mk0), rfl, bel.frame _, fun h => by cases h⟩

theorem over : Rows.fnExactTokensRow.holds Try.pinned (OpenSpec.ofChange Rows.fnExactTokensSpec) :=
  OpenClaim.holds_of_wide 3 Try.f3 rfl rfl rfl rfl rfl rfl rfl ⟨rfl, rfl, rfl, rfl, rfl⟩ rfl rfl rfl rfl rfl (by kernel_rfl) Try.func3 (by kernel_rfl)
    (of_decide_eq_true (by kernel_rfl)) (by unfold Func.isWrapper; first | (rw [if_pos (by decide +kernel)]; kernel_rfl) | (rw [if_neg (by decide +kernel)]; exact ⟨rfl, rfl⟩))
    (fun os started H enc _ => lifted os started H enc)

/-- ████ THE STATEMENT ████ -/
theorem proved : Rows.FnExactTokensSaid := over
#print axioms proved
end Go.Proofs.Ytghklkfcfaaadag.fnExactTokens
namespace Go.Proofs.Ytghklkfcfaaadag
theorem fnExactTokens_holds : Rows.FnExactTokensSaid := fnExactTokens.proved
end Go.Proofs.Ytghklkfcfaaadag
