/- For every list of bytes the law FnExactConRead answers true and the list reads behind the call as it did before: no condition. -/
import Derived.Test.YthojlfcahhjfaaaRows
import Derived.Test.YthojlfcahhjfaaaReadS8
import Derived.Test.YthojlfcahhjfaaaConFin
import Derived.Test.YthojlfcahhjfaaaConEq
import Derived.WalkKit
import Derived.ProofKit
import Derived.OpenShut
import Derived.ShutString
import Derived.ChangeOld
import Derived.Below
namespace Go.Proofs.Ythojlfcahhjfaaa.fnExactConRead
open Go.ChangeShapes Go.WideShapes Go.ChangeAt Go.RowKit
open Go.ChangeMaps (open_string shut_string)
set_option linter.unusedVariables false

theorem own : ownKnob Try.prog.godebug = none := by kernel_rfl
theorem laidOut : laidOutB Try.prog = true := by kernel_rfl

/-- WHAT THE WALK IS TOLD OF A SLICE OF INTEGERS THAT CAME IN: it is nil; or it leads to a row of 'cap' cells, the numbers 'zs' (the first 'len' are its elements, the rest its spare room), each fitting its kind. -/
def IsRow (k : IntKind) (w : World) (a : Option Addr) (len cap : Nat) (zs : List Int) : Prop :=
  (a = none ∧ len = 0 ∧ cap = 0 ∧ zs = []) ∨
  ∃ x, a = some x ∧ len ≤ cap ∧ cap ≤ maxLen ∧ zs.length = cap ∧ (∀ i, i < zs.length → w.cell? (x.add i) = some (.int k (zs.getD i 0))) ∧ ∀ n ∈ zs, (Lit.int k n).wf = true

theorem isRow_rd {w : World} {a : Option Addr} {len cap : Nat} {zs : List Int} (h : IsRow .u8 w a len cap zs) : Rd 0 w.heap.size w a len cap (zs.take len) := by
  rcases h with ⟨rfl, rfl, rfl, rfl⟩ | ⟨x, rfl, hl, hm, hz, hc, hwf⟩
  · exact Rd.none_of (by omega)
  · unfold maxLen at hm
    refine ⟨by simp; omega, ⟨hl, hm⟩, fun i => ?_, ?_⟩
    · have := range_u8 hwf i
      simp only [List.getD, List.getElem?_take]
      split
      · exact this
      · simp
    · by_cases h0 : len = 0
      · exact .inl h0
      · obtain ⟨b, off, spot⟩ := x
        have hc0 := hc 0 (by omega)
        have hspot : spot = none := by simpa [Addr.add] using World.cell?_spot hc0
        subst hspot
        refine .inr ⟨b, off, rfl, Nat.zero_le _, block_lt_of_cell hc0, fun i hi => ?_⟩
        have := hc i (by omega)
        simp only [List.getD, List.getElem?_take, if_pos hi]
        by_cases e : i = 0
        · subst e; simpa [Addr.add, List.getD] using this
        · simpa [Addr.add, e, List.getD] using this

theorem LeafOk.same {lo hi : Nat} {w w' : World} {L : List (Addr × IntKind)} (h : LeafOk w L) (hs : Same lo hi w w') (hb : ∀ x ∈ L, lo ≤ x.1.block ∧ x.1.block < hi) : LeafOk w' L := by
  intro x hx
  obtain ⟨⟨n, hn⟩, hf⟩ := h x hx
  obtain ⟨h1, h2⟩ := hb x hx
  exact ⟨⟨n, (hs.cell h1 h2).trans hn⟩, (World.frozen?_of_block (w := w) (hs _ h1 h2)).trans hf⟩

theorem ownC_shape {base : Nat} {w : World} {d : Nat} {v : Value} {c : CN} {L : List (Addr × IntKind)} (h : OwnC base w d v c L) : ∃ k na nn nc ra rn rc ka kn kc, v = .agg #[.int .i64 k, .slice na nn nc, .slice ra rn rc, .slice ka kn kc] := by
  obtain ⟨na, nn, nc, ra, rn, rc, ka, kn, kc, e⟩ := h.ow.agg
  exact ⟨_, na, nn, nc, ra, rn, rc, ka, kn, kc, e⟩

set_option maxRecDepth 100000 in
set_option maxHeartbeats 4000000 in
theorem walk (a0 : Option Addr) (len0 cap0 : Nat) (z0 : List Int) (w : World) (w0 : IsRow .u8 w a0 len0 cap0 z0) :
    Calls Try.prog 7 #[.slice a0 len0 cap0] w fun e w' => e = .returned (.bool true) ∧ Below w.heap.size w w' := by
  have hR := isRow_rd w0
  generalize z0.take len0 = zs at hR
  clear w0 z0
  by_cases hbig : 1048576 < len0
  · go_enter Try.func7, Try.ntmps7
    go_wp2
    go_ret
    exact ⟨rfl, Below.refl _ _⟩
  · have hle : len0 ≤ 1048576 := by omega
    have HL : Hid (zs.length = len0) := hR.len
    have HBy : Hid (∀ i, 0 ≤ zs.getD i 0 ∧ zs.getD i 0 ≤ 255) := hR.byte
    have HR : Hid (Rd 0 w.heap.size w a0 len0 cap0 zs) := hR
    obtain ⟨c, p, hcp⟩ : ∃ c p, conRead zs = (c, p) := ⟨_, _, rfl⟩
    have HT : Hid (conRead zs = (c, p)) := hcp
    have HBk : Hid (c.bulk ≤ 10500) := by have := conRead_bulk zs (toks_bound zs).1; rw [hcp] at this; exact this
    have hpp : (p != p) = false := by simp
    obtain ⟨d, hd6⟩ : ∃ d : Nat, d = 6 := ⟨_, rfl⟩
    have HD : Hid (d = 6) := hd6
    clear hd6
    clear hR hcp
    go_enter Try.func7, Try.ntmps7
    go_wp2_with fail
    refine (toByteS_any _ _ _ zs _ HR.out (Nat.le_refl _) hle).mono ?_
    rintro e w1 ⟨rfl, hrow1, hb1⟩
    have hlt1 := hrow1.lt
    go_wp2_with fail
    refine (specConRead_any _ _ _ zs _ (hrow1.rd HL.out HBy.out (by omega) (Nat.le_refl _) (Nat.lt_succ_self _)) hlt1).mono ?_
    rintro e w2 hA
    rw [HT.out] at hA
    obtain ⟨vS, LS, rfl, hS6, hb2⟩ := hA
    obtain ⟨sk, sna, snn, snc, sra, srn, src, ska, skn, skc, rfl⟩ := ownC_shape hS6
    have hS : OwnC w1.heap.size w2 d (.agg #[.int .i64 sk, .slice sna snn snc, .slice sra srn src, .slice ska skn skc]) c LS := by rw [HD.out]; exact hS6
    have s01 := hb1.size
    have s12 : w1.heap.size ≤ w2.heap.size := hb2.size
    obtain ⟨w2a, hw2a⟩ : ∃ W, W = w2.alloc (.cells #[.int .i64 sk, .slice sna snn snc, .slice sra srn src, .slice ska skn skc] 35) := ⟨_, rfl⟩
    have HW2A : Hid (w2a = w2.alloc (.cells #[.int .i64 sk, .slice sna snn snc, .slice sra srn src, .slice ska skn skc] 35)) := hw2a
    have hbw2a : Below w2.heap.size w2 w2a := by rw [hw2a]; exact (Below.refl _ _).alloc (Nat.le_refl _) _
    have sw2a : w2.heap.size < w2a.heap.size := by rw [hw2a]; simp
    have HBS : Hid (BoxC w2a w2.heap.size (.int .i64 sk) (.slice sna snn snc) (.slice sra srn src) (.slice ska skn skc)) := by unfold Hid; rw [hw2a]; exact BoxC.new w2 _ _ _ _
    have HS : Hid (RdC w1.heap.size w2.heap.size w2a d (.agg #[.int .i64 sk, .slice sna snn snc, .slice sra srn src, .slice ska skn skc]) c) := hS.rd.below hbw2a (Nat.le_refl _)
    have HB2 : Hid (Below w.heap.size w w2a) := (hb1.trans (hb2.mono hb1.size)).trans (hbw2a.mono (by omega))
    clear hrow1 hb1 hb2 hS hS6 hw2a hbw2a
    go_wp2_with fail
    rw [← HW2A.out]
    refine (toByteS_any _ _ _ zs _ (HR.out.below HB2.out (Nat.le_refl _)) HB2.out.size hle).mono ?_
    rintro e w3 ⟨rfl, hrow3, hb3⟩
    have hlt3 := hrow3.lt
    have HB3 : Hid (Below w.heap.size w w3) := HB2.out.trans (hb3.mono HB2.out.size)
    have HS3 : Hid (RdC w1.heap.size w2.heap.size w3 d (.agg #[.int .i64 sk, .slice sna snn snc, .slice sra srn src, .slice ska skn skc]) c) := HS.out.below hb3 (by omega)
    have HBS3 : Hid (BoxC w3 w2.heap.size (.int .i64 sk) (.slice sna snn snc) (.slice sra srn src) (.slice ska skn skc)) := HBS.out.below hb3 sw2a
    have HX3 : Hid (Row w3 w2a.heap.size len0 zs) := hrow3
    have s23 : w2a.heap.size ≤ w3.heap.size := hb3.size
    clear hb3 hrow3
    go_wp2_with fail
    refine (implConRead_any _ _ _ _ zs _ (HX3.out.rd HL.out HBy.out (by omega) (Nat.zero_le _) hlt3) hlt3).mono ?_
    rintro e w4 hA
    rw [HT.out] at hA
    obtain ⟨vG, L, rfl, hG6, hb4⟩ := hA
    obtain ⟨gk, gna, gnn, gnc, gra, grn, grc, gka, gkn, gkc, rfl⟩ := ownC_shape hG6
    have hG : OwnC w3.heap.size w4 d (.agg #[.int .i64 gk, .slice gna gnn gnc, .slice gra grn grc, .slice gka gkn gkc]) c L := by rw [HD.out]; exact hG6
    have s34 : w3.heap.size ≤ w4.heap.size := hb4.size
    obtain ⟨w4a, hw4a⟩ : ∃ W, W = w4.alloc (.cells #[.int .i64 gk, .slice gna gnn gnc, .slice gra grn grc, .slice gka gkn gkc] 35) := ⟨_, rfl⟩
    have HW4A : Hid (w4a = w4.alloc (.cells #[.int .i64 gk, .slice gna gnn gnc, .slice gra grn grc, .slice gka gkn gkc] 35)) := hw4a
    have hbw4a : Below w4.heap.size w4 w4a := by rw [hw4a]; exact (Below.refl _ _).alloc (Nat.le_refl _) _
    have sw4a : w4.heap.size < w4a.heap.size := by rw [hw4a]; simp
    have HBG : Hid (BoxC w4a w4.heap.size (.int .i64 gk) (.slice gna gnn gnc) (.slice gra grn grc) (.slice gka gkn gkc)) := by unfold Hid; rw [hw4a]; exact BoxC.new w4 _ _ _ _
    have h34 : Below w3.heap.size w3 w4a := hb4.trans (hbw4a.mono s34)
    have HG4 : Hid (OwnC w3.heap.size w4a d (.agg #[.int .i64 gk, .slice gna gnn gnc, .slice gra grn grc, .slice gka gkn gkc]) c L) := OwnC.below hG hbw4a
    have HGr : Hid (RdC w3.heap.size w4.heap.size w4a d (.agg #[.int .i64 gk, .slice gna gnn gnc, .slice gra grn grc, .slice gka gkn gkc]) c) := hG.rd.below hbw4a (Nat.le_refl _)
    have HbL : Hid (∀ x ∈ L, w3.heap.size ≤ x.1.block ∧ x.1.block < w4.heap.size) := hG.bl
    have HND : Hid ((L.map (·.1)).Nodup) := hG.nd
    have HB4 : Hid (Below w.heap.size w w4a) := HB3.out.trans (h34.mono HB3.out.size)
    have HS4 : Hid (RdC w1.heap.size w2.heap.size w4a d (.agg #[.int .i64 sk, .slice sna snn snc, .slice sra srn src, .slice ska skn skc]) c) := HS3.out.below h34 (by omega)
    have HBS4 : Hid (BoxC w4a w2.heap.size (.int .i64 sk) (.slice sna snn snc) (.slice sra srn src) (.slice ska skn skc)) := HBS3.out.below h34 (by omega)
    have HX4 : Hid (Row w4a w2a.heap.size len0 zs) := HX3.out.below h34 hlt3
    obtain ⟨n, hnn⟩ : ∃ n, n = L.length := ⟨_, rfl⟩
    have HNl : Hid (n = L.length) := hnn
    have hn : n ≤ 10500 := by rw [hnn, hG.ow.bulk]; exact HBk.out
    have hneq : ((1 + (n : Int)) != (1 + (n : Int))) = false := by simp
    have hnlt : ¬ (1 + (n : Int) < 0) := by omega
    obtain ⟨p0, p1, p2, p3⟩ := HBS4.out.cells
    obtain ⟨g0, g1, g2, g3⟩ := HBG.out.cells
    clear hb4 h34 hbw4a hw4a hG hG6 hnn
    go_upto_region 6 with fail
    rw [← HW4A.out]
    go_wp2_with fail
    refine (eqC_any d _ _ c d w4a w3.heap.size w4.heap.size w1.heap.size w2.heap.size HGr.out HS4.out (by omega) (by omega)).mono ?_
    rintro e w5 ⟨rfl, hb5⟩
    have s45 := hb5.size
    have H45 : Hid (Below w4a.heap.size w4a w5) := hb5
    have HB5 : Hid (Below w.heap.size w w5) := HB4.out.trans (hb5.mono HB4.out.size)
    clear hb5 p0 p1 p2 p3 g0 g1 g2 g3
    go_wp2_with fail
    refine (toByteS_any _ _ _ zs _ (HR.out.below HB5.out (Nat.le_refl _)) HB5.out.size hle).mono ?_
    rintro e w6 ⟨rfl, hrow6, hb6⟩
    have s56 := hb6.size
    have H46 : Hid (Below w4a.heap.size w4a w6) := H45.out.trans (hb6.mono s45)
    have HB6 : Hid (Below w.heap.size w w6) := HB5.out.trans (hb6.mono HB5.out.size)
    have HX6 : Hid (Row w6 w2a.heap.size len0 zs) := HX4.out.below H46.out (by omega)
    have HY6 : Hid (Row w6 w5.heap.size len0 zs) := hrow6
    clear hb6 hrow6
    go_wp2_with fail
    refine (eqByteS_any _ _ _ _ _ _ zs zs _ (HX6.out.rd HL.out HBy.out (by omega) (Nat.le_refl _) (Nat.lt_succ_self _)) (HY6.out.rd HL.out HBy.out (by omega) (Nat.le_refl _) (Nat.lt_succ_self _))).mono ?_
    rintro e w7 ⟨rfl, nd, hw7⟩
    have hdz : decide (zs = zs) = true := by simp
    rw [hdz]
    have H47 : Hid (Below w4a.heap.size w4a w7) := by unfold Hid; rw [hw7]; exact below_drewN H46.out nd
    have HB7 : Hid (Below w.heap.size w w7) := by unfold Hid; rw [hw7]; exact below_drewN HB6.out nd
    have HX7 : Hid (Row w7 w2a.heap.size len0 zs) := by unfold Hid; rw [hw7]; exact HX6.out.drewNOf
    have s67 : w6.heap.size = w7.heap.size := by rw [hw7]; rfl
    clear hw7 hdz
    go_wp2_with fail
    refine (markByteS_any (some ⟨w2a.heap.size, 0, none⟩) len0 len0 1 w7 w2a.heap.size 0 (.inr rfl) (leafB_ok HX7.out HL.out) hle (by omega)).mono ?_
    rintro e w8 ⟨rfl, hw8⟩
    have s78 : w7.heap.size = w8.heap.size := by rw [hw8, size_marks]
    have hlq : ¬ (1 + (len0 : Int) < 0) := by omega
    have HB8 : Hid (Below w.heap.size w w8) := by unfold Hid; rw [hw8]; exact below_marks HB7.out (fun x hx => by rw [leafB_block x hx]; omega) 1
    have hblk : ∀ b, b < w4a.heap.size → b ≠ w2a.heap.size → w8.heap[b]? = w4a.heap[b]? := fun b h1 h2 => by
      rw [hw8]
      have h3 : Same b (b + 1) w7 (marks w7 (leafB w2a.heap.size 0 len0) 1) := same_marks (fun x hx => by rw [leafB_block x hx]; omega) 1
      exact (h3 b (Nat.le_refl _) (by omega)).trans (H47.out.block b h1)
    have HG8 : Hid (OwnC w3.heap.size w8 d (.agg #[.int .i64 gk, .slice gna gnn gnc, .slice gra grn grc, .slice gka gkn gkc]) c L) := by
      unfold Hid
      exact ⟨HG4.out.ow.keep (fun x hx => hblk _ (by have := HbL.out x hx; omega) (by have := HbL.out x hx; omega)), HG4.out.nd, fun x hx => (World.frozen?_of_block (w := w4a) (hblk _ (by have := HbL.out x hx; omega) (by have := HbL.out x hx; omega))).trans (HG4.out.fr x hx), fun x hx => by have := HbL.out x hx; omega⟩
    have HGr8 : Hid (RdC w3.heap.size w4.heap.size w8 d (.agg #[.int .i64 gk, .slice gna gnn gnc, .slice gra grn grc, .slice gka gkn gkc]) c) := HGr.out.same (fun b h1 h2 => hblk b (by omega) (by omega))
    have HS8 : Hid (RdC w1.heap.size w2.heap.size w8 d (.agg #[.int .i64 sk, .slice sna snn snc, .slice sra srn src, .slice ska skn skc]) c) := HS4.out.same (fun b h1 h2 => hblk b (by omega) (by omega))
    have HBG8 : Hid (BoxC w8 w4.heap.size (.int .i64 gk) (.slice gna gnn gnc) (.slice gra grn grc) (.slice gka gkn gkc)) := (hblk _ (by omega) (by omega)).trans HBG.out
    have HBS8 : Hid (BoxC w8 w2.heap.size (.int .i64 sk) (.slice sna snn snc) (.slice sra srn src) (.slice ska skn skc)) := (hblk _ (by omega) (by omega)).trans HBS4.out
    obtain ⟨g0, g1, g2, g3⟩ := HBG8.out.cells
    obtain ⟨p0, p1, p2, p3⟩ := HBS8.out.cells
    clear hw8 hblk
    go_wp2_with fail
    refine (eqC_any d _ _ c d w8 w3.heap.size w4.heap.size w1.heap.size w2.heap.size HGr8.out HS8.out (by omega) (by omega)).mono ?_
    rintro e w9 ⟨rfl, hb9⟩
    have s89 := hb9.size
    have HB9 : Hid (Below w.heap.size w w9) := HB8.out.trans (hb9.mono HB8.out.size)
    have HG9 : Hid (OwnC w3.heap.size w9 d (.agg #[.int .i64 gk, .slice gna gnn gnc, .slice gra grn grc, .slice gka gkn gkc]) c L) := OwnC.below HG8.out hb9
    have HS9 : Hid (RdC w1.heap.size w2.heap.size w9 d (.agg #[.int .i64 sk, .slice sna snn snc, .slice sra srn src, .slice ska skn skc]) c) := HS8.out.below hb9 (by omega)
    have HBG9 : Hid (BoxC w9 w4.heap.size (.int .i64 gk) (.slice gna gnn gnc) (.slice gra grn grc) (.slice gka gkn gkc)) := HBG8.out.below hb9 (by omega)
    have HBS9 : Hid (BoxC w9 w2.heap.size (.int .i64 sk) (.slice sna snn snc) (.slice sra srn src) (.slice ska skn skc)) := HBS8.out.below hb9 (by omega)
    clear hb9 g0 g1 g2 g3 p0 p1 p2 p3
    obtain ⟨g0, g1, g2, g3⟩ := HBG9.out.cells
    go_wp2_with fail
    refine (markCon_ex gk _ _ _ 1 w9 HG9.out.ow.lv HG9.out.leafOk (by rw [← HNl.out]; omega) (by omega) (by omega)).mono ?_
    rintro e w10 ⟨rfl, V, hbV, hw10⟩
    rw [← HNl.out]
    have sV := hbV.size
    have s10 : V.heap.size = w10.heap.size := by rw [hw10, size_marks]
    have hLV : LeafOk V L := HG9.out.leafOk.below hbV
    have hblk : ∀ b, b < w9.heap.size → (b < w3.heap.size ∨ w4.heap.size ≤ b) → w10.heap[b]? = w9.heap[b]? := fun b h1 h2 => by
      rw [hw10]
      have h3 : Same b (b + 1) V (marks V L 1) := same_marks (fun x hx => by have := HbL.out x hx; omega) 1
      exact (h3 b (Nat.le_refl _) (by omega)).trans (hbV.block b h1)
    have HB10 : Hid (Below w.heap.size w w10) := by
      unfold Hid
      rw [hw10]
      exact below_marks (HB9.out.trans (hbV.mono (by omega))) (fun x hx => by have := HbL.out x hx; omega) 1
    have HS10 : Hid (RdC w1.heap.size w2.heap.size w10 d (.agg #[.int .i64 sk, .slice sna snn snc, .slice sra srn src, .slice ska skn skc]) c) := HS9.out.same (fun b h1 h2 => hblk b (by omega) (.inl (by omega)))
    have HBS10 : Hid (BoxC w10 w2.heap.size (.int .i64 sk) (.slice sna snn snc) (.slice sra srn src) (.slice ska skn skc)) := (hblk _ (by omega) (.inl (by omega))).trans HBS9.out
    have HBG10 : Hid (BoxC w10 w4.heap.size (.int .i64 gk) (.slice gna gnn gnc) (.slice gra grn grc) (.slice gka gkn gkc)) := (hblk _ (by omega) (.inr (by omega))).trans HBG9.out
    have HHe : Hid (Held w10 L 1) := by unfold Hid; rw [hw10]; exact held_marks hLV HND.out 1
    have HLv : Hid (LvC w10 d (.slice gna gnn gnc) (.slice gra grn grc) (.slice gka gkn gkc) L) := by
      unfold Hid
      rw [hw10]
      exact (HG9.out.ow.lv.keep (KeepS.of_below hbV)).keep (keepS_marks hLV 1)
    clear hw10 hbV hLV hblk g0 g1 g2 g3
    obtain ⟨g0, g1, g2, g3⟩ := HBG10.out.cells
    go_wp2_with fail
    refine (heldCon_ex gk _ _ _ 1 w10 HLv.out HHe.out (by rw [← HNl.out]; omega) (by omega) (by omega)).mono ?_
    rintro e w11 ⟨rfl, hb11⟩
    rw [← HNl.out]
    have s11 := hb11.size
    have H1011 : Hid (Below w10.heap.size w10 w11) := hb11
    have HB11 : Hid (Below w.heap.size w w11) := HB10.out.trans (hb11.mono HB10.out.size)
    clear hb11 g0 g1 g2 g3
    go_wp2_with fail
    refine (toByteS_any _ _ _ zs _ (HR.out.below HB11.out (Nat.le_refl _)) HB11.out.size hle).mono ?_
    rintro e w12 ⟨rfl, hrow12, hb12⟩
    have hlt12 := hrow12.lt
    have s12' := hb12.size
    have H1012 : Hid (Below w10.heap.size w10 w12) := H1011.out.trans (hb12.mono s11)
    have HB12 : Hid (Below w.heap.size w w12) := HB11.out.trans (hb12.mono HB11.out.size)
    have HX12 : Hid (Row w12 w11.heap.size len0 zs) := hrow12
    clear hb12 hrow12
    go_wp2_with fail
    refine (implConRead_any _ _ _ _ zs _ (HX12.out.rd HL.out HBy.out (by omega) (Nat.zero_le _) hlt12) hlt12).mono ?_
    rintro e w13 hA
    rw [HT.out] at hA
    obtain ⟨vH, LH, rfl, hH6, hb13⟩ := hA
    obtain ⟨hk, hna, hnn, hnc, hra, hrn, hrc, hka, hkn, hkc, rfl⟩ := ownC_shape hH6
    have hH : OwnC w12.heap.size w13 d (.agg #[.int .i64 hk, .slice hna hnn hnc, .slice hra hrn hrc, .slice hka hkn hkc]) c LH := by rw [HD.out]; exact hH6
    have s13 : w12.heap.size ≤ w13.heap.size := hb13.size
    obtain ⟨w13a, hw13a⟩ : ∃ W, W = w13.alloc (.cells #[.int .i64 hk, .slice hna hnn hnc, .slice hra hrn hrc, .slice hka hkn hkc] 35) := ⟨_, rfl⟩
    have HW13A : Hid (w13a = w13.alloc (.cells #[.int .i64 hk, .slice hna hnn hnc, .slice hra hrn hrc, .slice hka hkn hkc] 35)) := hw13a
    have hbw13a : Below w13.heap.size w13 w13a := by rw [hw13a]; exact (Below.refl _ _).alloc (Nat.le_refl _) _
    have sw13a : w13.heap.size < w13a.heap.size := by rw [hw13a]; simp
    have HBH : Hid (BoxC w13a w13.heap.size (.int .i64 hk) (.slice hna hnn hnc) (.slice hra hrn hrc) (.slice hka hkn hkc)) := by unfold Hid; rw [hw13a]; exact BoxC.new w13 _ _ _ _
    have h1213 : Below w12.heap.size w12 w13a := hb13.trans (hbw13a.mono s13)
    have H1013 : Hid (Below w10.heap.size w10 w13a) := H1012.out.trans (h1213.mono (by omega))
    have HB13 : Hid (Below w.heap.size w w13a) := HB12.out.trans (h1213.mono HB12.out.size)
    have HHr : Hid (RdC w12.heap.size w13.heap.size w13a d (.agg #[.int .i64 hk, .slice hna hnn hnc, .slice hra hrn hrc, .slice hka hkn hkc]) c) := hH.rd.below hbw13a (Nat.le_refl _)
    have HS13 : Hid (RdC w1.heap.size w2.heap.size w13a d (.agg #[.int .i64 sk, .slice sna snn snc, .slice sra srn src, .slice ska skn skc]) c) := HS10.out.below H1013.out (by omega)
    have HBS13 : Hid (BoxC w13a w2.heap.size (.int .i64 sk) (.slice sna snn snc) (.slice sra srn src) (.slice ska skn skc)) := HBS10.out.below H1013.out (by omega)
    obtain ⟨p0, p1, p2, p3⟩ := HBS13.out.cells
    obtain ⟨g0, g1, g2, g3⟩ := HBH.out.cells
    clear hb13 h1213 hbw13a hw13a hH hH6
    go_upto_region 23 with fail
    rw [← HW13A.out]
    go_wp2_with fail
    refine (eqC_any d _ _ c d w13a w12.heap.size w13.heap.size w1.heap.size w2.heap.size HHr.out HS13.out (by omega) (by omega)).mono ?_
    rintro e w14 ⟨rfl, hb14⟩
    have s14 := hb14.size
    have H1014 : Hid (Below w10.heap.size w10 w14) := H1013.out.trans (hb14.mono (by omega))
    have HB14 : Hid (Below w.heap.size w w14) := HB13.out.trans (hb14.mono HB13.out.size)
    have HBG14 : Hid (BoxC w14 w4.heap.size (.int .i64 gk) (.slice gna gnn gnc) (.slice gra grn grc) (.slice gka gkn gkc)) := HBG10.out.below H1014.out (by omega)
    have HHe14 : Hid (Held w14 L 1) := Held.below H1014.out HHe.out
    have HLv14 : Hid (LvC w14 d (.slice gna gnn gnc) (.slice gra grn grc) (.slice gka gkn gkc) L) := HLv.out.keep (KeepS.of_below H1014.out)
    clear hb14 p0 p1 p2 p3 g0 g1 g2 g3
    obtain ⟨g0, g1, g2, g3⟩ := HBG14.out.cells
    go_wp2_with fail
    refine (heldCon_ex gk _ _ _ 1 w14 HLv14.out HHe14.out (by rw [← HNl.out]; omega) (by omega) (by omega)).mono ?_
    rintro e w15 ⟨rfl, hb15⟩
    rw [← HNl.out]
    have HB15 : Hid (Below w.heap.size w w15) := HB14.out.trans (hb15.mono HB14.out.size)
    clear hb15 g0 g1 g2 g3
    go_wp2
    go_ret
    exact ⟨rfl, HB15.out⟩

/-! ### THE ROW's STEP: WRITTEN OUT: LEAVE IT -/
set_option maxRecDepth 100000 in
theorem lifted (os : Os) (started : os.Started) (H : Type) (enc : TypeId × Value → H) :
    ReturnsInHanded {} Try.checked os 7 .any (Rows.fnExactConReadSpec.pre6 enc Try.prog Try.f7 Rows.fnExactConReadRow.domain false) (Rows.fnExactConReadSpec.post enc Try.prog Try.f7 false true false false) := by
  refine returnsInHanded_of_change (C := Try.checked) own started (by kernel_rfl) Try.func7
    (ChangeSpec.witness6 (enc := enc) (C := Try.checked) false ⟨#[], #[.slice none 0 0], []⟩ 8 (by kernel_rfl) (by kernel_rfl) (by kernel_rfl) (by kernel_rfl)) ?_
  intro W base args ds gs before hval0 hW hcnd _
  have hval : ∀ (j : Nat) t v, Try.f7.params[j]? = some t → args[j]? = some v → Value.okWide Try.prog W .any base t v := hval0
  have hW' := hW
  obtain ⟨p, q, hA0, hV, rfl, hfz, hnd⟩ := hW
  have hA : DataW.TrodAll enc Try.prog W 0 (fun _ => true) true Try.f7.params.toList args.toList ds p := hA0
  rw [Try.params7] at hA hval
  obtain ⟨v0, vs0, d0, ds0, p0, q0, hargs, rfl, rfl, h0, r0⟩ := trodAll_cons hA
  obtain ⟨rfl, rfl, rfl⟩ := trodAll_nil r0
  obtain rfl : args = #[v0] := by cases args; simp_all
  obtain ⟨rfl, rfl⟩ := trodVars_none hV
  obtain ⟨a0, len0, cap0, rfl⟩ := okWide_slice Try.underlying22 (hval 0 22 v0 rfl rfl)
  have k0 := h0
  have lt0 : ∀ x ∈ p0, x.block < W.heap.size := by obtain ⟨m, hm⟩ := k0; exact DataW.trod_lt m _ _ _ hm
  obtain ⟨z0, w0⟩ : ∃ zs, IsRow .u8 W a0 len0 cap0 zs := by
    obtain ⟨fuel, hf⟩ := h0
    rcases open_ints Try.underlying22 Try.underlying5 (by kernel_rfl) hf with ⟨hcs, _⟩ | ⟨x, l, c, zs, hcs, _, hl, hm, hz, _, hcell, hwz⟩
    · simp [Value.cells] at hcs
      obtain ⟨rfl, rfl, rfl⟩ := hcs
      exact ⟨[], .inl ⟨rfl, rfl, rfl, rfl⟩⟩
    · simp [Value.cells] at hcs
      obtain ⟨rfl, rfl, rfl⟩ := hcs
      exact ⟨zs, .inr ⟨_, rfl, hl, hm, by simpa using hz, hcell, hwz⟩⟩
  clear hA0 hval0
  refine (walk a0 len0 cap0 z0 W w0).mono fun e W' ⟨he, bel⟩ => ?_
  subst he
  exact ⟨_, rfl, _, _, _, [], _, [], hW', trodAll_mk1 (shut_bool Try.underlying4 _), (trodAll_cons_mk (Below.trod laidOut (by kernel_rfl) (of_decide_eq_true (by kernel_rfl)) k0 bel lt0) trodAll_mk0), rfl, bel.frame _, fun h => by cases h⟩

theorem over : Rows.fnExactConReadRow.holds Try.pinned (OpenSpec.ofChange Rows.fnExactConReadSpec) :=
  OpenClaim.holds_of_wide 7 Try.f7 rfl rfl rfl rfl rfl rfl rfl ⟨rfl, rfl, rfl, rfl, rfl⟩ rfl rfl rfl rfl rfl (by kernel_rfl) Try.func7 (by kernel_rfl)
    (of_decide_eq_true (by kernel_rfl)) (by unfold Func.isWrapper; first | (rw [if_pos (by decide +kernel)]; kernel_rfl) | (rw [if_neg (by decide +kernel)]; exact ⟨rfl, rfl⟩))
    (fun os started H enc _ => lifted os started H enc)

/-- ████ THE STATEMENT ████ -/
theorem proved : Rows.FnExactConReadSaid := over
#print axioms proved
end Go.Proofs.Ythojlfcahhjfaaa.fnExactConRead
namespace Go.Proofs.Ythojlfcahhjfaaa
theorem fnExactConRead_holds : Rows.FnExactConReadSaid := fnExactConRead.proved
end Go.Proofs.Ythojlfcahhjfaaa
