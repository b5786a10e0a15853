/- The reader of a whole text, where one that gave up is caught: the deferred closure's two contracts. -/
import Derived.Test.YtnmljalcndfjmaaGreatReadI5
import Derived.Defers
import Derived.Recover
namespace Go.Proofs.YtnmljalcndfjmaaGreat
open Go.RowKit

def BoxI (W : World) (b : Nat) (z : Int) : Prop := W.heap[b]? = some (.cells #[.int .i64 z] 3 (0, 0))
theorem BoxI.cell {W : World} {b : Nat} {z : Int} (h : BoxI W b z) : W.cell? ⟨b, 0, none⟩ = some (.int .i64 z) := by
  unfold BoxI at h
  simp [World.cell?, h]
theorem BoxI.frz {W : World} {b : Nat} {z : Int} (h : BoxI W b z) (o : Nat) : W.frozen? ⟨b, o, none⟩ = false := by
  unfold BoxI at h
  simp [World.frozen?, h]
theorem BoxI.lt {W : World} {b : Nat} {z : Int} (h : BoxI W b z) : b < W.heap.size := (Array.getElem?_eq_some_iff.1 h).1
theorem BoxI.set {W : World} {b : Nat} {z : Int} (h : BoxI W b z) (y : Int) : BoxI (W.setCell ⟨b, 0, none⟩ (.int .i64 y)) b y := by
  unfold BoxI
  rw [heap_setCell_same W b 0 _ _ _ h]
  rfl
theorem BoxI.of {W W' : World} {b : Nat} {z : Int} (h : BoxI W b z) (e : W'.heap[b]? = W.heap[b]?) : BoxI W' b z := e.trans h
theorem BoxI.new (W : World) (z : Int) : BoxI (W.alloc (.cells #[.int .i64 z] 3)) W.heap.size z := by
  show (W.heap.push _)[W.heap.size]? = _
  simp

theorem assert_yes (p : Int) (w : World) : (Instr.typeAssert (.iface 170 (.int .i64 p)) 20 170 true).run Tryz.prog w = .ok (.tuple #[.int .i64 p, .bool true]) w := by kernel_rfl
theorem assert_no (w : World) : (Instr.typeAssert .nilIface 20 170 true).run Tryz.prog w = .ok (.tuple #[.int .i64 0, .bool false]) w := by kernel_rfl

theorem caught_mem {vb bb : Nat} (hne : vb < bb) {v0 v1 v2 v3 : Value} {z : Int} {w : World} (hv : BoxC w vb v0 v1 v2 v3) (hb : BoxI w bb z) (x0 x1 x2 x3 : Value) (p : Int) (o : Obj) :
    Below vb w ((((((w.setCell ⟨vb, 0, none⟩ x0).setCell ⟨vb, 1, none⟩ x1).setCell ⟨vb, 2, none⟩ x2).setCell ⟨vb, 3, none⟩ x3).setCell ⟨bb, 0, none⟩ (.int .i64 p)).alloc o) ∧
      BoxC ((((((w.setCell ⟨vb, 0, none⟩ x0).setCell ⟨vb, 1, none⟩ x1).setCell ⟨vb, 2, none⟩ x2).setCell ⟨vb, 3, none⟩ x3).setCell ⟨bb, 0, none⟩ (.int .i64 p)).alloc o) vb x0 x1 x2 x3 ∧
      BoxI ((((((w.setCell ⟨vb, 0, none⟩ x0).setCell ⟨vb, 1, none⟩ x1).setCell ⟨vb, 2, none⟩ x2).setCell ⟨vb, 3, none⟩ x3).setCell ⟨bb, 0, none⟩ (.int .i64 p)).alloc o) bb p := by
  have hvl := hv.lt
  have hbl := hb.lt
  have h1 := hv.set4 x0 x1 x2 x3
  have h2 : BoxC (((((w.setCell ⟨vb, 0, none⟩ x0).setCell ⟨vb, 1, none⟩ x1).setCell ⟨vb, 2, none⟩ x2).setCell ⟨vb, 3, none⟩ x3).setCell ⟨bb, 0, none⟩ (.int .i64 p)) vb x0 x1 x2 x3 := h1.other _ (by omega)
  have h3 : BoxI ((((w.setCell ⟨vb, 0, none⟩ x0).setCell ⟨vb, 1, none⟩ x1).setCell ⟨vb, 2, none⟩ x2).setCell ⟨vb, 3, none⟩ x3) bb z := hb.of (heap_set4 _ _ _ _ _ (by omega))
  have h4 := h3.set p
  refine ⟨?_, (Below.heap_alloc _ _ _ h2.lt).trans h2, h4.of (Below.heap_alloc _ _ _ h4.lt)⟩
  exact ((((((Below.refl vb w).setCell (Nat.le_refl _) _).setCell (Nat.le_refl _) _).setCell (Nat.le_refl _) _).setCell (Nat.le_refl _) _).setCell (Nat.le_of_lt hne) _).alloc (by simp; omega) _

set_option maxRecDepth 100000 in
set_option maxHeartbeats 1000000 in
theorem catch_gaveUp (vb bb : Nat) (hne : vb < bb) (v0 v1 v2 v3 : Value) (z p : Int) (older : List PanicEntry) (w : World) (hv : BoxC w vb v0 v1 v2 v3) (hb : BoxI w bb z) :
    CallsD Tryz.prog 138 #[.pointer (some ⟨vb, 0, none⟩), .pointer (some ⟨bb, 0, none⟩)] (.panicking ({ v := .iface 170 (.int .i64 p), recovered := false } :: older)) w fun e u' w' =>
      e = .returned (.tuple #[]) ∧ u' = .panicking ({ v := .iface 170 (.int .i64 p), recovered := true } :: older) ∧ Below vb w w' ∧ BoxC w' vb (.int .i64 0) (.slice none 0 0) (.slice none 0 0) (.slice none 0 0) ∧ BoxI w' bb p := by
  have ha := assert_yes p
  refine callsD_of_wpS Tryz.func138 rfl fun c₀ cs hu => ?_
  apply wpS_seq
  apply wpS_region
  simp [wpOpsS, go_sem, recoverD, hu, Tryz.ntmps138, Exit.thenS, ha]
  obtain ⟨c0, c1, c2, c3⟩ := hv.cells
  have f0 := hv.frz 0
  have f1 := hv.frz 1
  have f2 := hv.frz 2
  have f3 := hv.frz 3
  have b0 := hb.cell
  have bf := hb.frz 0
  have hvl := hv.lt
  have hbl := hb.lt
  refine wpS_of_wp ?_
  simp only [Array.replicate_succ, Array.replicate_zero, List.push_toArray, List.append_toArray, List.nil_append, List.cons_append, List.setIfInBounds_toArray, List.set_cons_zero, List.set_cons_succ]
  go_wp2
  have HF := caught_mem hne hv hb (.int .i64 0) (.slice none 0 0) (.slice none 0 0) (.slice none 0 0) p (.cells #[.int .i64 0, .slice none 0 0, .slice none 0 0, .slice none 0 0] 30)
  simp only [bodyPostS, results, Tryz.results138]
  simp
  exact HF

set_option maxRecDepth 100000 in
set_option maxHeartbeats 1000000 in
theorem catch_none (vb bb : Nat) (w : World) :
    CallsD Tryz.prog 138 #[.pointer (some ⟨vb, 0, none⟩), .pointer (some ⟨bb, 0, none⟩)] .returning w fun e u' w' => e = .returned (.tuple #[]) ∧ u' = .returning ∧ w' = w := by
  have ha := assert_no
  refine callsD_of_wpS Tryz.func138 rfl fun c₀ cs hu => ?_
  apply wpS_seq
  apply wpS_region
  simp [wpOpsS, go_sem, recoverD, hu, Tryz.ntmps138, Exit.thenS, ha]
  refine wpS_of_wp ?_
  simp only [Array.replicate_succ, Array.replicate_zero, List.push_toArray, List.append_toArray, List.nil_append, List.cons_append, List.setIfInBounds_toArray, List.set_cons_zero, List.set_cons_succ]
  go_wp2
  cases c₀
  simp only [bodyPostS, results, Tryz.results138]
  simp_all

/-- Reading one concept. -/
theorem read1_any (base pb g : Nat) (ts : List Tok) (gs : List (Nat × Nat)) (en : Int) (w : World) (hR : RdrAt w pb g 0 ts en) (hT : TkM base pb w g ts gs) :
    Calls Tryz.prog 89 #[.pointer (some ⟨pb, 0, none⟩)] w (RP ts gs en g pb 0 w 6 (conR ts en 6 0)) := by
  have hpl := hR.lt
  have hb0 : Below w.heap.size w (w.alloc (.cells #[.int .i64 0, .slice none 0 0, .slice none 0 0, .slice none 0 0] 30)) := (Below.refl _ _).alloc (Nat.le_refl _) _
  have HB0 : Hid (Below w.heap.size w (w.alloc (.cells #[.int .i64 0, .slice none 0 0, .slice none 0 0, .slice none 0 0] 30))) := hb0
  have HZ0 : Hid (BoxC (w.alloc (.cells #[.int .i64 0, .slice none 0 0, .slice none 0 0, .slice none 0 0] 30)) w.heap.size (.int .i64 0) (.slice none 0 0) (.slice none 0 0) (.slice none 0 0)) := BoxC.new w _ _ _ _
  have HR0 : Hid (RdrAt (w.alloc (.cells #[.int .i64 0, .slice none 0 0, .slice none 0 0, .slice none 0 0] 30)) pb g 0 ts en) := hR.below hb0
  have HT0 : Hid (TkM base pb (w.alloc (.cells #[.int .i64 0, .slice none 0 0, .slice none 0 0, .slice none 0 0] 30)) g ts gs) := hT.below (hb0.mono (Nat.le_of_lt hpl))
  clear hb0 hR hT
  go_enter Tryz.func89, Tryz.ntmps89
  go_wp2_with fail
  refine (readC_any 6 1 (by omega) (by omega) base pb g 0 ts gs en _ HR0.out HT0.out (Nat.zero_le _)).mono ?_
  rintro e w1 hP
  cases hres : conR ts en 6 0 with
  | bad p =>
    rw [hres] at hP
    obtain ⟨hb1, he⟩ := hP
    subst he
    have HBt : Hid (Bt pb w.heap.size w w1) := (Bt.of_below HB0.out).trans (hb1.mono HB0.out.size)
    simp only [gaveUp]
    clear hb1
    go_wp2
    exact ⟨rfl, RP.fell HBt.out rfl rfl⟩
  | ok c j =>
    rw [hres] at hP
    obtain ⟨hb1, v, L, he, hO, hR1⟩ := hP
    subst he
    obtain ⟨zna, znn, znc, zra, zrn, zrc, zka, zkn, zkc, rfl⟩ := hO.ow.agg
    obtain ⟨zk, hzk⟩ : ∃ zk, zk = c.kind := ⟨_, rfl⟩
    rw [← hzk] at hO
    rw [← hzk]
    have HBt : Hid (Bt pb w.heap.size w w1) := (Bt.of_below HB0.out).trans (hb1.mono HB0.out.size)
    have HZ1 : Hid (BoxC w1 w.heap.size (.int .i64 0) (.slice none 0 0) (.slice none 0 0) (.slice none 0 0)) := (hb1.block _ HZ0.out.lt (by omega)).trans HZ0.out
    rw [World.size_alloc] at hO
    have HO : Hid (OwnR ts gs 0 j (w.heap.size + 1) w1 6 (.agg #[.int .i64 zk, .slice zna znn znc, .slice zra zrn zrc, .slice zka zkn zkc]) c L) := hO
    have HR1 : Hid (RdrAt w1 pb g j ts en) := hR1
    obtain ⟨z0, z1, z2, z3⟩ := HZ1.out.cells
    have zf0 := HZ1.out.frz 0
    have zf1 := HZ1.out.frz 1
    have zf2 := HZ1.out.frz 2
    have zf3 := HZ1.out.frz 3
    clear hb1 hO hR1 hzk
    go_wp2
    obtain ⟨s0, s1, s2, s3⟩ := (HZ1.out.set4 (.int .i64 zk) (.slice zna znn znc) (.slice zra zrn zrc) (.slice zka zkn zkc)).cells
    refine bodyPost_ret (v := .agg #[.int .i64 zk, .slice zna znn znc, .slice zra zrn zrc, .slice zka zkn zkc]) (by simp [results, Tryz.results89, go_sem, s0, s1, s2, s3]) rfl ?_
    have hne := HO.out.us.ne HT0.out (o := w.heap.size) (by omega) (Nat.lt_succ_self _)
    have hL' := (OwnR.to HO.out (w' := ((((w1.setCell ⟨w.heap.size, 0, none⟩ (.int .i64 zk)).setCell ⟨w.heap.size, 1, none⟩ (.slice zna znn znc)).setCell ⟨w.heap.size, 2, none⟩ (.slice zra zrn zrc)).setCell ⟨w.heap.size, 3, none⟩ (.slice zka zkn zkc))) (fun x hx => heap_set4 _ _ _ _ _ (hne x hx)) (by simp)).low (Nat.le_succ _)
    exact RP.good ((((HBt.out.set (.inl (Nat.le_refl _)) _).set (.inl (Nat.le_refl _)) _).set (.inl (Nat.le_refl _)) _).set (.inl (Nat.le_refl _)) _) hres hL' (HR1.out.of (heap_set4 _ _ _ _ _ (by omega)))

end Go.Proofs.YtnmljalcndfjmaaGreat
