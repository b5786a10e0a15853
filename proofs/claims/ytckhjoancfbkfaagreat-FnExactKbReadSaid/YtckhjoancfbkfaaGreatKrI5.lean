/- The program's reader of a whole text of what is told, where one that gave up is caught: for every list of bytes it answers what 'wholeK' says, in memory of its own. -/
import Derived.Test.YtckhjoancfbkfaaGreatNG21
import Derived.Test.YtckhjoancfbkfaaGreatNG20
import Derived.Test.YtckhjoancfbkfaaGreatTokFin
namespace Go.Proofs.YtckhjoancfbkfaaGreat
open Go.RowKit
set_option linter.unusedVariables false

theorem caughtK_mem {vb bb : Nat} (hne : vb < bb) {v : Value} {z : Int} {w : World} (hv : BoxKv w vb v) (hb : BoxI w bb z) (x : Value) (p : Int) (o : Obj) :
    Below vb w (((w.setCell ⟨vb, 0, none⟩ x).setCell ⟨bb, 0, none⟩ (.int .i64 p)).alloc o) ∧ BoxKv (((w.setCell ⟨vb, 0, none⟩ x).setCell ⟨bb, 0, none⟩ (.int .i64 p)).alloc o) vb x ∧ BoxI (((w.setCell ⟨vb, 0, none⟩ x).setCell ⟨bb, 0, none⟩ (.int .i64 p)).alloc o) bb p := by
  have hvl := hv.lt
  have hbl := hb.lt
  have h2 : BoxKv ((w.setCell ⟨vb, 0, none⟩ x).setCell ⟨bb, 0, none⟩ (.int .i64 p)) vb x := (hv.set x).of (heap_set1 _ _ _ _ (by omega))
  have h4 : BoxI ((w.setCell ⟨vb, 0, none⟩ x).setCell ⟨bb, 0, none⟩ (.int .i64 p)) bb p := (hb.of (heap_set1 _ _ _ _ (by omega))).set p
  exact ⟨((((Below.refl vb w).setCell (Nat.le_refl _) _).setCell (Nat.le_of_lt hne) _).alloc (by simp; omega) _), h2.of (Below.heap_alloc _ _ _ h2.lt), h4.of (Below.heap_alloc _ _ _ h4.lt)⟩
theorem setK2_mem {vb bb : Nat} (hne : vb < bb) {v : Value} {z : Int} {W : World} (hv : BoxKv W vb v) (hb : BoxI W bb z) (x : Value) (p : Int) :
    Below vb W ((W.setCell ⟨vb, 0, none⟩ x).setCell ⟨bb, 0, none⟩ (.int .i64 p)) ∧ BoxKv ((W.setCell ⟨vb, 0, none⟩ x).setCell ⟨bb, 0, none⟩ (.int .i64 p)) vb x ∧ BoxI ((W.setCell ⟨vb, 0, none⟩ x).setCell ⟨bb, 0, none⟩ (.int .i64 p)) bb p :=
  ⟨((Below.refl vb W).setCell (Nat.le_refl _) _).setCell (Nat.le_of_lt hne) _, (hv.set x).of (heap_set1 _ _ _ _ (by omega)), (hb.of (heap_set1 _ _ _ _ (by omega))).set p⟩

set_option maxRecDepth 100000 in
set_option maxHeartbeats 1000000 in
theorem catchK_gaveUp (vb bb : Nat) (hne : vb < bb) (v : Value) (z p : Int) (older : List PanicEntry) (w : World) (hv : BoxKv w vb v) (hb : BoxI w bb z) :
    CallsD Tryz.prog 80 #[.pointer (some ⟨vb, 0, none⟩), .pointer (some ⟨bb, 0, none⟩)] (.panicking ({ v := .iface 111 (.int .i64 p), recovered := false } :: older)) w fun e u' w' =>
      e = .returned (.tuple #[]) ∧ u' = .panicking ({ v := .iface 111 (.int .i64 p), recovered := true } :: older) ∧ Below vb w w' ∧ BoxKv w' vb (.slice none 0 0) ∧ BoxI w' bb p := by
  have ha := assert_yes p
  refine callsD_of_wpS Tryz.func80 rfl fun c₀ cs hu => ?_
  apply wpS_seq
  apply wpS_region
  simp [wpOpsS, go_sem, recoverD, hu, Tryz.ntmps80, Exit.thenS, ha]
  have c0 := hv.cell
  have f0 := hv.frz 0
  have b0 := hb.cell
  have bf := hb.frz 0
  have hvl := hv.lt
  have hbl := hb.lt
  refine wpS_of_wp ?_
  simp only [Array.replicate_succ, Array.replicate_zero, List.push_toArray, List.append_toArray, List.nil_append, List.cons_append, List.setIfInBounds_toArray, List.set_cons_zero, List.set_cons_succ]
  go_wp2
  have HF := caughtK_mem hne hv hb (.slice none 0 0) p (.cells #[.slice none 0 0] 25)
  simp only [bodyPostS, results, Tryz.results80]
  simp
  exact HF

set_option maxRecDepth 100000 in
set_option maxHeartbeats 1000000 in
theorem catchK_none (vb bb : Nat) (w : World) :
    CallsD Tryz.prog 80 #[.pointer (some ⟨vb, 0, none⟩), .pointer (some ⟨bb, 0, none⟩)] .returning w fun e u' w' => e = .returned (.tuple #[]) ∧ u' = .returning ∧ w' = w := by
  have ha := assert_no
  refine callsD_of_wpS Tryz.func80 rfl fun c₀ cs hu => ?_
  apply wpS_seq
  apply wpS_region
  simp [wpOpsS, go_sem, recoverD, hu, Tryz.ntmps80, Exit.thenS, ha]
  refine wpS_of_wp ?_
  simp only [Array.replicate_succ, Array.replicate_zero, List.push_toArray, List.append_toArray, List.nil_append, List.cons_append, List.setIfInBounds_toArray, List.set_cons_zero, List.set_cons_succ]
  go_wp2
  cases c₀
  simp only [bodyPostS, results, Tryz.results80]
  simp_all

/-- The result laid down in its box. -/
theorem KsP.lift {base pb g : Nat} {ts : List Tok} {gs : List (Nat × Nat)} {w W0 w1 : World} {n : Nat} {va : Option Addr} {vc : Nat} {vs : List Value} {xs : List AX} {Vs : Nat → XV} {LL : Nat → Nat → List (Addr × IntKind)} (hT : TkM base pb w g ts gs) (hpl : pb < w.heap.size) (h0 : w.heap.size < W0.heap.size) (h1 : W0.heap.size ≤ w1.heap.size)
    (hO : OwXs W0.heap.size 6 w1 (.slice va n vc) n vs xs Vs LL) (hS : SeL n ts gs ts.length W0.heap.size w1.heap.size w1 (.slice va n vc) LL) : OwXs w.heap.size 6 (w1.setCell ⟨w.heap.size, 0, none⟩ (.slice va n vc)) (.slice va n vc) n vs xs Vs LL ∧ SeL n ts gs ts.length w.heap.size (w1.setCell ⟨w.heap.size, 0, none⟩ (.slice va n vc)).heap.size (w1.setCell ⟨w.heap.size, 0, none⟩ (.slice va n vc)) (.slice va n vc) LL := by
  have hn : ∀ b, b ≠ w.heap.size → (w1.setCell ⟨w.heap.size, 0, none⟩ (.slice va n vc)).heap[b]? = w1.heap[b]? := fun b hb => heap_set1 _ _ _ _ hb
  have kO : ∀ i q, ∀ y ∈ LL i q, (w1.setCell ⟨w.heap.size, 0, none⟩ (.slice va n vc)).heap[y.1.block]? = w1.heap[y.1.block]? := fun i q y hy => hn _ ((hS.us i q).ne hT (by omega) h0 y hy)
  exact ⟨⟨hO.len, ownsX_low (ownsX_keep hO.row (fun b e => hn b (by have := (hO.row.lt b e).1; omega))) (Nat.le_of_lt h0), hO.at', fun i hi => (hO.pa i hi).keep (kO i)⟩, ⟨hS.nd, hS.dj, fun i q x hx => (World.frozen?_of_block (w := w1) (kO i q x hx)).trans (hS.fr i q x hx), fun i q => (hS.us i q).mono (Nat.le_refl _) (Nat.le_refl _) (Nat.le_of_lt h0) (by simp), hS.off⟩⟩

set_option maxRecDepth 100000 in
set_option maxHeartbeats 2000000 in
/-- Reading all that is told. -/
theorem readK1_any (base pb g : Nat) (ts : List Tok) (gs : List (Nat × Nat)) (en : Int) (w : World) (hR : RdrAt w pb g 0 ts en) (hT : TkM base pb w g ts gs) (hn15 : ts.length ≤ 1500) :
    Calls Tryz.prog 41 #[.pointer (some ⟨pb, 0, none⟩)] w (KsP base pb g ts gs en w (axsR ts en (ts.length + 1) 0 [])) := by
  have hpl := hR.lt
  have HTw : Hid (TkM base pb w g ts gs) := hT
  obtain ⟨W0, HW0⟩ : ∃ W, Hid (W = w.alloc (.cells #[.slice none 0 0] 25)) := ⟨_, rfl⟩
  have hb0 : Below w.heap.size w W0 := by rw [HW0.out]; exact (Below.refl _ _).alloc (Nat.le_refl _) _
  have HB0 : Hid (Below w.heap.size w W0) := hb0
  have HZ0 : Hid (BoxKv W0 w.heap.size (.slice none 0 0)) := by unfold Hid; rw [HW0.out]; exact BoxKv.new w _
  have HR0 : Hid (RdrAt W0 pb g 0 ts en) := hR.below hb0
  have HT0 : Hid (TkM base pb W0 g ts gs) := hT.below (hb0.mono (Nat.le_of_lt hpl))
  have hs0 : w.heap.size < W0.heap.size := HZ0.out.lt
  clear hb0 hR hT
  go_enter Tryz.func41, Tryz.ntmps41
  go_wp2_with fail
  rw [← HW0.out]
  refine (axioms_any base pb g ts gs en W0 HR0.out HT0.out hn15).mono ?_
  rintro e w1 hP
  cases hres : axsR ts en (ts.length + 1) 0 [] with
  | bad q =>
    rw [hres] at hP
    obtain ⟨he, hb1⟩ := hP
    subst he
    have HBt : Hid (Bt pb w.heap.size w w1) := (Bt.of_below HB0.out).trans (hb1.mono HB0.out.size)
    clear hb1
    simp only [gaveUp]
    go_wp2
    exact ⟨rfl, KsP.fell HBt.out rfl rfl⟩
  | ok xs =>
    rw [hres] at hP
    obtain ⟨va, vc, vs, Vs, LL, he, hO, hS, hR1, hb1⟩ := hP
    subst he
    have HBt : Hid (Bt pb w.heap.size w w1) := (Bt.of_below HB0.out).trans (hb1.mono HB0.out.size)
    have HZ1 : Hid (BoxKv w1 w.heap.size (.slice none 0 0)) := HZ0.out.of (hb1.block _ HZ0.out.lt (by omega))
    obtain ⟨n, hn⟩ : ∃ n, n = xs.length := ⟨_, rfl⟩
    rw [← hn] at hO hS ⊢
    have hl := KsP.lift HTw.out hpl hs0 hb1.size hO hS
    have HF : Hid (KsP base pb g ts gs en w (axsR ts en (ts.length + 1) 0 []) (.returned (.agg #[.slice va n vc])) (w1.setCell ⟨w.heap.size, 0, none⟩ (.slice va n vc))) := by
      have h2 := HBt.out.set (p := ⟨w.heap.size, 0, none⟩) (.inl (Nat.le_refl _)) (.slice va n vc)
      have h3 : RdrAt (w1.setCell ⟨w.heap.size, 0, none⟩ (.slice va n vc)) pb g ts.length ts en := hR1.of (heap_set1 _ _ _ _ (by omega))
      unfold Hid
      subst hn
      rw [hres]
      exact ⟨va, vc, vs, Vs, LL, rfl, hl.1, hl.2, h3, h2⟩
    have z0 := HZ1.out.cell
    have zf0 := HZ1.out.frz 0
    have y0 : (w1.setCell ⟨w.heap.size, 0, none⟩ (.slice va n vc)).cell? ⟨w.heap.size, 0, none⟩ = some (.slice va n vc) := (HZ1.out.set _).cell
    clear hO hS hR1 hb1 hl hn
    go_wp2
    refine bodyPost_ret (v := .agg #[.slice va n vc]) (by simp [results, Tryz.results41, go_sem, y0]) rfl ?_
    exact HF.out

set_option maxRecDepth 100000 in
set_option maxHeartbeats 2000000 in
theorem readWholeK_any (b off n cap : Nat) (zs : List Int) (w : World) (h : Rd 0 w.heap.size w (some ⟨b, off, none⟩) n cap zs) (hb : b < w.heap.size) :
    Calls Tryz.prog 40 #[.slice (some ⟨b, off, none⟩) n cap, .func (.func 41) #[] #[]] w (AnsK w (wholeK zs)) := by
  have hmf : ∀ (fn : Fn) (first cap : Array Value) (w : World), (Instr.makeFunc fn first cap).run Tryz.prog w = .ok (.func fn first cap) w := fun _ _ _ _ => rfl
  have HL : Hid (zs.length = n) := h.len
  obtain ⟨ts, bad, htp⟩ : ∃ ts p, toks zs = (ts, p) := ⟨_, _, rfl⟩
  have HT : Hid (toks zs = (ts, bad)) := htp
  have hn15 : ts.length ≤ 1500 := by have := (toks_bound zs).1; rw [htp] at this; exact this
  obtain ⟨W0, hW0⟩ : ∃ W0, W0 = (w.alloc (.cells #[.slice none 0 0] 25)).alloc (.cells #[.int .i64 0] 3) := ⟨_, rfl⟩
  have HW0 : Hid (W0 = (w.alloc (.cells #[.slice none 0 0] 25)).alloc (.cells #[.int .i64 0] 3)) := hW0
  have hb0 : Below w.heap.size w W0 := by rw [hW0]; exact ((Below.refl _ _).alloc (Nat.le_refl _) _).alloc (by simp) _
  have HB0 : Hid (Below w.heap.size w W0) := hb0
  have HS0 : Hid (W0.heap.size = w.heap.size + 2) := by unfold Hid; rw [hW0]; simp
  have HV0 : Hid (BoxKv W0 w.heap.size (.slice none 0 0)) := by
    unfold Hid; rw [hW0]; exact (BoxKv.new w _).of (Below.heap_alloc _ _ _ (by simp))
  have HI0 : Hid (BoxI W0 (w.heap.size + 1) 0) := by
    unfold Hid; rw [hW0]
    have := BoxI.new (w.alloc (.cells #[.slice none 0 0] 25)) 0
    rwa [World.size_alloc] at this
  have HR0 : Hid (Rd 0 W0.heap.size W0 (some ⟨b, off, none⟩) n cap zs) := (h.below hb0 (Nat.le_refl _)).mono (Nat.le_refl _) hb0.size
  have hbl : b < W0.heap.size := Nat.lt_of_lt_of_le hb hb0.size
  clear h htp hb0 hW0
  go_enter_defers Tryz.func40, Tryz.ntmps40
  go_wp2_with fail
  rw [← HW0.out]
  refine (implTok_at b off n cap zs ts bad HT.out W0 HR0.out hbl).mono ?_
  rintro e w1 ⟨aI, cI, gs, rfl, hO, _, hb1⟩
  have HO : Hid (OwnT W0.heap.size w1 (.slice aI ts.length cI) ts gs) := hO
  have HB1 : Hid (Below w.heap.size w w1) := HB0.out.trans (hb1.mono HB0.out.size)
  have HV1 : Hid (BoxKv w1 w.heap.size (.slice none 0 0)) := HV0.out.of (hb1.block _ HV0.out.lt)
  have HI1 : Hid (BoxI w1 (w.heap.size + 1) 0) := HI0.out.of (hb1.block _ HI0.out.lt)
  have hs1 : w.heap.size + 1 < w1.heap.size := HI1.out.lt
  have i0 := HI1.out.cell
  have if0 := HI1.out.frz 0
  have hne1 : w.heap.size ≠ w.heap.size + 1 := by omega
  clear hO hb1
  by_cases hbad : bad = -1
  · subst hbad
    obtain ⟨Wb, hWb⟩ : ∃ W, W = w1.setCell ⟨w.heap.size + 1, 0, none⟩ (.int .i64 (-1)) := ⟨_, rfl⟩
    have HWb : Hid (Wb = w1.setCell ⟨w.heap.size + 1, 0, none⟩ (.int .i64 (-1))) := hWb
    have HVb : Hid (BoxKv Wb w.heap.size (.slice none 0 0)) := by unfold Hid; rw [hWb]; exact HV1.out.of (heap_set1 _ _ _ _ hne1)
    have HIb : Hid (BoxI Wb (w.heap.size + 1) (-1)) := by unfold Hid; rw [hWb]; exact HI1.out.set (-1)
    have HBb : Hid (Below w.heap.size w Wb) := by unfold Hid; rw [hWb]; exact HB1.out.setCell (by show w.heap.size ≤ w.heap.size + 1; omega) _
    have HOb : Hid (OwnT W0.heap.size Wb (.slice aI ts.length cI) ts gs) := by
      unfold Hid; rw [hWb]
      have h := HO.out
      have ho : w.heap.size + 1 < W0.heap.size := by have := HS0.out; omega
      exact ⟨h.len, ownsRow_setCell_below h.row (a := ⟨w.heap.size + 1, 0, none⟩) ho _, fun j hj ht => ⟨(h.txt j hj ht).1, (h.txt j hj ht).2.1.setOf (a := ⟨w.heap.size + 1, 0, none⟩) (by have := (h.txt j hj ht).1; show _ ≠ w.heap.size + 1; omega), (h.txt j hj ht).2.2⟩, h.byte, h.dist⟩
    have hsb : w.heap.size + 1 < Wb.heap.size := HIb.out.lt
    obtain ⟨a', c', g, hv, ha, hc1, hc2, hTk⟩ := HOb.out.tkm (pb := Wb.heap.size) (Nat.le_refl _)
    simp only [Value.slice.injEq, true_and] at hv
    obtain ⟨rfl, rfl⟩ := hv
    obtain ⟨W2, hW2⟩ : ∃ W, W = Wb.alloc (.cells #[.slice aI ts.length cI, .int .i64 n] 114) := ⟨_, rfl⟩
    have HW2 : Hid (W2 = Wb.alloc (.cells #[.slice aI ts.length cI, .int .i64 n] 114)) := hW2
    have hb2 : Below Wb.heap.size Wb W2 := by rw [hW2]; exact (Below.refl _ _).alloc (Nat.le_refl _) _
    have HR2 : Hid (RdrAt W2 Wb.heap.size g 0 ts n) := by
      refine ⟨aI, cI, ?_, ?_, hc1, hc2⟩
      · rw [hW2]; exact BoxR.new Wb _ _
      · rcases ha with h | h
        · exact .inl h
        · exact .inr (by rw [h])
    have HT2 : Hid (TkM W0.heap.size Wb.heap.size W2 g ts gs) := hTk.below hb2
    have HV2 : Hid (BoxKv W2 w.heap.size (.slice none 0 0)) := HVb.out.of (hb2.block _ HVb.out.lt)
    have HI2 : Hid (BoxI W2 (w.heap.size + 1) (-1)) := HIb.out.of (hb2.block _ hsb)
    have HB2 : Hid (Below w.heap.size w W2) := HBb.out.trans (hb2.mono (by omega))
    have hs2 : Wb.heap.size < W2.heap.size := HR2.out.lt
    clear hWb hW2 hb2 hTk ha
    go_upto_region 2 with fail
    rw [← HWb.out]
    clear i0 if0
    have i0 := HIb.out.cell
    go_wp2_with fail
    rw [← HW2.out]
    clear i0
    refine (readK1_any W0.heap.size Wb.heap.size g ts gs n W2 HR2.out HT2.out hn15).mono ?_
    rintro e w3 hP
    cases hres : axsR ts (n : Nat) (ts.length + 1) 0 [] with
    | bad p =>
      rw [hres] at hP
      obtain ⟨he, hb3⟩ := hP
      subst he
      have HWr : Hid (wholeK zs = ([], p)) := wholeK_bad HT.out HL.out hres
      have HV3 : Hid (BoxKv w3 w.heap.size (.slice none 0 0)) := HV2.out.of (hb3.block _ HV2.out.lt (by omega))
      have HI3 : Hid (BoxI w3 (w.heap.size + 1) (-1)) := HI2.out.of (hb3.block _ HI2.out.lt (by omega))
      have HB3 : Hid (Below w.heap.size w w3) := HB2.out.trans (hb3.below (by omega) (by omega))
      clear hb3
      simp only [gaveUp]
      go_wp2_with fail
      refine leaves_cons (f := 80) (args := #[.pointer (some ⟨w.heap.size, 0, none⟩), .pointer (some ⟨w.heap.size + 1, 0, none⟩)]) (by simp) (by simp [go_sem]) ?_
      refine (catchK_gaveUp w.heap.size (w.heap.size + 1) (Nat.lt_succ_self _) _ _ p [] w3 HV3.out HI3.out).mono ?_
      rintro e u' w'' ⟨rfl, rfl, hB, hV, hI⟩
      have s0 := hV.cell
      have si := hI.cell
      refine ⟨.tuple #[.agg #[.slice none 0 0], .int .i64 (p)], by simp [results, Tryz.results40, go_sem, s0, si], AnsK.mk HWr.out (ownKb_nil _ _) (HB3.out.trans (hB.mono (Nat.le_refl _)))⟩
    | ok xs =>
      rw [hres] at hP
      obtain ⟨va, vc, vs, Vs, LL, he, hO3, hS3, hR3, hb3⟩ := hP
      subst he
      have HWr : Hid (wholeK zs = (xs, -1)) := wholeK_ok HT.out HL.out hres
      obtain ⟨m, hm⟩ : ∃ m, m = xs.length := ⟨_, rfl⟩
      rw [← hm] at hO3 hS3 ⊢
      have HM : Hid (m = xs.length) := hm
      have HV3 : Hid (BoxKv w3 w.heap.size (.slice none 0 0)) := HV2.out.of (hb3.block _ HV2.out.lt (by omega))
      have HI3 : Hid (BoxI w3 (w.heap.size + 1) (-1)) := HI2.out.of (hb3.block _ HI2.out.lt (by omega))
      have HB3 : Hid (Below w.heap.size w w3) := HB2.out.trans (hb3.below (by omega) (by omega))
      have hs0 := HS0.out
      have hlt3 := hR3.lt
      have HK3 : Hid (OwnKb (w.heap.size + 2) w3 (.slice va m vc) vs xs Vs LL) := by
        unfold Hid
        subst hm
        exact ⟨⟨hO3.len, ownsX_low hO3.row (by omega), hO3.at', hO3.pa⟩, hS3.nd, hS3.dj, hS3.fr, hS3.off, fun i p x hx => ⟨by have := (hS3.us i p).ge HT2.out (by omega) x hx; omega, (hS3.us i p).lt HT2.out (by omega) x hx⟩⟩
      have HR3 : Hid (RdrAt w3 Wb.heap.size g ts.length ts n) := hR3
      obtain ⟨W4, hW4⟩ : ∃ W, W = w3.setCell ⟨w.heap.size, 0, none⟩ (.slice va m vc) := ⟨_, rfl⟩
      have HW4 : Hid (W4 = w3.setCell ⟨w.heap.size, 0, none⟩ (.slice va m vc)) := hW4
      have hk4 : ∀ q, q ≠ w.heap.size → W4.heap[q]? = w3.heap[q]? := fun q hq => by rw [hW4]; exact heap_set1 _ _ _ _ hq
      have hz4 : W4.heap.size = w3.heap.size := by rw [hW4]; simp
      have HV4 : Hid (BoxKv W4 w.heap.size (.slice va m vc)) := by unfold Hid; rw [hW4]; exact HV3.out.set _
      have HI4 : Hid (BoxI W4 (w.heap.size + 1) (-1)) := HI3.out.of (hk4 _ (by omega))
      have HR4 : Hid (RdrAt W4 Wb.heap.size g ts.length ts n) := HR3.out.of (hk4 _ (by omega))
      have HB4 : Hid (Below w.heap.size w W4) := by unfold Hid; rw [hW4]; exact HB3.out.setCell (Nat.le_refl _) _
      have HK4 : Hid (OwnKb (w.heap.size + 2) W4 (.slice va m vc) vs xs Vs LL) := HK3.out.keep (fun q h1 h2 => hk4 q (by omega)) (by omega)
      have v0 := HV3.out.cell
      have vf0 := HV3.out.frz 0
      clear hb3 hO3 hS3 hR3 hW4 hk4 hz4 hm hlt3 hs0
      go_upto_region 7 with fail
      rw [← HW4.out]
      clear v0 vf0
      obtain ⟨ra, rc, hbR, har, hrc1, hrc2⟩ := HR4.out
      obtain ⟨r0, r1⟩ := hbR.cells
      rw [Nat.sub_self] at r0
      clear hbR har hrc1
      have v0 := HV4.out.cell
      have vf0 := HV4.out.frz 0
      have i0 := HI4.out.cell
      have if0 := HI4.out.frz 0
      go_wp2_with fail
      refine leaves_cons (f := 80) (args := #[.pointer (some ⟨w.heap.size, 0, none⟩), .pointer (some ⟨w.heap.size + 1, 0, none⟩)]) (by simp) (by simp [go_sem]) ?_
      refine (catchK_none w.heap.size (w.heap.size + 1) _).mono ?_
      rintro e u' w'' ⟨rfl, rfl, rfl⟩
      obtain ⟨hB, hV, hI⟩ := setK2_mem (Nat.lt_succ_self w.heap.size) HV4.out HI4.out (.slice va m vc) (-1)
      have s0 := hV.cell
      have si := hI.cell
      refine ⟨.tuple #[.agg #[.slice va m vc], .int .i64 (-1)], by simp [results, Tryz.results40, go_sem, s0, si], AnsK.mk (vs := vs) (Vs := Vs) (LL := LL) HWr.out ?_ (HB4.out.trans hB)⟩
      exact (HK4.out.keep (fun q h1 _ => by rw [heap_set1 _ _ _ _ (by omega), heap_set1 _ _ _ _ (by omega)]) (by simp)).mono (by omega)
  · have hbn : (bad != -1) = true := by simpa using hbad
    obtain ⟨Wb, hWb⟩ : ∃ W, W = w1.setCell ⟨w.heap.size + 1, 0, none⟩ (.int .i64 bad) := ⟨_, rfl⟩
    have HWb : Hid (Wb = w1.setCell ⟨w.heap.size + 1, 0, none⟩ (.int .i64 bad)) := hWb
    have HVb : Hid (BoxKv Wb w.heap.size (.slice none 0 0)) := by unfold Hid; rw [hWb]; exact HV1.out.of (heap_set1 _ _ _ _ hne1)
    have HIb : Hid (BoxI Wb (w.heap.size + 1) bad) := by unfold Hid; rw [hWb]; exact HI1.out.set bad
    have HBb : Hid (Below w.heap.size w Wb) := by unfold Hid; rw [hWb]; exact HB1.out.setCell (by show w.heap.size ≤ w.heap.size + 1; omega) _
    clear hWb
    go_upto_region 2 with fail
    rw [← HWb.out]
    have v0 := HVb.out.cell
    have vf0 := HVb.out.frz 0
    clear i0 if0
    have i0 := HIb.out.cell
    have if0 := HIb.out.frz 0
    have HWr : Hid (wholeK zs = ([], bad)) := wholeK_tok HT.out hbad
    go_wp2_with fail
    go_region
    go_wp2
    obtain ⟨hB, hV, hI⟩ := setK2_mem (Nat.lt_succ_self w.heap.size) HVb.out HIb.out (.slice none 0 0) bad
    have s0 := hV.cell
    have si := hI.cell
    refine ⟨.tuple #[.agg #[.slice none 0 0], .int .i64 bad], by simp [results, Tryz.results40, go_sem, s0, si], AnsK.mk HWr.out (ownKb_nil _ _) (HBb.out.trans hB).drew⟩

end Go.Proofs.YtckhjoancfbkfaaGreat
