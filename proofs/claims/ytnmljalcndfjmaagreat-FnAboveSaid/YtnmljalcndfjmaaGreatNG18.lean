/- Several texts in one: ReadI7, ReadI8. -/
import Derived.Test.YtnmljalcndfjmaaGreatReadI6
import Derived.Test.YtnmljalcndfjmaaGreatTokFin
import Derived.Test.YtnmljalcndfjmaaGreatNG10
namespace Go.Proofs.YtnmljalcndfjmaaGreat

section
open Go.RowKit

theorem set5_mem {vb bb : Nat} (hne : vb < bb) {v0 v1 v2 v3 : Value} {z : Int} {W : World} (hv : BoxC W vb v0 v1 v2 v3) (hb : BoxI W bb z) (x0 x1 x2 x3 : Value) (p : Int) :
    Below vb W (((((W.setCell ⟨vb, 0, none⟩ x0).setCell ⟨vb, 1, none⟩ x1).setCell ⟨vb, 2, none⟩ x2).setCell ⟨vb, 3, none⟩ x3).setCell ⟨bb, 0, none⟩ (.int .i64 p)) ∧ BoxC (((((W.setCell ⟨vb, 0, none⟩ x0).setCell ⟨vb, 1, none⟩ x1).setCell ⟨vb, 2, none⟩ x2).setCell ⟨vb, 3, none⟩ x3).setCell ⟨bb, 0, none⟩ (.int .i64 p)) vb x0 x1 x2 x3 ∧ BoxI (((((W.setCell ⟨vb, 0, none⟩ x0).setCell ⟨vb, 1, none⟩ x1).setCell ⟨vb, 2, none⟩ x2).setCell ⟨vb, 3, none⟩ x3).setCell ⟨bb, 0, none⟩ (.int .i64 p)) bb p := by
  have h1 := hv.set4 x0 x1 x2 x3
  have h3 : BoxI ((((W.setCell ⟨vb, 0, none⟩ x0).setCell ⟨vb, 1, none⟩ x1).setCell ⟨vb, 2, none⟩ x2).setCell ⟨vb, 3, none⟩ x3) bb z := hb.of (heap_set4 _ _ _ _ _ (by omega))
  exact ⟨(((((Below.refl vb W).setCell (Nat.le_refl _) _).setCell (Nat.le_refl _) _).setCell (Nat.le_refl _) _).setCell (Nat.le_refl _) _).setCell (Nat.le_of_lt hne) _, h1.other _ (by omega), h3.set p⟩

theorem OwnT.set {base : Nat} {w : World} {v : Value} {ts : List Tok} {gs : List (Nat × Nat)} (h : OwnT base w v ts gs) {o i : Nat} (ho : o < base) (x : Value) : OwnT base (w.setCell ⟨o, i, none⟩ x) v ts gs :=
  ⟨h.len, ownsRow_setCell_below h.row (a := ⟨o, i, none⟩) ho x, fun j hj ht => ⟨(h.txt j hj ht).1, (h.txt j hj ht).2.1.setOf (a := ⟨o, i, none⟩) (by have := (h.txt j hj ht).1; show _ ≠ o; omega), (h.txt j hj ht).2.2⟩, h.byte, h.dist⟩

theorem OwnC.none (base : Nat) (w : World) (d : Nat) : OwnC base w (d + 1) (.agg #[.int .i64 0, .slice none 0 0, .slice none 0 0, .slice none 0 0]) CN.zero [] := by
  have h := OwnR.leaf [] [] 0 0 0 w d 0
  exact ⟨h.ow, h.nd, h.fr, fun x hx => by simp at hx⟩

/-- A concept in memory of the call's own, and a number. -/
def AnsP (w : World) (r : CN × Int) (e : Ending) (w' : World) : Prop := ∃ v L, e = .returned (.tuple #[v, .int .i64 r.2]) ∧ OwnC w.heap.size w' 6 v r.1 L ∧ Below w.heap.size w w'

theorem AnsP.mk {w w' : World} {r : CN × Int} {c : CN} {p : Int} {v : Value} {L : List (Addr × IntKind)} (hr : r = (c, p)) (hO : OwnC w.heap.size w' 6 v c L) (hB : Below w.heap.size w w') : AnsP w r (.returned (.tuple #[v, .int .i64 p])) w' := by
  subst hr; exact ⟨v, L, rfl, hO, hB⟩

set_option maxRecDepth 100000 in
set_option maxHeartbeats 2000000 in
theorem readWhole_any (b off n cap : Nat) (zs : List Int) (w : World) (h : Rd 0 w.heap.size w (some ⟨b, off, none⟩) n cap zs) (hb : b < w.heap.size) :
    Calls Tryz.prog 88 #[.slice (some ⟨b, off, none⟩) n cap, .func (.func 89) #[] #[]] w (AnsP w (wholeR zs)) := by
  have hmf : ∀ (fn : Fn) (first cap : Array Value) (w : World), (Instr.makeFunc fn first cap).run Tryz.prog w = .ok (.func fn first cap) w := fun _ _ _ _ => rfl
  have HL : Hid (zs.length = n) := h.len
  obtain ⟨ts, bad, htp⟩ : ∃ ts p, toks zs = (ts, p) := ⟨_, _, rfl⟩
  have HT : Hid (toks zs = (ts, bad)) := htp
  obtain ⟨W0, hW0⟩ : ∃ W0, W0 = (w.alloc (.cells #[.int .i64 0, .slice none 0 0, .slice none 0 0, .slice none 0 0] 30)).alloc (.cells #[.int .i64 0] 3) := ⟨_, rfl⟩
  have HW0 : Hid (W0 = (w.alloc (.cells #[.int .i64 0, .slice none 0 0, .slice none 0 0, .slice none 0 0] 30)).alloc (.cells #[.int .i64 0] 3)) := hW0
  have hb0 : Below w.heap.size w W0 := by rw [hW0]; exact ((Below.refl _ _).alloc (Nat.le_refl _) _).alloc (by simp) _
  have HB0 : Hid (Below w.heap.size w W0) := hb0
  have HS0 : Hid (W0.heap.size = w.heap.size + 2) := by unfold Hid; rw [hW0]; simp
  have HV0 : Hid (BoxC W0 w.heap.size (.int .i64 0) (.slice none 0 0) (.slice none 0 0) (.slice none 0 0)) := by
    unfold Hid; rw [hW0]; exact (BoxC.new w _ _ _ _).below ((Below.refl _ _).alloc (Nat.le_refl _) _) (by simp)
  have HI0 : Hid (BoxI W0 (w.heap.size + 1) 0) := by
    unfold Hid; rw [hW0]
    have := BoxI.new (w.alloc (.cells #[.int .i64 0, .slice none 0 0, .slice none 0 0, .slice none 0 0] 30)) 0
    rwa [World.size_alloc] at this
  have HR0 : Hid (Rd 0 W0.heap.size W0 (some ⟨b, off, none⟩) n cap zs) := (h.below hb0 (Nat.le_refl _)).mono (Nat.le_refl _) hb0.size
  have hbl : b < W0.heap.size := Nat.lt_of_lt_of_le hb hb0.size
  clear h htp hb0 hW0
  go_enter_defers Tryz.func88, Tryz.ntmps88
  go_wp2_with fail
  rw [← HW0.out]
  refine (implTok_at b off n cap zs ts bad HT.out W0 HR0.out hbl).mono ?_
  rintro e w1 ⟨aI, cI, gs, rfl, hO, _, hb1⟩
  have HO : Hid (OwnT W0.heap.size w1 (.slice aI ts.length cI) ts gs) := hO
  have HB1 : Hid (Below w.heap.size w w1) := HB0.out.trans (hb1.mono HB0.out.size)
  have HV1 : Hid (BoxC w1 w.heap.size (.int .i64 0) (.slice none 0 0) (.slice none 0 0) (.slice none 0 0)) := HV0.out.below hb1 HV0.out.lt
  have HI1 : Hid (BoxI w1 (w.heap.size + 1) 0) := HI0.out.of (hb1.block _ HI0.out.lt)
  have hs1 : w.heap.size + 1 < w1.heap.size := HI1.out.lt
  have i0 := HI1.out.cell
  have if0 := HI1.out.frz 0
  have hne1 : w.heap.size ≠ w.heap.size + 1 := by omega
  clear hO hb1
  by_cases hbad : bad = -1
  · subst hbad
    obtain ⟨Wb, hWb⟩ : ∃ W, W = w1.setCell ⟨w.heap.size + 1, 0, none⟩ (.int .i64 (-1)) := ⟨_, rfl⟩
    have HWb : Hid (Wb = w1.setCell ⟨w.heap.size + 1, 0, none⟩ (.int .i64 (-1))) := hWb
    have HVb : Hid (BoxC Wb w.heap.size (.int .i64 0) (.slice none 0 0) (.slice none 0 0) (.slice none 0 0)) := by unfold Hid; rw [hWb]; exact HV1.out.other _ hne1
    have HIb : Hid (BoxI Wb (w.heap.size + 1) (-1)) := by unfold Hid; rw [hWb]; exact HI1.out.set (-1)
    have HBb : Hid (Below w.heap.size w Wb) := by unfold Hid; rw [hWb]; exact HB1.out.setCell (by show w.heap.size ≤ w.heap.size + 1; omega) _
    have HOb : Hid (OwnT W0.heap.size Wb (.slice aI ts.length cI) ts gs) := by unfold Hid; rw [hWb]; exact HO.out.set (by have := HS0.out; omega) _
    have hsb : w.heap.size + 1 < Wb.heap.size := HIb.out.lt
    obtain ⟨a', c', g, hv, ha, hc1, hc2, hTk⟩ := HOb.out.tkm (pb := Wb.heap.size) (Nat.le_refl _)
    simp only [Value.slice.injEq, true_and] at hv
    obtain ⟨rfl, rfl⟩ := hv
    obtain ⟨W2, hW2⟩ : ∃ W, W = Wb.alloc (.cells #[.slice aI ts.length cI, .int .i64 n] 173) := ⟨_, rfl⟩
    have HW2 : Hid (W2 = Wb.alloc (.cells #[.slice aI ts.length cI, .int .i64 n] 173)) := hW2
    have hb2 : Below Wb.heap.size Wb W2 := by rw [hW2]; exact (Below.refl _ _).alloc (Nat.le_refl _) _
    have HR2 : Hid (RdrAt W2 Wb.heap.size g 0 ts n) := by
      refine ⟨aI, cI, ?_, ?_, hc1, hc2⟩
      · rw [hW2]; exact BoxR.new Wb _ _
      · rcases ha with h | h
        · exact .inl h
        · exact .inr (by rw [h])
    have HT2 : Hid (TkM W0.heap.size Wb.heap.size W2 g ts gs) := hTk.below hb2
    have HV2 : Hid (BoxC W2 w.heap.size (.int .i64 0) (.slice none 0 0) (.slice none 0 0) (.slice none 0 0)) := HVb.out.below hb2 HVb.out.lt
    have HI2 : Hid (BoxI W2 (w.heap.size + 1) (-1)) := HIb.out.of (hb2.block _ hsb)
    have HB2 : Hid (Below w.heap.size w W2) := HBb.out.trans (hb2.mono (by omega))
    have hs2 : Wb.heap.size < W2.heap.size := HR2.out.lt
    clear hWb hW2 hb2 hTk ha
    go_upto_region 2 with fail
    rw [← HWb.out]
    clear i0 if0
    have i0 := HIb.out.cell
    go_wp2_with fail
    rw [← HW2.out]
    clear i0
    refine (read1_any W0.heap.size Wb.heap.size g ts gs n W2 HR2.out HT2.out).mono ?_
    rintro e w3 hP
    cases hres : conR ts (n : Nat) 6 0 with
    | bad p =>
      rw [hres] at hP
      obtain ⟨hb3, he⟩ := hP
      subst he
      have HWr : Hid (wholeR zs = (CN.zero, p)) := wholeR_bad HT.out HL.out hres
      have HV3 : Hid (BoxC w3 w.heap.size (.int .i64 0) (.slice none 0 0) (.slice none 0 0) (.slice none 0 0)) := (hb3.block _ HV2.out.lt (by omega)).trans HV2.out
      have HI3 : Hid (BoxI w3 (w.heap.size + 1) (-1)) := HI2.out.of (hb3.block _ HI2.out.lt (by omega))
      have HB3 : Hid (Below w.heap.size w w3) := HB2.out.trans (hb3.below (by omega) (by omega))
      clear hb3
      simp only [gaveUp]
      go_wp2_with fail
      refine leaves_cons (f := 138) (args := #[.pointer (some ⟨w.heap.size, 0, none⟩), .pointer (some ⟨w.heap.size + 1, 0, none⟩)]) (by simp) (by simp [go_sem]) ?_
      refine (catch_gaveUp w.heap.size (w.heap.size + 1) (Nat.lt_succ_self _) _ _ _ _ _ p [] w3 HV3.out HI3.out).mono ?_
      rintro e u' w'' ⟨rfl, rfl, hB, hV, hI⟩
      obtain ⟨s0, s1, s2, s3⟩ := hV.cells
      have si := hI.cell
      refine ⟨.tuple #[.agg #[.int .i64 0, .slice none 0 0, .slice none 0 0, .slice none 0 0], .int .i64 (p)], by simp [results, Tryz.results88, go_sem, s0, s1, s2, s3, si], AnsP.mk HWr.out (OwnC.none _ _ _) (HB3.out.trans (hB.mono (Nat.le_refl _)))⟩

    | ok c j =>
      rw [hres] at hP
      obtain ⟨hb3, v, L, he, hO3, hR3⟩ := hP
      subst he
      obtain ⟨zna, znn, znc, zra, zrn, zrc, zka, zkn, zkc, rfl⟩ := hO3.ow.agg
      obtain ⟨zk, hzk⟩ : ∃ zk, zk = c.kind := ⟨_, rfl⟩
      rw [← hzk] at hO3
      rw [← hzk]
      have hje := conR_end ts (n : Nat) 6 0 c j hres
      have HV3 : Hid (BoxC w3 w.heap.size (.int .i64 0) (.slice none 0 0) (.slice none 0 0) (.slice none 0 0)) := (hb3.block _ HV2.out.lt (by omega)).trans HV2.out
      have HI3 : Hid (BoxI w3 (w.heap.size + 1) (-1)) := HI2.out.of (hb3.block _ HI2.out.lt (by omega))
      have HB3 : Hid (Below w.heap.size w w3) := HB2.out.trans (hb3.below (by omega) (by omega))
      have HO3 : Hid (OwnR ts gs 0 j W2.heap.size w3 6 (.agg #[.int .i64 zk, .slice zna znn znc, .slice zra zrn zrc, .slice zka zkn zkc]) c L) := hO3
      have HR3 : Hid (RdrAt w3 Wb.heap.size g j ts n) := hR3
      obtain ⟨W4, hW4⟩ : ∃ W, W = ((((w3.setCell ⟨w.heap.size, 0, none⟩ (.int .i64 zk)).setCell ⟨w.heap.size, 1, none⟩ (.slice zna znn znc)).setCell ⟨w.heap.size, 2, none⟩ (.slice zra zrn zrc)).setCell ⟨w.heap.size, 3, none⟩ (.slice zka zkn zkc)) := ⟨_, rfl⟩
      have HW4 : Hid (W4 = ((((w3.setCell ⟨w.heap.size, 0, none⟩ (.int .i64 zk)).setCell ⟨w.heap.size, 1, none⟩ (.slice zna znn znc)).setCell ⟨w.heap.size, 2, none⟩ (.slice zra zrn zrc)).setCell ⟨w.heap.size, 3, none⟩ (.slice zka zkn zkc))) := hW4
      have hk4 : ∀ q, q ≠ w.heap.size → W4.heap[q]? = w3.heap[q]? := fun q hq => by rw [hW4]; exact heap_set4 _ _ _ _ _ hq
      have hz4 : W4.heap.size = w3.heap.size := by rw [hW4]; simp
      have HV4 : Hid (BoxC W4 w.heap.size (.int .i64 zk) (.slice zna znn znc) (.slice zra zrn zrc) (.slice zka zkn zkc)) := by unfold Hid; rw [hW4]; exact HV3.out.set4 _ _ _ _
      have HI4 : Hid (BoxI W4 (w.heap.size + 1) (-1)) := HI3.out.of (hk4 _ (by omega))
      have HR4 : Hid (RdrAt W4 Wb.heap.size g j ts n) := HR3.out.of (hk4 _ (by omega))
      have HB4 : Hid (Below w.heap.size w W4) := by unfold Hid; rw [hW4]; exact (((HB3.out.setCell (Nat.le_refl _) _).setCell (Nat.le_refl _) _).setCell (Nat.le_refl _) _).setCell (Nat.le_refl _) _
      have hs0 := HS0.out
      have hge := HO3.out.us.ge HT2.out (by omega)
      have hlt := HO3.out.us.lt HT2.out (by have := HR3.out.lt; omega)
      have HO4 : Hid (OwnR ts gs 0 j W2.heap.size W4 6 (.agg #[.int .i64 zk, .slice zna znn znc, .slice zra zrn zrc, .slice zka zkn zkc]) c L) := HO3.out.to (fun x hx => hk4 _ (by have := hge x hx; omega)) (by omega)
      have HT3 : Hid (TkM W0.heap.size Wb.heap.size w3 g ts gs) := HT2.out.bt hb3 (by omega)
      obtain ⟨v0, v1, v2, v3⟩ := HV3.out.cells
      have vf0 := HV3.out.frz 0
      have vf1 := HV3.out.frz 1
      have vf2 := HV3.out.frz 2
      have vf3 := HV3.out.frz 3
      have HT4 : Hid (TkM W0.heap.size Wb.heap.size W4 g ts gs) := HT3.out.keep (fun q hq _ => hk4 q (by omega))
      clear hb3 hO3 hR3 hzk hW4
      go_upto_region 7 with fail
      rw [← HW4.out]
      clear v0 v1 v2 v3 vf0 vf1 vf2 vf3
      obtain ⟨ra, rc, hbR, har, hrc1, hrc2⟩ := HR4.out
      obtain ⟨r0, r1⟩ := hbR.cells
      obtain ⟨m, hm⟩ : ∃ m, m = ts.length - j := ⟨_, rfl⟩
      rw [← hm] at r0
      have HM : Hid (m = ts.length - j) := hm
      clear hm hbR har hrc1
      by_cases hj : j < ts.length
      · have hm1 : (0 : Int) < (m : Int) := by have := HM.out; omega
        have HWr : Hid (wholeR zs = (CN.zero, hereI ts (n : Nat) j)) := wholeR_more HT.out HL.out hres hj
        go_wp2_with fail
        refine (here_any W0.heap.size Wb.heap.size g j ts gs n W4 HR4.out HT4.out hje.2).mono ?_
        rintro e w5 ⟨rfl, hw5⟩
        rw [hw5]; clear hw5
        go_wp2_with fail
        refine leaves_cons (f := 138) (args := #[.pointer (some ⟨w.heap.size, 0, none⟩), .pointer (some ⟨w.heap.size + 1, 0, none⟩)]) (by simp) (by simp [go_sem]) ?_
        refine (catch_gaveUp w.heap.size (w.heap.size + 1) (Nat.lt_succ_self _) _ _ _ _ _ (hereI ts (n : Nat) j) [] W4 HV4.out HI4.out).mono ?_
        rintro e u' w'' ⟨rfl, rfl, hB, hV, hI⟩
        obtain ⟨s0, s1, s2, s3⟩ := hV.cells
        have si := hI.cell
        refine ⟨.tuple #[.agg #[.int .i64 0, .slice none 0 0, .slice none 0 0, .slice none 0 0], .int .i64 ((hereI ts (n : Nat) j))], by simp [results, Tryz.results88, go_sem, s0, s1, s2, s3, si], AnsP.mk HWr.out (OwnC.none _ _ _) (HB4.out.trans (hB.mono (Nat.le_refl _)))⟩

      · have hm1 : ¬ (0 : Int) < (m : Int) := by have := HM.out; omega
        have HWr : Hid (wholeR zs = (c, -1)) := wholeR_ok HT.out HL.out hres hj
        obtain ⟨v0, v1, v2, v3⟩ := HV4.out.cells
        have vf0 := HV4.out.frz 0
        have vf1 := HV4.out.frz 1
        have vf2 := HV4.out.frz 2
        have vf3 := HV4.out.frz 3
        have i0 := HI4.out.cell
        have if0 := HI4.out.frz 0
        go_wp2_with fail
        refine leaves_cons (f := 138) (args := #[.pointer (some ⟨w.heap.size, 0, none⟩), .pointer (some ⟨w.heap.size + 1, 0, none⟩)]) (by simp) (by simp [go_sem]) ?_
        refine (catch_none w.heap.size (w.heap.size + 1) _).mono ?_
        rintro e u' w'' ⟨rfl, rfl, rfl⟩
        obtain ⟨hB, hV, hI⟩ := set5_mem (Nat.lt_succ_self w.heap.size) HV4.out HI4.out (.int .i64 zk) (.slice zna znn znc) (.slice zra zrn zrc) (.slice zka zkn zkc) (-1)
        obtain ⟨s0, s1, s2, s3⟩ := hV.cells
        have si := hI.cell
        refine ⟨.tuple #[.agg #[.int .i64 zk, .slice zna znn znc, .slice zra zrn zrc, .slice zka zkn zkc], .int .i64 (-1)], by simp [results, Tryz.results88, go_sem, s0, s1, s2, s3, si], AnsP.mk (L := L) HWr.out ?_ (HB4.out.trans hB)⟩
        have hk : ∀ x ∈ L, ((((((W4.setCell ⟨w.heap.size, 0, none⟩ (.int .i64 zk)).setCell ⟨w.heap.size, 1, none⟩ (.slice zna znn znc)).setCell ⟨w.heap.size, 2, none⟩ (.slice zra zrn zrc)).setCell ⟨w.heap.size, 3, none⟩ (.slice zka zkn zkc)).setCell ⟨w.heap.size + 1, 0, none⟩ (.int .i64 (-1)))).heap[x.1.block]? = W4.heap[x.1.block]? := fun x hx => by
          have h1 := hge x hx
          rw [Below.heap_setCell _ ⟨w.heap.size + 1, 0, none⟩ _ _ (by show _ ≠ w.heap.size + 1; omega)]
          exact heap_set4 _ _ _ _ _ (by omega)
        have hO5 := HO4.out.to hk (by simp)
        exact ⟨hO5.ow, hO5.nd, hO5.fr, fun x hx => ⟨by have := hge x hx; omega, by have := hlt x hx; simp; omega⟩⟩
  · have hbn : (bad != -1) = true := by simpa using hbad
    obtain ⟨Wb, hWb⟩ : ∃ W, W = w1.setCell ⟨w.heap.size + 1, 0, none⟩ (.int .i64 bad) := ⟨_, rfl⟩
    have HWb : Hid (Wb = w1.setCell ⟨w.heap.size + 1, 0, none⟩ (.int .i64 bad)) := hWb
    have HVb : Hid (BoxC Wb w.heap.size (.int .i64 0) (.slice none 0 0) (.slice none 0 0) (.slice none 0 0)) := by unfold Hid; rw [hWb]; exact HV1.out.other _ hne1
    have HIb : Hid (BoxI Wb (w.heap.size + 1) bad) := by unfold Hid; rw [hWb]; exact HI1.out.set bad
    have HBb : Hid (Below w.heap.size w Wb) := by unfold Hid; rw [hWb]; exact HB1.out.setCell (by show w.heap.size ≤ w.heap.size + 1; omega) _
    clear hWb
    go_upto_region 2 with fail
    rw [← HWb.out]
    obtain ⟨v0, v1, v2, v3⟩ := HVb.out.cells
    have vf0 := HVb.out.frz 0
    have vf1 := HVb.out.frz 1
    have vf2 := HVb.out.frz 2
    have vf3 := HVb.out.frz 3
    clear i0 if0
    have i0 := HIb.out.cell
    have if0 := HIb.out.frz 0
    have HWr : Hid (wholeR zs = (CN.zero, bad)) := wholeR_tok HT.out hbad
    go_wp2_with fail
    go_region
    go_wp2
    obtain ⟨hB, hV, hI⟩ := set5_mem (Nat.lt_succ_self w.heap.size) HVb.out HIb.out (.int .i64 0) (.slice none 0 0) (.slice none 0 0) (.slice none 0 0) bad
    obtain ⟨s0, s1, s2, s3⟩ := hV.cells
    have si := hI.cell
    refine ⟨.tuple #[.agg #[.int .i64 0, .slice none 0 0, .slice none 0 0, .slice none 0 0], .int .i64 bad], by simp [results, Tryz.results88, go_sem, s0, s1, s2, s3, si], AnsP.mk HWr.out (OwnC.none _ _ _) (HBb.out.trans hB).drew⟩
end

section
open Go.RowKit

theorem conRead_fell {zs : List Int} {c : CN} {p : Int} (h : wholeR zs = (c, p)) (hp : p ≠ -1) : conRead zs = (c, p) := by
  unfold conRead; rw [h]; rw [if_neg (fun e => hp e.1)]
theorem conRead_ok {zs : List Int} {c : CN} {p : Int} (h : wholeR zs = (c, p)) (hc : conOk c = true) : conRead zs = (c, p) := by
  unfold conRead; rw [h]; rw [if_neg (fun e => by have := e.2; rw [hc] at this; cases this)]
theorem conRead_no {zs : List Int} {c : CN} {n : Nat} (hl : zs.length = n) (h : wholeR zs = (c, -1)) (hc : conOk c = false) : conRead zs = (CN.zero, ((n : Nat) : Int)) := by
  unfold conRead; rw [h, hl]; rw [if_pos ⟨rfl, hc⟩]

set_option maxRecDepth 100000 in
set_option maxHeartbeats 2000000 in
theorem implConRead_any (b off n cap : Nat) (zs : List Int) (w : World) (h : Rd 0 w.heap.size w (some ⟨b, off, none⟩) n cap zs) (hb : b < w.heap.size) :
    Calls Tryz.prog 37 #[.slice (some ⟨b, off, none⟩) n cap] w (AnsP w (conRead zs)) := by
  have HL : Hid (zs.length = n) := h.len
  obtain ⟨c, p, hcp⟩ : ∃ c p, wholeR zs = (c, p) := ⟨_, _, rfl⟩
  have HW : Hid (wholeR zs = (c, p)) := hcp
  have HBk : Hid (c.bulk ≤ 1048576) := by
    have := wholeR_bulk zs (toks_bound zs).1
    rw [hcp] at this
    exact Nat.le_trans this (by omega)
  obtain ⟨W0, hW0⟩ : ∃ W0, W0 = w.alloc (.cells #[.int .i64 0, .slice none 0 0, .slice none 0 0, .slice none 0 0] 30) := ⟨_, rfl⟩
  have HW0 : Hid (W0 = w.alloc (.cells #[.int .i64 0, .slice none 0 0, .slice none 0 0, .slice none 0 0] 30)) := hW0
  have hb0 : Below w.heap.size w W0 := by rw [hW0]; exact (Below.refl _ _).alloc (Nat.le_refl _) _
  have HB0 : Hid (Below w.heap.size w W0) := hb0
  have HV0 : Hid (BoxC W0 w.heap.size (.int .i64 0) (.slice none 0 0) (.slice none 0 0) (.slice none 0 0)) := by unfold Hid; rw [hW0]; exact BoxC.new w _ _ _ _
  have HS0 : Hid (w.heap.size < W0.heap.size) := HV0.out.lt
  have HR0 : Hid (Rd 0 W0.heap.size W0 (some ⟨b, off, none⟩) n cap zs) := (h.below hb0 (Nat.le_refl _)).mono (Nat.le_refl _) hb0.size
  have hbl : b < W0.heap.size := Nat.lt_of_lt_of_le hb hb0.size
  clear h hb0 hW0 hcp
  go_enter Tryz.func37, Tryz.ntmps37
  go_wp2_with fail
  rw [← HW0.out]
  refine (readWhole_any b off n cap zs W0 HR0.out hbl).mono ?_
  rintro e w1 hA
  obtain ⟨v, L, he, hO, hb1⟩ := hA
  subst he
  rw [HW.out] at hO ⊢
  obtain ⟨zna, znn, znc, zra, zrn, zrc, zka, zkn, zkc, rfl⟩ := hO.ow.agg
  obtain ⟨zk, hzk⟩ : ∃ zk, zk = (c, p).1.kind := ⟨_, rfl⟩
  rw [← hzk] at hO
  rw [← hzk]
  have HO1 : Hid (OwnC W0.heap.size w1 6 (.agg #[.int .i64 zk, .slice zna znn znc, .slice zra zrn zrc, .slice zka zkn zkc]) c L) := hO
  have HV1 : Hid (BoxC w1 w.heap.size (.int .i64 0) (.slice none 0 0) (.slice none 0 0) (.slice none 0 0)) := HV0.out.below hb1 HV0.out.lt
  have HB1 : Hid (Below w.heap.size w w1) := HB0.out.trans (hb1.mono HB0.out.size)
  have hs0 := HS0.out
  have hs1 : W0.heap.size ≤ w1.heap.size := hb1.size
  obtain ⟨W3, hW3⟩ : ∃ W, W = w1.alloc (.cells #[.int .i64 zk, .slice zna znn znc, .slice zra zrn zrc, .slice zka zkn zkc] 30) := ⟨_, rfl⟩
  have HW3 : Hid (W3 = w1.alloc (.cells #[.int .i64 zk, .slice zna znn znc, .slice zra zrn zrc, .slice zka zkn zkc] 30)) := hW3
  have hb3 : Below w1.heap.size w1 W3 := by rw [hW3]; exact (Below.refl _ _).alloc (Nat.le_refl _) _
  have HO3 : Hid (OwnC W0.heap.size W3 6 (.agg #[.int .i64 zk, .slice zna znn znc, .slice zra zrn zrc, .slice zka zkn zkc]) c L) := OwnC.below HO1.out hb3
  have HV3 : Hid (BoxC W3 w.heap.size (.int .i64 0) (.slice none 0 0) (.slice none 0 0) (.slice none 0 0)) := HV1.out.below hb3 HV1.out.lt
  have HC3 : Hid (BoxC W3 w1.heap.size (.int .i64 zk) (.slice zna znn znc) (.slice zra zrn zrc) (.slice zka zkn zkc)) := by unfold Hid; rw [hW3]; exact BoxC.new w1 _ _ _ _
  have HB3 : Hid (Below w.heap.size w W3) := HB1.out.trans (hb3.mono (by omega))
  clear hO hb1 hzk hb3 hW3
  go_upto_region 2 with fail
  try dsimp only
  rw [← HW3.out]
  obtain ⟨c0, c1, c2, c3⟩ := HC3.out.cells
  obtain ⟨v0, v1, v2, v3⟩ := HV3.out.cells
  have vf0 := HV3.out.frz 0
  have vf1 := HV3.out.frz 1
  have vf2 := HV3.out.frz 2
  have vf3 := HV3.out.frz 3
  by_cases hp : p = -1
  · subst hp
    cases hok : conOk c
    · have HCr : Hid (conRead zs = (CN.zero, ((n : Nat) : Int))) := conRead_no HL.out HW.out hok
      go_wp2_with fail
      refine (implConOk_any (HO3.out.rd) (Nat.le_refl _) HBk.out).mono ?_
      rintro e w4 ⟨rfl, hb4⟩
      rw [hok]
      have HV4 : Hid (BoxC w4 w.heap.size (.int .i64 0) (.slice none 0 0) (.slice none 0 0) (.slice none 0 0)) := HV3.out.below hb4 HV3.out.lt
      have HB4 : Hid (Below w.heap.size w w4) := HB3.out.trans (hb4.mono HB3.out.size)
      clear hb4 c0 c1 c2 c3 v0 v1 v2 v3 vf0 vf1 vf2 vf3
      obtain ⟨v0, v1, v2, v3⟩ := HV4.out.cells
      have vf0 := HV4.out.frz 0
      have vf1 := HV4.out.frz 1
      have vf2 := HV4.out.frz 2
      have vf3 := HV4.out.frz 3
      go_wp2
      obtain ⟨s0, s1, s2, s3⟩ := (HV4.out.set4 (.int .i64 0) (.slice none 0 0) (.slice none 0 0) (.slice none 0 0)).cells
      refine bodyPost_ret (v := .tuple #[.agg #[.int .i64 0, .slice none 0 0, .slice none 0 0, .slice none 0 0], .int .i64 n]) (by simp [results, Tryz.results37, go_sem, s0, s1, s2, s3]) rfl ?_
      exact AnsP.mk HCr.out (OwnC.none _ _ _) ((((HB4.out.setCell (Nat.le_refl _) _).setCell (Nat.le_refl _) _).setCell (Nat.le_refl _) _).setCell (Nat.le_refl _) _)
    · have HCr : Hid (conRead zs = (c, -1)) := conRead_ok HW.out hok
      go_wp2_with fail
      refine (implConOk_any (HO3.out.rd) (Nat.le_refl _) HBk.out).mono ?_
      rintro e w4 ⟨rfl, hb4⟩
      rw [hok]
      have HV4 : Hid (BoxC w4 w.heap.size (.int .i64 0) (.slice none 0 0) (.slice none 0 0) (.slice none 0 0)) := HV3.out.below hb4 HV3.out.lt
      have HC4 : Hid (BoxC w4 w1.heap.size (.int .i64 zk) (.slice zna znn znc) (.slice zra zrn zrc) (.slice zka zkn zkc)) := HC3.out.below hb4 HC3.out.lt
      have HB4 : Hid (Below w.heap.size w w4) := HB3.out.trans (hb4.mono HB3.out.size)
      have HO4 : Hid (OwnC W0.heap.size w4 6 (.agg #[.int .i64 zk, .slice zna znn znc, .slice zra zrn zrc, .slice zka zkn zkc]) c L) := OwnC.below HO3.out hb4
      clear hb4 c0 c1 c2 c3 v0 v1 v2 v3 vf0 vf1 vf2 vf3
      obtain ⟨c0, c1, c2, c3⟩ := HC4.out.cells
      obtain ⟨v0, v1, v2, v3⟩ := HV4.out.cells
      have vf0 := HV4.out.frz 0
      have vf1 := HV4.out.frz 1
      have vf2 := HV4.out.frz 2
      have vf3 := HV4.out.frz 3
      go_wp2
      obtain ⟨s0, s1, s2, s3⟩ := (HV4.out.set4 (.int .i64 zk) (.slice zna znn znc) (.slice zra zrn zrc) (.slice zka zkn zkc)).cells
      refine bodyPost_ret (v := .tuple #[.agg #[.int .i64 zk, .slice zna znn znc, .slice zra zrn zrc, .slice zka zkn zkc], .int .i64 (-1)]) (by simp [results, Tryz.results37, go_sem, s0, s1, s2, s3]) rfl ?_
      refine AnsP.mk (L := L) HCr.out ?_ ((((HB4.out.setCell (Nat.le_refl _) _).setCell (Nat.le_refl _) _).setCell (Nat.le_refl _) _).setCell (Nat.le_refl _) _)
      exact (HO4.out.same (fun q hq _ => heap_set4 _ _ _ _ _ (by omega)) (by simp)).mono (by omega)
  · have hpn : (p == -1) = false := by simpa using hp
    have HCr : Hid (conRead zs = (c, p)) := conRead_fell HW.out hp
    go_wp2
    obtain ⟨s0, s1, s2, s3⟩ := (HV3.out.set4 (.int .i64 zk) (.slice zna znn znc) (.slice zra zrn zrc) (.slice zka zkn zkc)).cells
    refine bodyPost_ret (v := .tuple #[.agg #[.int .i64 zk, .slice zna znn znc, .slice zra zrn zrc, .slice zka zkn zkc], .int .i64 p]) (by simp [results, Tryz.results37, go_sem, s0, s1, s2, s3]) rfl ?_
    refine AnsP.mk (L := L) HCr.out ?_ ((((HB3.out.setCell (Nat.le_refl _) _).setCell (Nat.le_refl _) _).setCell (Nat.le_refl _) _).setCell (Nat.le_refl _) _)
    exact (HO3.out.same (fun q hq _ => heap_set4 _ _ _ _ _ (by omega)) (by simp)).mono (by omega)
end

end Go.Proofs.YtnmljalcndfjmaaGreat
