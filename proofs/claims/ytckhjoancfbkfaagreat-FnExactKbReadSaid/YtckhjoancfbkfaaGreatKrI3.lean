/- The program's reader: one thing told, whole. -/
import Derived.Test.YtckhjoancfbkfaaGreatNG18
import Derived.Test.YtckhjoancfbkfaaGreatNG20
import Derived.Test.YtckhjoancfbkfaaGreatNG14
import Derived.Lib.OthersKept
import Derived.Laws.Rows
import Derived.Laws.Tables
namespace Go.Proofs.YtckhjoancfbkfaaGreat
open Go.RowKit
set_option linter.unusedVariables false

/-- What a reader of one thing told leaves. -/
def AxP (pb g : Nat) (ts : List Tok) (gs : List (Nat × Nat)) (en : Int) (i : Nat) (w : World) (r : ResX) (e : Ending) (w' : World) : Prop :=
  Bt pb w.heap.size w w' ∧ match r with
  | .bad q => e = gaveUp q
  | .ok x j => ∃ V Ls, e = .returned (.agg (V.arr x.kind)) ∧ PaX w' 6 V x Ls ∧ Se6 ts gs i j w.heap.size w'.heap.size w' Ls ∧ RdrAt w' pb g j ts en

theorem AxP.fell {pb g : Nat} {ts : List Tok} {gs : List (Nat × Nat)} {en : Int} {i : Nat} {w : World} {r : ResX} {p q : Int} {w' : World} (hb : Bt pb w.heap.size w w') (hr : r = .bad p) (hq : q = p) : AxP pb g ts gs en i w r (.panicked [{ v := .iface 111 (.int .i64 q), recovered := false }]) w' := by
  subst hr; subst hq; exact ⟨hb, rfl⟩

theorem PaX.forms {w : World} {d : Nat} {V : XV} {x : AX} {Ls : Nat → List (Addr × IntKind)} (h : PaX w d V x Ls) : ∃ (ck : Int) (c1a : Option Addr) (c1n c1c : Nat) (c2a : Option Addr) (c2n c2c : Nat) (c3a : Option Addr) (c3n c3c : Nat) (dk : Int) (d1a : Option Addr) (d1n d1c : Nat) (d2a : Option Addr) (d2n d2c : Nat) (d3a : Option Addr) (d3n d3c : Nat) (ra : Option Addr) (rn rc : Nat) (sa : Option Addr) (sn sc : Nat) (aa : Option Addr) (an ac : Nat) (ba : Option Addr) (bn bc : Nat),
    V = ⟨.int .i64 ck, .slice c1a c1n c1c, .slice c2a c2n c2c, .slice c3a c3n c3c, .int .i64 dk, .slice d1a d1n d1c, .slice d2a d2n d2c, .slice d3a d3n d3c, .slice ra rn rc, .slice sa sn sc, .slice aa an ac, .slice ba bn bc⟩ := by
  obtain ⟨_, _, _, _, _, _, _, _, _, e1⟩ := h.c.agg
  obtain ⟨_, _, _, _, _, _, _, _, _, e2⟩ := h.d.agg
  obtain ⟨_, _, _, e3⟩ := h.r.form
  obtain ⟨_, _, _, e4⟩ := h.s.form
  obtain ⟨_, _, _, e5⟩ := h.a.form
  obtain ⟨_, _, _, e6⟩ := h.b.form
  simp only [Value.agg.injEq, Array.mk.injEq, List.cons.injEq, and_true] at e1 e2
  obtain ⟨a1, a2, a3, a4⟩ := e1
  obtain ⟨b1, b2, b3, b4⟩ := e2
  cases V
  simp only at a1 a2 a3 a4 b1 b2 b3 b4 e3 e4 e5 e6
  subst a1 a2 a3 a4 b1 b2 b3 b4 e3 e4 e5 e6
  exact ⟨_, _, _, _, _, _, _, _, _, _, _, _, _, _, _, _, _, _, _, _, _, _, _, _, _, _, _, _, _, _, _, _, rfl⟩

/-- Where an iterator over a text stands. -/
def posOf (w : World) (b : Nat) : Nat := match w.heap[b]? with | some (.stringIter _ q) => q | _ => 0
theorem posOf_at {w : World} {b q : Nat} {s : ByteArray} (h : w.heap[b]? = some (.stringIter s q)) : posOf w b = q := by unfold posOf; rw [h]

theorem fieldsN_size (k : Int) : (fieldsS k).size = (fieldsN k).length := by
  unfold fieldsS fieldsN
  repeat' split
  all_goals rfl
theorem fieldsN_at (k : Int) (q : Nat) (h : q < (fieldsS k).size) : ((fieldsS k)[q]'h).toNat = (fieldsN k).getD q 0 ∧ ((fieldsS k)[q]'h).toNat < 128 ∧ ((fieldsN k).getD q 0 = 67 ∨ (fieldsN k).getD q 0 = 68 ∨ (fieldsN k).getD q 0 = 82 ∨ (fieldsN k).getD q 0 = 83 ∨ (fieldsN k).getD q 0 = 65 ∨ (fieldsN k).getD q 0 = 66) := by
  have key : ∀ (s : ByteArray) (l : List Nat) (hq : q < s.size), s.size = l.length → (s = ⟨#[67, 68]⟩ ∧ l = [67, 68] ∨ s = ⟨#[82, 83]⟩ ∧ l = [82, 83] ∨ s = ⟨#[65, 67]⟩ ∧ l = [65, 67] ∨ s = ⟨#[82, 65, 66]⟩ ∧ l = [82, 65, 66] ∨ s = ⟨#[]⟩ ∧ l = []) →
      (s[q]'hq).toNat = l.getD q 0 ∧ (l.getD q 0 = 67 ∨ l.getD q 0 = 68 ∨ l.getD q 0 = 82 ∨ l.getD q 0 = 83 ∨ l.getD q 0 = 65 ∨ l.getD q 0 = 66) := by
    intro s l hq hl hc
    rcases hc with ⟨rfl, rfl⟩ | ⟨rfl, rfl⟩ | ⟨rfl, rfl⟩ | ⟨rfl, rfl⟩ | ⟨rfl, rfl⟩
    · match q, hq with
      | 0, _ | 1, _ => exact ⟨rfl, by decide⟩
      | q + 2, hq => exact absurd hq (by show ¬ q + 2 < 2; omega)
    · match q, hq with
      | 0, _ | 1, _ => exact ⟨rfl, by decide⟩
      | q + 2, hq => exact absurd hq (by show ¬ q + 2 < 2; omega)
    · match q, hq with
      | 0, _ | 1, _ => exact ⟨rfl, by decide⟩
      | q + 2, hq => exact absurd hq (by show ¬ q + 2 < 2; omega)
    · match q, hq with
      | 0, _ | 1, _ | 2, _ => exact ⟨rfl, by decide⟩
      | q + 3, hq => exact absurd hq (by show ¬ q + 3 < 3; omega)
    · exact absurd hq (by show ¬ q < 0; omega)
  have k1 := key _ _ h (fieldsN_size k) (by
    unfold fieldsS fieldsN
    repeat' split
    all_goals simp)
  exact ⟨k1.1, by rw [k1.1]; have := k1.2; omega, k1.2⟩

/-- The iterator goes on. -/
theorem StX.iter {pb g : Nat} {ts : List Tok} {gs : List (Nat × Nat)} {en : Int} {w0 : World} {i0 p s : Nat} {k : Int} {w : World} {V : XV} {x : AX} {Ls : Nat → List (Addr × IntKind)} {j : Nat} {base : Nat} (h : StX pb g ts gs en w0 i0 p s k w V x Ls j) (hS : SsX base pb g ts gs w0 p s) {b : Nat} (h1 : p < b) (h2 : b < s) (sB : ByteArray) (q : Nat) : StX pb g ts gs en w0 i0 p s k (w.iterAt b sB q) V x Ls j := by
  have hplt := hS.plt
  have hp0 := hS.p0
  have hn : ∀ c, c ≠ b → (w.iterAt b sB q).heap[c]? = w.heap[c]? := fun c hc => Lib.iterAt_other _ _ _ _ _ hc
  have hsz : (w.iterAt b sB q).heap.size = w.heap.size := Lib.iterAt_size _ _ _ _
  have hk : ∀ c, ∀ y ∈ Ls c, (w.iterAt b sB q).heap[y.1.block]? = w.heap[y.1.block]? := fun c y hy => hn _ ((h.se.us c).ne hS.t (by omega) h2 y hy)
  exact ⟨h.bt.trans (Bt.of_below (Lib.below_iterAt (Below.refl _ _) (by omega) _ _)), h.box.of (hn p (by omega)), h.pa.keep hk, by rw [hsz]; exact h.se.keep hk, h.rdr.of (hn pb (by omega)), by rw [hsz]; exact h.le⟩

/-- Done: the result laid down. -/
theorem StX.fin {base pb g : Nat} {ts : List Tok} {gs : List (Nat × Nat)} {en : Int} {i p s : Nat} {k : Int} {w w5 : World} {V : XV} {x : AX} {Ls : Nat → List (Addr × IntKind)} {j i0 : Nat} (h : StX pb g ts gs en w i0 p s k w5 V x Ls j) (hS : SsX base pb g ts gs w p s) (hi : i ≤ i0) (hp : w.heap.size < p) (hk : x.kind = k) {r : ResX} (hr : r = .ok x j) (cs : Array Value) (hcs : cs = V.arr k) :
    AxP pb g ts gs en i w r (.returned (.agg cs)) (w5.setRow w.heap.size cs) := by
  subst hr hcs
  have hplt := hS.plt
  have hp0 := hS.p0
  have hp1 := hS.p1
  have hn : ∀ c, c ≠ w.heap.size → (w5.setRow w.heap.size (V.arr k)).heap[c]? = w5.heap[c]? := fun c hc => setRow_other w5 w.heap.size c _ hc
  have hsz : (w5.setRow w.heap.size (V.arr k)).heap.size = w5.heap.size := setRow_size _ _ _
  have hkk : ∀ c, ∀ y ∈ Ls c, (w5.setRow w.heap.size (V.arr k)).heap[y.1.block]? = w5.heap[y.1.block]? := fun c y hy => hn _ ((h.se.us c).ne hS.t (by omega) (by omega) y hy)
  refine ⟨⟨h.bt.os, h.bt.tape, h.bt.output, by rw [hsz]; exact h.bt.size, fun c hc hcp => (hn c (by omega)).trans (h.bt.block c hc hcp)⟩, V, Ls, by rw [hk], h.pa.keep hkk, ?_, h.rdr.of (hn pb (by omega))⟩
  rw [hsz]
  exact (h.se.keep hkk).mono hi (Nat.le_refl _) (by omega) (Nat.le_refl _)

set_option maxRecDepth 100000 in
set_option maxHeartbeats 4000000 in
theorem axiom_any (base pb g i : Nat) (ts : List Tok) (gs : List (Nat × Nat)) (en : Int) (w : World) (hR : RdrAt w pb g i ts en) (hT : TkM base pb w g ts gs) (hi : i ≤ ts.length) :
    Calls Tryz.prog 82 #[.pointer (some ⟨pb, 0, none⟩)] w (AxP pb g ts gs en i w (axR ts en i)) := by
  have hpl := hR.lt
  have HTw : Hid (TkM base pb w g ts gs) := hT
  obtain ⟨W0, HW0⟩ : ∃ W, Hid (W = w.alloc (.cells #[.int .i64 0, .int .i64 0, .slice none 0 0, .slice none 0 0, .slice none 0 0, .int .i64 0, .slice none 0 0, .slice none 0 0, .slice none 0 0, .slice none 0 0, .slice none 0 0, .slice none 0 0, .slice none 0 0] 39)) := ⟨_, rfl⟩
  have hb0 : Below w.heap.size w W0 := by rw [HW0.out]; exact (Below.refl _ _).alloc (Nat.le_refl _) _
  have HB0 : Hid (Below w.heap.size w W0) := hb0
  have HZ0 : Hid (BoxX W0 w.heap.size 0 XV.zero) := by unfold Hid; rw [HW0.out]; exact World.alloc_heap_new w _
  have HR0 : Hid (RdrAt W0 pb g i ts en) := hR.below hb0
  have HT0 : Hid (TkM base pb W0 g ts gs) := hT.below (hb0.mono (Nat.le_of_lt hpl))
  clear hb0 hR hT
  go_enter Tryz.func82, Tryz.ntmps82
  cases h1 : isI ts 1 i
  · have HC : Hid (axR ts en i = .bad (hereI ts en i)) := by unfold Hid; rw [axR, if_pos h1]
    go_wp2_with fail
    rw [← HW0.out]
    refine (take_bad base pb g i ts gs en 1 _ HR0.out HT0.out hi h1).mono ?_
    rintro e w1 ⟨rfl, hb1⟩
    have HBt : Hid (Bt pb w.heap.size w w1) := Bt.of_below (HB0.out.trans (hb1.mono HB0.out.size))
    clear hb1
    simp only [gaveUp]
    go_wp2
    exact ⟨rfl, AxP.fell HBt.out HC.out rfl⟩
  have hlt := isI_lt h1
  obtain ⟨ta, tc, hx, _, _, _⟩ := HT0.out.word hlt
  obtain ⟨tn, htn⟩ : ∃ tn, tn = (wordI ts i).length := ⟨_, rfl⟩
  have HX : Hid (txv (ts.getD i Tok.zero) (gs.getD i (0, 0)) = .slice ta (wordI ts i).length tc) := hx
  have HTN : Hid (tn = (wordI ts i).length) := htn
  obtain ⟨pl, hp⟩ : ∃ pl, pl = hereI ts en i := ⟨_, rfl⟩
  have HP : Hid (pl = hereI ts en i) := hp
  obtain ⟨kd, hkd⟩ : ∃ kd, kd = kindXI ts i := ⟨_, rfl⟩
  have HKD : Hid (kd = kindXI ts i) := hkd
  clear hx htn hp hkd
  go_wp2_with fail
  rw [← HW0.out]
  refine (take_ok base pb g i ts gs en 1 _ HR0.out HT0.out h1).mono ?_
  rintro e w1 ⟨rfl, hR1, hb1⟩
  rw [HX.out, ← HTN.out, ← HP.out]
  have HR1 : Hid (RdrAt w1 pb g (i + 1) ts en) := hR1
  have HT1 : Hid (TkM base pb w1 g ts gs) := HT0.out.bt hb1 (by have := HB0.out.size; omega)
  have HZ1 : Hid (BoxX w1 w.heap.size 0 XV.zero) := HZ0.out.of (hb1.block _ HZ0.out.lt (by omega))
  have HBt1 : Hid (Bt pb w.heap.size w w1) := (Bt.of_below HB0.out).trans (hb1.mono HB0.out.size)
  have hs1 : w.heap.size < w1.heap.size := HZ1.out.lt
  clear hR1 hb1
  go_wp2_with fail
  obtain ⟨W1, HW1⟩ : ∃ W1, Hid (W1 = w1.alloc (.cells #[.int .i64 1, .int .i64 pl, .slice ta tn tc] 134)) := ⟨_, rfl⟩
  rw [← HW1.out]
  have hbb : Below w1.heap.size w1 W1 := by rw [HW1.out]; exact (Below.refl _ _).alloc (Nat.le_refl _) _
  have HK1 : Hid (BoxK3 W1 w1.heap.size (.int .i64 1) (.int .i64 pl) (.slice ta tn tc)) := by unfold Hid; rw [HW1.out]; exact BoxK3.new w1 _ _ _
  have HRd1 : Hid (Rd 0 pb W1 ta tn tc (wordI ts i)) := by
    obtain ⟨a', c', hx', _, hr, _⟩ := (HT1.out.below (hbb.mono (by omega))).word hlt
    rw [HX.out] at hx'
    simp only [Value.slice.injEq, true_and] at hx'
    obtain ⟨rfl, rfl⟩ := hx'
    unfold Hid; rw [HTN.out]; exact hr
  refine (axiomKind_any ta tn tc (wordI ts i) W1 HRd1.out).mono ?_
  rintro e w2 ⟨rfl, nd, hw2⟩
  rw [show kindX (strOfNums (wordI ts i)).toList = kd from HKD.out.symm]
  have hb2 : Below w1.heap.size w1 w2 := by rw [hw2]; exact below_drewN hbb nd
  have HK2 : Hid (BoxK3 w2 w1.heap.size (.int .i64 1) (.int .i64 pl) (.slice ta tn tc)) := by unfold Hid; rw [hw2]; exact HK1.out
  have HR2 : Hid (RdrAt w2 pb g (i + 1) ts en) := HR1.out.below hb2
  have HZ2 : Hid (BoxX w2 w.heap.size 0 XV.zero) := HZ1.out.of (hb2.block _ hs1)
  have HBt2 : Hid (Bt pb w.heap.size w w2) := HBt1.out.trans (Bt.of_below (hb2.mono (by omega)))
  have hs2 : w1.heap.size < w2.heap.size := by rw [hw2]; show w1.heap.size < W1.heap.size; rw [HW1.out, World.size_alloc]; omega
  obtain ⟨t0, t1, t2⟩ := HK2.out.cells
  clear hw2 hb2 hbb HW1 HK1 HRd1
  by_cases hkm : kd = -1
  · have HC : Hid (axR ts en i = .bad (hereI ts en i)) := by unfold Hid; rw [axR, if_neg (by simp [h1]), if_pos (HKD.out ▸ hkm)]
    have hkb : (kd == -1) = true := by simp [hkm]
    obtain ⟨W3, HW3⟩ : ∃ W, Hid (W = w2.alloc (.cells #[.int .i64 kd, .int .i64 0, .slice none 0 0, .slice none 0 0, .slice none 0 0, .int .i64 0, .slice none 0 0, .slice none 0 0, .slice none 0 0, .slice none 0 0, .slice none 0 0, .slice none 0 0, .slice none 0 0] 39)) := ⟨_, rfl⟩
    have HB3 : Hid (Below w2.heap.size w2 W3) := by unfold Hid; rw [HW3.out]; exact (Below.refl _ _).alloc (Nat.le_refl _) _
    have HBt : Hid (Bt pb w.heap.size w W3) := HBt2.out.trans (Bt.of_below (HB3.out.mono (by omega)))
    clear hkm
    go_wp2
    exact ⟨rfl, AxP.fell (by rw [HW3.out] at HBt; exact HBt.out) HC.out HP.out⟩
  have hkb : (kd == -1) = false := by simpa using hkm
  have HKM : Hid (kd ≠ -1) := hkm
  have hkr : 0 ≤ kd ∧ kd ≤ 5 := by have := kindXI_range ts i; rw [← HKD.out] at this; omega
  go_wp2_with fail
  obtain ⟨W3, HW3⟩ : ∃ W, Hid (W = w2.alloc (.cells #[.int .i64 kd, .int .i64 0, .slice none 0 0, .slice none 0 0, .slice none 0 0, .int .i64 0, .slice none 0 0, .slice none 0 0, .slice none 0 0, .slice none 0 0, .slice none 0 0, .slice none 0 0, .slice none 0 0] 39)) := ⟨_, rfl⟩
  rw [← HW3.out]
  have hb3 : Below w2.heap.size w2 W3 := by rw [HW3.out]; exact (Below.refl _ _).alloc (Nat.le_refl _) _
  have HX3 : Hid (BoxX W3 w2.heap.size kd XV.zero) := by unfold Hid; rw [HW3.out]; exact World.alloc_heap_new w2 _
  have HR3 : Hid (RdrAt W3 pb g (i + 1) ts en) := HR2.out.below hb3
  have HBt3 : Hid (Bt pb w.heap.size w W3) := HBt2.out.trans (Bt.of_below (hb3.mono (by omega)))
  have HT3 : Hid (TkM base pb W3 g ts gs) := HTw.out.bt HBt3.out (Nat.le_of_lt hpl)
  have HZ3 : Hid (BoxX W3 w.heap.size 0 XV.zero) := HZ2.out.of (hb3.block _ HZ2.out.lt)
  have hs3 : w2.heap.size < W3.heap.size := HX3.out.lt
  clear hb3 t0 t1 t2 HK2
  cases h3 : isI ts 3 (i + 1)
  · have HC : Hid (axR ts en i = .bad (hereI ts en (i + 1))) := by unfold Hid; rw [axR, if_neg (by simp [h1]), if_neg (HKD.out ▸ HKM.out), if_pos h3]
    refine (take_bad base pb g (i + 1) ts gs en 3 _ HR3.out HT3.out hlt h3).mono ?_
    rintro e w4 ⟨rfl, hb4⟩
    have HBt : Hid (Bt pb w.heap.size w w4) := HBt3.out.trans (Bt.of_below (hb4.mono (by omega)))
    clear hb4
    simp only [gaveUp]
    go_wp2
    exact ⟨rfl, AxP.fell HBt.out HC.out rfl⟩
  have hl3 := isI_lt h3
  have HC0 : Hid (axR ts en i = closeX ts en (fieldsR ts en (fieldsN kd) (AX.kd kd) (i + 2))) := by unfold Hid; rw [axR, if_neg (by simp [h1]), if_neg (HKD.out ▸ HKM.out), if_neg (by simp [h3]), ← HKD.out]
  refine (take_ok base pb g (i + 1) ts gs en 3 _ HR3.out HT3.out h3).mono ?_
  rintro e w4 ⟨rfl, hR4, hb4⟩
  obtain ⟨xa, xn, xc, hxv⟩ : ∃ xa xn xc, txv (ts.getD (i + 1) Tok.zero) (gs.getD (i + 1) (0, 0)) = .slice xa xn xc := by
    obtain ⟨a, c, h⟩ := txv_form (ts.getD (i + 1) Tok.zero) (gs.getD (i + 1) (0, 0)); exact ⟨_, _, _, h⟩
  rw [hxv]
  obtain ⟨pk, hpk⟩ : ∃ pk, pk = w2.heap.size := ⟨_, rfl⟩
  have HPK : Hid (pk = w2.heap.size) := hpk
  have HR4 : Hid (RdrAt w4 pb g (i + 2) ts en) := hR4
  have HX4 : Hid (BoxX w4 pk kd XV.zero) := by unfold Hid; rw [hpk]; exact HX3.out.of (hb4.block _ hs3 (by omega))
  have HZ4 : Hid (BoxX w4 w.heap.size 0 XV.zero) := HZ3.out.of (hb4.block _ (by omega) (by omega))
  have HBt4 : Hid (Bt pb w.heap.size w w4) := HBt3.out.trans (hb4.mono (by omega))
  have hpw : w.heap.size < pk := by omega
  have hp4 : pk < w4.heap.size := HX4.out.lt
  rw [← hpk]
  obtain ⟨z0, z1, z2, z3, z4, z5, z6, z7, z8, z9, z10, z11, z12⟩ := HX4.out.cells
  obtain ⟨hq, hhq⟩ : ∃ q, q = hereI ts en (i + 1) := ⟨_, rfl⟩
  rw [← hhq]
  clear hR4 hb4 hxv hpk hhq
  obtain ⟨sB, hsB⟩ : ∃ sB, sB = fieldsS kd := ⟨_, rfl⟩
  have HSB : Hid (sB = fieldsS kd) := hsB
  obtain ⟨I0, hI0⟩ : ∃ I0, I0 = w4.iter sB 0 := ⟨_, rfl⟩
  have HI0 : Hid (I0 = w4.iter sB 0) := hI0
  have hbI : Below w4.heap.size w4 I0 := by rw [hI0]; exact (Below.refl _ _).alloc (Nat.le_refl _) _
  obtain ⟨it, hit⟩ : ∃ it, it = w4.heap.size := ⟨_, rfl⟩
  have HIt : Hid (it = w4.heap.size) := hit
  have HItI : Hid (I0.heap[it]? = some (.stringIter sB 0)) := by unfold Hid; rw [hI0, hit]; exact World.iter_heap w4 _ _
  have hsI : I0.heap.size = it + 1 := by rw [hI0, hit]; exact World.size_alloc w4 _
  have hpi : pk < it := by rw [hit]; exact hp4
  have HSS : Hid (SsX base pb g ts gs w pk (it + 1)) := ⟨HTw.out, hpl, by omega, by omega⟩
  have HSt0 : Hid (StX pb g ts gs en w (i + 2) pk (it + 1) kd I0 XV.zero (AX.kd kd) (fun _ => []) (i + 2)) := by
    refine ⟨HBt4.out.trans (Bt.of_below (hbI.mono (by omega))), HX4.out.of (hbI.block _ hp4), ⟨?_, ?_, OwS.nil _, OwS.nil _, OwS.nil _, OwS.nil _⟩, Se6.nil _ _ _ _ _ _ _, HR4.out.below hbI, by omega⟩
    · exact (OwnR.leaf ts gs 0 0 0 I0 5 0).ow
    · exact (OwnR.leaf ts gs 0 0 0 I0 5 0).ow
  have HZI : Hid (BoxX I0 w.heap.size 0 XV.zero) := HZ4.out.of (hbI.block _ (by omega))
  clear hsI hbI hI0 hit hsB
  go_wp2_with (first | (go_at_call 49; refine (axiomFields_any _ _).mono ?_; rintro e w' ⟨rfl, hw⟩; rw [hw, ← HSB.out]; clear hw) | fail)
  rw [← HI0.out, ← HIt.out]
  clear z0 z1 z2 z3 z4 z5 z6 z7 z8 z9 z10 z11 z12
  go_loopw [6] (fun _ wr => ∃ (q : Nat) (V : XV) (x : AX) (Ls : Nat → List (Addr × IntKind)) (j : Nat), q ≤ (fieldsN kd).length ∧ wr.heap[it]? = some (.stringIter sB q) ∧ StX pb g ts gs en w (i + 2) pk (it + 1) kd wr V x Ls j ∧ BoxX wr w.heap.size 0 XV.zero ∧ fieldsR ts en ((fieldsN kd).drop q) x j = fieldsR ts en (fieldsN kd) (AX.kd kd) (i + 2) ∧ i + 2 ≤ j ∧ j ≤ ts.length) (fun _ wr => (fieldsN kd).length - posOf wr it)
  case atStart => exact ⟨0, XV.zero, AX.kd kd, fun _ => [], i + 2, Nat.zero_le _, HItI.out, HSt0.out, HZI.out, rfl, Nat.le_refl _, by omega⟩
  case round =>
    obtain ⟨q, V, x, Ls, j, hqn, hitq, hst, hz, hfr, hj0, hj1⟩ := hrel
    rename World => wo
    have HIq : Hid (wo.heap[it]? = some (.stringIter sB q)) := hitq
    have HSt : Hid (StX pb g ts gs en w (i + 2) pk (it + 1) kd wo V x Ls j) := hst
    have HZ : Hid (BoxX wo w.heap.size 0 XV.zero) := hz
    have HF : Hid (fieldsR ts en ((fieldsN kd).drop q) x j = fieldsR ts en (fieldsN kd) (AX.kd kd) (i + 2)) := hfr
    clear hitq hst hz hfr
    by_cases hlt2 : q < sB.size
    · have hq2 : q < (fieldsN kd).length := by rw [← fieldsN_size, ← HSB.out]; exact hlt2
      obtain ⟨f, hf⟩ : ∃ f, f = (fieldsN kd).getD q 0 := ⟨_, rfl⟩
      have hat : (sB[q]'hlt2).toNat = f ∧ (sB[q]'hlt2).toNat < 128 ∧ (f = 67 ∨ f = 68 ∨ f = 82 ∨ f = 83 ∨ f = 65 ∨ f = 66) := by
        have hs := HSB.out
        subst hs
        rw [hf]
        exact fieldsN_at kd q hlt2
      have HFc : Hid (f = 67 ∨ f = 68 ∨ f = 82 ∨ f = 83 ∨ f = 65 ∨ f = 66) := hat.2.2
      have HFd : Hid ((fieldsN kd).drop q = f :: (fieldsN kd).drop (q + 1)) := by
        unfold Hid
        rw [List.drop_eq_getElem_cons hq2, hf]
        simp [List.getD, hq2]
      obtain ⟨N0, hN⟩ : ∃ W, W = wo.iterAt it sB (q + 1) := ⟨_, rfl⟩
      have hnx : ∀ ty, (Instr.next (.pointer (some ⟨it, 0, none⟩)) true ty).run Tryz.prog wo = .ok (.tuple #[.bool true, .int .i64 q, .int .i32 (f : Nat)]) N0 := fun ty => by
        rw [hN, ← hat.1]; exact Lib.run_next_ascii_at wo it sB q ty HIq.out hlt2 hat.2.1
      have HIN : Hid (N0.heap[it]? = some (.stringIter sB (q + 1))) := by unfold Hid; rw [hN]; exact Lib.iterAt_heap _ _ _ _ _ HIq.out
      have HStN : Hid (StX pb g ts gs en w (i + 2) pk (it + 1) kd N0 V x Ls j) := by unfold Hid; rw [hN]; exact HSt.out.iter HSS.out (by omega) (Nat.lt_succ_self _) sB (q + 1)
      have HZN : Hid (BoxX N0 w.heap.size 0 XV.zero) := by unfold Hid; rw [hN]; exact HZ.out.of (Lib.iterAt_other _ _ _ _ _ (by omega))
      clear hN hat hf
      go_wp2_with fail
      refine (field_any f HFc.out HSS.out HStN.out hj0 hj1).mono ?_
      rintro e w6 hP
      cases hres : fieldR ts en f x j with
      | bad a =>
        rw [hres] at hP
        obtain ⟨he, hb6⟩ := hP
        subst he
        have HC : Hid (axR ts en i = .bad a) := by
          unfold Hid
          rw [HC0.out, ← HF.out, HFd.out]
          simp only [fieldsR]
          rw [hres]
          rfl
        have HBt : Hid (Bt pb w.heap.size w w6) := hb6
        clear hb6 hnx
        simp only [gaveUp]
        go_wp2
        exact ⟨rfl, AxP.fell HBt.out HC.out rfl⟩
      | ok x' j' =>
        rw [hres] at hP
        obtain ⟨he, ⟨hsz6, hfr6⟩, V', Ls', hst6⟩ := hP
        subst he
        have hend := fieldR_end hres
        have HI6 : Hid (w6.heap[it]? = some (.stringIter sB (q + 1))) := (hfr6 it (Array.getElem?_eq_some_iff.1 HIN.out).1 (by omega) (by omega)).trans HIN.out
        have HZ6 : Hid (BoxX w6 w.heap.size 0 XV.zero) := HZN.out.of (hfr6 _ HZN.out.lt (by omega) (by omega))
        have HS6 : Hid (StX pb g ts gs en w (i + 2) pk (it + 1) kd w6 V' x' Ls' j') := hst6
        have HF6 : Hid (fieldsR ts en ((fieldsN kd).drop (q + 1)) x' j' = fieldsR ts en (fieldsN kd) (AX.kd kd) (i + 2)) := by
          unfold Hid
          rw [← HF.out, HFd.out]
          simp only [fieldsR]
          rw [hres]
        have hm1 : posOf wo it = q := posOf_at HIq.out
        have hm2 : posOf w6 it = q + 1 := posOf_at HI6.out
        clear hst6 hsz6 hfr6 hnx
        go_wp2_with fail
        go_roundw
        case rel => exact ⟨q + 1, V', x', Ls', j', hq2, HI6.out, HS6.out, HZ6.out, HF6.out, by omega, hend.2⟩
        case measure => omega
    · have hnx : ∀ ty, (Instr.next (.pointer (some ⟨it, 0, none⟩)) true ty).run Tryz.prog wo = .ok (.tuple #[.bool false]) wo := fun ty => Lib.run_next_end_at wo it sB q ty HIq.out hlt2
      have HFe : Hid (fieldsR ts en (fieldsN kd) (AX.kd kd) (i + 2) = .ok x j) := by
        have hs := fieldsN_size kd
        rw [← HSB.out] at hs
        unfold Hid
        rw [← HF.out, List.drop_eq_nil_of_le (by omega)]
        rfl
      have hxk : x.kind = kd := fieldsR_kind HFe.out
      go_wp2_with fail
      clear hnx
      cases h4 : isI ts 4 j
      · have HC : Hid (axR ts en i = .bad (hereI ts en j)) := by unfold Hid; rw [HC0.out, HFe.out, closeX, if_neg (by simp [h4])]
        refine (take_bad base pb g j ts gs en 4 _ HSt.out.rdr (HSt.out.tk HSS.out) hj1 h4).mono ?_
        rintro e w5 ⟨rfl, hb5⟩
        have HBt : Hid (Bt pb w.heap.size w w5) := HSt.out.bt.trans (Bt.of_below (hb5.mono HSt.out.bt.size))
        clear hb5
        simp only [gaveUp]
        go_wp2
        exact ⟨rfl, AxP.fell HBt.out HC.out rfl⟩
      · have HC : Hid (axR ts en i = .ok x (j + 1)) := by unfold Hid; rw [HC0.out, HFe.out, closeX, if_pos h4]
        refine (take_ok base pb g j ts gs en 4 _ HSt.out.rdr (HSt.out.tk HSS.out) h4).mono ?_
        rintro e w5 ⟨rfl, hR5, hb5⟩
        obtain ⟨ya, yn, yc, hyv⟩ : ∃ ya yn yc, txv (ts.getD j Tok.zero) (gs.getD j (0, 0)) = .slice ya yn yc := by
          obtain ⟨a, c, h⟩ := txv_form (ts.getD j Tok.zero) (gs.getD j (0, 0)); exact ⟨_, _, _, h⟩
        rw [hyv]
        obtain ⟨hq2, hhq2⟩ : ∃ q, q = hereI ts en j := ⟨_, rfl⟩
        rw [← hhq2]
        have hS5 : StX pb g ts gs en w (i + 2) pk (it + 1) kd w5 V x Ls (j + 1) := HSt.out.next HSS.out hb5 (Nat.le_succ _) hR5
        have HZ5 : Hid (BoxX w5 w.heap.size 0 XV.zero) := HZ.out.of (hb5.block _ HZ.out.lt (by omega))
        obtain ⟨ck, c1a, c1n, c1c, c2a, c2n, c2c, c3a, c3n, c3c, dk, d1a, d1n, d1c, d2a, d2n, d2c, d3a, d3n, d3c, ra, rn, rc, sa, sn, sc, aa, an, ac, ba, bn, bc, hV⟩ := hS5.pa.forms
        subst hV
        have HS5 : Hid (StX pb g ts gs en w (i + 2) pk (it + 1) kd w5 _ x Ls (j + 1)) := hS5
        obtain ⟨z0, z1, z2, z3, z4, z5, z6, z7, z8, z9, z10, z11, z12⟩ := hS5.box.cells
        clear hR5 hb5 hyv hhq2 hS5
        have HE := HS5.out.fin (i := i) HSS.out (by omega) hpw hxk HC.out #[.int .i64 kd, .int .i64 ck, .slice c1a c1n c1c, .slice c2a c2n c2c, .slice c3a c3n c3c, .int .i64 dk, .slice d1a d1n d1c, .slice d2a d2n d2c, .slice d3a d3n d3c, .slice ra rn rc, .slice sa sn sc, .slice aa an ac, .slice ba bn bc] rfl
        have HE : Hid _ := HE
        have HRw : Hid ((w5.setRow w.heap.size #[.int .i64 kd, .int .i64 ck, .slice c1a c1n c1c, .slice c2a c2n c2c, .slice c3a c3n c3c, .int .i64 dk, .slice d1a d1n d1c, .slice d2a d2n d2c, .slice d3a d3n d3c, .slice ra rn rc, .slice sa sn sc, .slice aa an ac, .slice ba bn bc]).heap[w.heap.size]? = some (.cells #[.int .i64 kd, .int .i64 ck, .slice c1a c1n c1c, .slice c2a c2n c2c, .slice c3a c3n c3c, .int .i64 dk, .slice d1a d1n d1c, .slice d2a d2n d2c, .slice d3a d3n d3c, .slice ra rn rc, .slice sa sn sc, .slice aa an ac, .slice ba bn bc] 39 (0, 0))) := setRow_heap w5 w.heap.size zeroX _ _ _ HZ5.out
        go_wp2_with (first | (refine wpList_store_row rfl 39 (.tmp 2) (.tmp 33) rfl w.heap.size #[.int .i64 kd, .int .i64 ck, .slice c1a c1n c1c, .slice c2a c2n c2c, .slice c3a c3n c3c, .int .i64 dk, .slice d1a d1n d1c, .slice d2a d2n d2c, .slice d3a d3n d3c, .slice ra rn rc, .slice sa sn sc, .slice aa an ac, .slice ba bn bc] rfl rfl 39 zeroX HZ5.out infoX13 rfl (by simp [Value.oneCell']) ?_) | fail)
        refine bodyPost_ret (v := .agg #[.int .i64 kd, .int .i64 ck, .slice c1a c1n c1c, .slice c2a c2n c2c, .slice c3a c3n c3c, .int .i64 dk, .slice d1a d1n d1c, .slice d2a d2n d2c, .slice d3a d3n d3c, .slice ra rn rc, .slice sa sn sc, .slice aa an ac, .slice ba bn bc]) (results_cell_row rfl _ _ w.heap.size 39 _ (0, 0) _ rfl HRw.out Tryz.underlying39 rfl infoX13) rfl ?_
        exact HE.out

end Go.Proofs.YtckhjoancfbkfaaGreat
