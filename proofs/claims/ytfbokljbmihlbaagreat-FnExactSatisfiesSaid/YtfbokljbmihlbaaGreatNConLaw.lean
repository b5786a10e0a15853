/- Several texts in one: ConOpen, WdOpen, ConSz, ConEq. -/
import Derived.Test.YtfbokljbmihlbaaGreatNBase
import Derived.Test.YtfbokljbmihlbaaGreatNSz
import Derived.Test.YtfbokljbmihlbaaGreatWdMem
import Derived.Deep.Slices
import Derived.Deep.RegionWith
namespace Go.Proofs.YtfbokljbmihlbaaGreat

section
open Go.RowKit Go.Deep Go.ChangeShapes Go.WideShapes

theorem trod_four {H : Type} {enc : TypeId × Value → H} {P : Program} {w : World} {base : Nat} {spare : Nat → Bool} {held : Bool} {t : TypeId} {f0 f1 f2 f3 : Field} {fuel : Nat} {cs : List Value} {x : DataW H × List MemPlace} (ht : P.underlying t = some (.struct #[f0, f1, f2, f3])) (h : DataW.trod enc P w base spare held fuel t cs = some x) :
    ∃ y0 y1 y2 y3 n, fuel = n + 1 ∧ cs.length = P.cellsOf t ∧ DataW.trod enc P w base spare held n f0.type ((cs.drop f0.offset).take (P.cellsOf f0.type)) = some y0 ∧ DataW.trod enc P w base spare held n f1.type ((cs.drop f1.offset).take (P.cellsOf f1.type)) = some y1 ∧
      DataW.trod enc P w base spare held n f2.type ((cs.drop f2.offset).take (P.cellsOf f2.type)) = some y2 ∧ DataW.trod enc P w base spare held n f3.type ((cs.drop f3.offset).take (P.cellsOf f3.type)) = some y3 := by
  obtain ⟨xs, n, hn, _, hl, hlen, hf⟩ := DataW.trod_struct ht h
  match xs, hlen with
  | [y0, y1, y2, y3], _ => exact ⟨y0, y1, y2, y3, n, hn, hl, by simpa using hf 0 f0 rfl, by simpa using hf 1 f1 rfl, by simpa using hf 2 f2 rfl, by simpa using hf 3 f3 rfl⟩

set_option maxRecDepth 100000 in
theorem open_con {H : Type} {enc : TypeId × Value → H} {w : World} : ∀ (m fuel : Nat) (cs : List Value) (x : DataW H × List MemPlace), fuel ≤ m → DataW.trod enc Tryz.prog w 0 (fun _ => true) true fuel 30 cs = some x →
    ∃ v0 v1 v2 v3 c, cs = [v0, v1, v2, v3] ∧ RdC 0 w.heap.size w m (.agg #[v0, v1, v2, v3]) c := by
  have c4 : Tryz.prog.cellsOf 30 = 4 := by kernel_rfl
  have ci : Tryz.prog.cellsOf 3 = 1 := by kernel_rfl
  have cb : Tryz.prog.cellsOf 27 = 1 := by kernel_rfl
  have ck : Tryz.prog.cellsOf 28 = 1 := by kernel_rfl
  intro m
  induction m with
  | zero =>
    intro fuel cs x hf h
    obtain ⟨_, n, hn, _⟩ := DataW.trod_struct Tryz.underlying30 h
    omega
  | succ m ih =>
    intro fuel cs x hf h
    obtain ⟨y0, y1, y2, y3, n, hn, hl, t0, t1, t2, t3⟩ := trod_four Tryz.underlying30 h
    rw [c4] at hl
    match cs, hl with
      | [a0, a1, a2, a3], _ =>
        simp only [ci, cb, ck, List.drop_zero, List.drop_succ_cons, List.take_succ_cons, List.take_zero] at t0 t1 t2 t3
        obtain ⟨k, hk, _, _⟩ := DataW.trod_int Tryz.underlying3 t0
        obtain ⟨na, nn, nc, nz, hnz, hnr⟩ := open_bytes t1
        obtain ⟨ra, rn, rc, rz, hrz, hrr⟩ := open_bytes t2
        simp only [List.cons.injEq, and_true] at hk
        subst hk hnz hrz
        rcases DataW.trod_slice Tryz.underlying28 t3 with ⟨hcs, _⟩ | ⟨ad, len, cap, elems, rest, n', hn', hcs, _, _, hle, hcm, hel, hx, _, _⟩
        · simp only [List.cons.injEq, and_true] at hcs
          subst hcs
          exact ⟨_, _, _, _, .mk k nz rz [], rfl, na, nn, nc, ra, rn, rc, none, 0, 0, rfl, hnr, hrr, ⟨rfl, by omega, .inl rfl⟩⟩
        · simp only [List.cons.injEq, and_true] at hcs
          subst hcs
          rw [c4] at hx
          have key : ∀ i, i < len → ∃ c : CN, ∃ v0 v1 v2 v3, w.cell? (ad.add (i * 4)) = some v0 ∧ w.cell? ((ad.add (i * 4)).add 1) = some v1 ∧ w.cell? ((ad.add (i * 4)).add 2) = some v2 ∧ w.cell? ((ad.add (i * 4)).add 3) = some v3 ∧ RdC 0 w.heap.size w m (.agg #[v0, v1, v2, v3]) c := by
            intro i hi
            have hxi := hx i hi
            rw [List.getElem?_eq_getElem (by omega)] at hxi
            obtain ⟨cs', h1, h2⟩ := Option.bind_eq_some_iff.1 hxi
            obtain ⟨v0, v1, v2, v3, c, hcs', hr⟩ := ih n' cs' _ (by omega) h2
            obtain ⟨_, hlen', hcell⟩ := World.cells?_some h1
            subst hcs'
            have e0 := hcell 0 (by omega)
            have e1 := hcell 1 (by omega)
            have e2 := hcell 2 (by omega)
            have e3 := hcell 3 (by omega)
            rw [show (ad.add (i * 4)).add 0 = ad.add (i * 4) from by simp [Addr.add]] at e0
            exact ⟨c, v0, v1, v2, v3, e0, e1, e2, e3, hr⟩
          obtain ⟨T, hT⟩ := choose_lt key
          refine ⟨_, _, _, _, .mk k nz rz ((List.range len).map T), rfl, na, nn, nc, ra, rn, rc, some ad, len, cap, rfl, hnr, hrr, ⟨by simp [CN.kids], ⟨hle, by unfold maxLen at hcm; exact hcm⟩, ?_⟩⟩
          by_cases h0 : len = 0
          · exact .inl h0
          · obtain ⟨b, off, spot⟩ := ad
            obtain ⟨_, _, _, _, q0, _⟩ := hT 0 (by omega)
            have hspot : spot = none := by simpa [Addr.add] using World.cell?_spot q0
            subst hspot
            have hblk : b < w.heap.size := by simpa [Addr.add] using block_lt_of_cell q0
            refine .inr ⟨b, off, rfl, Nat.zero_le _, hblk, fun i hi => ?_⟩
            obtain ⟨v0, v1, v2, v3, e0, e1, e2, e3, hr⟩ := hT i hi
            have eT : (CN.kids (.mk k nz rz ((List.range len).map T))).getD i CN.zero = T i := by simp [CN.kids, List.getD, hi]
            rw [eT]
            simp only [Addr.add_lit] at e0 e1 e2 e3
            exact ⟨v0, v1, v2, v3, e0, e1, e2, e3, hr⟩
end

section
open Go.RowKit Go.Deep Go.ChangeShapes Go.WideShapes

theorem open_list {H : Type} {enc : TypeId × Value → H} {w : World} {α : Type} [Inhabited α] (d : α) (R : Value → α → Prop) {T E : TypeId} (ht : Tryz.prog.underlying T = some (.slice E)) (h1 : Tryz.prog.cellsOf E = 1)
    (hel : ∀ (fuel : Nat) (v : Value) (x : DataW H × List MemPlace), DataW.trod enc Tryz.prog w 0 (fun _ => true) true fuel E [v] = some x → ∃ c, R v c) {fuel : Nat} {v : Value} {x : DataW H × List MemPlace} (h : DataW.trod enc Tryz.prog w 0 (fun _ => true) true fuel T [v] = some x) :
    ∃ a len cap xs, v = .slice a len cap ∧ RdN d R 0 w.heap.size w a len cap xs := by
  rcases DataW.trod_slice ht h with ⟨hcs, _⟩ | ⟨ad, len, cap, elems, rest, n', hn', hcs, _, _, hle, hcm, hel', hx, _, _⟩
  · simp only [List.cons.injEq, and_true] at hcs
    exact ⟨none, 0, 0, [], hcs, ⟨rfl, by omega, .inl rfl⟩⟩
  · simp only [List.cons.injEq, and_true] at hcs
    rw [h1] at hx
    have key : ∀ i, i < len → ∃ c : α, ∃ u, w.cell? (ad.add (i * 1)) = some u ∧ R u c := by
      intro i hi
      have hxi := hx i hi
      rw [List.getElem?_eq_getElem (by omega)] at hxi
      obtain ⟨cs', q1, q2⟩ := Option.bind_eq_some_iff.1 hxi
      obtain ⟨_, hlen', hcell⟩ := World.cells?_some q1
      match cs', hlen' with
      | [u], _ =>
        obtain ⟨c, hc⟩ := hel _ _ _ q2
        have e0 := hcell 0 (by omega)
        rw [show (ad.add (i * 1)).add 0 = ad.add (i * 1) from by simp [Addr.add]] at e0
        exact ⟨c, u, e0, hc⟩
    obtain ⟨T', hT⟩ := choose_lt key
    refine ⟨some ad, len, cap, (List.range len).map T', hcs, ⟨by simp, ⟨hle, by unfold maxLen at hcm; exact hcm⟩, ?_⟩⟩
    by_cases h0 : len = 0
    · exact .inl h0
    · obtain ⟨b, off, spot⟩ := ad
      obtain ⟨_, q0, _⟩ := hT 0 (by omega)
      have hspot : spot = none := by simpa [Addr.add] using World.cell?_spot q0
      subst hspot
      have hblk : b < w.heap.size := by simpa [Addr.add] using block_lt_of_cell q0
      refine .inr ⟨b, off, rfl, Nat.zero_le _, hblk, fun i hi => ?_⟩
      obtain ⟨u, e0, hr⟩ := hT i hi
      have eT : ((List.range len).map T').getD i d = T' i := by simp [List.getD, hi]
      rw [eT]
      rw [Nat.mul_one] at e0
      simp only [Addr.add_lit] at e0
      exact ⟨u, e0, hr⟩

theorem trod_seven {H : Type} {enc : TypeId × Value → H} {P : Program} {w : World} {base : Nat} {spare : Nat → Bool} {held : Bool} {t : TypeId} {f0 f1 f2 f3 f4 f5 f6 : Field} {fuel : Nat} {cs : List Value} {x : DataW H × List MemPlace} (ht : P.underlying t = some (.struct #[f0, f1, f2, f3, f4, f5, f6])) (h : DataW.trod enc P w base spare held fuel t cs = some x) :
    ∃ y0 y1 y2 y3 y4 y5 y6 n, fuel = n + 1 ∧ cs.length = P.cellsOf t ∧ DataW.trod enc P w base spare held n f0.type ((cs.drop f0.offset).take (P.cellsOf f0.type)) = some y0 ∧ DataW.trod enc P w base spare held n f1.type ((cs.drop f1.offset).take (P.cellsOf f1.type)) = some y1 ∧
      DataW.trod enc P w base spare held n f2.type ((cs.drop f2.offset).take (P.cellsOf f2.type)) = some y2 ∧ DataW.trod enc P w base spare held n f3.type ((cs.drop f3.offset).take (P.cellsOf f3.type)) = some y3 ∧ DataW.trod enc P w base spare held n f4.type ((cs.drop f4.offset).take (P.cellsOf f4.type)) = some y4 ∧
      DataW.trod enc P w base spare held n f5.type ((cs.drop f5.offset).take (P.cellsOf f5.type)) = some y5 ∧ DataW.trod enc P w base spare held n f6.type ((cs.drop f6.offset).take (P.cellsOf f6.type)) = some y6 := by
  obtain ⟨xs, n, hn, _, hl, hlen, hf⟩ := DataW.trod_struct ht h
  match xs, hlen with
  | [y0, y1, y2, y3, y4, y5, y6], _ => exact ⟨y0, y1, y2, y3, y4, y5, y6, n, hn, hl, by simpa using hf 0 f0 rfl, by simpa using hf 1 f1 rfl, by simpa using hf 2 f2 rfl, by simpa using hf 3 f3 rfl, by simpa using hf 4 f4 rfl, by simpa using hf 5 f5 rfl, by simpa using hf 6 f6 rfl⟩

theorem open_flags {H : Type} {enc : TypeId × Value → H} {w : World} {fuel : Nat} {v : Value} {x : DataW H × List MemPlace} (h : DataW.trod enc Tryz.prog w 0 (fun _ => true) true fuel 87 [v] = some x) :
    ∃ a len cap xs, v = .slice a len cap ∧ RB 0 w.heap.size w a len cap xs :=
  open_list false (fun v b => v = .bool b) Tryz.underlying87 (by kernel_rfl) (fun _ v _ h => by obtain ⟨b, hb, _⟩ := DataW.trod_bool Tryz.underlying4 h; exact ⟨b, by simpa using hb⟩) h

theorem open_nums {H : Type} {enc : TypeId × Value → H} {w : World} {fuel : Nat} {v : Value} {x : DataW H × List MemPlace} (h : DataW.trod enc Tryz.prog w 0 (fun _ => true) true fuel 24 [v] = some x) :
    ∃ a len cap xs, v = .slice a len cap ∧ RI 0 w.heap.size w a len cap xs :=
  open_list 0 (fun v z => v = .int .i64 z) Tryz.underlying24 (by kernel_rfl) (fun _ v _ h => by obtain ⟨b, hb, _, _⟩ := DataW.trod_int Tryz.underlying3 h; exact ⟨b, by simpa using hb⟩) h

theorem open_words {H : Type} {enc : TypeId × Value → H} {w : World} {fuel : Nat} {v : Value} {x : DataW H × List MemPlace} (h : DataW.trod enc Tryz.prog w 0 (fun _ => true) true fuel 22 [v] = some x) :
    ∃ a len cap xs, v = .slice a len cap ∧ RSS 0 w.heap.size w a len cap xs :=
  open_list [] (SlB 0 w.heap.size w) Tryz.underlying22 (by kernel_rfl) (fun _ v _ h => by obtain ⟨a, n, c, zs, hv, hr⟩ := open_bytes h; exact ⟨zs, a, n, c, hv, hr⟩) h

theorem open_sets {H : Type} {enc : TypeId × Value → H} {w : World} {fuel : Nat} {v : Value} {x : DataW H × List MemPlace} (h : DataW.trod enc Tryz.prog w 0 (fun _ => true) true fuel 23 [v] = some x) :
    ∃ a len cap xs, v = .slice a len cap ∧ RFF 0 w.heap.size w a len cap xs :=
  open_list [] (SlF 0 w.heap.size w) Tryz.underlying23 (by kernel_rfl) (fun _ v _ h => by obtain ⟨a, n, c, zs, hv, hr⟩ := open_flags h; exact ⟨zs, a, n, c, hv, hr⟩) h

set_option maxRecDepth 100000 in
theorem open_world {H : Type} {enc : TypeId × Value → H} {w : World} {fuel : Nat} {cs : List Value} {y : DataW H × List MemPlace} (h : DataW.trod enc Tryz.prog w 0 (fun _ => true) true fuel 26 cs = some y) :
    ∃ k na nn nc sa sn sc ra rn rc la ln lc ia im ic ta tn tc x, cs = [.int .i64 k, .slice na nn nc, .slice sa sn sc, .slice ra rn rc, .slice la ln lc, .slice ia im ic, .slice ta tn tc] ∧ x.n = k ∧ RdW 0 w.heap.size w na nn nc sa sn sc ra rn rc la ln lc ia im ic ta tn tc x := by
  have c7 : Tryz.prog.cellsOf 26 = 7 := by kernel_rfl
  have ci : Tryz.prog.cellsOf 3 = 1 := by kernel_rfl
  have cb : Tryz.prog.cellsOf 22 = 1 := by kernel_rfl
  have cf : Tryz.prog.cellsOf 23 = 1 := by kernel_rfl
  have cn : Tryz.prog.cellsOf 24 = 1 := by kernel_rfl
  obtain ⟨y0, y1, y2, y3, y4, y5, y6, n, hn, hl, t0, t1, t2, t3, t4, t5, t6⟩ := trod_seven Tryz.underlying26 h
  rw [c7] at hl
  match cs, hl with
  | [a0, a1, a2, a3, a4, a5, a6], _ =>
    simp only [ci, cb, cf, cn, List.drop_zero, List.drop_succ_cons, List.take_succ_cons, List.take_zero] at t0 t1 t2 t3 t4 t5 t6
    obtain ⟨k, hk, _, _⟩ := DataW.trod_int Tryz.underlying3 t0
    obtain ⟨na, nn, nc, x1, e1, r1⟩ := open_words t1
    obtain ⟨sa, sn, sc, x2, e2, r2⟩ := open_sets t2
    obtain ⟨ra, rn, rc, x3, e3, r3⟩ := open_words t3
    obtain ⟨la, ln, lc, x4, e4, r4⟩ := open_sets t4
    obtain ⟨ia, im, ic, x5, e5, r5⟩ := open_words t5
    obtain ⟨ta, tn, tc, x6, e6, r6⟩ := open_nums t6
    simp only [List.cons.injEq, and_true] at hk
    subst hk e1 e2 e3 e4 e5 e6
    exact ⟨k, na, nn, nc, sa, sn, sc, ra, rn, rc, la, ln, lc, ia, im, ic, ta, tn, tc, ⟨k, x1, x2, x3, x4, x5, x6⟩, rfl, rfl, ⟨r1, r2, r3, r4, r5, r6⟩⟩
end

section
open Go.RowKit

/-- The contract on one concept that is read in at most d steps. -/
def SzC (d : Nat) : Prop := ∀ (v : Value) (c : CN) (left : Int) (w : World) (lo hi : Nat), RdC lo hi w d v c → hi ≤ w.heap.size → 0 ≤ left → left ≤ 1048576 →
  Calls Tryz.prog 21 #[v, .int .i64 left] w fun e w' => e = .returned (.int .i64 (szRes left c.bulk)) ∧ Below w.heap.size w w'

def SzL (d : Nat) : Prop := ∀ (a : Option Addr) (n cap : Nat) (cs : List CN) (left : Int) (w : World) (lo hi : Nat), RdL (RdC lo hi w d) lo hi w a n cap cs → hi ≤ w.heap.size → 0 ≤ left → left ≤ 1048576 →
  Calls Tryz.prog 48 #[.slice a n cap, .int .i64 left] w fun e w' => e = .returned (.int .i64 (szRes left (bulks cs))) ∧ Below w.heap.size w w'

theorem szRes_neg {left : Int} {n : Nat} (h : szRes left n < 0) (_hl : 0 ≤ left) : left < n := by
  unfold szRes at h; split at h <;> omega
theorem szRes_pos {left : Int} {n : Nat} (h : ¬ szRes left n < 0) : (n : Int) ≤ left ∧ szRes left n = left - n := by
  unfold szRes at h ⊢; split at h
  · omega
  · rename_i h1; rw [if_neg h1]; omega
theorem szRes_of_lt {left : Int} {n : Nat} (h : left < n) : szRes left n = -1 := if_pos h
theorem szRes_of_le {left : Int} {n : Nat} (h : (n : Int) ≤ left) : szRes left n = left - n := if_neg (by omega)

set_option maxHeartbeats 400000 in
theorem szL_of {d : Nat} (H : SzC d) : SzL d := by
  intro a n cap cs left w lo hi h hhi h0 h1
  have HR : Hid (RdL (RdC lo hi w d) lo hi w a n cap cs) := h
  obtain ⟨hl, ⟨hm, hM⟩, hcs⟩ := h
  clear hcs
  have HL : Hid (cs.length = n) := hl
  have hlb := length_le_bulks cs
  rw [hl] at hlb
  clear hl
  by_cases hbig : left < n
  · have HE : Hid (szRes left (bulks cs) = -1) := szRes_of_lt (by omega)
    clear hlb
    go_enter Tryz.func48, Tryz.ntmps48
    go_wp2_with fail
    go_ret
    exact ⟨ri HE.out.symm, Below.refl _ _⟩
  · clear hlb
    go_enter Tryz.func48, Tryz.ntmps48
    go_wp2_with fail
    go_loopw [1, 5] (fun l i wr => ∃ (k : Nat) (L : Int), k ≤ n ∧ i = .int .i64 k ∧ l = .int .i64 L ∧ 0 ≤ L ∧ L + n + (bulks (cs.take k) - k : Nat) = left ∧ k ≤ bulks (cs.take k) ∧ Below w.heap.size w wr) (fun _ i _ => n - (intOf i).toNat)
    case atStart => exact ⟨0, left - n, Nat.zero_le _, rfl, by go_num, by omega, by simp [bulks], by simp, Below.refl _ _⟩
    case round =>
      obtain ⟨k, L, hk, rfl, rfl, hL0, hs, hkb, hbel⟩ := hrel
      have HB : Hid (Below w.heap.size w wr) := hbel
      have HS : Hid (L + n + (bulks (cs.take k) - k : Nat) = left ∧ k ≤ bulks (cs.take k)) := ⟨hs, hkb⟩
      have hL1 : L ≤ 1048576 := by omega
      clear hkb
      by_cases hlt : k < n
      · have hR := HR.out.same (Same.of_below hbel hhi)
        rcases hR.cells with hz | ⟨b, off, e1, _, _, hc⟩
        · omega
        · subst e1
          obtain ⟨v0, v1, v2, v3, c0, c1, c2, c3, hr⟩ := hc k hlt
          have HKid : Hid (RdC lo hi wr d (.agg #[v0, v1, v2, v3]) (cs.getD k CN.zero)) := hr
          have HT : Hid (bulks (cs.take (k + 1)) = bulks (cs.take k) + 1 + (cs.getD k CN.zero).bulk ∧ bulks (cs.take (k + 1)) ≤ bulks cs) := ⟨bulks_take_succ cs k (by rw [HL.out]; exact hlt), bulks_take_le _ _⟩
          have hki : (k : Int) < (n : Int) := by omega
          obtain ⟨r, hrr⟩ : ∃ r, r = szRes L (cs.getD k CN.zero).bulk := ⟨_, rfl⟩
          have HRR : Hid (r = szRes L (cs.getD k CN.zero).bulk) := hrr
          clear hR hc hr hbel hs hrr
          go_wp2_with fail
          refine (H (.agg #[v0, v1, v2, v3]) (cs.getD k CN.zero) L wr lo hi HKid.out (Nat.le_trans hhi HB.out.size) hL0 hL1).mono ?_
          rintro e w' ⟨rfl, hb'⟩
          have HB' : Hid (Below w.heap.size w w') := HB.out.trans (hb'.mono HB.out.size)
          rw [← HRR.out]
          clear hb'
          by_cases hneg : r < 0
          · have HE : Hid (szRes left (bulks cs) = -1) := by
              have h1 := szRes_neg (by rw [← HRR.out]; exact hneg) hL0
              have h2 := HS.out
              have h3 := HT.out
              have h4 : cs.length - (k + 1) ≤ bulks (cs.drop (k + 1)) := by have := length_le_bulks (cs.drop (k + 1)); simpa using this
              have h5 := bulks_append (cs.take (k + 1)) (cs.drop (k + 1))
              rw [List.take_append_drop] at h5
              have h6 := HL.out
              exact szRes_of_lt (by omega)
            go_wp2_with fail
            go_ret
            exact ⟨ri HE.out.symm, HB'.out⟩
          · have hrL := szRes_pos (by rw [← HRR.out]; exact hneg)
            have HRL : Hid (((cs.getD k CN.zero).bulk : Int) ≤ L ∧ r = L - (cs.getD k CN.zero).bulk) := ⟨hrL.1, by rw [HRR.out]; exact hrL.2⟩
            clear hrL
            go_wp2_with fail
            go_roundw
            case rel =>
              refine ⟨k + 1, r, by omega, by go_num, rfl, by omega, ?_, ?_, HB'.out⟩
              · have := HS.out; have := HT.out; have := HRL.out; omega
              · have := HS.out; have := HT.out; omega
            case measure => simp [intOf]; omega
      · have hkn : k = n := by omega
        subst hkn
        have HE : Hid (L = szRes left (bulks cs)) := by
          have h2 := HS.out
          have ht : cs.take k = cs := List.take_of_length_le (by rw [HL.out]; omega)
          rw [ht] at h2
          rw [Hid, szRes_of_le (by omega)]; omega
        clear hbel hs
        go_wp2_with fail
        go_ret
        exact ⟨ri HE.out, HB.out⟩

set_option maxHeartbeats 400000 in
theorem szC_of {d : Nat} (H : SzL d) : SzC (d + 1) := by
  intro v c left w lo hi h hhi h0 h1
  obtain ⟨na, nn, nc, ra, rn, rc, ka, kn, kc, rfl, hn, hr, hk⟩ := h
  have hb : Below w.heap.size w (w.alloc (Obj.cells #[Value.int IntKind.i64 c.kind, .slice na nn nc, .slice ra rn rc, .slice ka kn kc] 30)) := (Below.refl _ _).alloc (Nat.le_refl _) _
  have HB : Hid (Below w.heap.size w (w.alloc (Obj.cells #[Value.int IntKind.i64 c.kind, .slice na nn nc, .slice ra rn rc, .slice ka kn kc] 30))) := hb
  have HK : Hid (RdL (RdC lo hi (w.alloc (Obj.cells #[Value.int IntKind.i64 c.kind, .slice na nn nc, .slice ra rn rc, .slice ka kn kc] 30)) d) lo hi (w.alloc (Obj.cells #[Value.int IntKind.i64 c.kind, .slice na nn nc, .slice ra rn rc, .slice ka kn kc] 30)) ka kn kc c.kids) := hk.below hb hhi
  have hnf := hn.fits
  have hrf := hr.fits
  have HBk : Hid (c.bulk = nn + rn + bulks c.kids) := by rw [Hid, c.bulk_eq, hn.len, hr.len]
  obtain ⟨r1, hr1⟩ : ∃ r, r = szRes left nn := ⟨_, rfl⟩
  have HR1 : Hid (r1 = szRes left nn) := hr1
  clear hn hr hk hb hr1
  go_enter Tryz.func21, Tryz.ntmps21
  go_wp2_with fail
  refine (szByteS_any na nn nc left _ ⟨h0, h1⟩ (by omega)).mono ?_
  rintro e w' ⟨rfl, hw⟩
  rw [hw, ← HR1.out]
  clear hw
  by_cases n1 : r1 < 0
  · have HE : Hid (szRes left c.bulk = -1) := by
      have := szRes_neg (by rw [← HR1.out]; exact n1) h0
      have := HBk.out
      exact szRes_of_lt (by omega)
    go_wp2_with fail
    go_ret
    exact ⟨ri HE.out.symm, HB.out⟩
  · have hp1 := szRes_pos (by rw [← HR1.out]; exact n1)
    have HP1 : Hid ((nn : Int) ≤ left ∧ r1 = left - nn) := ⟨hp1.1, by rw [HR1.out]; exact hp1.2⟩
    have hr1u : r1 ≤ 1048576 := by have := HP1.out; omega
    obtain ⟨r2, hr2⟩ : ∃ r, r = szRes r1 rn := ⟨_, rfl⟩
    have HR2 : Hid (r2 = szRes r1 rn) := hr2
    clear hp1 hr2
    go_wp2_with fail
    refine (szByteS_any ra rn rc r1 _ ⟨by omega, hr1u⟩ (by omega)).mono ?_
    rintro e w' ⟨rfl, hw⟩
    rw [hw, ← HR2.out]
    clear hw
    by_cases n2 : r2 < 0
    · have HE : Hid (szRes left c.bulk = -1) := by
        have := szRes_neg (by rw [← HR2.out]; exact n2) (by omega)
        have := HBk.out
        have := HP1.out
        exact szRes_of_lt (by omega)
      go_wp2_with fail
      go_ret
      exact ⟨ri HE.out.symm, HB.out⟩
    · have hp2 := szRes_pos (by rw [← HR2.out]; exact n2)
      have HP2 : Hid ((rn : Int) ≤ r1 ∧ r2 = r1 - rn) := ⟨hp2.1, by rw [HR2.out]; exact hp2.2⟩
      have hr2u : r2 ≤ 1048576 := by have := HP2.out; omega
      obtain ⟨r3, hr3⟩ : ∃ r, r = szRes r2 (bulks c.kids) := ⟨_, rfl⟩
      have HR3 : Hid (r3 = szRes r2 (bulks c.kids)) := hr3
      clear hp2 hr3
      go_wp2_with fail
      refine (H ka kn kc c.kids r2 _ lo hi HK.out (Nat.le_trans hhi HB.out.size) (by omega) hr2u).mono ?_
      rintro e w3 ⟨rfl, hb3⟩
      have HB3 : Hid (Below w.heap.size w w3) := HB.out.trans (hb3.mono HB.out.size)
      rw [← HR3.out]
      clear hb3
      by_cases n3 : r3 < 0
      · have HE : Hid (szRes left c.bulk = -1) := by
          have := szRes_neg (by rw [← HR3.out]; exact n3) (by omega)
          have := HBk.out
          have := HP1.out
          have := HP2.out
          exact szRes_of_lt (by omega)
        go_wp2_with fail
        go_ret
        exact ⟨ri HE.out.symm, HB3.out⟩
      · have HE : Hid (r3 = szRes left c.bulk) := by
          have hp3 := szRes_pos (by rw [← HR3.out]; exact n3)
          have := HBk.out
          have := HP1.out
          have := HP2.out
          rw [Hid, szRes_of_le (by omega), HR3.out, hp3.2]; omega
        go_wp2_with fail
        go_ret
        exact ⟨ri HE.out, HB3.out⟩

theorem szC_any : ∀ d, SzC d
  | 0 => fun _ _ _ _ _ _ h => h.elim
  | d + 1 => szC_of (szL_of (szC_any d))
end

section
open Go.RowKit

def EqC (d : Nat) : Prop := ∀ (v v' : Value) (c : CN) (d' : Nat) (w : World) (lo hi lo' hi' : Nat), RdC lo hi w d v c → RdC lo' hi' w d' v' c → hi ≤ w.heap.size → hi' ≤ w.heap.size →
  Calls Tryz.prog 37 #[v, v'] w fun e w' => e = .returned (.bool true) ∧ Below w.heap.size w w'

def EqL (d : Nat) : Prop := ∀ (a a' : Option Addr) (n cap cap' : Nat) (cs : List CN) (d' : Nat) (w : World) (lo hi lo' hi' : Nat), RdL (RdC lo hi w d) lo hi w a n cap cs → RdL (RdC lo' hi' w d') lo' hi' w a' n cap' cs → hi ≤ w.heap.size → hi' ≤ w.heap.size →
  Calls Tryz.prog 77 #[.slice a n cap, .slice a' n cap'] w fun e w' => e = .returned (.bool true) ∧ Below w.heap.size w w'

set_option maxHeartbeats 800000 in
theorem eqL_of {d : Nat} (H : EqC d) : EqL d := by
  intro a a' n cap cap' cs d' w lo hi lo' hi' h h' hh hh'
  have HR : Hid (RdL (RdC lo hi w d) lo hi w a n cap cs) := h
  have HR' : Hid (RdL (RdC lo' hi' w d') lo' hi' w a' n cap' cs) := h'
  obtain ⟨hl, ⟨hm, hM⟩, hcs⟩ := h
  obtain ⟨hl', ⟨hm', hM'⟩, hcs'⟩ := h'
  have hb0 : ((n : Int) != (n : Int)) = false := by simp
  clear hcs hcs' hl hl'
  go_enter Tryz.func77, Tryz.ntmps77
  go_wp2_with fail
  go_loopw [5] (fun i wr => ∃ k : Nat, k ≤ n ∧ i = .int .i64 k ∧ Below w.heap.size w wr) (fun i _ => n - (intOf i).toNat)
  case atStart => exact ⟨0, Nat.zero_le _, rfl, Below.refl _ _⟩
  case round =>
    obtain ⟨k, hk, rfl, hbel⟩ := hrel
    have HB : Hid (Below w.heap.size w wr) := hbel
    by_cases hlt : k < n
    · have h1 := HR.out.same (Same.of_below hbel hh)
      have h2 := HR'.out.same (Same.of_below hbel hh')
      rcases h1.cells with h0 | ⟨b1, off1, e1, _, _, hc1⟩
      · omega
      · rcases h2.cells with h0 | ⟨b2, off2, e2, _, _, hc2⟩
        · omega
        · subst e1 e2
          obtain ⟨v0, v1, v2, v3, c0, c1, c2, c3, hr⟩ := hc1 k hlt
          obtain ⟨x0, x1, x2, x3, q0, q1, q2, q3, hr'⟩ := hc2 k hlt
          have HK : Hid (RdC lo hi wr.drew d (.agg #[v0, v1, v2, v3]) (cs.getD k CN.zero)) := RdC.same (w := wr) (w' := wr.drew) (fun _ _ _ => rfl) hr
          have HK' : Hid (RdC lo' hi' wr.drew d' (.agg #[x0, x1, x2, x3]) (cs.getD k CN.zero)) := RdC.same (w := wr) (w' := wr.drew) (fun _ _ _ => rfl) hr'
          have hki : (k : Int) < (n : Int) := by omega
          clear h1 h2 hc1 hc2 hr hr' hbel
          go_wp2_with fail
          go_region_with (go_at_call 37; refine (H _ _ (cs.getD k CN.zero) d' _ lo hi lo' hi' ?_ ?_ ?_ ?_).mono ?_; exact HK.out; exact HK'.out; exact Nat.le_trans hh HB.out.size; exact Nat.le_trans hh' HB.out.size; rintro e w' ⟨rfl, hbe⟩)
          all_goals
            go_wp2_with fail
            go_roundw
            case rel => exact ⟨k + 1, by omega, by go_num, HB.out.drew.trans (hbe.mono HB.out.size)⟩
            case measure => simp [intOf]; omega
    · clear hbel
      go_wp2_with fail
      go_ret
      exact ⟨rfl, HB.out⟩

set_option maxHeartbeats 800000 in
theorem eqC_of {d : Nat} (H : EqL d) : EqC (d + 1) := by
  intro v v' c d' w lo hi lo' hi' h h' hh hh'
  cases d' with
  | zero => exact h'.elim
  | succ d' =>
    obtain ⟨na, nn, nc, ra, rn, rc, ka, kn, kc, rfl, hn, hr, hk⟩ := h
    obtain ⟨na', nn', nc', ra', rn', rc', ka', kn', kc', rfl, hn', hr', hk'⟩ := h'
    obtain ⟨k, hkd⟩ : ∃ k, k = c.kind := ⟨_, rfl⟩
    rw [← hkd]
    have hkk : (k != k) = false := by simp
    have e1 : nn' = nn := by rw [← hn.len, ← hn'.len]
    have e2 : rn' = rn := by rw [← hr.len, ← hr'.len]
    have e3 : kn' = kn := by rw [← hk.len, ← hk'.len]
    subst e1 e2 e3
    have hb : Below w.heap.size w ((w.alloc (Obj.cells #[Value.int IntKind.i64 k, .slice na nn' nc, .slice ra rn' rc, .slice ka kn' kc] 40)).alloc (Obj.cells #[Value.int IntKind.i64 k, .slice na' nn' nc', .slice ra' rn' rc', .slice ka' kn' kc'] 40)) := ((Below.refl _ _).alloc (Nat.le_refl _) _).alloc (by simp) _
    obtain ⟨W, hW⟩ : ∃ W, W = ((w.alloc (Obj.cells #[Value.int IntKind.i64 k, .slice na nn' nc, .slice ra rn' rc, .slice ka kn' kc] 40)).alloc (Obj.cells #[Value.int IntKind.i64 k, .slice na' nn' nc', .slice ra' rn' rc', .slice ka' kn' kc'] 40)) := ⟨_, rfl⟩
    rw [← hW] at hb
    have HW : Hid (W = ((w.alloc (Obj.cells #[Value.int IntKind.i64 k, .slice na nn' nc, .slice ra rn' rc, .slice ka kn' kc] 40)).alloc (Obj.cells #[Value.int IntKind.i64 k, .slice na' nn' nc', .slice ra' rn' rc', .slice ka' kn' kc'] 40))) := hW
    have HN : Hid (Rd lo hi W na nn' nc c.name ∧ Rd lo' hi' W na' nn' nc' c.name) := ⟨hn.below hb hh, hn'.below hb hh'⟩
    have HRo : Hid (Rd lo hi W ra rn' rc c.role ∧ Rd lo' hi' W ra' rn' rc' c.role) := ⟨hr.below hb hh, hr'.below hb hh'⟩
    have HK : Hid (RdL (RdC lo hi W d) lo hi W ka kn' kc c.kids ∧ RdL (RdC lo' hi' W d') lo' hi' W ka' kn' kc' c.kids) := ⟨hk.below hb hh, hk'.below hb hh'⟩
    have HBW : Hid (Below w.heap.size w W) := hb
    clear hn hn' hr hr' hk hk' hb hkd hW
    go_enter Tryz.func37, Tryz.ntmps37
    go_wp2_with fail
    rw [← HW.out]
    refine (eqByteS_any na na' nn' nc nn' nc' c.name c.name W HN.out.1 HN.out.2).mono ?_
    rintro e w1 ⟨rfl, n1, hw1⟩
    rw [show decide (c.name = c.name) = true from by simp, hw1, HW.out]
    clear hw1
    go_wp2_with fail
    rw [← HW.out]
    refine (eqByteS_any ra ra' rn' rc rn' rc' c.role c.role _ (HRo.out.1.same (w' := W.drewN n1) (fun _ _ _ => rfl)) (HRo.out.2.same (w' := W.drewN n1) (fun _ _ _ => rfl))).mono ?_
    rintro e w2 ⟨rfl, n2, hw2⟩
    rw [show decide (c.role = c.role) = true from by simp, hw2, drew_add, HW.out]
    clear hw2
    go_wp2_with fail
    rw [← HW.out]
    refine (H ka ka' kn' kc kc' c.kids d' (W.drewN (n1 + n2)) lo hi lo' hi' (RdL.same (w := W) HK.out.1 (fun _ _ _ => rfl)) (RdL.same (w := W) HK.out.2 (fun _ _ _ => rfl)) (Nat.le_trans hh HBW.out.size) (Nat.le_trans hh' HBW.out.size)).mono ?_
    rintro e w3 ⟨rfl, hb3⟩
    have HB3 : Hid (Below w.heap.size w w3) := (below_drewN HBW.out (n1 + n2)).trans (hb3.mono HBW.out.size)
    clear hb3
    go_wp2_with fail
    go_ret
    exact ⟨rfl, HB3.out⟩

theorem eqC_any : ∀ d, EqC d
  | 0 => fun _ _ _ _ _ _ _ _ _ h => h.elim
  | d + 1 => eqC_of (eqL_of (eqC_any d))
end

end Go.Proofs.YtfbokljbmihlbaaGreat
