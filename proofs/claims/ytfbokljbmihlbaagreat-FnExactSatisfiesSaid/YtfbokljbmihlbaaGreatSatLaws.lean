/- Several texts in one: OpenB, WdOpen, ConSz, ConEq, ConOpen, LawBox, AxLaw1, AxLaw2, SatLaw. -/
import Derived.Test.YtfbokljbmihlbaaGreatBytes
import Derived.Deep.Strs
import Derived.Deep.Slices
import Derived.ChangeOld
import Derived.OpenShut
import Derived.Test.YtfbokljbmihlbaaGreatWdMem
import Derived.Test.YtfbokljbmihlbaaGreatConMem
import Derived.Test.YtfbokljbmihlbaaGreatSzB
import Derived.Deep.RegionWith
import Derived.RangeFuncRecord
import Derived.Test.YtfbokljbmihlbaaGreatAxMem
import Derived.Deep.DeepCutAuto
import Derived.Test.YtfbokljbmihlbaaGreatConTo
import Derived.Deep.RegionHeld3
namespace Go.Proofs.YtfbokljbmihlbaaGreat

section
open Go.RowKit Go.Deep Go.ChangeShapes Go.WideShapes

theorem rd_of_cells {w : World} {x : Addr} {len cap : Nat} {zs : List Int} (hl : len ≤ cap) (hm : cap ≤ maxLen) (hz : zs.length = cap) (hc : ∀ i, i < zs.length → w.cell? (x.add i) = some (.int .u8 (zs.getD i 0))) (hwf : ∀ n ∈ zs, (Lit.int .u8 n).wf = true) :
    Rd 0 w.heap.size w (some x) len cap (zs.take len) := by
  unfold maxLen at hm
  refine ⟨by simp; omega, ⟨hl, hm⟩, fun i => ?_, ?_⟩
  · have := range_u8 hwf i
    simp only [List.getD, List.getElem?_take]
    split
    · exact this
    · simp
  · by_cases h0 : len = 0
    · exact .inl h0
    · obtain ⟨b, off, spot⟩ := x
      have hc0 := hc 0 (by omega)
      have hspot : spot = none := by simpa [Addr.add] using World.cell?_spot hc0
      subst hspot
      refine .inr ⟨b, off, rfl, Nat.zero_le _, block_lt_of_cell hc0, fun i hi => ?_⟩
      have := hc i (by omega)
      simp only [List.getD, List.getElem?_take, if_pos hi]
      by_cases e : i = 0
      · subst e; simpa [Addr.add, List.getD] using this
      · simpa [Addr.add, e, List.getD] using this

/-- The bytes of a slice that is read. -/
theorem open_bytes {H : Type} {enc : TypeId × Value → H} {w : World} {fuel : Nat} {v : Value} {x : DataW H × List MemPlace} (h : DataW.trod enc Tryz.prog w 0 (fun _ => true) true fuel 27 [v] = some x) :
    ∃ a len cap zs, v = .slice a len cap ∧ Rd 0 w.heap.size w a len cap zs := by
  rcases open_ints Tryz.underlying27 Tryz.underlying5 (by kernel_rfl) h with ⟨hcs, _⟩ | ⟨x, l, c, zs, hcs, _, hl, hm, hz, _, hcell, hwz⟩
  · simp at hcs
    exact ⟨none, 0, 0, [], hcs, Rd.none_of (by omega)⟩
  · simp at hcs
    exact ⟨some x, l, c, _, hcs, rd_of_cells hl hm (by simpa using hz) hcell hwz⟩
end

section
open Go.RowKit Go.Deep Go.ChangeShapes Go.WideShapes

theorem open_list {H : Type} {enc : TypeId × Value → H} {w : World} {α : Type} [Inhabited α] (d : α) (R : Value → α → Prop) {T E : TypeId} (ht : Tryz.prog.underlying T = some (.slice E)) (h1 : Tryz.prog.cellsOf E = 1)
    (hel : ∀ (fuel : Nat) (v : Value) (x : DataW H × List MemPlace), DataW.trod enc Tryz.prog w 0 (fun _ => true) true fuel E [v] = some x → ∃ c, R v c) {fuel : Nat} {v : Value} {x : DataW H × List MemPlace} (h : DataW.trod enc Tryz.prog w 0 (fun _ => true) true fuel T [v] = some x) :
    ∃ a len cap xs, v = .slice a len cap ∧ RdN d R 0 w.heap.size w a len cap xs := by
  rcases DataW.trod_slice ht h with ⟨hcs, _⟩ | ⟨ad, len, cap, elems, rest, n', hn', hcs, _, _, hle, hcm, hel', hx, _, _⟩
  · simp only [List.cons.injEq, and_true] at hcs
    exact ⟨none, 0, 0, [], hcs, ⟨rfl, by omega, .inl rfl⟩⟩
  · simp only [List.cons.injEq, and_true] at hcs
    rw [h1] at hx
    have key : ∀ i, i < len → ∃ c : α, ∃ u, w.cell? (ad.add (i * 1)) = some u ∧ R u c := by
      intro i hi
      have hxi := hx i hi
      rw [List.getElem?_eq_getElem (by omega)] at hxi
      obtain ⟨cs', q1, q2⟩ := Option.bind_eq_some_iff.1 hxi
      obtain ⟨_, hlen', hcell⟩ := World.cells?_some q1
      match cs', hlen' with
      | [u], _ =>
        obtain ⟨c, hc⟩ := hel _ _ _ q2
        have e0 := hcell 0 (by omega)
        rw [show (ad.add (i * 1)).add 0 = ad.add (i * 1) from by simp [Addr.add]] at e0
        exact ⟨c, u, e0, hc⟩
    obtain ⟨T', hT⟩ := choose_lt key
    refine ⟨some ad, len, cap, (List.range len).map T', hcs, ⟨by simp, ⟨hle, by unfold maxLen at hcm; exact hcm⟩, ?_⟩⟩
    by_cases h0 : len = 0
    · exact .inl h0
    · obtain ⟨b, off, spot⟩ := ad
      obtain ⟨_, q0, _⟩ := hT 0 (by omega)
      have hspot : spot = none := by simpa [Addr.add] using World.cell?_spot q0
      subst hspot
      have hblk : b < w.heap.size := by simpa [Addr.add] using block_lt_of_cell q0
      refine .inr ⟨b, off, rfl, Nat.zero_le _, hblk, fun i hi => ?_⟩
      obtain ⟨u, e0, hr⟩ := hT i hi
      have eT : ((List.range len).map T').getD i d = T' i := by simp [List.getD, hi]
      rw [eT]
      rw [Nat.mul_one] at e0
      simp only [Addr.add_lit] at e0
      exact ⟨u, e0, hr⟩

theorem trod_seven {H : Type} {enc : TypeId × Value → H} {P : Program} {w : World} {base : Nat} {spare : Nat → Bool} {held : Bool} {t : TypeId} {f0 f1 f2 f3 f4 f5 f6 : Field} {fuel : Nat} {cs : List Value} {x : DataW H × List MemPlace} (ht : P.underlying t = some (.struct #[f0, f1, f2, f3, f4, f5, f6])) (h : DataW.trod enc P w base spare held fuel t cs = some x) :
    ∃ y0 y1 y2 y3 y4 y5 y6 n, fuel = n + 1 ∧ cs.length = P.cellsOf t ∧ DataW.trod enc P w base spare held n f0.type ((cs.drop f0.offset).take (P.cellsOf f0.type)) = some y0 ∧ DataW.trod enc P w base spare held n f1.type ((cs.drop f1.offset).take (P.cellsOf f1.type)) = some y1 ∧
      DataW.trod enc P w base spare held n f2.type ((cs.drop f2.offset).take (P.cellsOf f2.type)) = some y2 ∧ DataW.trod enc P w base spare held n f3.type ((cs.drop f3.offset).take (P.cellsOf f3.type)) = some y3 ∧ DataW.trod enc P w base spare held n f4.type ((cs.drop f4.offset).take (P.cellsOf f4.type)) = some y4 ∧
      DataW.trod enc P w base spare held n f5.type ((cs.drop f5.offset).take (P.cellsOf f5.type)) = some y5 ∧ DataW.trod enc P w base spare held n f6.type ((cs.drop f6.offset).take (P.cellsOf f6.type)) = some y6 := by
  obtain ⟨xs, n, hn, _, hl, hlen, hf⟩ := DataW.trod_struct ht h
  match xs, hlen with
  | [y0, y1, y2, y3, y4, y5, y6], _ => exact ⟨y0, y1, y2, y3, y4, y5, y6, n, hn, hl, by simpa using hf 0 f0 rfl, by simpa using hf 1 f1 rfl, by simpa using hf 2 f2 rfl, by simpa using hf 3 f3 rfl, by simpa using hf 4 f4 rfl, by simpa using hf 5 f5 rfl, by simpa using hf 6 f6 rfl⟩

theorem open_flags {H : Type} {enc : TypeId × Value → H} {w : World} {fuel : Nat} {v : Value} {x : DataW H × List MemPlace} (h : DataW.trod enc Tryz.prog w 0 (fun _ => true) true fuel 87 [v] = some x) :
    ∃ a len cap xs, v = .slice a len cap ∧ RB 0 w.heap.size w a len cap xs :=
  open_list false (fun v b => v = .bool b) Tryz.underlying87 (by kernel_rfl) (fun _ v _ h => by obtain ⟨b, hb, _⟩ := DataW.trod_bool Tryz.underlying4 h; exact ⟨b, by simpa using hb⟩) h

theorem open_nums {H : Type} {enc : TypeId × Value → H} {w : World} {fuel : Nat} {v : Value} {x : DataW H × List MemPlace} (h : DataW.trod enc Tryz.prog w 0 (fun _ => true) true fuel 24 [v] = some x) :
    ∃ a len cap xs, v = .slice a len cap ∧ RI 0 w.heap.size w a len cap xs :=
  open_list 0 (fun v z => v = .int .i64 z) Tryz.underlying24 (by kernel_rfl) (fun _ v _ h => by obtain ⟨b, hb, _, _⟩ := DataW.trod_int Tryz.underlying3 h; exact ⟨b, by simpa using hb⟩) h

theorem open_words {H : Type} {enc : TypeId × Value → H} {w : World} {fuel : Nat} {v : Value} {x : DataW H × List MemPlace} (h : DataW.trod enc Tryz.prog w 0 (fun _ => true) true fuel 22 [v] = some x) :
    ∃ a len cap xs, v = .slice a len cap ∧ RSS 0 w.heap.size w a len cap xs :=
  open_list [] (SlB 0 w.heap.size w) Tryz.underlying22 (by kernel_rfl) (fun _ v _ h => by obtain ⟨a, n, c, zs, hv, hr⟩ := open_bytes h; exact ⟨zs, a, n, c, hv, hr⟩) h

theorem open_sets {H : Type} {enc : TypeId × Value → H} {w : World} {fuel : Nat} {v : Value} {x : DataW H × List MemPlace} (h : DataW.trod enc Tryz.prog w 0 (fun _ => true) true fuel 23 [v] = some x) :
    ∃ a len cap xs, v = .slice a len cap ∧ RFF 0 w.heap.size w a len cap xs :=
  open_list [] (SlF 0 w.heap.size w) Tryz.underlying23 (by kernel_rfl) (fun _ v _ h => by obtain ⟨a, n, c, zs, hv, hr⟩ := open_flags h; exact ⟨zs, a, n, c, hv, hr⟩) h

set_option maxRecDepth 100000 in
theorem open_world {H : Type} {enc : TypeId × Value → H} {w : World} {fuel : Nat} {cs : List Value} {y : DataW H × List MemPlace} (h : DataW.trod enc Tryz.prog w 0 (fun _ => true) true fuel 26 cs = some y) :
    ∃ k na nn nc sa sn sc ra rn rc la ln lc ia im ic ta tn tc x, cs = [.int .i64 k, .slice na nn nc, .slice sa sn sc, .slice ra rn rc, .slice la ln lc, .slice ia im ic, .slice ta tn tc] ∧ x.n = k ∧ RdW 0 w.heap.size w na nn nc sa sn sc ra rn rc la ln lc ia im ic ta tn tc x := by
  have c7 : Tryz.prog.cellsOf 26 = 7 := by kernel_rfl
  have ci : Tryz.prog.cellsOf 3 = 1 := by kernel_rfl
  have cb : Tryz.prog.cellsOf 22 = 1 := by kernel_rfl
  have cf : Tryz.prog.cellsOf 23 = 1 := by kernel_rfl
  have cn : Tryz.prog.cellsOf 24 = 1 := by kernel_rfl
  obtain ⟨y0, y1, y2, y3, y4, y5, y6, n, hn, hl, t0, t1, t2, t3, t4, t5, t6⟩ := trod_seven Tryz.underlying26 h
  rw [c7] at hl
  match cs, hl with
  | [a0, a1, a2, a3, a4, a5, a6], _ =>
    simp only [ci, cb, cf, cn, List.drop_zero, List.drop_succ_cons, List.take_succ_cons, List.take_zero] at t0 t1 t2 t3 t4 t5 t6
    obtain ⟨k, hk, _, _⟩ := DataW.trod_int Tryz.underlying3 t0
    obtain ⟨na, nn, nc, x1, e1, r1⟩ := open_words t1
    obtain ⟨sa, sn, sc, x2, e2, r2⟩ := open_sets t2
    obtain ⟨ra, rn, rc, x3, e3, r3⟩ := open_words t3
    obtain ⟨la, ln, lc, x4, e4, r4⟩ := open_sets t4
    obtain ⟨ia, im, ic, x5, e5, r5⟩ := open_words t5
    obtain ⟨ta, tn, tc, x6, e6, r6⟩ := open_nums t6
    simp only [List.cons.injEq, and_true] at hk
    subst hk e1 e2 e3 e4 e5 e6
    exact ⟨k, na, nn, nc, sa, sn, sc, ra, rn, rc, la, ln, lc, ia, im, ic, ta, tn, tc, ⟨k, x1, x2, x3, x4, x5, x6⟩, rfl, rfl, ⟨r1, r2, r3, r4, r5, r6⟩⟩
end

section
open Go.RowKit

/-- The contract on one concept that is read in at most d steps. -/
def SzC (d : Nat) : Prop := ∀ (v : Value) (c : CN) (left : Int) (w : World) (lo hi : Nat), RdC lo hi w d v c → hi ≤ w.heap.size → 0 ≤ left → left ≤ 1048576 →
  Calls Tryz.prog 21 #[v, .int .i64 left] w fun e w' => e = .returned (.int .i64 (szRes left c.bulk)) ∧ Below w.heap.size w w'

def SzL (d : Nat) : Prop := ∀ (a : Option Addr) (n cap : Nat) (cs : List CN) (left : Int) (w : World) (lo hi : Nat), RdL (RdC lo hi w d) lo hi w a n cap cs → hi ≤ w.heap.size → 0 ≤ left → left ≤ 1048576 →
  Calls Tryz.prog 48 #[.slice a n cap, .int .i64 left] w fun e w' => e = .returned (.int .i64 (szRes left (bulks cs))) ∧ Below w.heap.size w w'

theorem szRes_neg {left : Int} {n : Nat} (h : szRes left n < 0) (_hl : 0 ≤ left) : left < n := by
  unfold szRes at h; split at h <;> omega
theorem szRes_pos {left : Int} {n : Nat} (h : ¬ szRes left n < 0) : (n : Int) ≤ left ∧ szRes left n = left - n := by
  unfold szRes at h ⊢; split at h
  · omega
  · rename_i h1; rw [if_neg h1]; omega
theorem szRes_of_lt {left : Int} {n : Nat} (h : left < n) : szRes left n = -1 := if_pos h
theorem szRes_of_le {left : Int} {n : Nat} (h : (n : Int) ≤ left) : szRes left n = left - n := if_neg (by omega)

set_option maxHeartbeats 400000 in
theorem szL_of {d : Nat} (H : SzC d) : SzL d := by
  intro a n cap cs left w lo hi h hhi h0 h1
  have HR : Hid (RdL (RdC lo hi w d) lo hi w a n cap cs) := h
  obtain ⟨hl, ⟨hm, hM⟩, hcs⟩ := h
  clear hcs
  have HL : Hid (cs.length = n) := hl
  have hlb := length_le_bulks cs
  rw [hl] at hlb
  clear hl
  by_cases hbig : left < n
  · have HE : Hid (szRes left (bulks cs) = -1) := szRes_of_lt (by omega)
    clear hlb
    go_enter Tryz.func48, Tryz.ntmps48
    go_wp2_with fail
    go_ret
    exact ⟨ri HE.out.symm, Below.refl _ _⟩
  · clear hlb
    go_enter Tryz.func48, Tryz.ntmps48
    go_wp2_with fail
    go_loopw [1, 5] (fun l i wr => ∃ (k : Nat) (L : Int), k ≤ n ∧ i = .int .i64 k ∧ l = .int .i64 L ∧ 0 ≤ L ∧ L + n + (bulks (cs.take k) - k : Nat) = left ∧ k ≤ bulks (cs.take k) ∧ Below w.heap.size w wr) (fun _ i _ => n - (intOf i).toNat)
    case atStart => exact ⟨0, left - n, Nat.zero_le _, rfl, by go_num, by omega, by simp [bulks], by simp, Below.refl _ _⟩
    case round =>
      obtain ⟨k, L, hk, rfl, rfl, hL0, hs, hkb, hbel⟩ := hrel
      have HB : Hid (Below w.heap.size w wr) := hbel
      have HS : Hid (L + n + (bulks (cs.take k) - k : Nat) = left ∧ k ≤ bulks (cs.take k)) := ⟨hs, hkb⟩
      have hL1 : L ≤ 1048576 := by omega
      clear hkb
      by_cases hlt : k < n
      · have hR := HR.out.same (Same.of_below hbel hhi)
        rcases hR.cells with hz | ⟨b, off, e1, _, _, hc⟩
        · omega
        · subst e1
          obtain ⟨v0, v1, v2, v3, c0, c1, c2, c3, hr⟩ := hc k hlt
          have HKid : Hid (RdC lo hi wr d (.agg #[v0, v1, v2, v3]) (cs.getD k CN.zero)) := hr
          have HT : Hid (bulks (cs.take (k + 1)) = bulks (cs.take k) + 1 + (cs.getD k CN.zero).bulk ∧ bulks (cs.take (k + 1)) ≤ bulks cs) := ⟨bulks_take_succ cs k (by rw [HL.out]; exact hlt), bulks_take_le _ _⟩
          have hki : (k : Int) < (n : Int) := by omega
          obtain ⟨r, hrr⟩ : ∃ r, r = szRes L (cs.getD k CN.zero).bulk := ⟨_, rfl⟩
          have HRR : Hid (r = szRes L (cs.getD k CN.zero).bulk) := hrr
          clear hR hc hr hbel hs hrr
          go_wp2_with fail
          refine (H (.agg #[v0, v1, v2, v3]) (cs.getD k CN.zero) L wr lo hi HKid.out (Nat.le_trans hhi HB.out.size) hL0 hL1).mono ?_
          rintro e w' ⟨rfl, hb'⟩
          have HB' : Hid (Below w.heap.size w w') := HB.out.trans (hb'.mono HB.out.size)
          rw [← HRR.out]
          clear hb'
          by_cases hneg : r < 0
          · have HE : Hid (szRes left (bulks cs) = -1) := by
              have h1 := szRes_neg (by rw [← HRR.out]; exact hneg) hL0
              have h2 := HS.out
              have h3 := HT.out
              have h4 : cs.length - (k + 1) ≤ bulks (cs.drop (k + 1)) := by have := length_le_bulks (cs.drop (k + 1)); simpa using this
              have h5 := bulks_append (cs.take (k + 1)) (cs.drop (k + 1))
              rw [List.take_append_drop] at h5
              have h6 := HL.out
              exact szRes_of_lt (by omega)
            go_wp2_with fail
            go_ret
            exact ⟨ri HE.out.symm, HB'.out⟩
          · have hrL := szRes_pos (by rw [← HRR.out]; exact hneg)
            have HRL : Hid (((cs.getD k CN.zero).bulk : Int) ≤ L ∧ r = L - (cs.getD k CN.zero).bulk) := ⟨hrL.1, by rw [HRR.out]; exact hrL.2⟩
            clear hrL
            go_wp2_with fail
            go_roundw
            case rel =>
              refine ⟨k + 1, r, by omega, by go_num, rfl, by omega, ?_, ?_, HB'.out⟩
              · have := HS.out; have := HT.out; have := HRL.out; omega
              · have := HS.out; have := HT.out; omega
            case measure => simp [intOf]; omega
      · have hkn : k = n := by omega
        subst hkn
        have HE : Hid (L = szRes left (bulks cs)) := by
          have h2 := HS.out
          have ht : cs.take k = cs := List.take_of_length_le (by rw [HL.out]; omega)
          rw [ht] at h2
          rw [Hid, szRes_of_le (by omega)]; omega
        clear hbel hs
        go_wp2_with fail
        go_ret
        exact ⟨ri HE.out, HB.out⟩

set_option maxHeartbeats 400000 in
theorem szC_of {d : Nat} (H : SzL d) : SzC (d + 1) := by
  intro v c left w lo hi h hhi h0 h1
  obtain ⟨na, nn, nc, ra, rn, rc, ka, kn, kc, rfl, hn, hr, hk⟩ := h
  have hb : Below w.heap.size w (w.alloc (Obj.cells #[Value.int IntKind.i64 c.kind, .slice na nn nc, .slice ra rn rc, .slice ka kn kc] 30)) := (Below.refl _ _).alloc (Nat.le_refl _) _
  have HB : Hid (Below w.heap.size w (w.alloc (Obj.cells #[Value.int IntKind.i64 c.kind, .slice na nn nc, .slice ra rn rc, .slice ka kn kc] 30))) := hb
  have HK : Hid (RdL (RdC lo hi (w.alloc (Obj.cells #[Value.int IntKind.i64 c.kind, .slice na nn nc, .slice ra rn rc, .slice ka kn kc] 30)) d) lo hi (w.alloc (Obj.cells #[Value.int IntKind.i64 c.kind, .slice na nn nc, .slice ra rn rc, .slice ka kn kc] 30)) ka kn kc c.kids) := hk.below hb hhi
  have hnf := hn.fits
  have hrf := hr.fits
  have HBk : Hid (c.bulk = nn + rn + bulks c.kids) := by rw [Hid, c.bulk_eq, hn.len, hr.len]
  obtain ⟨r1, hr1⟩ : ∃ r, r = szRes left nn := ⟨_, rfl⟩
  have HR1 : Hid (r1 = szRes left nn) := hr1
  clear hn hr hk hb hr1
  go_enter Tryz.func21, Tryz.ntmps21
  go_wp2_with fail
  refine (szByteS_any na nn nc left _ ⟨h0, h1⟩ (by omega)).mono ?_
  rintro e w' ⟨rfl, hw⟩
  rw [hw, ← HR1.out]
  clear hw
  by_cases n1 : r1 < 0
  · have HE : Hid (szRes left c.bulk = -1) := by
      have := szRes_neg (by rw [← HR1.out]; exact n1) h0
      have := HBk.out
      exact szRes_of_lt (by omega)
    go_wp2_with fail
    go_ret
    exact ⟨ri HE.out.symm, HB.out⟩
  · have hp1 := szRes_pos (by rw [← HR1.out]; exact n1)
    have HP1 : Hid ((nn : Int) ≤ left ∧ r1 = left - nn) := ⟨hp1.1, by rw [HR1.out]; exact hp1.2⟩
    have hr1u : r1 ≤ 1048576 := by have := HP1.out; omega
    obtain ⟨r2, hr2⟩ : ∃ r, r = szRes r1 rn := ⟨_, rfl⟩
    have HR2 : Hid (r2 = szRes r1 rn) := hr2
    clear hp1 hr2
    go_wp2_with fail
    refine (szByteS_any ra rn rc r1 _ ⟨by omega, hr1u⟩ (by omega)).mono ?_
    rintro e w' ⟨rfl, hw⟩
    rw [hw, ← HR2.out]
    clear hw
    by_cases n2 : r2 < 0
    · have HE : Hid (szRes left c.bulk = -1) := by
        have := szRes_neg (by rw [← HR2.out]; exact n2) (by omega)
        have := HBk.out
        have := HP1.out
        exact szRes_of_lt (by omega)
      go_wp2_with fail
      go_ret
      exact ⟨ri HE.out.symm, HB.out⟩
    · have hp2 := szRes_pos (by rw [← HR2.out]; exact n2)
      have HP2 : Hid ((rn : Int) ≤ r1 ∧ r2 = r1 - rn) := ⟨hp2.1, by rw [HR2.out]; exact hp2.2⟩
      have hr2u : r2 ≤ 1048576 := by have := HP2.out; omega
      obtain ⟨r3, hr3⟩ : ∃ r, r = szRes r2 (bulks c.kids) := ⟨_, rfl⟩
      have HR3 : Hid (r3 = szRes r2 (bulks c.kids)) := hr3
      clear hp2 hr3
      go_wp2_with fail
      refine (H ka kn kc c.kids r2 _ lo hi HK.out (Nat.le_trans hhi HB.out.size) (by omega) hr2u).mono ?_
      rintro e w3 ⟨rfl, hb3⟩
      have HB3 : Hid (Below w.heap.size w w3) := HB.out.trans (hb3.mono HB.out.size)
      rw [← HR3.out]
      clear hb3
      by_cases n3 : r3 < 0
      · have HE : Hid (szRes left c.bulk = -1) := by
          have := szRes_neg (by rw [← HR3.out]; exact n3) (by omega)
          have := HBk.out
          have := HP1.out
          have := HP2.out
          exact szRes_of_lt (by omega)
        go_wp2_with fail
        go_ret
        exact ⟨ri HE.out.symm, HB3.out⟩
      · have HE : Hid (r3 = szRes left c.bulk) := by
          have hp3 := szRes_pos (by rw [← HR3.out]; exact n3)
          have := HBk.out
          have := HP1.out
          have := HP2.out
          rw [Hid, szRes_of_le (by omega), HR3.out, hp3.2]; omega
        go_wp2_with fail
        go_ret
        exact ⟨ri HE.out, HB3.out⟩

theorem szC_any : ∀ d, SzC d
  | 0 => fun _ _ _ _ _ _ h => h.elim
  | d + 1 => szC_of (szL_of (szC_any d))
end

section
open Go.RowKit

def EqC (d : Nat) : Prop := ∀ (v v' : Value) (c : CN) (d' : Nat) (w : World) (lo hi lo' hi' : Nat), RdC lo hi w d v c → RdC lo' hi' w d' v' c → hi ≤ w.heap.size → hi' ≤ w.heap.size →
  Calls Tryz.prog 37 #[v, v'] w fun e w' => e = .returned (.bool true) ∧ Below w.heap.size w w'

def EqL (d : Nat) : Prop := ∀ (a a' : Option Addr) (n cap cap' : Nat) (cs : List CN) (d' : Nat) (w : World) (lo hi lo' hi' : Nat), RdL (RdC lo hi w d) lo hi w a n cap cs → RdL (RdC lo' hi' w d') lo' hi' w a' n cap' cs → hi ≤ w.heap.size → hi' ≤ w.heap.size →
  Calls Tryz.prog 77 #[.slice a n cap, .slice a' n cap'] w fun e w' => e = .returned (.bool true) ∧ Below w.heap.size w w'

set_option maxHeartbeats 800000 in
theorem eqL_of {d : Nat} (H : EqC d) : EqL d := by
  intro a a' n cap cap' cs d' w lo hi lo' hi' h h' hh hh'
  have HR : Hid (RdL (RdC lo hi w d) lo hi w a n cap cs) := h
  have HR' : Hid (RdL (RdC lo' hi' w d') lo' hi' w a' n cap' cs) := h'
  obtain ⟨hl, ⟨hm, hM⟩, hcs⟩ := h
  obtain ⟨hl', ⟨hm', hM'⟩, hcs'⟩ := h'
  have hb0 : ((n : Int) != (n : Int)) = false := by simp
  clear hcs hcs' hl hl'
  go_enter Tryz.func77, Tryz.ntmps77
  go_wp2_with fail
  go_loopw [5] (fun i wr => ∃ k : Nat, k ≤ n ∧ i = .int .i64 k ∧ Below w.heap.size w wr) (fun i _ => n - (intOf i).toNat)
  case atStart => exact ⟨0, Nat.zero_le _, rfl, Below.refl _ _⟩
  case round =>
    obtain ⟨k, hk, rfl, hbel⟩ := hrel
    have HB : Hid (Below w.heap.size w wr) := hbel
    by_cases hlt : k < n
    · have h1 := HR.out.same (Same.of_below hbel hh)
      have h2 := HR'.out.same (Same.of_below hbel hh')
      rcases h1.cells with h0 | ⟨b1, off1, e1, _, _, hc1⟩
      · omega
      · rcases h2.cells with h0 | ⟨b2, off2, e2, _, _, hc2⟩
        · omega
        · subst e1 e2
          obtain ⟨v0, v1, v2, v3, c0, c1, c2, c3, hr⟩ := hc1 k hlt
          obtain ⟨x0, x1, x2, x3, q0, q1, q2, q3, hr'⟩ := hc2 k hlt
          have HK : Hid (RdC lo hi wr.drew d (.agg #[v0, v1, v2, v3]) (cs.getD k CN.zero)) := RdC.same (w := wr) (w' := wr.drew) (fun _ _ _ => rfl) hr
          have HK' : Hid (RdC lo' hi' wr.drew d' (.agg #[x0, x1, x2, x3]) (cs.getD k CN.zero)) := RdC.same (w := wr) (w' := wr.drew) (fun _ _ _ => rfl) hr'
          have hki : (k : Int) < (n : Int) := by omega
          clear h1 h2 hc1 hc2 hr hr' hbel
          go_wp2_with fail
          go_region_with (go_at_call 37; refine (H _ _ (cs.getD k CN.zero) d' _ lo hi lo' hi' ?_ ?_ ?_ ?_).mono ?_; exact HK.out; exact HK'.out; exact Nat.le_trans hh HB.out.size; exact Nat.le_trans hh' HB.out.size; rintro e w' ⟨rfl, hbe⟩)
          all_goals
            go_wp2_with fail
            go_roundw
            case rel => exact ⟨k + 1, by omega, by go_num, HB.out.drew.trans (hbe.mono HB.out.size)⟩
            case measure => simp [intOf]; omega
    · clear hbel
      go_wp2_with fail
      go_ret
      exact ⟨rfl, HB.out⟩

set_option maxHeartbeats 800000 in
theorem eqC_of {d : Nat} (H : EqL d) : EqC (d + 1) := by
  intro v v' c d' w lo hi lo' hi' h h' hh hh'
  cases d' with
  | zero => exact h'.elim
  | succ d' =>
    obtain ⟨na, nn, nc, ra, rn, rc, ka, kn, kc, rfl, hn, hr, hk⟩ := h
    obtain ⟨na', nn', nc', ra', rn', rc', ka', kn', kc', rfl, hn', hr', hk'⟩ := h'
    obtain ⟨k, hkd⟩ : ∃ k, k = c.kind := ⟨_, rfl⟩
    rw [← hkd]
    have hkk : (k != k) = false := by simp
    have e1 : nn' = nn := by rw [← hn.len, ← hn'.len]
    have e2 : rn' = rn := by rw [← hr.len, ← hr'.len]
    have e3 : kn' = kn := by rw [← hk.len, ← hk'.len]
    subst e1 e2 e3
    have hb : Below w.heap.size w ((w.alloc (Obj.cells #[Value.int IntKind.i64 k, .slice na nn' nc, .slice ra rn' rc, .slice ka kn' kc] 40)).alloc (Obj.cells #[Value.int IntKind.i64 k, .slice na' nn' nc', .slice ra' rn' rc', .slice ka' kn' kc'] 40)) := ((Below.refl _ _).alloc (Nat.le_refl _) _).alloc (by simp) _
    obtain ⟨W, hW⟩ : ∃ W, W = ((w.alloc (Obj.cells #[Value.int IntKind.i64 k, .slice na nn' nc, .slice ra rn' rc, .slice ka kn' kc] 40)).alloc (Obj.cells #[Value.int IntKind.i64 k, .slice na' nn' nc', .slice ra' rn' rc', .slice ka' kn' kc'] 40)) := ⟨_, rfl⟩
    rw [← hW] at hb
    have HW : Hid (W = ((w.alloc (Obj.cells #[Value.int IntKind.i64 k, .slice na nn' nc, .slice ra rn' rc, .slice ka kn' kc] 40)).alloc (Obj.cells #[Value.int IntKind.i64 k, .slice na' nn' nc', .slice ra' rn' rc', .slice ka' kn' kc'] 40))) := hW
    have HN : Hid (Rd lo hi W na nn' nc c.name ∧ Rd lo' hi' W na' nn' nc' c.name) := ⟨hn.below hb hh, hn'.below hb hh'⟩
    have HRo : Hid (Rd lo hi W ra rn' rc c.role ∧ Rd lo' hi' W ra' rn' rc' c.role) := ⟨hr.below hb hh, hr'.below hb hh'⟩
    have HK : Hid (RdL (RdC lo hi W d) lo hi W ka kn' kc c.kids ∧ RdL (RdC lo' hi' W d') lo' hi' W ka' kn' kc' c.kids) := ⟨hk.below hb hh, hk'.below hb hh'⟩
    have HBW : Hid (Below w.heap.size w W) := hb
    clear hn hn' hr hr' hk hk' hb hkd hW
    go_enter Tryz.func37, Tryz.ntmps37
    go_wp2_with fail
    rw [← HW.out]
    refine (eqByteS_any na na' nn' nc nn' nc' c.name c.name W HN.out.1 HN.out.2).mono ?_
    rintro e w1 ⟨rfl, n1, hw1⟩
    rw [show decide (c.name = c.name) = true from by simp, hw1, HW.out]
    clear hw1
    go_wp2_with fail
    rw [← HW.out]
    refine (eqByteS_any ra ra' rn' rc rn' rc' c.role c.role _ (HRo.out.1.same (w' := W.drewN n1) (fun _ _ _ => rfl)) (HRo.out.2.same (w' := W.drewN n1) (fun _ _ _ => rfl))).mono ?_
    rintro e w2 ⟨rfl, n2, hw2⟩
    rw [show decide (c.role = c.role) = true from by simp, hw2, drew_add, HW.out]
    clear hw2
    go_wp2_with fail
    rw [← HW.out]
    refine (H ka ka' kn' kc kc' c.kids d' (W.drewN (n1 + n2)) lo hi lo' hi' (RdL.same (w := W) HK.out.1 (fun _ _ _ => rfl)) (RdL.same (w := W) HK.out.2 (fun _ _ _ => rfl)) (Nat.le_trans hh HBW.out.size) (Nat.le_trans hh' HBW.out.size)).mono ?_
    rintro e w3 ⟨rfl, hb3⟩
    have HB3 : Hid (Below w.heap.size w w3) := (below_drewN HBW.out (n1 + n2)).trans (hb3.mono HBW.out.size)
    clear hb3
    go_wp2_with fail
    go_ret
    exact ⟨rfl, HB3.out⟩

theorem eqC_any : ∀ d, EqC d
  | 0 => fun _ _ _ _ _ _ _ _ _ h => h.elim
  | d + 1 => eqC_of (eqL_of (eqC_any d))
end

section
open Go.RowKit Go.Deep Go.ChangeShapes Go.WideShapes

theorem trod_four {H : Type} {enc : TypeId × Value → H} {P : Program} {w : World} {base : Nat} {spare : Nat → Bool} {held : Bool} {t : TypeId} {f0 f1 f2 f3 : Field} {fuel : Nat} {cs : List Value} {x : DataW H × List MemPlace} (ht : P.underlying t = some (.struct #[f0, f1, f2, f3])) (h : DataW.trod enc P w base spare held fuel t cs = some x) :
    ∃ y0 y1 y2 y3 n, fuel = n + 1 ∧ cs.length = P.cellsOf t ∧ DataW.trod enc P w base spare held n f0.type ((cs.drop f0.offset).take (P.cellsOf f0.type)) = some y0 ∧ DataW.trod enc P w base spare held n f1.type ((cs.drop f1.offset).take (P.cellsOf f1.type)) = some y1 ∧
      DataW.trod enc P w base spare held n f2.type ((cs.drop f2.offset).take (P.cellsOf f2.type)) = some y2 ∧ DataW.trod enc P w base spare held n f3.type ((cs.drop f3.offset).take (P.cellsOf f3.type)) = some y3 := by
  obtain ⟨xs, n, hn, _, hl, hlen, hf⟩ := DataW.trod_struct ht h
  match xs, hlen with
  | [y0, y1, y2, y3], _ => exact ⟨y0, y1, y2, y3, n, hn, hl, by simpa using hf 0 f0 rfl, by simpa using hf 1 f1 rfl, by simpa using hf 2 f2 rfl, by simpa using hf 3 f3 rfl⟩

set_option maxRecDepth 100000 in
theorem open_con {H : Type} {enc : TypeId × Value → H} {w : World} : ∀ (m fuel : Nat) (cs : List Value) (x : DataW H × List MemPlace), fuel ≤ m → DataW.trod enc Tryz.prog w 0 (fun _ => true) true fuel 30 cs = some x →
    ∃ v0 v1 v2 v3 c, cs = [v0, v1, v2, v3] ∧ RdC 0 w.heap.size w m (.agg #[v0, v1, v2, v3]) c := by
  have c4 : Tryz.prog.cellsOf 30 = 4 := by kernel_rfl
  have ci : Tryz.prog.cellsOf 3 = 1 := by kernel_rfl
  have cb : Tryz.prog.cellsOf 27 = 1 := by kernel_rfl
  have ck : Tryz.prog.cellsOf 28 = 1 := by kernel_rfl
  intro m
  induction m with
  | zero =>
    intro fuel cs x hf h
    obtain ⟨_, n, hn, _⟩ := DataW.trod_struct Tryz.underlying30 h
    omega
  | succ m ih =>
    intro fuel cs x hf h
    obtain ⟨y0, y1, y2, y3, n, hn, hl, t0, t1, t2, t3⟩ := trod_four Tryz.underlying30 h
    rw [c4] at hl
    match cs, hl with
      | [a0, a1, a2, a3], _ =>
        simp only [ci, cb, ck, List.drop_zero, List.drop_succ_cons, List.take_succ_cons, List.take_zero] at t0 t1 t2 t3
        obtain ⟨k, hk, _, _⟩ := DataW.trod_int Tryz.underlying3 t0
        obtain ⟨na, nn, nc, nz, hnz, hnr⟩ := open_bytes t1
        obtain ⟨ra, rn, rc, rz, hrz, hrr⟩ := open_bytes t2
        simp only [List.cons.injEq, and_true] at hk
        subst hk hnz hrz
        rcases DataW.trod_slice Tryz.underlying28 t3 with ⟨hcs, _⟩ | ⟨ad, len, cap, elems, rest, n', hn', hcs, _, _, hle, hcm, hel, hx, _, _⟩
        · simp only [List.cons.injEq, and_true] at hcs
          subst hcs
          exact ⟨_, _, _, _, .mk k nz rz [], rfl, na, nn, nc, ra, rn, rc, none, 0, 0, rfl, hnr, hrr, ⟨rfl, by omega, .inl rfl⟩⟩
        · simp only [List.cons.injEq, and_true] at hcs
          subst hcs
          rw [c4] at hx
          have key : ∀ i, i < len → ∃ c : CN, ∃ v0 v1 v2 v3, w.cell? (ad.add (i * 4)) = some v0 ∧ w.cell? ((ad.add (i * 4)).add 1) = some v1 ∧ w.cell? ((ad.add (i * 4)).add 2) = some v2 ∧ w.cell? ((ad.add (i * 4)).add 3) = some v3 ∧ RdC 0 w.heap.size w m (.agg #[v0, v1, v2, v3]) c := by
            intro i hi
            have hxi := hx i hi
            rw [List.getElem?_eq_getElem (by omega)] at hxi
            obtain ⟨cs', h1, h2⟩ := Option.bind_eq_some_iff.1 hxi
            obtain ⟨v0, v1, v2, v3, c, hcs', hr⟩ := ih n' cs' _ (by omega) h2
            obtain ⟨_, hlen', hcell⟩ := World.cells?_some h1
            subst hcs'
            have e0 := hcell 0 (by omega)
            have e1 := hcell 1 (by omega)
            have e2 := hcell 2 (by omega)
            have e3 := hcell 3 (by omega)
            rw [show (ad.add (i * 4)).add 0 = ad.add (i * 4) from by simp [Addr.add]] at e0
            exact ⟨c, v0, v1, v2, v3, e0, e1, e2, e3, hr⟩
          obtain ⟨T, hT⟩ := choose_lt key
          refine ⟨_, _, _, _, .mk k nz rz ((List.range len).map T), rfl, na, nn, nc, ra, rn, rc, some ad, len, cap, rfl, hnr, hrr, ⟨by simp [CN.kids], ⟨hle, by unfold maxLen at hcm; exact hcm⟩, ?_⟩⟩
          by_cases h0 : len = 0
          · exact .inl h0
          · obtain ⟨b, off, spot⟩ := ad
            obtain ⟨_, _, _, _, q0, _⟩ := hT 0 (by omega)
            have hspot : spot = none := by simpa [Addr.add] using World.cell?_spot q0
            subst hspot
            have hblk : b < w.heap.size := by simpa [Addr.add] using block_lt_of_cell q0
            refine .inr ⟨b, off, rfl, Nat.zero_le _, hblk, fun i hi => ?_⟩
            obtain ⟨v0, v1, v2, v3, e0, e1, e2, e3, hr⟩ := hT i hi
            have eT : (CN.kids (.mk k nz rz ((List.range len).map T))).getD i CN.zero = T i := by simp [CN.kids, List.getD, hi]
            rw [eT]
            simp only [Addr.add_lit] at e0 e1 e2 e3
            exact ⟨v0, v1, v2, v3, e0, e1, e2, e3, hr⟩
end

section
open Go.RowKit

/-- The box of a law's argument. -/
def BoxL (W : World) (b : Nat) (v0 v1 v2 v3 : Value) : Prop := W.heap[b]? = some (.cells #[v0, v1, v2, v3] 30 (0, 0))
theorem BoxL.new (W : World) (v0 v1 v2 v3 : Value) : BoxL (W.alloc (.cells #[v0, v1, v2, v3] 30)) W.heap.size v0 v1 v2 v3 := World.alloc_heap_new W _
theorem BoxL.below {W W' : World} {b B : Nat} {v0 v1 v2 v3 : Value} (h : BoxL W b v0 v1 v2 v3) (hb : Below B W W') (hB : b < B) : BoxL W' b v0 v1 v2 v3 := (hb.block b hB).trans h
theorem BoxL.lt {W : World} {b : Nat} {v0 v1 v2 v3 : Value} (h : BoxL W b v0 v1 v2 v3) : b < W.heap.size := (Array.getElem?_eq_some_iff.1 h).1
theorem BoxL.cells {W : World} {b : Nat} {v0 v1 v2 v3 : Value} (h : BoxL W b v0 v1 v2 v3) : W.cell? ⟨b, 0, none⟩ = some v0 ∧ W.cell? ⟨b, 1, none⟩ = some v1 ∧ W.cell? ⟨b, 2, none⟩ = some v2 ∧ W.cell? ⟨b, 3, none⟩ = some v3 := by
  unfold BoxL at h
  refine ⟨?_, ?_, ?_, ?_⟩ <;> simp [World.cell?, h]
end

section
open Go.RowKit

set_option maxRecDepth 100000 in
set_option maxHeartbeats 4000000 in
theorem szAx_any {dp : Nat} {c0 c1 c2 c3 d0 d1 d2 d3 : Value} {ra : Option Addr} {rn rc : Nat} {sa : Option Addr} {sn sc : Nat} {aa : Option Addr} {an ac : Nat} {ba : Option Addr} {bn bc : Nat} {x : AX} {w : World} {lo hi : Nat} (h : RdA lo hi w dp c0 c1 c2 c3 d0 d1 d2 d3 ra rn rc sa sn sc aa an ac ba bn bc x) (hhi : hi ≤ w.heap.size) (k : Int) :
    Calls Tryz.prog 6 #[.agg #[.int .i64 k, c0, c1, c2, c3, d0, d1, d2, d3, .slice ra rn rc, .slice sa sn sc, .slice aa an ac, .slice ba bn bc], .int .i64 1048576] w fun e w' => ∃ r : Int, e = .returned (.int .i64 r) ∧ (¬ r < 0 → x.c.bulk ≤ 1048576 ∧ x.d.bulk ≤ 1048576 ∧ rn ≤ 1048576 ∧ sn ≤ 1048576 ∧ an ≤ 1048576 ∧ bn ≤ 1048576) ∧ Below w.heap.size w w' := by
  obtain ⟨W0, hW0⟩ : ∃ W0, W0 = w.alloc (.cells #[.int .i64 k, c0, c1, c2, c3, d0, d1, d2, d3, .slice ra rn rc, .slice sa sn sc, .slice aa an ac, .slice ba bn bc] 32) := ⟨_, rfl⟩
  have HW0 : Hid (W0 = w.alloc (.cells #[.int .i64 k, c0, c1, c2, c3, d0, d1, d2, d3, .slice ra rn rc, .slice sa sn sc, .slice aa an ac, .slice ba bn bc] 32)) := hW0
  have hb0 : Below w.heap.size w W0 := by rw [hW0]; exact (Below.refl _ _).alloc (Nat.le_refl _) _
  have HB0 : Hid (Below w.heap.size w W0) := hb0
  have hl0 : w.heap.size < W0.heap.size := by rw [hW0]; simp
  have hbx : BoxA 32 W0 w.heap.size k c0 c1 c2 c3 d0 d1 d2 d3 (.slice ra rn rc) (.slice sa sn sc) (.slice aa an ac) (.slice ba bn bc) := by rw [hW0]; exact BoxA.new _ w _ _ _ _ _ _ _ _ _ _ _ _ _
  have HAt : Hid (∀ W, Below W0.heap.size W0 W → BoxA 32 W w.heap.size k c0 c1 c2 c3 d0 d1 d2 d3 (.slice ra rn rc) (.slice sa sn sc) (.slice aa an ac) (.slice ba bn bc)) := fun W hW => hbx.below hW hl0
  obtain ⟨z0, z1, z2, z3, z4, z5, z6, z7, z8, z9, z10, z11, z12⟩ := hbx.cells
  have HRA : Hid (RdA lo hi W0 dp c0 c1 c2 c3 d0 d1 d2 d3 ra rn rc sa sn sc aa an ac ba bn bc x) := h.below hb0 hhi
  have hh0 : hi ≤ W0.heap.size := Nat.le_trans hhi hb0.size
  have HFit : Hid (rn ≤ 9223372036854775807 ∧ sn ≤ 9223372036854775807 ∧ an ≤ 9223372036854775807 ∧ bn ≤ 9223372036854775807) := by
    have := h.r.fits
    have := h.s.fits
    have := h.a.fits
    have := h.b.fits
    unfold Hid
    omega
  clear h hb0 hW0 hbx
  go_enter Tryz.func6, Tryz.ntmps6
  go_wp2_with fail
  rw [← HW0.out]
  refine (szC_any dp _ x.c 1048576 W0 lo hi HRA.out.c hh0 (by omega) (by omega)).mono ?_
  rintro e w1 ⟨rfl, hb1⟩
  obtain ⟨l1, hl1⟩ : ∃ l, l = szRes 1048576 x.c.bulk := ⟨_, rfl⟩
  rw [← hl1]
  have H1 : Hid (Below W0.heap.size W0 w1) := hb1
  clear z0 z1 z2 z3 z4 z5 z6 z7 z8 z9 z10 z11 z12 hb1
  obtain ⟨z0, z1, z2, z3, z4, z5, z6, z7, z8, z9, z10, z11, z12⟩ := (HAt.out _ H1.out).cells
  by_cases n1 : l1 < 0
  · clear hl1
    go_wp2_with fail
    go_ret
    exact ⟨-1, rfl, fun h => by omega, HB0.out.trans (H1.out.mono HB0.out.size)⟩
  · have p1 := szRes_pos (by rw [← hl1]; exact n1)
    rw [← hl1] at p1
    have HP1 : Hid ((x.c.bulk : Int) ≤ 1048576) := p1.1
    have q1 : l1 ≤ 1048576 := by omega
    clear p1 hl1
    go_wp2_with fail
    refine (szC_any dp _ x.d l1 w1 lo hi (HRA.out.below H1.out hh0).d (Nat.le_trans hh0 H1.out.size) (by omega) q1).mono ?_
    rintro e w2 ⟨rfl, hb2⟩
    obtain ⟨l2, hl2⟩ : ∃ l, l = szRes l1 x.d.bulk := ⟨_, rfl⟩
    rw [← hl2]
    have H2 : Hid (Below W0.heap.size W0 w2) := H1.out.trans (hb2.mono H1.out.size)
    have HBw : Hid (Below w.heap.size w w2) := HB0.out.trans (H2.out.mono HB0.out.size)
    clear z0 z1 z2 z3 z4 z5 z6 z7 z8 z9 z10 z11 z12 hb2
    obtain ⟨z0, z1, z2, z3, z4, z5, z6, z7, z8, z9, z10, z11, z12⟩ := (HAt.out _ H2.out).cells
    by_cases n2 : l2 < 0
    · clear hl2
      go_wp2_with fail
      go_ret
      exact ⟨-1, rfl, fun h => by omega, HBw.out⟩
    · have p2 := szRes_pos (by rw [← hl2]; exact n2)
      rw [← hl2] at p2
      have HP2 : Hid ((x.d.bulk : Int) ≤ 1048576) := by unfold Hid; omega
      have q2 : l2 ≤ 1048576 := by omega
      clear p2 hl2
      go_wp2_with fail
      refine (szByteS_any ra rn rc l2 w2 ⟨by omega, by omega⟩ HFit.out.1).mono ?_
      rintro e w' ⟨rfl, hw⟩
      rw [hw]
      obtain ⟨l3, hl3⟩ : ∃ l, l = szRes l2 rn := ⟨_, rfl⟩
      rw [← hl3]
      clear hw
      by_cases n3 : l3 < 0
      · clear hl3
        go_wp2_with fail
        go_ret
        exact ⟨-1, rfl, fun h => by omega, HBw.out⟩
      · have p3 := szRes_pos (by rw [← hl3]; exact n3)
        rw [← hl3] at p3
        have HP3 : Hid (rn ≤ 1048576) := by unfold Hid; omega
        have q3 : l3 ≤ 1048576 := by omega
        clear p3 hl3
        go_wp2_with fail
        refine (szByteS_any sa sn sc l3 w2 ⟨by omega, by omega⟩ HFit.out.2.1).mono ?_
        rintro e w' ⟨rfl, hw⟩
        rw [hw]
        obtain ⟨l4, hl4⟩ : ∃ l, l = szRes l3 sn := ⟨_, rfl⟩
        rw [← hl4]
        clear hw
        by_cases n4 : l4 < 0
        · clear hl4
          go_wp2_with fail
          go_ret
          exact ⟨-1, rfl, fun h => by omega, HBw.out⟩
        · have p4 := szRes_pos (by rw [← hl4]; exact n4)
          rw [← hl4] at p4
          have HP4 : Hid (sn ≤ 1048576) := by unfold Hid; omega
          have q4 : l4 ≤ 1048576 := by omega
          clear p4 hl4
          go_wp2_with fail
          refine (szByteS_any aa an ac l4 w2 ⟨by omega, by omega⟩ HFit.out.2.2.1).mono ?_
          rintro e w' ⟨rfl, hw⟩
          rw [hw]
          obtain ⟨l5, hl5⟩ : ∃ l, l = szRes l4 an := ⟨_, rfl⟩
          rw [← hl5]
          clear hw
          by_cases n5 : l5 < 0
          · clear hl5
            go_wp2_with fail
            go_ret
            exact ⟨-1, rfl, fun h => by omega, HBw.out⟩
          · have p5 := szRes_pos (by rw [← hl5]; exact n5)
            rw [← hl5] at p5
            have HP5 : Hid (an ≤ 1048576) := by unfold Hid; omega
            have q5 : l5 ≤ 1048576 := by omega
            clear p5 hl5
            go_wp2_with fail
            refine (szByteS_any ba bn bc l5 w2 ⟨by omega, by omega⟩ HFit.out.2.2.2).mono ?_
            rintro e w' ⟨rfl, hw⟩
            rw [hw]
            obtain ⟨l6, hl6⟩ : ∃ l, l = szRes l5 bn := ⟨_, rfl⟩
            rw [← hl6]
            clear hw
            by_cases n6 : l6 < 0
            · clear hl6
              go_wp2_with fail
              go_ret
              exact ⟨-1, rfl, fun h => by omega, HBw.out⟩
            · have p6 := szRes_pos (by rw [← hl6]; exact n6)
              rw [← hl6] at p6
              have HP6 : Hid (bn ≤ 1048576) := by unfold Hid; omega
              have q6 : l6 ≤ 1048576 := by omega
              clear p6 hl6
              go_wp2_with fail
              go_ret
              exact ⟨_, rfl, fun _ => ⟨by have := HP1.out; omega, by have := HP2.out; omega, HP3.out, HP4.out, HP5.out, HP6.out⟩, HBw.out⟩

set_option maxRecDepth 100000 in
set_option maxHeartbeats 4000000 in
theorem eqAx_any {dp : Nat} {c0 c1 c2 c3 d0 d1 d2 d3 : Value} {ra : Option Addr} {rn rc : Nat} {sa : Option Addr} {sn sc : Nat} {aa : Option Addr} {an ac : Nat} {ba : Option Addr} {bn bc : Nat} {x : AX} {w : World} {lo hi lo' hi' : Nat} {dp' : Nat} {c0' c1' c2' c3' d0' d1' d2' d3' : Value} {ra' : Option Addr} {rn' rc' : Nat} {sa' : Option Addr} {sn' sc' : Nat} {aa' : Option Addr} {an' ac' : Nat} {ba' : Option Addr} {bn' bc' : Nat} (h : RdA lo hi w dp c0 c1 c2 c3 d0 d1 d2 d3 ra rn rc sa sn sc aa an ac ba bn bc x) (h' : RdA lo' hi' w dp' c0' c1' c2' c3' d0' d1' d2' d3' ra' rn' rc' sa' sn' sc' aa' an' ac' ba' bn' bc' x) (hhi : hi ≤ w.heap.size) (hhi' : hi' ≤ w.heap.size) (k : Int) :
    Calls Tryz.prog 12 #[.agg #[.int .i64 k, c0, c1, c2, c3, d0, d1, d2, d3, .slice ra rn rc, .slice sa sn sc, .slice aa an ac, .slice ba bn bc], .agg #[.int .i64 k, c0', c1', c2', c3', d0', d1', d2', d3', .slice ra' rn' rc', .slice sa' sn' sc', .slice aa' an' ac', .slice ba' bn' bc']] w fun e w' => e = .returned (.bool true) ∧ Below w.heap.size w w' := by
  obtain ⟨W0, hW0⟩ : ∃ W0, W0 = (w.alloc (.cells #[.int .i64 k, c0, c1, c2, c3, d0, d1, d2, d3, .slice ra rn rc, .slice sa sn sc, .slice aa an ac, .slice ba bn bc] 42)).alloc (.cells #[.int .i64 k, c0', c1', c2', c3', d0', d1', d2', d3', .slice ra' rn' rc', .slice sa' sn' sc', .slice aa' an' ac', .slice ba' bn' bc'] 42) := ⟨_, rfl⟩
  have HW0 : Hid (W0 = (w.alloc (.cells #[.int .i64 k, c0, c1, c2, c3, d0, d1, d2, d3, .slice ra rn rc, .slice sa sn sc, .slice aa an ac, .slice ba bn bc] 42)).alloc (.cells #[.int .i64 k, c0', c1', c2', c3', d0', d1', d2', d3', .slice ra' rn' rc', .slice sa' sn' sc', .slice aa' an' ac', .slice ba' bn' bc'] 42)) := hW0
  have hb0 : Below w.heap.size w W0 := by rw [hW0]; exact ((Below.refl _ _).alloc (Nat.le_refl _) _).alloc (by simp) _
  have HB0 : Hid (Below w.heap.size w W0) := hb0
  have hs0 : W0.heap.size = w.heap.size + 2 := by rw [hW0]; simp
  have hbx : BoxA 42 W0 w.heap.size k c0 c1 c2 c3 d0 d1 d2 d3 (.slice ra rn rc) (.slice sa sn sc) (.slice aa an ac) (.slice ba bn bc) := by rw [hW0]; exact (BoxA.new _ w _ _ _ _ _ _ _ _ _ _ _ _ _).below ((Below.refl _ _).alloc (Nat.le_refl _) _) (by simp)
  have hby : BoxA 42 W0 (w.heap.size + 1) k c0' c1' c2' c3' d0' d1' d2' d3' (.slice ra' rn' rc') (.slice sa' sn' sc') (.slice aa' an' ac') (.slice ba' bn' bc') := by
    rw [hW0]
    have := BoxA.new 42 (w.alloc (.cells #[.int .i64 k, c0, c1, c2, c3, d0, d1, d2, d3, .slice ra rn rc, .slice sa sn sc, .slice aa an ac, .slice ba bn bc] 42)) k c0' c1' c2' c3' d0' d1' d2' d3' (.slice ra' rn' rc') (.slice sa' sn' sc') (.slice aa' an' ac') (.slice ba' bn' bc')
    rwa [World.size_alloc] at this
  have HAt : Hid (∀ W, Below W0.heap.size W0 W → BoxA 42 W w.heap.size k c0 c1 c2 c3 d0 d1 d2 d3 (.slice ra rn rc) (.slice sa sn sc) (.slice aa an ac) (.slice ba bn bc) ∧ BoxA 42 W (w.heap.size + 1) k c0' c1' c2' c3' d0' d1' d2' d3' (.slice ra' rn' rc') (.slice sa' sn' sc') (.slice aa' an' ac') (.slice ba' bn' bc')) := fun W hW => ⟨hbx.below hW (by omega), hby.below hW (by omega)⟩
  obtain ⟨z0, z1, z2, z3, z4, z5, z6, z7, z8, z9, z10, z11, z12⟩ := hbx.cells
  obtain ⟨y0, y1, y2, y3, y4, y5, y6, y7, y8, y9, y10, y11, y12⟩ := hby.cells
  have HRA : Hid (RdA lo hi W0 dp c0 c1 c2 c3 d0 d1 d2 d3 ra rn rc sa sn sc aa an ac ba bn bc x) := h.below hb0 hhi
  have HRA' : Hid (RdA lo' hi' W0 dp' c0' c1' c2' c3' d0' d1' d2' d3' ra' rn' rc' sa' sn' sc' aa' an' ac' ba' bn' bc' x) := h'.below hb0 hhi'
  have hh0 : hi ≤ W0.heap.size := Nat.le_trans hhi hb0.size
  have hh0' : hi' ≤ W0.heap.size := Nat.le_trans hhi' hb0.size
  have hkk : (k != k) = false := by simp
  clear h h' hb0 hW0 hbx hby hs0
  go_enter Tryz.func12, Tryz.ntmps12
  go_upto_region 1 with fail
  rw [← HW0.out]
  go_wp2_with fail
  refine (eqC_any dp _ _ x.c dp' W0 lo hi lo' hi' HRA.out.c HRA'.out.c hh0 hh0').mono ?_
  rintro e w1 ⟨rfl, hb1⟩
  have H1 : Hid (Below W0.heap.size W0 w1) := hb1
  clear z0 z1 z2 z3 z4 z5 z6 z7 z8 z9 z10 z11 z12 y0 y1 y2 y3 y4 y5 y6 y7 y8 y9 y10 y11 y12 hb1
  obtain ⟨z0, z1, z2, z3, z4, z5, z6, z7, z8, z9, z10, z11, z12⟩ := (HAt.out _ H1.out).1.cells
  obtain ⟨y0, y1, y2, y3, y4, y5, y6, y7, y8, y9, y10, y11, y12⟩ := (HAt.out _ H1.out).2.cells
  go_wp2_with fail
  refine (eqC_any dp _ _ x.d dp' w1 lo hi lo' hi' (HRA.out.below H1.out hh0).d (HRA'.out.below H1.out hh0').d (Nat.le_trans hh0 H1.out.size) (Nat.le_trans hh0' H1.out.size)).mono ?_
  rintro e w2 ⟨rfl, hb2⟩
  have H2 : Hid (Below W0.heap.size W0 w2) := H1.out.trans (hb2.mono H1.out.size)
  clear z0 z1 z2 z3 z4 z5 z6 z7 z8 z9 z10 z11 z12 y0 y1 y2 y3 y4 y5 y6 y7 y8 y9 y10 y11 y12 hb2
  obtain ⟨z0, z1, z2, z3, z4, z5, z6, z7, z8, z9, z10, z11, z12⟩ := (HAt.out _ H2.out).1.cells
  obtain ⟨y0, y1, y2, y3, y4, y5, y6, y7, y8, y9, y10, y11, y12⟩ := (HAt.out _ H2.out).2.cells
  go_wp2_with fail
  refine (eqByteS_any _ _ _ _ _ _ x.r x.r _ (HRA.out.below H2.out hh0).r (HRA'.out.below H2.out hh0').r).mono ?_
  rintro e w3 ⟨rfl, nd0, hw0⟩
  rw [show decide (x.r = x.r) = true from by simp]
  have H3 : Hid (Below W0.heap.size W0 w3) := by unfold Hid; rw [hw0]; exact below_drewN H2.out nd0
  clear z0 z1 z2 z3 z4 z5 z6 z7 z8 z9 z10 z11 z12 y0 y1 y2 y3 y4 y5 y6 y7 y8 y9 y10 y11 y12 hw0
  obtain ⟨z0, z1, z2, z3, z4, z5, z6, z7, z8, z9, z10, z11, z12⟩ := (HAt.out _ H3.out).1.cells
  obtain ⟨y0, y1, y2, y3, y4, y5, y6, y7, y8, y9, y10, y11, y12⟩ := (HAt.out _ H3.out).2.cells
  go_wp2_with fail
  refine (eqByteS_any _ _ _ _ _ _ x.s x.s _ (HRA.out.below H3.out hh0).s (HRA'.out.below H3.out hh0').s).mono ?_
  rintro e w4 ⟨rfl, nd1, hw1⟩
  rw [show decide (x.s = x.s) = true from by simp]
  have H4 : Hid (Below W0.heap.size W0 w4) := by unfold Hid; rw [hw1]; exact below_drewN H3.out nd1
  clear z0 z1 z2 z3 z4 z5 z6 z7 z8 z9 z10 z11 z12 y0 y1 y2 y3 y4 y5 y6 y7 y8 y9 y10 y11 y12 hw1
  obtain ⟨z0, z1, z2, z3, z4, z5, z6, z7, z8, z9, z10, z11, z12⟩ := (HAt.out _ H4.out).1.cells
  obtain ⟨y0, y1, y2, y3, y4, y5, y6, y7, y8, y9, y10, y11, y12⟩ := (HAt.out _ H4.out).2.cells
  go_wp2_with fail
  refine (eqByteS_any _ _ _ _ _ _ x.a x.a _ (HRA.out.below H4.out hh0).a (HRA'.out.below H4.out hh0').a).mono ?_
  rintro e w5 ⟨rfl, nd2, hw2⟩
  rw [show decide (x.a = x.a) = true from by simp]
  have H5 : Hid (Below W0.heap.size W0 w5) := by unfold Hid; rw [hw2]; exact below_drewN H4.out nd2
  clear z0 z1 z2 z3 z4 z5 z6 z7 z8 z9 z10 z11 z12 y0 y1 y2 y3 y4 y5 y6 y7 y8 y9 y10 y11 y12 hw2
  obtain ⟨z0, z1, z2, z3, z4, z5, z6, z7, z8, z9, z10, z11, z12⟩ := (HAt.out _ H5.out).1.cells
  obtain ⟨y0, y1, y2, y3, y4, y5, y6, y7, y8, y9, y10, y11, y12⟩ := (HAt.out _ H5.out).2.cells
  go_wp2_with fail
  refine (eqByteS_any _ _ _ _ _ _ x.b x.b _ (HRA.out.below H5.out hh0).b (HRA'.out.below H5.out hh0').b).mono ?_
  rintro e w6 ⟨rfl, nd3, hw3⟩
  rw [show decide (x.b = x.b) = true from by simp]
  have H6 : Hid (Below W0.heap.size W0 w6) := by unfold Hid; rw [hw3]; exact below_drewN H5.out nd3
  clear z0 z1 z2 z3 z4 z5 z6 z7 z8 z9 z10 z11 z12 y0 y1 y2 y3 y4 y5 y6 y7 y8 y9 y10 y11 y12 hw3
  obtain ⟨z0, z1, z2, z3, z4, z5, z6, z7, z8, z9, z10, z11, z12⟩ := (HAt.out _ H6.out).1.cells
  obtain ⟨y0, y1, y2, y3, y4, y5, y6, y7, y8, y9, y10, y11, y12⟩ := (HAt.out _ H6.out).2.cells
  go_wp2_with fail
  go_ret
  exact ⟨rfl, HB0.out.trans (H6.out.mono HB0.out.size)⟩
end

section
open Go.RowKit

theorem BoxA.frz {t : Nat} {W : World} {p : Nat} {k : Int} {c0 c1 c2 c3 d0 d1 d2 d3 r s a b : Value} (h : BoxA t W p k c0 c1 c2 c3 d0 d1 d2 d3 r s a b) (o : Nat) : W.frozen? ⟨p, o, none⟩ = false := by
  unfold BoxA at h
  simp [World.frozen?, h]

theorem BoxA.at {t : Nat} {W : World} {p : Nat} {k : Int} {c0 c1 c2 c3 d0 d1 d2 d3 r s a b : Value} (h : BoxA t W p k c0 c1 c2 c3 d0 d1 d2 d3 r s a b) (i : Nat) (v : Value) : (W.setCell ⟨p, i, none⟩ v).heap[p]? = some (.cells (#[.int .i64 k, c0, c1, c2, c3, d0, d1, d2, d3, r, s, a, b].setIfInBounds i v) t (0, 0)) := heap_setCell_same W p i _ _ v h

theorem BoxA.setC {t : Nat} {W : World} {p : Nat} {k : Int} {c0 c1 c2 c3 d0 d1 d2 d3 r s a b : Value} (h : BoxA t W p k c0 c1 c2 c3 d0 d1 d2 d3 r s a b) (x0 x1 x2 x3 : Value) : BoxA t ((((W.setCell ⟨p, 1, none⟩ x0).setCell ⟨p, 2, none⟩ x1).setCell ⟨p, 3, none⟩ x2).setCell ⟨p, 4, none⟩ x3) p k x0 x1 x2 x3 d0 d1 d2 d3 r s a b := by
  have e0 : BoxA t (W.setCell ⟨p, 1, none⟩ x0) p k x0 c1 c2 c3 d0 d1 d2 d3 r s a b := h.at 1 x0
  have e1 : BoxA t ((W.setCell ⟨p, 1, none⟩ x0).setCell ⟨p, 2, none⟩ x1) p k x0 x1 c2 c3 d0 d1 d2 d3 r s a b := e0.at 2 x1
  have e2 : BoxA t (((W.setCell ⟨p, 1, none⟩ x0).setCell ⟨p, 2, none⟩ x1).setCell ⟨p, 3, none⟩ x2) p k x0 x1 x2 c3 d0 d1 d2 d3 r s a b := e1.at 3 x2
  exact e2.at 4 x3

theorem BoxA.setD {t : Nat} {W : World} {p : Nat} {k : Int} {c0 c1 c2 c3 d0 d1 d2 d3 r s a b : Value} (h : BoxA t W p k c0 c1 c2 c3 d0 d1 d2 d3 r s a b) (x0 x1 x2 x3 : Value) : BoxA t ((((W.setCell ⟨p, 5, none⟩ x0).setCell ⟨p, 6, none⟩ x1).setCell ⟨p, 7, none⟩ x2).setCell ⟨p, 8, none⟩ x3) p k c0 c1 c2 c3 x0 x1 x2 x3 r s a b := by
  have e0 : BoxA t (W.setCell ⟨p, 5, none⟩ x0) p k c0 c1 c2 c3 x0 d1 d2 d3 r s a b := h.at 5 x0
  have e1 : BoxA t ((W.setCell ⟨p, 5, none⟩ x0).setCell ⟨p, 6, none⟩ x1) p k c0 c1 c2 c3 x0 x1 d2 d3 r s a b := e0.at 6 x1
  have e2 : BoxA t (((W.setCell ⟨p, 5, none⟩ x0).setCell ⟨p, 6, none⟩ x1).setCell ⟨p, 7, none⟩ x2) p k c0 c1 c2 c3 x0 x1 x2 d3 r s a b := e1.at 7 x2
  exact e2.at 8 x3

/-- All thirteen cells of a box, laid anew. -/
def set13 (W : World) (p : Nat) (v0 v1 v2 v3 v4 v5 v6 v7 v8 v9 v10 v11 v12 : Value) : World := (((((((((((((W.setCell ⟨p, 0, none⟩ v0).setCell ⟨p, 1, none⟩ v1).setCell ⟨p, 2, none⟩ v2).setCell ⟨p, 3, none⟩ v3).setCell ⟨p, 4, none⟩ v4).setCell ⟨p, 5, none⟩ v5).setCell ⟨p, 6, none⟩ v6).setCell ⟨p, 7, none⟩ v7).setCell ⟨p, 8, none⟩ v8).setCell ⟨p, 9, none⟩ v9).setCell ⟨p, 10, none⟩ v10).setCell ⟨p, 11, none⟩ v11).setCell ⟨p, 12, none⟩ v12)

theorem heap_set13 (W : World) {b p : Nat} (v0 v1 v2 v3 v4 v5 v6 v7 v8 v9 v10 v11 v12 : Value) (hb : b ≠ p) : (set13 W p v0 v1 v2 v3 v4 v5 v6 v7 v8 v9 v10 v11 v12).heap[b]? = W.heap[b]? := by
  unfold set13
  rw [Below.heap_setCell _ ⟨p, 12, none⟩ _ b hb, Below.heap_setCell _ ⟨p, 11, none⟩ _ b hb, Below.heap_setCell _ ⟨p, 10, none⟩ _ b hb, Below.heap_setCell _ ⟨p, 9, none⟩ _ b hb, Below.heap_setCell _ ⟨p, 8, none⟩ _ b hb, Below.heap_setCell _ ⟨p, 7, none⟩ _ b hb, Below.heap_setCell _ ⟨p, 6, none⟩ _ b hb, Below.heap_setCell _ ⟨p, 5, none⟩ _ b hb, Below.heap_setCell _ ⟨p, 4, none⟩ _ b hb, Below.heap_setCell _ ⟨p, 3, none⟩ _ b hb, Below.heap_setCell _ ⟨p, 2, none⟩ _ b hb, Below.heap_setCell _ ⟨p, 1, none⟩ _ b hb, Below.heap_setCell _ ⟨p, 0, none⟩ _ b hb]

theorem size_set13 (W : World) (p : Nat) (v0 v1 v2 v3 v4 v5 v6 v7 v8 v9 v10 v11 v12 : Value) : (set13 W p v0 v1 v2 v3 v4 v5 v6 v7 v8 v9 v10 v11 v12).heap.size = W.heap.size := by unfold set13; simp

theorem below_set13 {B : Nat} {w W : World} (h : Below B w W) {p : Nat} (hp : B ≤ p) (v0 v1 v2 v3 v4 v5 v6 v7 v8 v9 v10 v11 v12 : Value) : Below B w (set13 W p v0 v1 v2 v3 v4 v5 v6 v7 v8 v9 v10 v11 v12) :=
  ((((((((((((h.setCell hp _).setCell hp _).setCell hp _).setCell hp _).setCell hp _).setCell hp _).setCell hp _).setCell hp _).setCell hp _).setCell hp _).setCell hp _).setCell hp _).setCell hp _

theorem BoxA.set13 {t : Nat} {W : World} {p : Nat} {k : Int} {c0 c1 c2 c3 d0 d1 d2 d3 r s a b : Value} (h : BoxA t W p k c0 c1 c2 c3 d0 d1 d2 d3 r s a b) (k' : Int) (v1 v2 v3 v4 v5 v6 v7 v8 v9 v10 v11 v12 : Value) : BoxA t (set13 W p (.int .i64 k') v1 v2 v3 v4 v5 v6 v7 v8 v9 v10 v11 v12) p k' v1 v2 v3 v4 v5 v6 v7 v8 v9 v10 v11 v12 := by
  have e0 : BoxA t (W.setCell ⟨p, 0, none⟩ (.int .i64 k')) p k' c0 c1 c2 c3 d0 d1 d2 d3 r s a b := h.at 0 _
  have e4 := (e0.setC v1 v2 v3 v4).setD v5 v6 v7 v8
  have e9 := BoxA.at e4 9 v9
  have e9' : BoxA t _ p k' v1 v2 v3 v4 v5 v6 v7 v8 v9 s a b := e9
  have e10 : BoxA t _ p k' v1 v2 v3 v4 v5 v6 v7 v8 v9 v10 a b := e9'.at 10 v10
  have e11 : BoxA t _ p k' v1 v2 v3 v4 v5 v6 v7 v8 v9 v10 v11 b := e10.at 11 v11
  exact e11.at 12 v12

theorem same_out {W : World} {p o lo hi : Nat} (v : Value) (h : p < lo) : Same lo hi W (W.setCell ⟨p, o, none⟩ v) := fun b h1 _ => Below.heap_setCell W ⟨p, o, none⟩ v b (by show b ≠ p; omega)

set_option maxRecDepth 100000 in
set_option maxHeartbeats 8000000 in
theorem toAx_any {dp : Nat} {c0 c1 c2 c3 d0 d1 d2 d3 : Value} {ra : Option Addr} {rn rc : Nat} {sa : Option Addr} {sn sc : Nat} {aa : Option Addr} {an ac : Nat} {ba : Option Addr} {bn bc : Nat} {x : AX} {w : World} {lo hi : Nat} (h : RdA lo hi w dp c0 c1 c2 c3 d0 d1 d2 d3 ra rn rc sa sn sc aa an ac ba bn bc x) (hhi : hi ≤ w.heap.size) (hcb : x.c.bulk ≤ 1048576) (hdb : x.d.bulk ≤ 1048576) (hrn : rn ≤ 1048576) (hsn : sn ≤ 1048576) (han : an ≤ 1048576) (hbn : bn ≤ 1048576) (k : Int) :
    Calls Tryz.prog 9 #[.agg #[.int .i64 k, c0, c1, c2, c3, d0, d1, d2, d3, .slice ra rn rc, .slice sa sn sc, .slice aa an ac, .slice ba bn bc]] w fun e w' => ∃ u0 u1 u2 u3 y0 y1 y2 y3 g0 g1 g2 g3, e = .returned (.agg #[.int .i64 k, u0, u1, u2, u3, y0, y1, y2, y3, .slice (some ⟨g0, 0, none⟩) rn rn, .slice (some ⟨g1, 0, none⟩) sn sn, .slice (some ⟨g2, 0, none⟩) an an, .slice (some ⟨g3, 0, none⟩) bn bn]) ∧
      RdA w.heap.size w'.heap.size w' dp u0 u1 u2 u3 y0 y1 y2 y3 (some ⟨g0, 0, none⟩) rn rn (some ⟨g1, 0, none⟩) sn sn (some ⟨g2, 0, none⟩) an an (some ⟨g3, 0, none⟩) bn bn x ∧ Below w.heap.size w w' := by
  obtain ⟨W1, hW1⟩ : ∃ W1, W1 = ((w.alloc (.cells #[.int .i64 k, c0, c1, c2, c3, d0, d1, d2, d3, .slice ra rn rc, .slice sa sn sc, .slice aa an ac, .slice ba bn bc] 32)).alloc (.cells #[.int .i64 0, .int .i64 0, .slice none 0 0, .slice none 0 0, .slice none 0 0, .int .i64 0, .slice none 0 0, .slice none 0 0, .slice none 0 0, .slice none 0 0, .slice none 0 0, .slice none 0 0, .slice none 0 0] 42)).alloc (.cells #[.int .i64 k, .int .i64 0, .slice none 0 0, .slice none 0 0, .slice none 0 0, .int .i64 0, .slice none 0 0, .slice none 0 0, .slice none 0 0, .slice none 0 0, .slice none 0 0, .slice none 0 0, .slice none 0 0] 42) := ⟨_, rfl⟩
  have HW1 : Hid (W1 = ((w.alloc (.cells #[.int .i64 k, c0, c1, c2, c3, d0, d1, d2, d3, .slice ra rn rc, .slice sa sn sc, .slice aa an ac, .slice ba bn bc] 32)).alloc (.cells #[.int .i64 0, .int .i64 0, .slice none 0 0, .slice none 0 0, .slice none 0 0, .int .i64 0, .slice none 0 0, .slice none 0 0, .slice none 0 0, .slice none 0 0, .slice none 0 0, .slice none 0 0, .slice none 0 0] 42)).alloc (.cells #[.int .i64 k, .int .i64 0, .slice none 0 0, .slice none 0 0, .slice none 0 0, .int .i64 0, .slice none 0 0, .slice none 0 0, .slice none 0 0, .slice none 0 0, .slice none 0 0, .slice none 0 0, .slice none 0 0] 42)) := hW1
  have hs1 : W1.heap.size = w.heap.size + 3 := by rw [hW1]; simp
  have hb0 : Below w.heap.size w W1 := by rw [hW1]; exact (((Below.refl _ _).alloc (Nat.le_refl _) _).alloc (by simp) _).alloc (by simp; omega) _
  have HB0 : Hid (Below w.heap.size w W1) := hb0
  have hlx : BoxA 32 W1 w.heap.size k c0 c1 c2 c3 d0 d1 d2 d3 (.slice ra rn rc) (.slice sa sn sc) (.slice aa an ac) (.slice ba bn bc) := by rw [hW1]; exact ((BoxA.new _ w _ _ _ _ _ _ _ _ _ _ _ _ _).below ((Below.refl _ _).alloc (Nat.le_refl _) _) (by simp)).below ((Below.refl _ _).alloc (Nat.le_refl _) _) (by simp; omega)
  have hrx : BoxA 42 W1 (w.heap.size + 1) 0 (.int .i64 0) (.slice none 0 0) (.slice none 0 0) (.slice none 0 0) (.int .i64 0) (.slice none 0 0) (.slice none 0 0) (.slice none 0 0) (.slice none 0 0) (.slice none 0 0) (.slice none 0 0) (.slice none 0 0) := by
    rw [hW1]
    have := BoxA.new 42 (w.alloc (.cells #[.int .i64 k, c0, c1, c2, c3, d0, d1, d2, d3, .slice ra rn rc, .slice sa sn sc, .slice aa an ac, .slice ba bn bc] 32)) 0 (.int .i64 0) (.slice none 0 0) (.slice none 0 0) (.slice none 0 0) (.int .i64 0) (.slice none 0 0) (.slice none 0 0) (.slice none 0 0) (.slice none 0 0) (.slice none 0 0) (.slice none 0 0) (.slice none 0 0)
    rw [World.size_alloc] at this
    exact this.below ((Below.refl _ _).alloc (Nat.le_refl _) _) (by simp)
  have hox : BoxA 42 W1 (w.heap.size + 1 + 1) k (.int .i64 0) (.slice none 0 0) (.slice none 0 0) (.slice none 0 0) (.int .i64 0) (.slice none 0 0) (.slice none 0 0) (.slice none 0 0) (.slice none 0 0) (.slice none 0 0) (.slice none 0 0) (.slice none 0 0) := by
    rw [hW1]
    have := BoxA.new 42 ((w.alloc (.cells #[.int .i64 k, c0, c1, c2, c3, d0, d1, d2, d3, .slice ra rn rc, .slice sa sn sc, .slice aa an ac, .slice ba bn bc] 32)).alloc (.cells #[.int .i64 0, .int .i64 0, .slice none 0 0, .slice none 0 0, .slice none 0 0, .int .i64 0, .slice none 0 0, .slice none 0 0, .slice none 0 0, .slice none 0 0, .slice none 0 0, .slice none 0 0, .slice none 0 0] 42)) k (.int .i64 0) (.slice none 0 0) (.slice none 0 0) (.slice none 0 0) (.int .i64 0) (.slice none 0 0) (.slice none 0 0) (.slice none 0 0) (.slice none 0 0) (.slice none 0 0) (.slice none 0 0) (.slice none 0 0)
    rwa [World.size_alloc, World.size_alloc] at this
  have HLx : Hid (∀ W, Below (w.heap.size + 2) W1 W → BoxA 32 W w.heap.size k c0 c1 c2 c3 d0 d1 d2 d3 (.slice ra rn rc) (.slice sa sn sc) (.slice aa an ac) (.slice ba bn bc)) := fun W hW => hlx.below hW (by omega)
  have HRx : Hid (∀ W, Below (w.heap.size + 2) W1 W → BoxA 42 W (w.heap.size + 1) 0 (.int .i64 0) (.slice none 0 0) (.slice none 0 0) (.slice none 0 0) (.int .i64 0) (.slice none 0 0) (.slice none 0 0) (.slice none 0 0) (.slice none 0 0) (.slice none 0 0) (.slice none 0 0) (.slice none 0 0)) := fun W hW => hrx.below hW (by omega)
  have HOx : Hid (BoxA 42 W1 (w.heap.size + 1 + 1) k (.int .i64 0) (.slice none 0 0) (.slice none 0 0) (.slice none 0 0) (.int .i64 0) (.slice none 0 0) (.slice none 0 0) (.slice none 0 0) (.slice none 0 0) (.slice none 0 0) (.slice none 0 0) (.slice none 0 0)) := hox
  have HS1 : Hid (W1.heap.size = w.heap.size + 3) := hs1
  have HRA : Hid (RdA lo hi w dp c0 c1 c2 c3 d0 d1 d2 d3 ra rn rc sa sn sc aa an ac ba bn bc x) := h
  have HBd : Hid (x.c.bulk ≤ 1048576 ∧ x.d.bulk ≤ 1048576) := ⟨hcb, hdb⟩
  have hRd : ∀ W, Below (w.heap.size + 2) W1 W → RdA lo hi W dp c0 c1 c2 c3 d0 d1 d2 d3 ra rn rc sa sn sc aa an ac ba bn bc x ∧ hi ≤ W.heap.size := fun W hW => ⟨(h.below hb0 hhi).below hW (by omega), Nat.le_trans (Nat.le_trans hhi hb0.size) hW.size⟩
  have HRd : Hid (∀ W, Below (w.heap.size + 2) W1 W → RdA lo hi W dp c0 c1 c2 c3 d0 d1 d2 d3 ra rn rc sa sn sc aa an ac ba bn bc x ∧ hi ≤ W.heap.size) := hRd
  obtain ⟨z0, z1, z2, z3, z4, z5, z6, z7, z8, z9, z10, z11, z12⟩ := hlx.cells
  clear h hb0 hW1 hlx hrx hox hcb hdb hRd hs1
  go_enter Tryz.func9, Tryz.ntmps9
  go_wp2_with fail
  rw [← HW1.out]
  refine (toC_any dp _ x.c W1 lo hi (HRd.out _ (Below.refl _ _)).1.c (HRd.out _ (Below.refl _ _)).2 HBd.out.1).mono ?_
  rintro e w1 ⟨v1, rfl, hx1, _, hb1⟩
  obtain ⟨ek, e1a, e1n, e1c, e2a, e2n, e2c, e3a, e3n, e3c, rfl⟩ := hx1.shape
  have HX1 : Hid (RdC W1.heap.size w1.heap.size w1 dp (.agg #[.int .i64 ek, .slice e1a e1n e1c, .slice e2a e2n e2c, .slice e3a e3n e3c]) x.c) := hx1
  have H1 : Hid (Below (w.heap.size + 2) W1 w1) := hb1.mono (by have := HS1.out; omega)
  have hs1b := hb1.size
  have hox1 := HOx.out.below hb1 (by have := HS1.out; omega)
  obtain ⟨o0, o1, o2, o3, o4, o5, o6, o7, o8, o9, o10, o11, o12⟩ := hox1.cells
  have g1 := hox1.frz 1
  have g2 := hox1.frz 2
  have g3 := hox1.frz 3
  have g4 := hox1.frz 4
  obtain ⟨U1, hU1⟩ : ∃ U, U = ((((w1.setCell ⟨w.heap.size + 1 + 1, 1, none⟩ (.int .i64 ek)).setCell ⟨w.heap.size + 1 + 1, 2, none⟩ (.slice e1a e1n e1c)).setCell ⟨w.heap.size + 1 + 1, 3, none⟩ (.slice e2a e2n e2c)).setCell ⟨w.heap.size + 1 + 1, 4, none⟩ (.slice e3a e3n e3c)) := ⟨_, rfl⟩
  have HU1 : Hid (U1 = ((((w1.setCell ⟨w.heap.size + 1 + 1, 1, none⟩ (.int .i64 ek)).setCell ⟨w.heap.size + 1 + 1, 2, none⟩ (.slice e1a e1n e1c)).setCell ⟨w.heap.size + 1 + 1, 3, none⟩ (.slice e2a e2n e2c)).setCell ⟨w.heap.size + 1 + 1, 4, none⟩ (.slice e3a e3n e3c))) := hU1
  have HOx1 : Hid (BoxA 42 U1 (w.heap.size + 1 + 1) k (.int .i64 ek) (.slice e1a e1n e1c) (.slice e2a e2n e2c) (.slice e3a e3n e3c) (.int .i64 0) (.slice none 0 0) (.slice none 0 0) (.slice none 0 0) (.slice none 0 0) (.slice none 0 0) (.slice none 0 0) (.slice none 0 0)) := by unfold Hid; rw [hU1]; exact hox1.setC _ _ _ _
  have hBU1 : Below (w.heap.size + 2) W1 U1 := by rw [hU1]; exact ((((H1.out.setCell (by show w.heap.size + 2 ≤ w.heap.size + 1 + 1; omega) _).setCell (by show w.heap.size + 2 ≤ w.heap.size + 1 + 1; omega) _).setCell (by show w.heap.size + 2 ≤ w.heap.size + 1 + 1; omega) _).setCell (by show w.heap.size + 2 ≤ w.heap.size + 1 + 1; omega) _)
  have HBU1 : Hid (Below (w.heap.size + 2) W1 U1) := hBU1
  have hsU1 : U1.heap.size = w1.heap.size := by rw [hU1]; simp
  have HSm1 : Hid (Same W1.heap.size w1.heap.size w1 U1) := by
    unfold Hid
    rw [hU1]
    have hp := HS1.out
    exact (((same_out _ (by omega)).trans (same_out _ (by omega))).trans (same_out _ (by omega))).trans (same_out _ (by omega))
  clear z0 z1 z2 z3 z4 z5 z6 z7 z8 z9 z10 z11 z12 hx1 hb1 hox1
  obtain ⟨z0, z1, z2, z3, z4, z5, z6, z7, z8, z9, z10, z11, z12⟩ := (HLx.out _ H1.out).cells
  have hne0 : w.heap.size ≠ w.heap.size + 1 + 1 := by omega
  clear hU1 hBU1
  go_wp2_with fail
  rw [← HU1.out]
  refine (toC_any dp _ x.d U1 lo hi (HRd.out _ HBU1.out).1.d (HRd.out _ HBU1.out).2 HBd.out.2).mono ?_
  rintro e w2 ⟨v2, rfl, hx2, _, hb2⟩
  obtain ⟨fk, f1a, f1n, f1c, f2a, f2n, f2c, f3a, f3n, f3c, rfl⟩ := hx2.shape
  have hs2b := hb2.size
  have HX2 : Hid (RdC U1.heap.size w2.heap.size w2 dp (.agg #[.int .i64 fk, .slice f1a f1n f1c, .slice f2a f2n f2c, .slice f3a f3n f3c]) x.d) := hx2
  have HX12 : Hid (RdC W1.heap.size w1.heap.size w2 dp (.agg #[.int .i64 ek, .slice e1a e1n e1c, .slice e2a e2n e2c, .slice e3a e3n e3c]) x.c) := (HX1.out.same HSm1.out).below hb2 (by omega)
  have H2 : Hid (Below (w.heap.size + 2) W1 w2) := HBU1.out.trans (hb2.mono (by have := HS1.out; omega))
  have hox2 := HOx1.out.below hb2 (by have := HS1.out; omega)
  clear o0 o1 o2 o3 o4 o5 o6 o7 o8 o9 o10 o11 o12 g1 g2 g3 g4 z0 z1 z2 z3 z4 z5 z6 z7 z8 z9 z10 z11 z12
  obtain ⟨o0, o1, o2, o3, o4, o5, o6, o7, o8, o9, o10, o11, o12⟩ := hox2.cells
  have g5 := hox2.frz 5
  have g6 := hox2.frz 6
  have g7 := hox2.frz 7
  have g8 := hox2.frz 8
  obtain ⟨U2, hU2⟩ : ∃ U, U = ((((w2.setCell ⟨w.heap.size + 1 + 1, 5, none⟩ (.int .i64 fk)).setCell ⟨w.heap.size + 1 + 1, 6, none⟩ (.slice f1a f1n f1c)).setCell ⟨w.heap.size + 1 + 1, 7, none⟩ (.slice f2a f2n f2c)).setCell ⟨w.heap.size + 1 + 1, 8, none⟩ (.slice f3a f3n f3c)) := ⟨_, rfl⟩
  have HU2 : Hid (U2 = ((((w2.setCell ⟨w.heap.size + 1 + 1, 5, none⟩ (.int .i64 fk)).setCell ⟨w.heap.size + 1 + 1, 6, none⟩ (.slice f1a f1n f1c)).setCell ⟨w.heap.size + 1 + 1, 7, none⟩ (.slice f2a f2n f2c)).setCell ⟨w.heap.size + 1 + 1, 8, none⟩ (.slice f3a f3n f3c))) := hU2
  have HOx2 : Hid (BoxA 42 U2 (w.heap.size + 1 + 1) k (.int .i64 ek) (.slice e1a e1n e1c) (.slice e2a e2n e2c) (.slice e3a e3n e3c) (.int .i64 fk) (.slice f1a f1n f1c) (.slice f2a f2n f2c) (.slice f3a f3n f3c) (.slice none 0 0) (.slice none 0 0) (.slice none 0 0) (.slice none 0 0)) := by unfold Hid; rw [hU2]; exact hox2.setD _ _ _ _
  have HBU2 : Hid (Below (w.heap.size + 2) W1 U2) := by unfold Hid; rw [hU2]; exact ((((H2.out.setCell (by show w.heap.size + 2 ≤ w.heap.size + 1 + 1; omega) _).setCell (by show w.heap.size + 2 ≤ w.heap.size + 1 + 1; omega) _).setCell (by show w.heap.size + 2 ≤ w.heap.size + 1 + 1; omega) _).setCell (by show w.heap.size + 2 ≤ w.heap.size + 1 + 1; omega) _)
  have hsU2 : U2.heap.size = w2.heap.size := by rw [hU2]; simp
  have HSm2 : Hid (Same W1.heap.size w2.heap.size w2 U2) := by
    unfold Hid
    rw [hU2]
    have hp := HS1.out
    exact (((same_out _ (by omega)).trans (same_out _ (by omega))).trans (same_out _ (by omega))).trans (same_out _ (by omega))
  have HC2 : Hid (RdC W1.heap.size U2.heap.size U2 dp (.agg #[.int .i64 ek, .slice e1a e1n e1c, .slice e2a e2n e2c, .slice e3a e3n e3c]) x.c ∧ RdC W1.heap.size U2.heap.size U2 dp (.agg #[.int .i64 fk, .slice f1a f1n f1c, .slice f2a f2n f2c, .slice f3a f3n f3c]) x.d) := by
    have hp := HS1.out
    exact ⟨(HX12.out.same (HSm2.out.mono (Nat.le_refl _) (by omega))).mono (Nat.le_refl _) (by omega), (HX2.out.same (HSm2.out.mono (by omega) (by omega))).mono (by omega) (by omega)⟩
  clear hx2 hb2 hox2
  obtain ⟨z0, z1, z2, z3, z4, z5, z6, z7, z8, z9, z10, z11, z12⟩ := (HLx.out _ H2.out).cells
  clear hU2
  go_wp2_with fail
  rw [← HU2.out]
  refine (toByteS_any ra rn rc x.r U2 (HRd.out _ HBU2.out).1.r (HRd.out _ HBU2.out).2 hrn).mono ?_
  rintro e w3 ⟨rfl, hrow0, hb3⟩
  obtain ⟨g0, hg0⟩ : ∃ g, g = U2.heap.size := ⟨_, rfl⟩
  rw [← hg0] at hrow0
  rw [← hg0]
  have hs3b := hb3.size
  have hlt0 := hrow0.lt
  have hge0 : W1.heap.size ≤ g0 := by omega
  clear hg0
  have H3 : Hid (Below (w.heap.size + 2) W1 w3) := HBU2.out.trans (hb3.mono (by have := HS1.out; omega))
  have hox3 := HOx2.out.below hb3 (by have := HS1.out; omega)
  clear o0 o1 o2 o3 o4 o5 o6 o7 o8 o9 o10 o11 o12 z0 z1 z2 z3 z4 z5 z6 z7 z8 z9 z10 z11 z12
  obtain ⟨o0, o1, o2, o3, o4, o5, o6, o7, o8, o9, o10, o11, o12⟩ := hox3.cells
  have gg0 := hox3.frz 9
  have hC0 : (RdC W1.heap.size w3.heap.size w3 dp (.agg #[.int .i64 ek, .slice e1a e1n e1c, .slice e2a e2n e2c, .slice e3a e3n e3c]) x.c ∧ RdC W1.heap.size w3.heap.size w3 dp (.agg #[.int .i64 fk, .slice f1a f1n f1c, .slice f2a f2n f2c, .slice f3a f3n f3c]) x.d ∧ Row w3 g0 rn x.r ∧ W1.heap.size ≤ g0 ∧ g0 < w3.heap.size) := by
    exact ⟨(HC2.out.1.below hb3 (Nat.le_refl _)).mono (Nat.le_refl _) (by omega), (HC2.out.2.below hb3 (Nat.le_refl _)).mono (Nat.le_refl _) (by omega), hrow0, hge0, hlt0⟩
  obtain ⟨U3, hU3⟩ : ∃ U, U = w3.setCell ⟨w.heap.size + 1 + 1, 9, none⟩ (.slice (some ⟨g0, 0, none⟩) rn rn) := ⟨_, rfl⟩
  have HU3 : Hid (U3 = w3.setCell ⟨w.heap.size + 1 + 1, 9, none⟩ (.slice (some ⟨g0, 0, none⟩) rn rn)) := hU3
  have HOx3 : Hid (BoxA 42 U3 (w.heap.size + 1 + 1) k (.int .i64 ek) (.slice e1a e1n e1c) (.slice e2a e2n e2c) (.slice e3a e3n e3c) (.int .i64 fk) (.slice f1a f1n f1c) (.slice f2a f2n f2c) (.slice f3a f3n f3c) (.slice (some ⟨g0, 0, none⟩) rn rn) (.slice none 0 0) (.slice none 0 0) (.slice none 0 0)) := by unfold Hid; rw [hU3]; exact hox3.at 9 _
  have HBU3 : Hid (Below (w.heap.size + 2) W1 U3) := by unfold Hid; rw [hU3]; exact (H3.out.setCell (by show w.heap.size + 2 ≤ w.heap.size + 1 + 1; omega) _)
  have hsU3 : U3.heap.size = w3.heap.size := by rw [hU3]; simp
  have hsm0 : Same W1.heap.size w3.heap.size w3 U3 := by rw [hU3]; exact same_out _ (by have := HS1.out; omega)
  have HCU3 : Hid (RdC W1.heap.size U3.heap.size U3 dp (.agg #[.int .i64 ek, .slice e1a e1n e1c, .slice e2a e2n e2c, .slice e3a e3n e3c]) x.c ∧ RdC W1.heap.size U3.heap.size U3 dp (.agg #[.int .i64 fk, .slice f1a f1n f1c, .slice f2a f2n f2c, .slice f3a f3n f3c]) x.d ∧ Row U3 g0 rn x.r ∧ W1.heap.size ≤ g0 ∧ g0 < U3.heap.size) := by
    have hp := HS1.out
    rw [hsU3]
    exact ⟨hC0.1.same hsm0, hC0.2.1.same hsm0, (hC0.2.2.1).same hsm0 (hC0.2.2.2.1) (hC0.2.2.2.2), hC0.2.2.2.1, hC0.2.2.2.2⟩
  clear hb3 hox3 hC0 hsm0 hrow0
  obtain ⟨z0, z1, z2, z3, z4, z5, z6, z7, z8, z9, z10, z11, z12⟩ := (HLx.out _ H3.out).cells
  clear hU3
  go_wp2_with fail
  rw [← HU3.out]
  refine (toByteS_any sa sn sc x.s U3 (HRd.out _ HBU3.out).1.s (HRd.out _ HBU3.out).2 hsn).mono ?_
  rintro e w4 ⟨rfl, hrow1, hb4⟩
  obtain ⟨g1, hg1⟩ : ∃ g, g = U3.heap.size := ⟨_, rfl⟩
  rw [← hg1] at hrow1
  rw [← hg1]
  have hs4b := hb4.size
  have hlt1 := hrow1.lt
  have hge1 : W1.heap.size ≤ g1 := by omega
  clear hg1
  have H4 : Hid (Below (w.heap.size + 2) W1 w4) := HBU3.out.trans (hb4.mono (by have := HS1.out; omega))
  have hox4 := HOx3.out.below hb4 (by have := HS1.out; omega)
  clear o0 o1 o2 o3 o4 o5 o6 o7 o8 o9 o10 o11 o12 z0 z1 z2 z3 z4 z5 z6 z7 z8 z9 z10 z11 z12
  obtain ⟨o0, o1, o2, o3, o4, o5, o6, o7, o8, o9, o10, o11, o12⟩ := hox4.cells
  have gg1 := hox4.frz 10
  have hC1 : (RdC W1.heap.size w4.heap.size w4 dp (.agg #[.int .i64 ek, .slice e1a e1n e1c, .slice e2a e2n e2c, .slice e3a e3n e3c]) x.c ∧ RdC W1.heap.size w4.heap.size w4 dp (.agg #[.int .i64 fk, .slice f1a f1n f1c, .slice f2a f2n f2c, .slice f3a f3n f3c]) x.d ∧ Row w4 g0 rn x.r ∧ W1.heap.size ≤ g0 ∧ g0 < w4.heap.size ∧ Row w4 g1 sn x.s ∧ W1.heap.size ≤ g1 ∧ g1 < w4.heap.size) := by
    exact ⟨(HCU3.out.1.below hb4 (Nat.le_refl _)).mono (Nat.le_refl _) (by omega), (HCU3.out.2.1.below hb4 (Nat.le_refl _)).mono (Nat.le_refl _) (by omega), (HCU3.out.2.2.1.below hb4 (by have := (HCU3.out.2.2.1).lt; omega)), HCU3.out.2.2.2.1, by have := (HCU3.out.2.2.1).lt; omega, hrow1, hge1, hlt1⟩
  obtain ⟨U4, hU4⟩ : ∃ U, U = w4.setCell ⟨w.heap.size + 1 + 1, 10, none⟩ (.slice (some ⟨g1, 0, none⟩) sn sn) := ⟨_, rfl⟩
  have HU4 : Hid (U4 = w4.setCell ⟨w.heap.size + 1 + 1, 10, none⟩ (.slice (some ⟨g1, 0, none⟩) sn sn)) := hU4
  have HOx4 : Hid (BoxA 42 U4 (w.heap.size + 1 + 1) k (.int .i64 ek) (.slice e1a e1n e1c) (.slice e2a e2n e2c) (.slice e3a e3n e3c) (.int .i64 fk) (.slice f1a f1n f1c) (.slice f2a f2n f2c) (.slice f3a f3n f3c) (.slice (some ⟨g0, 0, none⟩) rn rn) (.slice (some ⟨g1, 0, none⟩) sn sn) (.slice none 0 0) (.slice none 0 0)) := by unfold Hid; rw [hU4]; exact hox4.at 10 _
  have HBU4 : Hid (Below (w.heap.size + 2) W1 U4) := by unfold Hid; rw [hU4]; exact (H4.out.setCell (by show w.heap.size + 2 ≤ w.heap.size + 1 + 1; omega) _)
  have hsU4 : U4.heap.size = w4.heap.size := by rw [hU4]; simp
  have hsm1 : Same W1.heap.size w4.heap.size w4 U4 := by rw [hU4]; exact same_out _ (by have := HS1.out; omega)
  have HCU4 : Hid (RdC W1.heap.size U4.heap.size U4 dp (.agg #[.int .i64 ek, .slice e1a e1n e1c, .slice e2a e2n e2c, .slice e3a e3n e3c]) x.c ∧ RdC W1.heap.size U4.heap.size U4 dp (.agg #[.int .i64 fk, .slice f1a f1n f1c, .slice f2a f2n f2c, .slice f3a f3n f3c]) x.d ∧ Row U4 g0 rn x.r ∧ W1.heap.size ≤ g0 ∧ g0 < U4.heap.size ∧ Row U4 g1 sn x.s ∧ W1.heap.size ≤ g1 ∧ g1 < U4.heap.size) := by
    have hp := HS1.out
    rw [hsU4]
    exact ⟨hC1.1.same hsm1, hC1.2.1.same hsm1, (hC1.2.2.1).same hsm1 (hC1.2.2.2.1) (hC1.2.2.2.2.1), hC1.2.2.2.1, hC1.2.2.2.2.1, (hC1.2.2.2.2.2.1).same hsm1 (hC1.2.2.2.2.2.2.1) (hC1.2.2.2.2.2.2.2), hC1.2.2.2.2.2.2.1, hC1.2.2.2.2.2.2.2⟩
  clear hb4 hox4 hC1 hsm1 hrow1
  obtain ⟨z0, z1, z2, z3, z4, z5, z6, z7, z8, z9, z10, z11, z12⟩ := (HLx.out _ H4.out).cells
  clear hU4
  go_wp2_with fail
  rw [← HU4.out]
  refine (toByteS_any aa an ac x.a U4 (HRd.out _ HBU4.out).1.a (HRd.out _ HBU4.out).2 han).mono ?_
  rintro e w5 ⟨rfl, hrow2, hb5⟩
  obtain ⟨g2, hg2⟩ : ∃ g, g = U4.heap.size := ⟨_, rfl⟩
  rw [← hg2] at hrow2
  rw [← hg2]
  have hs5b := hb5.size
  have hlt2 := hrow2.lt
  have hge2 : W1.heap.size ≤ g2 := by omega
  clear hg2
  have H5 : Hid (Below (w.heap.size + 2) W1 w5) := HBU4.out.trans (hb5.mono (by have := HS1.out; omega))
  have hox5 := HOx4.out.below hb5 (by have := HS1.out; omega)
  clear o0 o1 o2 o3 o4 o5 o6 o7 o8 o9 o10 o11 o12 z0 z1 z2 z3 z4 z5 z6 z7 z8 z9 z10 z11 z12
  obtain ⟨o0, o1, o2, o3, o4, o5, o6, o7, o8, o9, o10, o11, o12⟩ := hox5.cells
  have gg2 := hox5.frz 11
  have hC2 : (RdC W1.heap.size w5.heap.size w5 dp (.agg #[.int .i64 ek, .slice e1a e1n e1c, .slice e2a e2n e2c, .slice e3a e3n e3c]) x.c ∧ RdC W1.heap.size w5.heap.size w5 dp (.agg #[.int .i64 fk, .slice f1a f1n f1c, .slice f2a f2n f2c, .slice f3a f3n f3c]) x.d ∧ Row w5 g0 rn x.r ∧ W1.heap.size ≤ g0 ∧ g0 < w5.heap.size ∧ Row w5 g1 sn x.s ∧ W1.heap.size ≤ g1 ∧ g1 < w5.heap.size ∧ Row w5 g2 an x.a ∧ W1.heap.size ≤ g2 ∧ g2 < w5.heap.size) := by
    exact ⟨(HCU4.out.1.below hb5 (Nat.le_refl _)).mono (Nat.le_refl _) (by omega), (HCU4.out.2.1.below hb5 (Nat.le_refl _)).mono (Nat.le_refl _) (by omega), (HCU4.out.2.2.1.below hb5 (by have := (HCU4.out.2.2.1).lt; omega)), HCU4.out.2.2.2.1, by have := (HCU4.out.2.2.1).lt; omega, (HCU4.out.2.2.2.2.2.1.below hb5 (by have := (HCU4.out.2.2.2.2.2.1).lt; omega)), HCU4.out.2.2.2.2.2.2.1, by have := (HCU4.out.2.2.2.2.2.1).lt; omega, hrow2, hge2, hlt2⟩
  obtain ⟨U5, hU5⟩ : ∃ U, U = w5.setCell ⟨w.heap.size + 1 + 1, 11, none⟩ (.slice (some ⟨g2, 0, none⟩) an an) := ⟨_, rfl⟩
  have HU5 : Hid (U5 = w5.setCell ⟨w.heap.size + 1 + 1, 11, none⟩ (.slice (some ⟨g2, 0, none⟩) an an)) := hU5
  have HOx5 : Hid (BoxA 42 U5 (w.heap.size + 1 + 1) k (.int .i64 ek) (.slice e1a e1n e1c) (.slice e2a e2n e2c) (.slice e3a e3n e3c) (.int .i64 fk) (.slice f1a f1n f1c) (.slice f2a f2n f2c) (.slice f3a f3n f3c) (.slice (some ⟨g0, 0, none⟩) rn rn) (.slice (some ⟨g1, 0, none⟩) sn sn) (.slice (some ⟨g2, 0, none⟩) an an) (.slice none 0 0)) := by unfold Hid; rw [hU5]; exact hox5.at 11 _
  have HBU5 : Hid (Below (w.heap.size + 2) W1 U5) := by unfold Hid; rw [hU5]; exact (H5.out.setCell (by show w.heap.size + 2 ≤ w.heap.size + 1 + 1; omega) _)
  have hsU5 : U5.heap.size = w5.heap.size := by rw [hU5]; simp
  have hsm2 : Same W1.heap.size w5.heap.size w5 U5 := by rw [hU5]; exact same_out _ (by have := HS1.out; omega)
  have HCU5 : Hid (RdC W1.heap.size U5.heap.size U5 dp (.agg #[.int .i64 ek, .slice e1a e1n e1c, .slice e2a e2n e2c, .slice e3a e3n e3c]) x.c ∧ RdC W1.heap.size U5.heap.size U5 dp (.agg #[.int .i64 fk, .slice f1a f1n f1c, .slice f2a f2n f2c, .slice f3a f3n f3c]) x.d ∧ Row U5 g0 rn x.r ∧ W1.heap.size ≤ g0 ∧ g0 < U5.heap.size ∧ Row U5 g1 sn x.s ∧ W1.heap.size ≤ g1 ∧ g1 < U5.heap.size ∧ Row U5 g2 an x.a ∧ W1.heap.size ≤ g2 ∧ g2 < U5.heap.size) := by
    have hp := HS1.out
    rw [hsU5]
    exact ⟨hC2.1.same hsm2, hC2.2.1.same hsm2, (hC2.2.2.1).same hsm2 (hC2.2.2.2.1) (hC2.2.2.2.2.1), hC2.2.2.2.1, hC2.2.2.2.2.1, (hC2.2.2.2.2.2.1).same hsm2 (hC2.2.2.2.2.2.2.1) (hC2.2.2.2.2.2.2.2.1), hC2.2.2.2.2.2.2.1, hC2.2.2.2.2.2.2.2.1, (hC2.2.2.2.2.2.2.2.2.1).same hsm2 (hC2.2.2.2.2.2.2.2.2.2.1) (hC2.2.2.2.2.2.2.2.2.2.2), hC2.2.2.2.2.2.2.2.2.2.1, hC2.2.2.2.2.2.2.2.2.2.2⟩
  clear hb5 hox5 hC2 hsm2 hrow2
  obtain ⟨z0, z1, z2, z3, z4, z5, z6, z7, z8, z9, z10, z11, z12⟩ := (HLx.out _ H5.out).cells
  clear hU5
  go_wp2_with fail
  rw [← HU5.out]
  refine (toByteS_any ba bn bc x.b U5 (HRd.out _ HBU5.out).1.b (HRd.out _ HBU5.out).2 hbn).mono ?_
  rintro e w6 ⟨rfl, hrow3, hb6⟩
  obtain ⟨g3, hg3⟩ : ∃ g, g = U5.heap.size := ⟨_, rfl⟩
  rw [← hg3] at hrow3
  rw [← hg3]
  have hs6b := hb6.size
  have hlt3 := hrow3.lt
  have hge3 : W1.heap.size ≤ g3 := by omega
  clear hg3
  have H6 : Hid (Below (w.heap.size + 2) W1 w6) := HBU5.out.trans (hb6.mono (by have := HS1.out; omega))
  have hox6 := HOx5.out.below hb6 (by have := HS1.out; omega)
  clear o0 o1 o2 o3 o4 o5 o6 o7 o8 o9 o10 o11 o12 z0 z1 z2 z3 z4 z5 z6 z7 z8 z9 z10 z11 z12
  obtain ⟨o0, o1, o2, o3, o4, o5, o6, o7, o8, o9, o10, o11, o12⟩ := hox6.cells
  have gg3 := hox6.frz 12
  have hC3 : (RdC W1.heap.size w6.heap.size w6 dp (.agg #[.int .i64 ek, .slice e1a e1n e1c, .slice e2a e2n e2c, .slice e3a e3n e3c]) x.c ∧ RdC W1.heap.size w6.heap.size w6 dp (.agg #[.int .i64 fk, .slice f1a f1n f1c, .slice f2a f2n f2c, .slice f3a f3n f3c]) x.d ∧ Row w6 g0 rn x.r ∧ W1.heap.size ≤ g0 ∧ g0 < w6.heap.size ∧ Row w6 g1 sn x.s ∧ W1.heap.size ≤ g1 ∧ g1 < w6.heap.size ∧ Row w6 g2 an x.a ∧ W1.heap.size ≤ g2 ∧ g2 < w6.heap.size ∧ Row w6 g3 bn x.b ∧ W1.heap.size ≤ g3 ∧ g3 < w6.heap.size) := by
    exact ⟨(HCU5.out.1.below hb6 (Nat.le_refl _)).mono (Nat.le_refl _) (by omega), (HCU5.out.2.1.below hb6 (Nat.le_refl _)).mono (Nat.le_refl _) (by omega), (HCU5.out.2.2.1.below hb6 (by have := (HCU5.out.2.2.1).lt; omega)), HCU5.out.2.2.2.1, by have := (HCU5.out.2.2.1).lt; omega, (HCU5.out.2.2.2.2.2.1.below hb6 (by have := (HCU5.out.2.2.2.2.2.1).lt; omega)), HCU5.out.2.2.2.2.2.2.1, by have := (HCU5.out.2.2.2.2.2.1).lt; omega, (HCU5.out.2.2.2.2.2.2.2.2.1.below hb6 (by have := (HCU5.out.2.2.2.2.2.2.2.2.1).lt; omega)), HCU5.out.2.2.2.2.2.2.2.2.2.1, by have := (HCU5.out.2.2.2.2.2.2.2.2.1).lt; omega, hrow3, hge3, hlt3⟩
  have hB6 : Below (w.heap.size + 2) W1 (w6.setCell ⟨w.heap.size + 1 + 1, 12, none⟩ (.slice (some ⟨g3, 0, none⟩) bn bn)) := (H6.out.setCell (by show w.heap.size + 2 ≤ w.heap.size + 1 + 1; omega) _)
  have hrx6 := HRx.out _ hB6
  have hrxw := HRx.out _ H6.out
  obtain ⟨t0, t1, t2, t3, t4, t5, t6, t7, t8, t9, t10, t11, t12⟩ := hrxw.cells
  have tf0 := hrxw.frz 0
  have tf1 := hrxw.frz 1
  have tf2 := hrxw.frz 2
  have tf3 := hrxw.frz 3
  have tf4 := hrxw.frz 4
  have tf5 := hrxw.frz 5
  have tf6 := hrxw.frz 6
  have tf7 := hrxw.frz 7
  have tf8 := hrxw.frz 8
  have tf9 := hrxw.frz 9
  have tf10 := hrxw.frz 10
  have tf11 := hrxw.frz 11
  have tf12 := hrxw.frz 12
  obtain ⟨s0, s1, s2, s3, s4, s5, s6, s7, s8, s9, s10, s11, s12⟩ := (hrx6.set13 k (.int .i64 ek) (.slice e1a e1n e1c) (.slice e2a e2n e2c) (.slice e3a e3n e3c) (.int .i64 fk) (.slice f1a f1n f1c) (.slice f2a f2n f2c) (.slice f3a f3n f3c) (.slice (some ⟨g0, 0, none⟩) rn rn) (.slice (some ⟨g1, 0, none⟩) sn sn) (.slice (some ⟨g2, 0, none⟩) an an) (.slice (some ⟨g3, 0, none⟩) bn bn)).cells
  have HPost : Hid (RdA w.heap.size (set13 (w6.setCell ⟨w.heap.size + 1 + 1, 12, none⟩ (.slice (some ⟨g3, 0, none⟩) bn bn)) (w.heap.size + 1) (.int .i64 k) (.int .i64 ek) (.slice e1a e1n e1c) (.slice e2a e2n e2c) (.slice e3a e3n e3c) (.int .i64 fk) (.slice f1a f1n f1c) (.slice f2a f2n f2c) (.slice f3a f3n f3c) (.slice (some ⟨g0, 0, none⟩) rn rn) (.slice (some ⟨g1, 0, none⟩) sn sn) (.slice (some ⟨g2, 0, none⟩) an an) (.slice (some ⟨g3, 0, none⟩) bn bn)).heap.size (set13 (w6.setCell ⟨w.heap.size + 1 + 1, 12, none⟩ (.slice (some ⟨g3, 0, none⟩) bn bn)) (w.heap.size + 1) (.int .i64 k) (.int .i64 ek) (.slice e1a e1n e1c) (.slice e2a e2n e2c) (.slice e3a e3n e3c) (.int .i64 fk) (.slice f1a f1n f1c) (.slice f2a f2n f2c) (.slice f3a f3n f3c) (.slice (some ⟨g0, 0, none⟩) rn rn) (.slice (some ⟨g1, 0, none⟩) sn sn) (.slice (some ⟨g2, 0, none⟩) an an) (.slice (some ⟨g3, 0, none⟩) bn bn)) dp (.int .i64 ek) (.slice e1a e1n e1c) (.slice e2a e2n e2c) (.slice e3a e3n e3c) (.int .i64 fk) (.slice f1a f1n f1c) (.slice f2a f2n f2c) (.slice f3a f3n f3c) (some ⟨g0, 0, none⟩) rn rn (some ⟨g1, 0, none⟩) sn sn (some ⟨g2, 0, none⟩) an an (some ⟨g3, 0, none⟩) bn bn x ∧ Below w.heap.size w (set13 (w6.setCell ⟨w.heap.size + 1 + 1, 12, none⟩ (.slice (some ⟨g3, 0, none⟩) bn bn)) (w.heap.size + 1) (.int .i64 k) (.int .i64 ek) (.slice e1a e1n e1c) (.slice e2a e2n e2c) (.slice e3a e3n e3c) (.int .i64 fk) (.slice f1a f1n f1c) (.slice f2a f2n f2c) (.slice f3a f3n f3c) (.slice (some ⟨g0, 0, none⟩) rn rn) (.slice (some ⟨g1, 0, none⟩) sn sn) (.slice (some ⟨g2, 0, none⟩) an an) (.slice (some ⟨g3, 0, none⟩) bn bn))) := by
    have hp := HS1.out
    have hSm : Same W1.heap.size w6.heap.size w6 (set13 (w6.setCell ⟨w.heap.size + 1 + 1, 12, none⟩ (.slice (some ⟨g3, 0, none⟩) bn bn)) (w.heap.size + 1) (.int .i64 k) (.int .i64 ek) (.slice e1a e1n e1c) (.slice e2a e2n e2c) (.slice e3a e3n e3c) (.int .i64 fk) (.slice f1a f1n f1c) (.slice f2a f2n f2c) (.slice f3a f3n f3c) (.slice (some ⟨g0, 0, none⟩) rn rn) (.slice (some ⟨g1, 0, none⟩) sn sn) (.slice (some ⟨g2, 0, none⟩) an an) (.slice (some ⟨g3, 0, none⟩) bn bn)) := fun b h1 h2 => (heap_set13 _ _ _ _ _ _ _ _ _ _ _ _ _ _ (by omega)).trans (Below.heap_setCell w6 ⟨w.heap.size + 1 + 1, 12, none⟩ _ b (by show b ≠ w.heap.size + 1 + 1; omega))
    have hsf : (set13 (w6.setCell ⟨w.heap.size + 1 + 1, 12, none⟩ (.slice (some ⟨g3, 0, none⟩) bn bn)) (w.heap.size + 1) (.int .i64 k) (.int .i64 ek) (.slice e1a e1n e1c) (.slice e2a e2n e2c) (.slice e3a e3n e3c) (.int .i64 fk) (.slice f1a f1n f1c) (.slice f2a f2n f2c) (.slice f3a f3n f3c) (.slice (some ⟨g0, 0, none⟩) rn rn) (.slice (some ⟨g1, 0, none⟩) sn sn) (.slice (some ⟨g2, 0, none⟩) an an) (.slice (some ⟨g3, 0, none⟩) bn bn)).heap.size = w6.heap.size := by rw [size_set13]; simp
    rw [hsf]
    have hlen := HRA.out
    refine ⟨⟨(hC3.1.same hSm).mono (by omega) (Nat.le_refl _), (hC3.2.1.same hSm).mono (by omega) (Nat.le_refl _), ?_, ?_, ?_, ?_⟩, below_set13 (((HB0.out.trans (H6.out.mono (by omega))).setCell (by show w.heap.size ≤ w.heap.size + 1 + 1; omega) _)) (by omega) _ _ _ _ _ _ _ _ _ _ _ _ _⟩
    · exact ((hC3.2.2.1).same hSm (hC3.2.2.2.1) (hC3.2.2.2.2.1)).rd hlen.r.len hlen.r.byte (by omega) (by have := hC3.2.2.2.1; omega) (hC3.2.2.2.2.1)
    · exact ((hC3.2.2.2.2.2.1).same hSm (hC3.2.2.2.2.2.2.1) (hC3.2.2.2.2.2.2.2.1)).rd hlen.s.len hlen.s.byte (by omega) (by have := hC3.2.2.2.2.2.2.1; omega) (hC3.2.2.2.2.2.2.2.1)
    · exact ((hC3.2.2.2.2.2.2.2.2.1).same hSm (hC3.2.2.2.2.2.2.2.2.2.1) (hC3.2.2.2.2.2.2.2.2.2.2.1)).rd hlen.a.len hlen.a.byte (by omega) (by have := hC3.2.2.2.2.2.2.2.2.2.1; omega) (hC3.2.2.2.2.2.2.2.2.2.2.1)
    · exact ((hC3.2.2.2.2.2.2.2.2.2.2.2.1).same hSm (hC3.2.2.2.2.2.2.2.2.2.2.2.2.1) (hC3.2.2.2.2.2.2.2.2.2.2.2.2.2)).rd hlen.b.len hlen.b.byte (by omega) (by have := hC3.2.2.2.2.2.2.2.2.2.2.2.2.1; omega) (hC3.2.2.2.2.2.2.2.2.2.2.2.2.2)
  simp only [set13] at s0 s1 s2 s3 s4 s5 s6 s7 s8 s9 s10 s11 s12
  clear hb6 hox6 hC3 hrow3 hrx6 hrxw hB6
  obtain ⟨z0, z1, z2, z3, z4, z5, z6, z7, z8, z9, z10, z11, z12⟩ := (HLx.out _ H6.out).cells
  go_wp2_with fail
  refine bodyPost_ret (v := .agg #[.int .i64 k, .int .i64 ek, .slice e1a e1n e1c, .slice e2a e2n e2c, .slice e3a e3n e3c, .int .i64 fk, .slice f1a f1n f1c, .slice f2a f2n f2c, .slice f3a f3n f3c, .slice (some ⟨g0, 0, none⟩) rn rn, .slice (some ⟨g1, 0, none⟩) sn sn, .slice (some ⟨g2, 0, none⟩) an an, .slice (some ⟨g3, 0, none⟩) bn bn]) (by simp [results, Tryz.results9, go_sem, s0, s1, s2, s3, s4, s5, s6, s7, s8, s9, s10, s11, s12]) rfl ?_
  exact ⟨_, _, _, _, _, _, _, _, _, _, _, _, rfl, HPost.out.1, HPost.out.2⟩
end

section
open Go.RowKit Go.Deep Go.ChangeShapes Go.WideShapes

def AX.zero : AX := ⟨0, CN.zero, CN.zero, [], [], [], []⟩
def AX.bulk (x : AX) : Nat := x.c.bulk + x.d.bulk + x.r.length + x.s.length + x.a.length + x.b.length

set_option maxRecDepth 100000 in
set_option maxHeartbeats 8000000 in
theorem szAxG_any {dp : Nat} {c0 c1 c2 c3 d0 d1 d2 d3 : Value} {ra : Option Addr} {rn rc : Nat} {sa : Option Addr} {sn sc : Nat} {aa : Option Addr} {an ac : Nat} {ba : Option Addr} {bn bc : Nat} {x : AX} {w : World} {lo hi : Nat} (h : RdA lo hi w dp c0 c1 c2 c3 d0 d1 d2 d3 ra rn rc sa sn sc aa an ac ba bn bc x) (hhi : hi ≤ w.heap.size) (k : Int) (left : Int) (hl0 : 0 ≤ left) (hl1 : left ≤ 1048576) :
    Calls Tryz.prog 6 #[.agg #[.int .i64 k, c0, c1, c2, c3, d0, d1, d2, d3, .slice ra rn rc, .slice sa sn sc, .slice aa an ac, .slice ba bn bc], .int .i64 left] w fun e w' => ∃ r : Int, e = .returned (.int .i64 r) ∧ (¬ r < 0 → r + (x.bulk : Nat) ≤ left) ∧ Below w.heap.size w w' := by
  obtain ⟨W0, hW0⟩ : ∃ W0, W0 = w.alloc (.cells #[.int .i64 k, c0, c1, c2, c3, d0, d1, d2, d3, .slice ra rn rc, .slice sa sn sc, .slice aa an ac, .slice ba bn bc] 32) := ⟨_, rfl⟩
  have HW0 : Hid (W0 = w.alloc (.cells #[.int .i64 k, c0, c1, c2, c3, d0, d1, d2, d3, .slice ra rn rc, .slice sa sn sc, .slice aa an ac, .slice ba bn bc] 32)) := hW0
  have hb0 : Below w.heap.size w W0 := by rw [hW0]; exact (Below.refl _ _).alloc (Nat.le_refl _) _
  have HB0 : Hid (Below w.heap.size w W0) := hb0
  have hlt0 : w.heap.size < W0.heap.size := by rw [hW0]; simp
  have hbx : BoxA 32 W0 w.heap.size k c0 c1 c2 c3 d0 d1 d2 d3 (.slice ra rn rc) (.slice sa sn sc) (.slice aa an ac) (.slice ba bn bc) := by rw [hW0]; exact BoxA.new _ w _ _ _ _ _ _ _ _ _ _ _ _ _
  have HAt : Hid (∀ W, Below W0.heap.size W0 W → BoxA 32 W w.heap.size k c0 c1 c2 c3 d0 d1 d2 d3 (.slice ra rn rc) (.slice sa sn sc) (.slice aa an ac) (.slice ba bn bc)) := fun W hW => hbx.below hW hlt0
  obtain ⟨z0, z1, z2, z3, z4, z5, z6, z7, z8, z9, z10, z11, z12⟩ := hbx.cells
  have HRA : Hid (RdA lo hi W0 dp c0 c1 c2 c3 d0 d1 d2 d3 ra rn rc sa sn sc aa an ac ba bn bc x) := h.below hb0 hhi
  have hh0 : hi ≤ W0.heap.size := Nat.le_trans hhi hb0.size
  have HFit : Hid (rn ≤ 9223372036854775807 ∧ sn ≤ 9223372036854775807 ∧ an ≤ 9223372036854775807 ∧ bn ≤ 9223372036854775807) := by
    have := h.r.fits
    have := h.s.fits
    have := h.a.fits
    have := h.b.fits
    unfold Hid
    omega
  clear h hb0 hW0 hbx
  go_enter Tryz.func6, Tryz.ntmps6
  go_wp2_with fail
  rw [← HW0.out]
  refine (szC_any dp _ x.c left W0 lo hi HRA.out.c hh0 hl0 hl1).mono ?_
  rintro e w1 ⟨rfl, hb1⟩
  obtain ⟨l1, hq1⟩ : ∃ l, l = szRes left x.c.bulk := ⟨_, rfl⟩
  rw [← hq1]
  have H1 : Hid (Below W0.heap.size W0 w1) := hb1
  clear z0 z1 z2 z3 z4 z5 z6 z7 z8 z9 z10 z11 z12 hb1
  obtain ⟨z0, z1, z2, z3, z4, z5, z6, z7, z8, z9, z10, z11, z12⟩ := (HAt.out _ H1.out).cells
  by_cases n1 : l1 < 0
  · clear hq1
    go_wp2_with fail
    go_ret
    exact ⟨-1, rfl, fun h => by omega, HB0.out.trans (H1.out.mono HB0.out.size)⟩
  · have p1 := szRes_pos (by rw [← hq1]; exact n1)
    rw [← hq1] at p1
    have HP1 : Hid (l1 = left - (x.c.bulk : Int)) := p1.2
    have q1 : l1 ≤ 1048576 := by omega
    clear p1 hq1
    go_wp2_with fail
    refine (szC_any dp _ x.d l1 w1 lo hi (HRA.out.below H1.out hh0).d (Nat.le_trans hh0 H1.out.size) (by omega) q1).mono ?_
    rintro e w2 ⟨rfl, hb2⟩
    obtain ⟨l2, hq2⟩ : ∃ l, l = szRes l1 x.d.bulk := ⟨_, rfl⟩
    rw [← hq2]
    have H2 : Hid (Below W0.heap.size W0 w2) := H1.out.trans (hb2.mono H1.out.size)
    have HBw : Hid (Below w.heap.size w w2) := HB0.out.trans (H2.out.mono HB0.out.size)
    clear z0 z1 z2 z3 z4 z5 z6 z7 z8 z9 z10 z11 z12 hb2
    obtain ⟨z0, z1, z2, z3, z4, z5, z6, z7, z8, z9, z10, z11, z12⟩ := (HAt.out _ H2.out).cells
    by_cases n2 : l2 < 0
    · clear hq2
      go_wp2_with fail
      go_ret
      exact ⟨-1, rfl, fun h => by omega, HBw.out⟩
    · have p2 := szRes_pos (by rw [← hq2]; exact n2)
      rw [← hq2] at p2
      have HP2 : Hid (l2 = l1 - (x.d.bulk : Int)) := p2.2
      have q2 : l2 ≤ 1048576 := by omega
      clear p2 hq2
      go_wp2_with fail
      refine (szByteS_any ra rn rc l2 w2 ⟨by omega, by omega⟩ HFit.out.1).mono ?_
      rintro e w' ⟨rfl, hw⟩
      rw [hw]
      obtain ⟨l3, hq3⟩ : ∃ l, l = szRes l2 rn := ⟨_, rfl⟩
      rw [← hq3]
      clear hw
      by_cases n3 : l3 < 0
      · clear hq3
        go_wp2_with fail
        go_ret
        exact ⟨-1, rfl, fun h => by omega, HBw.out⟩
      · have p3 := szRes_pos (by rw [← hq3]; exact n3)
        rw [← hq3] at p3
        have HP3 : Hid (l3 = l2 - (rn : Int)) := p3.2
        have q3 : l3 ≤ 1048576 := by omega
        clear p3 hq3
        go_wp2_with fail
        refine (szByteS_any sa sn sc l3 w2 ⟨by omega, by omega⟩ HFit.out.2.1).mono ?_
        rintro e w' ⟨rfl, hw⟩
        rw [hw]
        obtain ⟨l4, hq4⟩ : ∃ l, l = szRes l3 sn := ⟨_, rfl⟩
        rw [← hq4]
        clear hw
        by_cases n4 : l4 < 0
        · clear hq4
          go_wp2_with fail
          go_ret
          exact ⟨-1, rfl, fun h => by omega, HBw.out⟩
        · have p4 := szRes_pos (by rw [← hq4]; exact n4)
          rw [← hq4] at p4
          have HP4 : Hid (l4 = l3 - (sn : Int)) := p4.2
          have q4 : l4 ≤ 1048576 := by omega
          clear p4 hq4
          go_wp2_with fail
          refine (szByteS_any aa an ac l4 w2 ⟨by omega, by omega⟩ HFit.out.2.2.1).mono ?_
          rintro e w' ⟨rfl, hw⟩
          rw [hw]
          obtain ⟨l5, hq5⟩ : ∃ l, l = szRes l4 an := ⟨_, rfl⟩
          rw [← hq5]
          clear hw
          by_cases n5 : l5 < 0
          · clear hq5
            go_wp2_with fail
            go_ret
            exact ⟨-1, rfl, fun h => by omega, HBw.out⟩
          · have p5 := szRes_pos (by rw [← hq5]; exact n5)
            rw [← hq5] at p5
            have HP5 : Hid (l5 = l4 - (an : Int)) := p5.2
            have q5 : l5 ≤ 1048576 := by omega
            clear p5 hq5
            go_wp2_with fail
            refine (szByteS_any ba bn bc l5 w2 ⟨by omega, by omega⟩ HFit.out.2.2.2).mono ?_
            rintro e w' ⟨rfl, hw⟩
            rw [hw]
            obtain ⟨l6, hq6⟩ : ∃ l, l = szRes l5 bn := ⟨_, rfl⟩
            rw [← hq6]
            clear hw
            by_cases n6 : l6 < 0
            · clear hq6
              go_wp2_with fail
              go_ret
              exact ⟨-1, rfl, fun h => by omega, HBw.out⟩
            · have p6 := szRes_pos (by rw [← hq6]; exact n6)
              rw [← hq6] at p6
              have HP6 : Hid (l6 = l5 - (bn : Int)) := p6.2
              have q6 : l6 ≤ 1048576 := by omega
              clear p6 hq6
              go_wp2_with fail
              go_ret
              exact ⟨_, rfl, fun _ => by have := HP1.out; have := HP2.out; have := HP3.out; have := HP4.out; have := HP5.out; have := HP6.out; have := HRA.out.r.len; have := HRA.out.s.len; have := HRA.out.a.len; have := HRA.out.b.len; unfold AX.bulk; omega, HBw.out⟩

theorem trod_sevenK {H : Type} {enc : TypeId × Value → H} {P : Program} {w : World} {base : Nat} {spare : Nat → Bool} {held : Bool} {t : TypeId} {f0 f1 f2 f3 f4 f5 f6 : Field} {fuel : Nat} {cs : List Value} {x : DataW H × List MemPlace} (ht : P.underlying t = some (.struct #[f0, f1, f2, f3, f4, f5, f6])) (h : DataW.trod enc P w base spare held fuel t cs = some x) :
    ∃ y0 y1 y2 y3 y4 y5 y6 n, fuel = n + 1 ∧ cs.length = P.cellsOf t ∧ DataW.trod enc P w base spare held n f0.type ((cs.drop f0.offset).take (P.cellsOf f0.type)) = some y0 ∧ DataW.trod enc P w base spare held n f1.type ((cs.drop f1.offset).take (P.cellsOf f1.type)) = some y1 ∧
      DataW.trod enc P w base spare held n f2.type ((cs.drop f2.offset).take (P.cellsOf f2.type)) = some y2 ∧ DataW.trod enc P w base spare held n f3.type ((cs.drop f3.offset).take (P.cellsOf f3.type)) = some y3 ∧ DataW.trod enc P w base spare held n f4.type ((cs.drop f4.offset).take (P.cellsOf f4.type)) = some y4 ∧
      DataW.trod enc P w base spare held n f5.type ((cs.drop f5.offset).take (P.cellsOf f5.type)) = some y5 ∧ DataW.trod enc P w base spare held n f6.type ((cs.drop f6.offset).take (P.cellsOf f6.type)) = some y6 := by
  obtain ⟨xs, n, hn, _, hl, hlen, hf⟩ := DataW.trod_struct ht h
  match xs, hlen with
  | [y0, y1, y2, y3, y4, y5, y6], _ => exact ⟨y0, y1, y2, y3, y4, y5, y6, n, hn, hl, by simpa using hf 0 f0 rfl, by simpa using hf 1 f1 rfl, by simpa using hf 2 f2 rfl, by simpa using hf 3 f3 rfl, by simpa using hf 4 f4 rfl, by simpa using hf 5 f5 rfl, by simpa using hf 6 f6 rfl⟩

set_option maxRecDepth 100000 in
theorem open_ax {H : Type} {enc : TypeId × Value → H} {w : World} {fuel : Nat} {cs : List Value} {y : DataW H × List MemPlace} (h : DataW.trod enc Tryz.prog w 0 (fun _ => true) true fuel 32 cs = some y) :
    ∃ c0 c1 c2 c3 d0 d1 d2 d3 ra rn rc sa sn sc aa an ac ba bn bc x, cs = [.int .i64 (AX.kind x), c0, c1, c2, c3, d0, d1, d2, d3, .slice ra rn rc, .slice sa sn sc, .slice aa an ac, .slice ba bn bc] ∧ RdA 0 w.heap.size w fuel c0 c1 c2 c3 d0 d1 d2 d3 ra rn rc sa sn sc aa an ac ba bn bc x := by
  have c13 : Tryz.prog.cellsOf 32 = 13 := by kernel_rfl
  have c4 : Tryz.prog.cellsOf 30 = 4 := by kernel_rfl
  have ci : Tryz.prog.cellsOf 3 = 1 := by kernel_rfl
  have cb : Tryz.prog.cellsOf 27 = 1 := by kernel_rfl
  obtain ⟨y0, y1, y2, y3, y4, y5, y6, n, hn, hl, t0, t1, t2, t3, t4, t5, t6⟩ := trod_sevenK Tryz.underlying32 h
  rw [c13] at hl
  match cs, hl with
  | [a0, a1, a2, a3, a4, a5, a6, a7, a8, a9, a10, a11, a12], _ =>
    simp only [ci, cb, c4, List.drop_zero, List.drop_succ_cons, List.take_succ_cons, List.take_zero] at t0 t1 t2 t3 t4 t5 t6
    obtain ⟨k, hk, _, _⟩ := DataW.trod_int Tryz.underlying3 t0
    obtain ⟨u0, u1, u2, u3, cc, hc, hcr⟩ := open_con fuel n _ _ (by omega) t1
    obtain ⟨w0, w1, w2, w3, dd, hd, hdr⟩ := open_con fuel n _ _ (by omega) t2
    obtain ⟨ra, rn, rc, rz, hrz, hrr⟩ := open_bytes t3
    obtain ⟨sa, sn, sc, sz, hsz, hsr⟩ := open_bytes t4
    obtain ⟨aa, an, ac, az, haz, har⟩ := open_bytes t5
    obtain ⟨ba, bn, bc, bz, hbz, hbr⟩ := open_bytes t6
    simp only [List.cons.injEq, and_true] at hk hc hd
    obtain ⟨rfl, rfl, rfl, rfl⟩ := hc
    obtain ⟨rfl, rfl, rfl, rfl⟩ := hd
    subst hk hrz hsz haz hbz
    exact ⟨_, _, _, _, _, _, _, _, ra, rn, rc, sa, sn, sc, aa, an, ac, ba, bn, bc, ⟨k, cc, dd, rz, sz, az, bz⟩, rfl, ⟨hcr, hdr, hrr, hsr, har, hbr⟩⟩

instance : Inhabited AX := ⟨AX.zero⟩
end

end Go.Proofs.YtfbokljbmihlbaaGreat
