/- Several texts in one: OpenB, ConOpen, ClOpen, WdOpen, ClsOpen. -/
import Derived.Test.YtknainelonaigaaGreatDoorNBase
import Derived.Deep.Strs
import Derived.Deep.Slices
import Derived.ChangeOld
import Derived.OpenShut
import Derived.Test.YtknainelonaigaaGreatDoorNCl
import Derived.Test.YtknainelonaigaaGreatDoorNWd
import Derived.Test.YtknainelonaigaaGreatDoorClsMem
namespace Go.Proofs.YtknainelonaigaaGreatDoor

section
open Go.RowKit Go.Deep Go.ChangeShapes Go.WideShapes

theorem rd_of_cells {w : World} {x : Addr} {len cap : Nat} {zs : List Int} (hl : len ≤ cap) (hm : cap ≤ maxLen) (hz : zs.length = cap) (hc : ∀ i, i < zs.length → w.cell? (x.add i) = some (.int .u8 (zs.getD i 0))) (hwf : ∀ n ∈ zs, (Lit.int .u8 n).wf = true) :
    Rd 0 w.heap.size w (some x) len cap (zs.take len) := by
  unfold maxLen at hm
  refine ⟨by simp; omega, ⟨hl, hm⟩, fun i => ?_, ?_⟩
  · have := range_u8 hwf i
    simp only [List.getD, List.getElem?_take]
    split
    · exact this
    · simp
  · by_cases h0 : len = 0
    · exact .inl h0
    · obtain ⟨b, off, spot⟩ := x
      have hc0 := hc 0 (by omega)
      have hspot : spot = none := by simpa [Addr.add] using World.cell?_spot hc0
      subst hspot
      refine .inr ⟨b, off, rfl, Nat.zero_le _, block_lt_of_cell hc0, fun i hi => ?_⟩
      have := hc i (by omega)
      simp only [List.getD, List.getElem?_take, if_pos hi]
      by_cases e : i = 0
      · subst e; simpa [Addr.add, List.getD] using this
      · simpa [Addr.add, e, List.getD] using this

/-- The bytes of a slice that is read. -/
theorem open_bytes {H : Type} {enc : TypeId × Value → H} {w : World} {fuel : Nat} {v : Value} {x : DataW H × List MemPlace} (h : DataW.trod enc Tryz.prog w 0 (fun _ => true) true fuel 28 [v] = some x) :
    ∃ a len cap zs, v = .slice a len cap ∧ Rd 0 w.heap.size w a len cap zs := by
  rcases open_ints Tryz.underlying28 Tryz.underlying5 (by kernel_rfl) h with ⟨hcs, _⟩ | ⟨x, l, c, zs, hcs, _, hl, hm, hz, _, hcell, hwz⟩
  · simp at hcs
    exact ⟨none, 0, 0, [], hcs, Rd.none_of (by omega)⟩
  · simp at hcs
    exact ⟨some x, l, c, _, hcs, rd_of_cells hl hm (by simpa using hz) hcell hwz⟩
end

section
open Go.RowKit Go.Deep Go.ChangeShapes Go.WideShapes

theorem trod_four {H : Type} {enc : TypeId × Value → H} {P : Program} {w : World} {base : Nat} {spare : Nat → Bool} {held : Bool} {t : TypeId} {f0 f1 f2 f3 : Field} {fuel : Nat} {cs : List Value} {x : DataW H × List MemPlace} (ht : P.underlying t = some (.struct #[f0, f1, f2, f3])) (h : DataW.trod enc P w base spare held fuel t cs = some x) :
    ∃ y0 y1 y2 y3 n, fuel = n + 1 ∧ cs.length = P.cellsOf t ∧ DataW.trod enc P w base spare held n f0.type ((cs.drop f0.offset).take (P.cellsOf f0.type)) = some y0 ∧ DataW.trod enc P w base spare held n f1.type ((cs.drop f1.offset).take (P.cellsOf f1.type)) = some y1 ∧
      DataW.trod enc P w base spare held n f2.type ((cs.drop f2.offset).take (P.cellsOf f2.type)) = some y2 ∧ DataW.trod enc P w base spare held n f3.type ((cs.drop f3.offset).take (P.cellsOf f3.type)) = some y3 := by
  obtain ⟨xs, n, hn, _, hl, hlen, hf⟩ := DataW.trod_struct ht h
  match xs, hlen with
  | [y0, y1, y2, y3], _ => exact ⟨y0, y1, y2, y3, n, hn, hl, by simpa using hf 0 f0 rfl, by simpa using hf 1 f1 rfl, by simpa using hf 2 f2 rfl, by simpa using hf 3 f3 rfl⟩

set_option maxRecDepth 100000 in
theorem open_con {H : Type} {enc : TypeId × Value → H} {w : World} : ∀ (m fuel : Nat) (cs : List Value) (x : DataW H × List MemPlace), fuel ≤ m → DataW.trod enc Tryz.prog w 0 (fun _ => true) true fuel 65 cs = some x →
    ∃ v0 v1 v2 v3 c, cs = [v0, v1, v2, v3] ∧ RdC 0 w.heap.size w m (.agg #[v0, v1, v2, v3]) c := by
  have c4 : Tryz.prog.cellsOf 65 = 4 := by kernel_rfl
  have ci : Tryz.prog.cellsOf 3 = 1 := by kernel_rfl
  have cb : Tryz.prog.cellsOf 28 = 1 := by kernel_rfl
  have ck : Tryz.prog.cellsOf 22 = 1 := by kernel_rfl
  intro m
  induction m with
  | zero =>
    intro fuel cs x hf h
    obtain ⟨_, n, hn, _⟩ := DataW.trod_struct Tryz.underlying65 h
    omega
  | succ m ih =>
    intro fuel cs x hf h
    obtain ⟨y0, y1, y2, y3, n, hn, hl, t0, t1, t2, t3⟩ := trod_four Tryz.underlying65 h
    rw [c4] at hl
    match cs, hl with
      | [a0, a1, a2, a3], _ =>
        simp only [ci, cb, ck, List.drop_zero, List.drop_succ_cons, List.take_succ_cons, List.take_zero] at t0 t1 t2 t3
        obtain ⟨k, hk, _, _⟩ := DataW.trod_int Tryz.underlying3 t0
        obtain ⟨na, nn, nc, nz, hnz, hnr⟩ := open_bytes t1
        obtain ⟨ra, rn, rc, rz, hrz, hrr⟩ := open_bytes t2
        simp only [List.cons.injEq, and_true] at hk
        subst hk hnz hrz
        rcases DataW.trod_slice Tryz.underlying22 t3 with ⟨hcs, _⟩ | ⟨ad, len, cap, elems, rest, n', hn', hcs, _, _, hle, hcm, hel, hx, _, _⟩
        · simp only [List.cons.injEq, and_true] at hcs
          subst hcs
          exact ⟨_, _, _, _, .mk k nz rz [], rfl, na, nn, nc, ra, rn, rc, none, 0, 0, rfl, hnr, hrr, ⟨rfl, by omega, .inl rfl⟩⟩
        · simp only [List.cons.injEq, and_true] at hcs
          subst hcs
          rw [c4] at hx
          have key : ∀ i, i < len → ∃ c : CN, ∃ v0 v1 v2 v3, w.cell? (ad.add (i * 4)) = some v0 ∧ w.cell? ((ad.add (i * 4)).add 1) = some v1 ∧ w.cell? ((ad.add (i * 4)).add 2) = some v2 ∧ w.cell? ((ad.add (i * 4)).add 3) = some v3 ∧ RdC 0 w.heap.size w m (.agg #[v0, v1, v2, v3]) c := by
            intro i hi
            have hxi := hx i hi
            rw [List.getElem?_eq_getElem (by omega)] at hxi
            obtain ⟨cs', h1, h2⟩ := Option.bind_eq_some_iff.1 hxi
            obtain ⟨v0, v1, v2, v3, c, hcs', hr⟩ := ih n' cs' _ (by omega) h2
            obtain ⟨_, hlen', hcell⟩ := World.cells?_some h1
            subst hcs'
            have e0 := hcell 0 (by omega)
            have e1 := hcell 1 (by omega)
            have e2 := hcell 2 (by omega)
            have e3 := hcell 3 (by omega)
            rw [show (ad.add (i * 4)).add 0 = ad.add (i * 4) from by simp [Addr.add]] at e0
            exact ⟨c, v0, v1, v2, v3, e0, e1, e2, e3, hr⟩
          obtain ⟨T, hT⟩ := choose_lt key
          refine ⟨_, _, _, _, .mk k nz rz ((List.range len).map T), rfl, na, nn, nc, ra, rn, rc, some ad, len, cap, rfl, hnr, hrr, ⟨by simp [CN.kids], ⟨hle, by unfold maxLen at hcm; exact hcm⟩, ?_⟩⟩
          by_cases h0 : len = 0
          · exact .inl h0
          · obtain ⟨b, off, spot⟩ := ad
            obtain ⟨_, _, _, _, q0, _⟩ := hT 0 (by omega)
            have hspot : spot = none := by simpa [Addr.add] using World.cell?_spot q0
            subst hspot
            have hblk : b < w.heap.size := by simpa [Addr.add] using block_lt_of_cell q0
            refine .inr ⟨b, off, rfl, Nat.zero_le _, hblk, fun i hi => ?_⟩
            obtain ⟨v0, v1, v2, v3, e0, e1, e2, e3, hr⟩ := hT i hi
            have eT : (CN.kids (.mk k nz rz ((List.range len).map T))).getD i CN.zero = T i := by simp [CN.kids, List.getD, hi]
            rw [eT]
            simp only [Addr.add_lit] at e0 e1 e2 e3
            exact ⟨v0, v1, v2, v3, e0, e1, e2, e3, hr⟩
end

section
open Go.RowKit Go.Deep Go.ChangeShapes Go.WideShapes

set_option maxRecDepth 100000 in
theorem open_part {H : Type} {enc : TypeId × Value → H} {w : World} {fuel : Nat} {cs : List Value} {y : DataW H × List MemPlace} (h : DataW.trod enc Tryz.prog w 0 (fun _ => true) true fuel 67 cs = some y) :
    ∃ p n, cs = [.int .i64 p, .int .i64 n] := by
  have c2 : Tryz.prog.cellsOf 67 = 2 := by kernel_rfl
  have ci : Tryz.prog.cellsOf 3 = 1 := by kernel_rfl
  obtain ⟨y0, y1, m, _, hl, t0, t1⟩ := trod_struct2 Tryz.underlying67 h
  rw [c2] at hl
  match cs, hl with
  | [a0, a1], _ =>
    simp only [ci, List.drop_zero, List.drop_succ_cons, List.take_succ_cons, List.take_zero] at t0 t1
    obtain ⟨p, hp, _, _⟩ := DataW.trod_int Tryz.underlying3 t0
    obtain ⟨n, hn, _, _⟩ := DataW.trod_int Tryz.underlying3 t1
    simp only [List.cons.injEq, and_true] at hp hn
    exact ⟨p, n, by rw [hp, hn]⟩

set_option maxRecDepth 100000 in
theorem open_parts {H : Type} {enc : TypeId × Value → H} {w : World} {fuel : Nat} {v : Value} {x : DataW H × List MemPlace} (h : DataW.trod enc Tryz.prog w 0 (fun _ => true) true fuel 68 [v] = some x) :
    ∃ a len cap xs, v = .slice a len cap ∧ RP 0 w.heap.size w a len cap xs := by
  have c2 : Tryz.prog.cellsOf 67 = 2 := by kernel_rfl
  rcases open_slice Tryz.underlying68 h with ⟨hcs, _⟩ | ⟨ad, len, cap, m, n, D, Pl, hcs, _, hl, hm, hmm, _, hx⟩
  · simp at hcs
    exact ⟨none, 0, 0, [], hcs, ⟨rfl, by omega, .inl rfl⟩⟩
  · simp at hcs
    simp only [if_true] at hmm
    subst hmm
    rw [c2] at hx
    have key : ∀ i, i < len → ∃ t : Int × Int, w.cell? (ad.add (i * 2)) = some (.int .i64 t.1) ∧ w.cell? ((ad.add (i * 2)).add 1) = some (.int .i64 t.2) := by
      intro i hi
      obtain ⟨cs, h1, h2⟩ := hx i (by omega)
      obtain ⟨_, hlen, hcell⟩ := World.cells?_some h1
      obtain ⟨p, q, hc⟩ := open_part h2
      subst hc
      have e0 := hcell 0 (by omega)
      have e1 := hcell 1 (by omega)
      rw [show (ad.add (i * 2)).add 0 = ad.add (i * 2) from by simp [Addr.add]] at e0
      exact ⟨(p, q), e0, e1⟩
    obtain ⟨T, hT⟩ := choose_lt key
    refine ⟨some ad, len, m, (List.range len).map T, hcs, ⟨by simp, ⟨hl, by unfold maxLen at hm; exact hm⟩, ?_⟩⟩
    by_cases h0 : len = 0
    · exact .inl h0
    · obtain ⟨b, off, spot⟩ := ad
      obtain ⟨q0, _⟩ := hT 0 (by omega)
      have hspot : spot = none := by simpa [Addr.add] using World.cell?_spot q0
      subst hspot
      have hblk : b < w.heap.size := by simpa [Addr.add] using block_lt_of_cell q0
      refine .inr ⟨b, off, rfl, Nat.zero_le _, hblk, fun i hi => ?_⟩
      obtain ⟨e0, e1⟩ := hT i hi
      have eT : ((List.range len).map T).getD i (0, 0) = T i := by simp [List.getD, hi]
      rw [eT]
      simp only [Addr.add_lit] at e0 e1
      exact ⟨e0, e1⟩

theorem trod_nine {H : Type} {enc : TypeId × Value → H} {P : Program} {w : World} {base : Nat} {spare : Nat → Bool} {held : Bool} {t : TypeId} {f0 f1 f2 f3 f4 f5 f6 f7 f8 : Field} {fuel : Nat} {cs : List Value} {x : DataW H × List MemPlace} (ht : P.underlying t = some (.struct #[f0, f1, f2, f3, f4, f5, f6, f7, f8])) (h : DataW.trod enc P w base spare held fuel t cs = some x) :
    ∃ y0 y1 y2 y3 y4 y5 y6 y7 y8 n, fuel = n + 1 ∧ cs.length = P.cellsOf t ∧ DataW.trod enc P w base spare held n f0.type ((cs.drop f0.offset).take (P.cellsOf f0.type)) = some y0 ∧ DataW.trod enc P w base spare held n f1.type ((cs.drop f1.offset).take (P.cellsOf f1.type)) = some y1 ∧ DataW.trod enc P w base spare held n f2.type ((cs.drop f2.offset).take (P.cellsOf f2.type)) = some y2 ∧ DataW.trod enc P w base spare held n f3.type ((cs.drop f3.offset).take (P.cellsOf f3.type)) = some y3 ∧ DataW.trod enc P w base spare held n f4.type ((cs.drop f4.offset).take (P.cellsOf f4.type)) = some y4 ∧ DataW.trod enc P w base spare held n f5.type ((cs.drop f5.offset).take (P.cellsOf f5.type)) = some y5 ∧ DataW.trod enc P w base spare held n f6.type ((cs.drop f6.offset).take (P.cellsOf f6.type)) = some y6 ∧ DataW.trod enc P w base spare held n f7.type ((cs.drop f7.offset).take (P.cellsOf f7.type)) = some y7 ∧ DataW.trod enc P w base spare held n f8.type ((cs.drop f8.offset).take (P.cellsOf f8.type)) = some y8 := by
  obtain ⟨xs, n, hn, _, hl, hlen, hf⟩ := DataW.trod_struct ht h
  match xs, hlen with
  | [y0, y1, y2, y3, y4, y5, y6, y7, y8], _ => exact ⟨y0, y1, y2, y3, y4, y5, y6, y7, y8, n, hn, hl, by simpa using hf 0 f0 rfl, by simpa using hf 1 f1 rfl, by simpa using hf 2 f2 rfl, by simpa using hf 3 f3 rfl, by simpa using hf 4 f4 rfl, by simpa using hf 5 f5 rfl, by simpa using hf 6 f6 rfl, by simpa using hf 7 f7 rfl, by simpa using hf 8 f8 rfl⟩

set_option maxRecDepth 100000 in
theorem open_clause {H : Type} {enc : TypeId × Value → H} {w : World} {fuel : Nat} {cs : List Value} {y : DataW H × List MemPlace} (h : DataW.trod enc Tryz.prog w 0 (fun _ => true) true fuel 70 cs = some y) :
    ∃ (x : CL) (ia : Option Addr) (im ic : Nat), cs = [.int .i64 x.kind, .int .i64 x.fn, .int .i64 x.role, .int .i64 x.above, .int .i64 x.xp, .int .i64 x.xn, .int .i64 x.yp, .int .i64 x.yn, .slice ia im ic, .int .i64 x.a, .int .i64 x.b] ∧ RP 0 w.heap.size w ia im ic x.inds := by
  have c11 : Tryz.prog.cellsOf 70 = 11 := by kernel_rfl
  have c2 : Tryz.prog.cellsOf 67 = 2 := by kernel_rfl
  have ci : Tryz.prog.cellsOf 3 = 1 := by kernel_rfl
  have cs1 : Tryz.prog.cellsOf 68 = 1 := by kernel_rfl
  obtain ⟨y0, y1, y2, y3, y4, y5, y6, y7, y8, m, _, hl, t0, t1, t2, t3, t4, t5, t6, t7, t8⟩ := trod_nine Tryz.underlying70 h
  rw [c11] at hl
  match cs, hl with
  | [a0, a1, a2, a3, a4, a5, a6, a7, a8, a9, a10], _ =>
    simp only [ci, c2, cs1, List.drop_zero, List.drop_succ_cons, List.take_succ_cons, List.take_zero] at t0 t1 t2 t3 t4 t5 t6 t7 t8
    obtain ⟨k, hk, _, _⟩ := DataW.trod_int Tryz.underlying3 t0
    obtain ⟨f, hf', _, _⟩ := DataW.trod_int Tryz.underlying3 t1
    obtain ⟨r, hr, _, _⟩ := DataW.trod_int Tryz.underlying3 t2
    obtain ⟨u, hu, _, _⟩ := DataW.trod_int Tryz.underlying3 t3
    obtain ⟨xp, xn, hx⟩ := open_part t4
    obtain ⟨yp, yn, hy⟩ := open_part t5
    obtain ⟨ia, im, ic, xs, hs, hrp⟩ := open_parts t6
    obtain ⟨a, ha, _, _⟩ := DataW.trod_int Tryz.underlying3 t7
    obtain ⟨b, hb, _, _⟩ := DataW.trod_int Tryz.underlying3 t8
    simp only [List.cons.injEq, and_true] at hk hf' hr hu hx hy ha hb
    obtain ⟨hx1, hx2⟩ := hx
    obtain ⟨hy1, hy2⟩ := hy
    subst hk hf' hr hu hx1 hx2 hy1 hy2 hs ha hb
    exact ⟨⟨k, f, r, u, xp, xn, yp, yn, xs, a, b⟩, ia, im, ic, rfl, hrp⟩
end

section
open Go.RowKit Go.Deep Go.ChangeShapes Go.WideShapes

theorem open_list {H : Type} {enc : TypeId × Value → H} {w : World} {α : Type} [Inhabited α] (d : α) (R : Value → α → Prop) {T E : TypeId} (ht : Tryz.prog.underlying T = some (.slice E)) (h1 : Tryz.prog.cellsOf E = 1)
    (hel : ∀ (fuel : Nat) (v : Value) (x : DataW H × List MemPlace), DataW.trod enc Tryz.prog w 0 (fun _ => true) true fuel E [v] = some x → ∃ c, R v c) {fuel : Nat} {v : Value} {x : DataW H × List MemPlace} (h : DataW.trod enc Tryz.prog w 0 (fun _ => true) true fuel T [v] = some x) :
    ∃ a len cap xs, v = .slice a len cap ∧ RdN d R 0 w.heap.size w a len cap xs := by
  rcases DataW.trod_slice ht h with ⟨hcs, _⟩ | ⟨ad, len, cap, elems, rest, n', hn', hcs, _, _, hle, hcm, hel', hx, _, _⟩
  · simp only [List.cons.injEq, and_true] at hcs
    exact ⟨none, 0, 0, [], hcs, ⟨rfl, by omega, .inl rfl⟩⟩
  · simp only [List.cons.injEq, and_true] at hcs
    rw [h1] at hx
    have key : ∀ i, i < len → ∃ c : α, ∃ u, w.cell? (ad.add (i * 1)) = some u ∧ R u c := by
      intro i hi
      have hxi := hx i hi
      rw [List.getElem?_eq_getElem (by omega)] at hxi
      obtain ⟨cs', q1, q2⟩ := Option.bind_eq_some_iff.1 hxi
      obtain ⟨_, hlen', hcell⟩ := World.cells?_some q1
      match cs', hlen' with
      | [u], _ =>
        obtain ⟨c, hc⟩ := hel _ _ _ q2
        have e0 := hcell 0 (by omega)
        rw [show (ad.add (i * 1)).add 0 = ad.add (i * 1) from by simp [Addr.add]] at e0
        exact ⟨c, u, e0, hc⟩
    obtain ⟨T', hT⟩ := choose_lt key
    refine ⟨some ad, len, cap, (List.range len).map T', hcs, ⟨by simp, ⟨hle, by unfold maxLen at hcm; exact hcm⟩, ?_⟩⟩
    by_cases h0 : len = 0
    · exact .inl h0
    · obtain ⟨b, off, spot⟩ := ad
      obtain ⟨_, q0, _⟩ := hT 0 (by omega)
      have hspot : spot = none := by simpa [Addr.add] using World.cell?_spot q0
      subst hspot
      have hblk : b < w.heap.size := by simpa [Addr.add] using block_lt_of_cell q0
      refine .inr ⟨b, off, rfl, Nat.zero_le _, hblk, fun i hi => ?_⟩
      obtain ⟨u, e0, hr⟩ := hT i hi
      have eT : ((List.range len).map T').getD i d = T' i := by simp [List.getD, hi]
      rw [eT]
      rw [Nat.mul_one] at e0
      simp only [Addr.add_lit] at e0
      exact ⟨u, e0, hr⟩

theorem open_words {H : Type} {enc : TypeId × Value → H} {w : World} {fuel : Nat} {v : Value} {x : DataW H × List MemPlace} (h : DataW.trod enc Tryz.prog w 0 (fun _ => true) true fuel 23 [v] = some x) :
    ∃ a len cap xs, v = .slice a len cap ∧ RSS 0 w.heap.size w a len cap xs :=
  open_list [] (SlB 0 w.heap.size w) Tryz.underlying23 (by kernel_rfl) (fun _ v _ h => by obtain ⟨a, n, c, zs, hv, hr⟩ := open_bytes h; exact ⟨zs, a, n, c, hv, hr⟩) h
end

section
open Go.RowKit Go.Deep Go.ChangeShapes Go.WideShapes

instance : Inhabited CL := ⟨CL.zero⟩

/-- Eleven cells from here on. -/
def ClAd (w : World) (p : Addr) (x : CL) : Prop := ∃ (ia : Option Addr) (im ic : Nat), w.cell? p = some (.int .i64 x.kind) ∧ w.cell? (p.add 1) = some (.int .i64 x.fn) ∧ w.cell? (p.add 2) = some (.int .i64 x.role) ∧ w.cell? (p.add 3) = some (.int .i64 x.above) ∧ w.cell? (p.add 4) = some (.int .i64 x.xp) ∧ w.cell? (p.add 5) = some (.int .i64 x.xn) ∧ w.cell? (p.add 6) = some (.int .i64 x.yp) ∧ w.cell? (p.add 7) = some (.int .i64 x.yn) ∧ w.cell? (p.add 8) = some (.slice ia im ic) ∧ w.cell? (p.add 9) = some (.int .i64 x.a) ∧ w.cell? (p.add 10) = some (.int .i64 x.b) ∧ RP 0 w.heap.size w ia im ic x.inds

set_option maxRecDepth 100000 in
theorem open_clauses {H : Type} {enc : TypeId × Value → H} {w : World} {fuel : Nat} {v : Value} {x : DataW H × List MemPlace} (h : DataW.trod enc Tryz.prog w 0 (fun _ => true) true fuel 24 [v] = some x) :
    ∃ a len cap xs, v = .slice a len cap ∧ RdG 0 w.heap.size w a len cap xs := by
  have c11 : Tryz.prog.cellsOf 70 = 11 := by kernel_rfl
  rcases open_slice Tryz.underlying24 h with ⟨hcs, _⟩ | ⟨ad, len, cap, m, n, D, Pl, hcs, _, hl, hm, hmm, _, hx⟩
  · simp at hcs
    exact ⟨none, 0, 0, [], hcs, ⟨rfl, by omega, .inl rfl⟩⟩
  · simp at hcs
    simp only [if_true] at hmm
    subst hmm
    rw [c11] at hx
    have key : ∀ i, i < len → ∃ t : CL, ClAd w (ad.add (i * 11)) t := by
      intro i hi
      obtain ⟨cs, h1, h2⟩ := hx i (by omega)
      obtain ⟨_, hlen, hcell⟩ := World.cells?_some h1
      obtain ⟨t, ia, im, ic, hc, hr⟩ := open_clause h2
      subst hc
      have e0 := hcell 0 (by omega)
      rw [show (ad.add (i * 11)).add 0 = ad.add (i * 11) from by simp [Addr.add]] at e0
      exact ⟨t, ia, im, ic, e0, hcell 1 (by omega), hcell 2 (by omega), hcell 3 (by omega), hcell 4 (by omega), hcell 5 (by omega), hcell 6 (by omega), hcell 7 (by omega), hcell 8 (by omega), hcell 9 (by omega), hcell 10 (by omega), hr⟩
    obtain ⟨T, hT⟩ := choose_lt key
    refine ⟨some ad, len, m, (List.range len).map T, hcs, ⟨by simp, ⟨hl, by unfold maxLen at hm; exact hm⟩, ?_⟩⟩
    by_cases h0 : len = 0
    · exact .inl h0
    · obtain ⟨b, off, spot⟩ := ad
      obtain ⟨_, _, _, q0, _⟩ := hT 0 (by omega)
      have hspot : spot = none := by simpa [Addr.add] using World.cell?_spot q0
      subst hspot
      have hblk : b < w.heap.size := by simpa [Addr.add] using block_lt_of_cell q0
      refine .inr ⟨b, off, rfl, Nat.zero_le _, hblk, fun i hi => ?_⟩
      obtain ⟨ia, im, ic, e0, e1, e2, e3, e4, e5, e6, e7, e8, e9, e10, hr⟩ := hT i hi
      have eT : ((List.range len).map T).getD i CL.zero = T i := by simp [List.getD, hi]
      rw [eT]
      simp only [Addr.add_lit] at e0 e1 e2 e3 e4 e5 e6 e7 e8 e9 e10
      exact ⟨ia, im, ic, e0, e1, e2, e3, e4, e5, e6, e7, e8, e9, e10, hr⟩

/-- Four cells from here on. -/
def CnAd (w : World) (m : Nat) (p : Addr) (c : CN) : Prop := ∃ v0 v1 v2 v3, w.cell? p = some v0 ∧ w.cell? (p.add 1) = some v1 ∧ w.cell? (p.add 2) = some v2 ∧ w.cell? (p.add 3) = some v3 ∧ RdC 0 w.heap.size w m (.agg #[v0, v1, v2, v3]) c

set_option maxRecDepth 100000 in
theorem open_cons {H : Type} {enc : TypeId × Value → H} {w : World} {fuel : Nat} {v : Value} {x : DataW H × List MemPlace} (h : DataW.trod enc Tryz.prog w 0 (fun _ => true) true fuel 22 [v] = some x) :
    ∃ d a len cap xs, v = .slice a len cap ∧ RdL (RdC 0 w.heap.size w d) 0 w.heap.size w a len cap xs := by
  have c4 : Tryz.prog.cellsOf 65 = 4 := by kernel_rfl
  rcases open_slice Tryz.underlying22 h with ⟨hcs, _⟩ | ⟨ad, len, cap, m, n, D, Pl, hcs, _, hl, hm, hmm, _, hx⟩
  · simp at hcs
    exact ⟨0, none, 0, 0, [], hcs, ⟨rfl, by omega, .inl rfl⟩⟩
  · simp at hcs
    simp only [if_true] at hmm
    subst hmm
    rw [c4] at hx
    have key : ∀ i, i < len → ∃ t : CN, CnAd w n (ad.add (i * 4)) t := by
      intro i hi
      obtain ⟨cs, h1, h2⟩ := hx i (by omega)
      obtain ⟨_, hlen, hcell⟩ := World.cells?_some h1
      obtain ⟨v0, v1, v2, v3, c, hc, hr⟩ := open_con n _ _ _ (Nat.le_refl _) h2
      subst hc
      have e0 := hcell 0 (by omega)
      rw [show (ad.add (i * 4)).add 0 = ad.add (i * 4) from by simp [Addr.add]] at e0
      exact ⟨c, v0, v1, v2, v3, e0, hcell 1 (by omega), hcell 2 (by omega), hcell 3 (by omega), hr⟩
    obtain ⟨T, hT⟩ := choose_lt key
    refine ⟨n, some ad, len, m, (List.range len).map T, hcs, ⟨by simp, ⟨hl, by unfold maxLen at hm; exact hm⟩, ?_⟩⟩
    by_cases h0 : len = 0
    · exact .inl h0
    · obtain ⟨b, off, spot⟩ := ad
      obtain ⟨_, _, _, _, q0, _⟩ := hT 0 (by omega)
      have hspot : spot = none := by simpa [Addr.add] using World.cell?_spot q0
      subst hspot
      have hblk : b < w.heap.size := by simpa [Addr.add] using block_lt_of_cell q0
      refine .inr ⟨b, off, rfl, Nat.zero_le _, hblk, fun i hi => ?_⟩
      obtain ⟨v0, v1, v2, v3, e0, e1, e2, e3, hr⟩ := hT i hi
      have eT : ((List.range len).map T).getD i CN.zero = T i := by simp [List.getD, hi]
      rw [eT]
      simp only [Addr.add_lit] at e0 e1 e2 e3
      exact ⟨v0, v1, v2, v3, e0, e1, e2, e3, hr⟩

set_option maxRecDepth 100000 in
theorem open_cls {H : Type} {enc : TypeId × Value → H} {w : World} {fuel : Nat} {cs : List Value} {y : DataW H × List MemPlace} (h : DataW.trod enc Tryz.prog w 0 (fun _ => true) true fuel 26 cs = some y) :
    ∃ d aa an ac ra rn rc wa wn wc la ln lc s, cs = [.slice aa an ac, .slice ra rn rc, .slice wa wn wc, .slice la ln lc] ∧ RdS 0 w.heap.size w d aa an ac ra rn rc wa wn wc la ln lc s := by
  have c4 : Tryz.prog.cellsOf 26 = 4 := by kernel_rfl
  have ca : Tryz.prog.cellsOf 22 = 1 := by kernel_rfl
  have cb : Tryz.prog.cellsOf 23 = 1 := by kernel_rfl
  have cl : Tryz.prog.cellsOf 24 = 1 := by kernel_rfl
  obtain ⟨y0, y1, y2, y3, n, hn, hl, t0, t1, t2, t3⟩ := trod_four Tryz.underlying26 h
  rw [c4] at hl
  match cs, hl with
  | [a0, a1, a2, a3], _ =>
    simp only [ca, cb, cl, List.drop_zero, List.drop_succ_cons, List.take_succ_cons, List.take_zero] at t0 t1 t2 t3
    obtain ⟨d, aa, an, ac, xs0, h0, r0⟩ := open_cons t0
    obtain ⟨ra, rn, rc, xs1, h1, r1⟩ := open_words t1
    obtain ⟨wa, wn, wc, xs2, h2, r2⟩ := open_words t2
    obtain ⟨la, ln, lc, xs3, h3, r3⟩ := open_clauses t3
    exact ⟨d, aa, an, ac, ra, rn, rc, wa, wn, wc, la, ln, lc, ⟨xs0, xs1, xs2, xs3⟩, by rw [h0, h1, h2, h3], ⟨r0, r1, r2, r3⟩⟩
end

end Go.Proofs.YtknainelonaigaaGreatDoor
