/- Several texts in one: OpenB, ClOpen, SzB. -/
import Derived.Test.YtlhfecfpkelkdaaDoorNBase
import Derived.Deep.Strs
import Derived.Deep.Slices
import Derived.ChangeOld
import Derived.OpenShut
import Derived.Test.YtlhfecfpkelkdaaDoorNCl
namespace Go.Proofs.YtlhfecfpkelkdaaDoor

section
open Go.RowKit Go.Deep Go.ChangeShapes Go.WideShapes
end

section
open Go.RowKit Go.Deep Go.ChangeShapes Go.WideShapes

set_option maxRecDepth 100000 in
theorem open_part {H : Type} {enc : TypeId × Value → H} {w : World} {fuel : Nat} {cs : List Value} {y : DataW H × List MemPlace} (h : DataW.trod enc Tryd.prog w 0 (fun _ => true) true fuel 23 cs = some y) :
    ∃ p n, cs = [.int .i64 p, .int .i64 n] := by
  have c2 : Tryd.prog.cellsOf 23 = 2 := by kernel_rfl
  have ci : Tryd.prog.cellsOf 3 = 1 := by kernel_rfl
  obtain ⟨y0, y1, m, _, hl, t0, t1⟩ := trod_struct2 Tryd.underlying23 h
  rw [c2] at hl
  match cs, hl with
  | [a0, a1], _ =>
    simp only [ci, List.drop_zero, List.drop_succ_cons, List.take_succ_cons, List.take_zero] at t0 t1
    obtain ⟨p, hp, _, _⟩ := DataW.trod_int Tryd.underlying3 t0
    obtain ⟨n, hn, _, _⟩ := DataW.trod_int Tryd.underlying3 t1
    simp only [List.cons.injEq, and_true] at hp hn
    exact ⟨p, n, by rw [hp, hn]⟩

set_option maxRecDepth 100000 in
theorem open_parts {H : Type} {enc : TypeId × Value → H} {w : World} {fuel : Nat} {v : Value} {x : DataW H × List MemPlace} (h : DataW.trod enc Tryd.prog w 0 (fun _ => true) true fuel 24 [v] = some x) :
    ∃ a len cap xs, v = .slice a len cap ∧ RP 0 w.heap.size w a len cap xs := by
  have c2 : Tryd.prog.cellsOf 23 = 2 := by kernel_rfl
  rcases open_slice Tryd.underlying24 h with ⟨hcs, _⟩ | ⟨ad, len, cap, m, n, D, Pl, hcs, _, hl, hm, hmm, _, hx⟩
  · simp at hcs
    exact ⟨none, 0, 0, [], hcs, ⟨rfl, by omega, .inl rfl⟩⟩
  · simp at hcs
    simp only [if_true] at hmm
    subst hmm
    rw [c2] at hx
    have key : ∀ i, i < len → ∃ t : Int × Int, w.cell? (ad.add (i * 2)) = some (.int .i64 t.1) ∧ w.cell? ((ad.add (i * 2)).add 1) = some (.int .i64 t.2) := by
      intro i hi
      obtain ⟨cs, h1, h2⟩ := hx i (by omega)
      obtain ⟨_, hlen, hcell⟩ := World.cells?_some h1
      obtain ⟨p, q, hc⟩ := open_part h2
      subst hc
      have e0 := hcell 0 (by omega)
      have e1 := hcell 1 (by omega)
      rw [show (ad.add (i * 2)).add 0 = ad.add (i * 2) from by simp [Addr.add]] at e0
      exact ⟨(p, q), e0, e1⟩
    obtain ⟨T, hT⟩ := choose_lt key
    refine ⟨some ad, len, m, (List.range len).map T, hcs, ⟨by simp, ⟨hl, by unfold maxLen at hm; exact hm⟩, ?_⟩⟩
    by_cases h0 : len = 0
    · exact .inl h0
    · obtain ⟨b, off, spot⟩ := ad
      obtain ⟨q0, _⟩ := hT 0 (by omega)
      have hspot : spot = none := by simpa [Addr.add] using World.cell?_spot q0
      subst hspot
      have hblk : b < w.heap.size := by simpa [Addr.add] using block_lt_of_cell q0
      refine .inr ⟨b, off, rfl, Nat.zero_le _, hblk, fun i hi => ?_⟩
      obtain ⟨e0, e1⟩ := hT i hi
      have eT : ((List.range len).map T).getD i (0, 0) = T i := by simp [List.getD, hi]
      rw [eT]
      simp only [Addr.add_lit] at e0 e1
      exact ⟨e0, e1⟩

theorem trod_nine {H : Type} {enc : TypeId × Value → H} {P : Program} {w : World} {base : Nat} {spare : Nat → Bool} {held : Bool} {t : TypeId} {f0 f1 f2 f3 f4 f5 f6 f7 f8 : Field} {fuel : Nat} {cs : List Value} {x : DataW H × List MemPlace} (ht : P.underlying t = some (.struct #[f0, f1, f2, f3, f4, f5, f6, f7, f8])) (h : DataW.trod enc P w base spare held fuel t cs = some x) :
    ∃ y0 y1 y2 y3 y4 y5 y6 y7 y8 n, fuel = n + 1 ∧ cs.length = P.cellsOf t ∧ DataW.trod enc P w base spare held n f0.type ((cs.drop f0.offset).take (P.cellsOf f0.type)) = some y0 ∧ DataW.trod enc P w base spare held n f1.type ((cs.drop f1.offset).take (P.cellsOf f1.type)) = some y1 ∧ DataW.trod enc P w base spare held n f2.type ((cs.drop f2.offset).take (P.cellsOf f2.type)) = some y2 ∧ DataW.trod enc P w base spare held n f3.type ((cs.drop f3.offset).take (P.cellsOf f3.type)) = some y3 ∧ DataW.trod enc P w base spare held n f4.type ((cs.drop f4.offset).take (P.cellsOf f4.type)) = some y4 ∧ DataW.trod enc P w base spare held n f5.type ((cs.drop f5.offset).take (P.cellsOf f5.type)) = some y5 ∧ DataW.trod enc P w base spare held n f6.type ((cs.drop f6.offset).take (P.cellsOf f6.type)) = some y6 ∧ DataW.trod enc P w base spare held n f7.type ((cs.drop f7.offset).take (P.cellsOf f7.type)) = some y7 ∧ DataW.trod enc P w base spare held n f8.type ((cs.drop f8.offset).take (P.cellsOf f8.type)) = some y8 := by
  obtain ⟨xs, n, hn, _, hl, hlen, hf⟩ := DataW.trod_struct ht h
  match xs, hlen with
  | [y0, y1, y2, y3, y4, y5, y6, y7, y8], _ => exact ⟨y0, y1, y2, y3, y4, y5, y6, y7, y8, n, hn, hl, by simpa using hf 0 f0 rfl, by simpa using hf 1 f1 rfl, by simpa using hf 2 f2 rfl, by simpa using hf 3 f3 rfl, by simpa using hf 4 f4 rfl, by simpa using hf 5 f5 rfl, by simpa using hf 6 f6 rfl, by simpa using hf 7 f7 rfl, by simpa using hf 8 f8 rfl⟩

set_option maxRecDepth 100000 in
theorem open_clause {H : Type} {enc : TypeId × Value → H} {w : World} {fuel : Nat} {cs : List Value} {y : DataW H × List MemPlace} (h : DataW.trod enc Tryd.prog w 0 (fun _ => true) true fuel 26 cs = some y) :
    ∃ (x : CL) (ia : Option Addr) (im ic : Nat), cs = [.int .i64 x.kind, .int .i64 x.fn, .int .i64 x.role, .int .i64 x.above, .int .i64 x.xp, .int .i64 x.xn, .int .i64 x.yp, .int .i64 x.yn, .slice ia im ic, .int .i64 x.a, .int .i64 x.b] ∧ RP 0 w.heap.size w ia im ic x.inds := by
  have c11 : Tryd.prog.cellsOf 26 = 11 := by kernel_rfl
  have c2 : Tryd.prog.cellsOf 23 = 2 := by kernel_rfl
  have ci : Tryd.prog.cellsOf 3 = 1 := by kernel_rfl
  have cs1 : Tryd.prog.cellsOf 24 = 1 := by kernel_rfl
  obtain ⟨y0, y1, y2, y3, y4, y5, y6, y7, y8, m, _, hl, t0, t1, t2, t3, t4, t5, t6, t7, t8⟩ := trod_nine Tryd.underlying26 h
  rw [c11] at hl
  match cs, hl with
  | [a0, a1, a2, a3, a4, a5, a6, a7, a8, a9, a10], _ =>
    simp only [ci, c2, cs1, List.drop_zero, List.drop_succ_cons, List.take_succ_cons, List.take_zero] at t0 t1 t2 t3 t4 t5 t6 t7 t8
    obtain ⟨k, hk, _, _⟩ := DataW.trod_int Tryd.underlying3 t0
    obtain ⟨f, hf', _, _⟩ := DataW.trod_int Tryd.underlying3 t1
    obtain ⟨r, hr, _, _⟩ := DataW.trod_int Tryd.underlying3 t2
    obtain ⟨u, hu, _, _⟩ := DataW.trod_int Tryd.underlying3 t3
    obtain ⟨xp, xn, hx⟩ := open_part t4
    obtain ⟨yp, yn, hy⟩ := open_part t5
    obtain ⟨ia, im, ic, xs, hs, hrp⟩ := open_parts t6
    obtain ⟨a, ha, _, _⟩ := DataW.trod_int Tryd.underlying3 t7
    obtain ⟨b, hb, _, _⟩ := DataW.trod_int Tryd.underlying3 t8
    simp only [List.cons.injEq, and_true] at hk hf' hr hu hx hy ha hb
    obtain ⟨hx1, hx2⟩ := hx
    obtain ⟨hy1, hy2⟩ := hy
    subst hk hf' hr hu hx1 hx2 hy1 hy2 hs ha hb
    exact ⟨⟨k, f, r, u, xp, xn, yp, yn, xs, a, b⟩, ia, im, ic, rfl, hrp⟩
end

section
open Go.RowKit

/-- What is left, or -1. -/
def szRes (left : Int) (n : Nat) : Int := if left < n then -1 else left - n
end

end Go.Proofs.YtlhfecfpkelkdaaDoor
