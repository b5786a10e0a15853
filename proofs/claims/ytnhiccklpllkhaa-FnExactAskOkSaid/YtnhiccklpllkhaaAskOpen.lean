/- A question that comes in, opened: what it reads as. -/
import Derived.Test.YtnhiccklpllkhaaAskMem
import Derived.Test.YtnhiccklpllkhaaConOpen
namespace Go.Proofs.Ytnhiccklpllkhaa
open Go.RowKit Go.Deep Go.ChangeShapes Go.WideShapes

set_option maxRecDepth 100000 in
theorem open_ask {H : Type} {enc : TypeId × Value → H} {w : World} {fuel : Nat} {cs : List Value} {y : DataW H × List MemPlace} (h : DataW.trod enc Try.prog w 0 (fun _ => true) true fuel 52 cs = some y) :
    ∃ dp k c0 c1 c2 c3 d0 d1 d2 d3 ra rn rc x, cs = [.int .i64 k, c0, c1, c2, c3, d0, d1, d2, d3, .slice ra rn rc] ∧ k = x.kind ∧ RdAk 0 w.heap.size w dp c0 c1 c2 c3 d0 d1 d2 d3 ra rn rc x := by
  have c10 : Try.prog.cellsOf 52 = 10 := by kernel_rfl
  have c4 : Try.prog.cellsOf 25 = 4 := by kernel_rfl
  have ci : Try.prog.cellsOf 3 = 1 := by kernel_rfl
  have cb : Try.prog.cellsOf 22 = 1 := by kernel_rfl
  obtain ⟨y0, y1, y2, y3, n, hn, hl, t0, t1, t2, t3⟩ := trod_four Try.underlying52 h
  rw [c10] at hl
  match cs, hl with
  | [a0, a1, a2, a3, a4, a5, a6, a7, a8, a9], _ =>
    simp only [ci, cb, c4, List.drop_zero, List.drop_succ_cons, List.take_succ_cons, List.take_zero] at t0 t1 t2 t3
    obtain ⟨k, hk, _, _⟩ := DataW.trod_int Try.underlying3 t0
    obtain ⟨u0, u1, u2, u3, cc, hc, hcr⟩ := open_con n n _ _ (Nat.le_refl _) t1
    obtain ⟨w0, w1, w2, w3, dd, hd, hdr⟩ := open_con n n _ _ (Nat.le_refl _) t2
    obtain ⟨ra, rn, rc, rz, hrz, hrr⟩ := open_bytes t3
    simp only [List.cons.injEq, and_true] at hk hc hd
    obtain ⟨rfl, rfl, rfl, rfl⟩ := hc
    obtain ⟨rfl, rfl, rfl, rfl⟩ := hd
    subst hk hrz
    exact ⟨n, k, _, _, _, _, _, _, _, _, ra, rn, rc, ⟨k, cc, dd, rz⟩, rfl, rfl, ⟨hcr, hdr, hrr⟩⟩

end Go.Proofs.Ytnhiccklpllkhaa
