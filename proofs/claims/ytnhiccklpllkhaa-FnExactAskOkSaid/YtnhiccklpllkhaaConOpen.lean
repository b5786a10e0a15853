/- A concept that comes in, opened: what it reads as. -/
import Derived.Test.YtnhiccklpllkhaaConMem
import Derived.Test.YtnhiccklpllkhaaOpenB
namespace Go.Proofs.Ytnhiccklpllkhaa
open Go.RowKit Go.Deep Go.ChangeShapes Go.WideShapes

theorem trod_four {H : Type} {enc : TypeId × Value → H} {P : Program} {w : World} {base : Nat} {spare : Nat → Bool} {held : Bool} {t : TypeId} {f0 f1 f2 f3 : Field} {fuel : Nat} {cs : List Value} {x : DataW H × List MemPlace} (ht : P.underlying t = some (.struct #[f0, f1, f2, f3])) (h : DataW.trod enc P w base spare held fuel t cs = some x) :
    ∃ y0 y1 y2 y3 n, fuel = n + 1 ∧ cs.length = P.cellsOf t ∧ DataW.trod enc P w base spare held n f0.type ((cs.drop f0.offset).take (P.cellsOf f0.type)) = some y0 ∧ DataW.trod enc P w base spare held n f1.type ((cs.drop f1.offset).take (P.cellsOf f1.type)) = some y1 ∧
      DataW.trod enc P w base spare held n f2.type ((cs.drop f2.offset).take (P.cellsOf f2.type)) = some y2 ∧ DataW.trod enc P w base spare held n f3.type ((cs.drop f3.offset).take (P.cellsOf f3.type)) = some y3 := by
  obtain ⟨xs, n, hn, _, hl, hlen, hf⟩ := DataW.trod_struct ht h
  match xs, hlen with
  | [y0, y1, y2, y3], _ => exact ⟨y0, y1, y2, y3, n, hn, hl, by simpa using hf 0 f0 rfl, by simpa using hf 1 f1 rfl, by simpa using hf 2 f2 rfl, by simpa using hf 3 f3 rfl⟩

set_option maxRecDepth 100000 in
theorem open_con {H : Type} {enc : TypeId × Value → H} {w : World} : ∀ (m fuel : Nat) (cs : List Value) (x : DataW H × List MemPlace), fuel ≤ m → DataW.trod enc Try.prog w 0 (fun _ => true) true fuel 25 cs = some x →
    ∃ v0 v1 v2 v3 c, cs = [v0, v1, v2, v3] ∧ RdC 0 w.heap.size w m (.agg #[v0, v1, v2, v3]) c := by
  have c4 : Try.prog.cellsOf 25 = 4 := by kernel_rfl
  have ci : Try.prog.cellsOf 3 = 1 := by kernel_rfl
  have cb : Try.prog.cellsOf 22 = 1 := by kernel_rfl
  have ck : Try.prog.cellsOf 23 = 1 := by kernel_rfl
  intro m
  induction m with
  | zero =>
    intro fuel cs x hf h
    obtain ⟨_, n, hn, _⟩ := DataW.trod_struct Try.underlying25 h
    omega
  | succ m ih =>
    intro fuel cs x hf h
    obtain ⟨y0, y1, y2, y3, n, hn, hl, t0, t1, t2, t3⟩ := trod_four Try.underlying25 h
    rw [c4] at hl
    match cs, hl with
      | [a0, a1, a2, a3], _ =>
        simp only [ci, cb, ck, List.drop_zero, List.drop_succ_cons, List.take_succ_cons, List.take_zero] at t0 t1 t2 t3
        obtain ⟨k, hk, _, _⟩ := DataW.trod_int Try.underlying3 t0
        obtain ⟨na, nn, nc, nz, hnz, hnr⟩ := open_bytes t1
        obtain ⟨ra, rn, rc, rz, hrz, hrr⟩ := open_bytes t2
        simp only [List.cons.injEq, and_true] at hk
        subst hk hnz hrz
        rcases DataW.trod_slice Try.underlying23 t3 with ⟨hcs, _⟩ | ⟨ad, len, cap, elems, rest, n', hn', hcs, _, _, hle, hcm, hel, hx, _, _⟩
        · simp only [List.cons.injEq, and_true] at hcs
          subst hcs
          exact ⟨_, _, _, _, .mk k nz rz [], rfl, na, nn, nc, ra, rn, rc, none, 0, 0, rfl, hnr, hrr, ⟨rfl, by omega, .inl rfl⟩⟩
        · simp only [List.cons.injEq, and_true] at hcs
          subst hcs
          rw [c4] at hx
          have key : ∀ i, i < len → ∃ c : CN, ∃ v0 v1 v2 v3, w.cell? (ad.add (i * 4)) = some v0 ∧ w.cell? ((ad.add (i * 4)).add 1) = some v1 ∧ w.cell? ((ad.add (i * 4)).add 2) = some v2 ∧ w.cell? ((ad.add (i * 4)).add 3) = some v3 ∧ RdC 0 w.heap.size w m (.agg #[v0, v1, v2, v3]) c := by
            intro i hi
            have hxi := hx i hi
            rw [List.getElem?_eq_getElem (by omega)] at hxi
            obtain ⟨cs', h1, h2⟩ := Option.bind_eq_some_iff.1 hxi
            obtain ⟨v0, v1, v2, v3, c, hcs', hr⟩ := ih n' cs' _ (by omega) h2
            obtain ⟨_, hlen', hcell⟩ := World.cells?_some h1
            subst hcs'
            have e0 := hcell 0 (by omega)
            have e1 := hcell 1 (by omega)
            have e2 := hcell 2 (by omega)
            have e3 := hcell 3 (by omega)
            rw [show (ad.add (i * 4)).add 0 = ad.add (i * 4) from by simp [Addr.add]] at e0
            exact ⟨c, v0, v1, v2, v3, e0, e1, e2, e3, hr⟩
          obtain ⟨T, hT⟩ := choose_lt key
          refine ⟨_, _, _, _, .mk k nz rz ((List.range len).map T), rfl, na, nn, nc, ra, rn, rc, some ad, len, cap, rfl, hnr, hrr, ⟨by simp [CN.kids], ⟨hle, by unfold maxLen at hcm; exact hcm⟩, ?_⟩⟩
          by_cases h0 : len = 0
          · exact .inl h0
          · obtain ⟨b, off, spot⟩ := ad
            obtain ⟨_, _, _, _, q0, _⟩ := hT 0 (by omega)
            have hspot : spot = none := by simpa [Addr.add] using World.cell?_spot q0
            subst hspot
            have hblk : b < w.heap.size := by simpa [Addr.add] using block_lt_of_cell q0
            refine .inr ⟨b, off, rfl, Nat.zero_le _, hblk, fun i hi => ?_⟩
            obtain ⟨v0, v1, v2, v3, e0, e1, e2, e3, hr⟩ := hT i hi
            have eT : (CN.kids (.mk k nz rz ((List.range len).map T))).getD i CN.zero = T i := by simp [CN.kids, List.getD, hi]
            rw [eT]
            simp only [Addr.add_lit] at e0 e1 e2 e3
            exact ⟨v0, v1, v2, v3, e0, e1, e2, e3, hr⟩

end Go.Proofs.Ytnhiccklpllkhaa
