/- A slice of tokens that comes in, opened: what it reads as. -/
import Derived.Test.YtbjkokndnfmcpagToks
import Derived.Deep.Strs
import Derived.Deep.Slices
import Derived.ChangeOld
import Derived.OpenShut
namespace Go.Proofs.Ytbjkokndnfmcpag
open Go.RowKit Go.Deep Go.ChangeShapes Go.WideShapes

theorem rd_of_cells {w : World} {x : Addr} {len cap : Nat} {zs : List Int} (hl : len ≤ cap) (hm : cap ≤ maxLen) (hz : zs.length = cap) (hc : ∀ i, i < zs.length → w.cell? (x.add i) = some (.int .u8 (zs.getD i 0))) (hwf : ∀ n ∈ zs, (Lit.int .u8 n).wf = true) :
    Rd 0 w.heap.size w (some x) len cap (zs.take len) := by
  unfold maxLen at hm
  refine ⟨by simp; omega, ⟨hl, hm⟩, fun i => ?_, ?_⟩
  · have := range_u8 hwf i
    simp only [List.getD, List.getElem?_take]
    split
    · exact this
    · simp
  · by_cases h0 : len = 0
    · exact .inl h0
    · obtain ⟨b, off, spot⟩ := x
      have hc0 := hc 0 (by omega)
      have hspot : spot = none := by simpa [Addr.add] using World.cell?_spot hc0
      subst hspot
      refine .inr ⟨b, off, rfl, Nat.zero_le _, block_lt_of_cell hc0, fun i hi => ?_⟩
      have := hc i (by omega)
      simp only [List.getD, List.getElem?_take, if_pos hi]
      by_cases e : i = 0
      · subst e; simpa [Addr.add, List.getD] using this
      · simpa [Addr.add, e, List.getD] using this

/-- The bytes of a slice that is read. -/
theorem open_bytes {H : Type} {enc : TypeId × Value → H} {w : World} {fuel : Nat} {v : Value} {x : DataW H × List MemPlace} (h : DataW.trod enc Try.prog w 0 (fun _ => true) true fuel 22 [v] = some x) :
    ∃ a len cap zs, v = .slice a len cap ∧ Rd 0 w.heap.size w a len cap zs := by
  rcases open_ints Try.underlying22 Try.underlying5 (by kernel_rfl) h with ⟨hcs, _⟩ | ⟨x, l, c, zs, hcs, _, hl, hm, hz, _, hcell, hwz⟩
  · simp at hcs
    exact ⟨none, 0, 0, [], hcs, Rd.none_of (by omega)⟩
  · simp at hcs
    exact ⟨some x, l, c, _, hcs, rd_of_cells hl hm (by simpa using hz) hcell hwz⟩

instance : Inhabited Tok := ⟨Tok.zero⟩

set_option maxRecDepth 100000 in
theorem open_toks {H : Type} {enc : TypeId × Value → H} {w : World} {fuel : Nat} {v : Value} {x : DataW H × List MemPlace} (h : DataW.trod enc Try.prog w 0 (fun _ => true) true fuel 32 [v] = some x) :
    ∃ a len cap ts, v = .slice a len cap ∧ RdT 0 w.heap.size w a len cap ts := by
  have c3 : Try.prog.cellsOf 64 = 3 := by kernel_rfl
  have ci : Try.prog.cellsOf 3 = 1 := by kernel_rfl
  have cb : Try.prog.cellsOf 22 = 1 := by kernel_rfl
  rcases open_slice Try.underlying32 h with ⟨hcs, _⟩ | ⟨ad, len, cap, m, n, D, Pl, hcs, _, hl, hm, hmm, _, hx⟩
  · simp at hcs
    exact ⟨none, 0, 0, [], hcs, ⟨rfl, by omega, .inl rfl⟩⟩
  · simp at hcs
    simp only [if_true] at hmm
    subst hmm
    rw [c3] at hx
    have key : ∀ i, i < len → ∃ t : Tok, ∃ ta tn tc, w.cell? (ad.add (i * 3)) = some (.int .i64 t.kind) ∧ w.cell? ((ad.add (i * 3)).add 1) = some (.int .i64 t.place) ∧ w.cell? ((ad.add (i * 3)).add 2) = some (.slice ta tn tc) ∧ Rd 0 w.heap.size w ta tn tc t.text := by
      intro i hi
      obtain ⟨cs, h1, h2⟩ := hx i (by omega)
      obtain ⟨_, hlen, hcell⟩ := World.cells?_some h1
      obtain ⟨y0, y1, y2, n', _, _, t0, t1, t2⟩ := trod_struct3 Try.underlying64 h2
      match cs, hlen with
      | [a0, a1, a2], _ =>
        simp only [ci, cb, List.drop_zero, List.drop_succ_cons, List.take_succ_cons, List.take_zero] at t0 t1 t2
        obtain ⟨k, hk, _, _⟩ := DataW.trod_int Try.underlying3 t0
        obtain ⟨p, hp, _, _⟩ := DataW.trod_int Try.underlying3 t1
        obtain ⟨ta, tn, tc, zs, hz, hr⟩ := open_bytes t2
        simp only [List.cons.injEq, and_true] at hk hp
        subst hk hp hz
        have e0 := hcell 0 (by omega)
        have e1 := hcell 1 (by omega)
        have e2 := hcell 2 (by omega)
        rw [show (ad.add (i * 3)).add 0 = ad.add (i * 3) from by simp [Addr.add]] at e0
        exact ⟨⟨k, p, zs⟩, ta, tn, tc, e0, e1, e2, hr⟩
    obtain ⟨T, hT⟩ := choose_lt key
    refine ⟨some ad, len, m, (List.range len).map T, hcs, ⟨by simp, ⟨hl, by unfold maxLen at hm; exact hm⟩, ?_⟩⟩
    by_cases h0 : len = 0
    · exact .inl h0
    · obtain ⟨b, off, spot⟩ := ad
      obtain ⟨_, _, _, q0, _⟩ := hT 0 (by omega)
      have hspot : spot = none := by simpa [Addr.add] using World.cell?_spot q0
      subst hspot
      have hblk : b < w.heap.size := by simpa [Addr.add] using block_lt_of_cell q0
      refine .inr ⟨b, off, rfl, Nat.zero_le _, hblk, fun i hi => ?_⟩
      obtain ⟨ta, tn, tc, e0, e1, e2, hr⟩ := hT i hi
      have eT : ((List.range len).map T).getD i Tok.zero = T i := by simp [List.getD, hi]
      rw [eT]
      simp only [Addr.add_lit] at e0 e1 e2
      exact ⟨ta, tn, tc, e0, e1, e2, hr⟩

end Go.Proofs.Ytbjkokndnfmcpag
