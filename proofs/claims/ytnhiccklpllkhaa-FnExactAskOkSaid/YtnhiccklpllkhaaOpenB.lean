/- A slice of bytes that comes in, opened: what it reads as. -/
import Derived.Test.YtnhiccklpllkhaaBytes
import Derived.Deep.Strs
import Derived.Deep.Slices
import Derived.ChangeOld
import Derived.OpenShut
namespace Go.Proofs.Ytnhiccklpllkhaa
open Go.RowKit Go.Deep Go.ChangeShapes Go.WideShapes

theorem rd_of_cells {w : World} {x : Addr} {len cap : Nat} {zs : List Int} (hl : len ≤ cap) (hm : cap ≤ maxLen) (hz : zs.length = cap) (hc : ∀ i, i < zs.length → w.cell? (x.add i) = some (.int .u8 (zs.getD i 0))) (hwf : ∀ n ∈ zs, (Lit.int .u8 n).wf = true) :
    Rd 0 w.heap.size w (some x) len cap (zs.take len) := by
  unfold maxLen at hm
  refine ⟨by simp; omega, ⟨hl, hm⟩, fun i => ?_, ?_⟩
  · have := range_u8 hwf i
    simp only [List.getD, List.getElem?_take]
    split
    · exact this
    · simp
  · by_cases h0 : len = 0
    · exact .inl h0
    · obtain ⟨b, off, spot⟩ := x
      have hc0 := hc 0 (by omega)
      have hspot : spot = none := by simpa [Addr.add] using World.cell?_spot hc0
      subst hspot
      refine .inr ⟨b, off, rfl, Nat.zero_le _, block_lt_of_cell hc0, fun i hi => ?_⟩
      have := hc i (by omega)
      simp only [List.getD, List.getElem?_take, if_pos hi]
      by_cases e : i = 0
      · subst e; simpa [Addr.add, List.getD] using this
      · simpa [Addr.add, e, List.getD] using this

/-- The bytes of a slice that is read. -/
theorem open_bytes {H : Type} {enc : TypeId × Value → H} {w : World} {fuel : Nat} {v : Value} {x : DataW H × List MemPlace} (h : DataW.trod enc Try.prog w 0 (fun _ => true) true fuel 22 [v] = some x) :
    ∃ a len cap zs, v = .slice a len cap ∧ Rd 0 w.heap.size w a len cap zs := by
  rcases open_ints Try.underlying22 Try.underlying5 (by kernel_rfl) h with ⟨hcs, _⟩ | ⟨x, l, c, zs, hcs, _, hl, hm, hz, _, hcell, hwz⟩
  · simp at hcs
    exact ⟨none, 0, 0, [], hcs, Rd.none_of (by omega)⟩
  · simp at hcs
    exact ⟨some x, l, c, _, hcs, rd_of_cells hl hm (by simpa using hz) hcell hwz⟩

end Go.Proofs.Ytnhiccklpllkhaa
