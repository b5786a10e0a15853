/- Several texts in one: SzB, OpenB, LawBox. -/
import Derived.Test.YtfbokljbmihlbaaGreatNBase
import Derived.Deep.Strs
import Derived.Deep.Slices
import Derived.ChangeOld
import Derived.OpenShut
import Derived.RangeFuncRecord
namespace Go.Proofs.YtfbokljbmihlbaaGreat

section
open Go.RowKit

/-- What is left, or -1. -/
def szRes (left : Int) (n : Nat) : Int := if left < n then -1 else left - n

theorem szByteS_any (a : Option Addr) (n cap : Nat) (left : Int) (w : World) (hl : 0 ≤ left ∧ left ≤ 1048576) (hn : n ≤ 9223372036854775807) :
    Calls Tryz.prog 22 #[.slice a n cap, .int .i64 left] w fun e w' => e = .returned (.int .i64 (szRes left n)) ∧ w' = w := by
  obtain ⟨h0, h1⟩ := hl
  by_cases h : left < n
  · have HE : Hid (szRes left n = -1) := if_pos h
    go_enter Tryz.func22, Tryz.ntmps22
    go_wp2
    go_ret
    exact ⟨ri HE.out.symm, rfl⟩
  · have HE : Hid (szRes left n = left - n) := if_neg h
    go_enter Tryz.func22, Tryz.ntmps22
    go_wp2
    go_ret
    exact ⟨ri HE.out.symm, rfl⟩
end

section
open Go.RowKit Go.Deep Go.ChangeShapes Go.WideShapes

theorem rd_of_cells {w : World} {x : Addr} {len cap : Nat} {zs : List Int} (hl : len ≤ cap) (hm : cap ≤ maxLen) (hz : zs.length = cap) (hc : ∀ i, i < zs.length → w.cell? (x.add i) = some (.int .u8 (zs.getD i 0))) (hwf : ∀ n ∈ zs, (Lit.int .u8 n).wf = true) :
    Rd 0 w.heap.size w (some x) len cap (zs.take len) := by
  unfold maxLen at hm
  refine ⟨by simp; omega, ⟨hl, hm⟩, fun i => ?_, ?_⟩
  · have := range_u8 hwf i
    simp only [List.getD, List.getElem?_take]
    split
    · exact this
    · simp
  · by_cases h0 : len = 0
    · exact .inl h0
    · obtain ⟨b, off, spot⟩ := x
      have hc0 := hc 0 (by omega)
      have hspot : spot = none := by simpa [Addr.add] using World.cell?_spot hc0
      subst hspot
      refine .inr ⟨b, off, rfl, Nat.zero_le _, block_lt_of_cell hc0, fun i hi => ?_⟩
      have := hc i (by omega)
      simp only [List.getD, List.getElem?_take, if_pos hi]
      by_cases e : i = 0
      · subst e; simpa [Addr.add, List.getD] using this
      · simpa [Addr.add, e, List.getD] using this

/-- The bytes of a slice that is read. -/
theorem open_bytes {H : Type} {enc : TypeId × Value → H} {w : World} {fuel : Nat} {v : Value} {x : DataW H × List MemPlace} (h : DataW.trod enc Tryz.prog w 0 (fun _ => true) true fuel 27 [v] = some x) :
    ∃ a len cap zs, v = .slice a len cap ∧ Rd 0 w.heap.size w a len cap zs := by
  rcases open_ints Tryz.underlying27 Tryz.underlying5 (by kernel_rfl) h with ⟨hcs, _⟩ | ⟨x, l, c, zs, hcs, _, hl, hm, hz, _, hcell, hwz⟩
  · simp at hcs
    exact ⟨none, 0, 0, [], hcs, Rd.none_of (by omega)⟩
  · simp at hcs
    exact ⟨some x, l, c, _, hcs, rd_of_cells hl hm (by simpa using hz) hcell hwz⟩
end

section
open Go.RowKit

/-- The box of a law's argument. -/
def BoxL (W : World) (b : Nat) (v0 v1 v2 v3 : Value) : Prop := W.heap[b]? = some (.cells #[v0, v1, v2, v3] 30 (0, 0))
theorem BoxL.new (W : World) (v0 v1 v2 v3 : Value) : BoxL (W.alloc (.cells #[v0, v1, v2, v3] 30)) W.heap.size v0 v1 v2 v3 := World.alloc_heap_new W _
theorem BoxL.below {W W' : World} {b B : Nat} {v0 v1 v2 v3 : Value} (h : BoxL W b v0 v1 v2 v3) (hb : Below B W W') (hB : b < B) : BoxL W' b v0 v1 v2 v3 := (hb.block b hB).trans h
theorem BoxL.lt {W : World} {b : Nat} {v0 v1 v2 v3 : Value} (h : BoxL W b v0 v1 v2 v3) : b < W.heap.size := (Array.getElem?_eq_some_iff.1 h).1
theorem BoxL.cells {W : World} {b : Nat} {v0 v1 v2 v3 : Value} (h : BoxL W b v0 v1 v2 v3) : W.cell? ⟨b, 0, none⟩ = some v0 ∧ W.cell? ⟨b, 1, none⟩ = some v1 ∧ W.cell? ⟨b, 2, none⟩ = some v2 ∧ W.cell? ⟨b, 3, none⟩ = some v3 := by
  unfold BoxL at h
  refine ⟨?_, ?_, ?_, ?_⟩ <;> simp [World.cell?, h]
end

end Go.Proofs.YtfbokljbmihlbaaGreat
