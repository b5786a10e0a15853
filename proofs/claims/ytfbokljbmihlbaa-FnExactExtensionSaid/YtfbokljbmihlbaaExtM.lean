/- What the law on Extension needs of marks. -/
import Derived.Test.YtfbokljbmihlbaaWdMark2
import Derived.Test.YtfbokljbmihlbaaWdFree
import Derived.Test.YtfbokljbmihlbaaExtI
namespace Go.Proofs.Ytfbokljbmihlbaa
open Go.RowKit

theorem MarkW.below {lo hi B : Nat} {w w' : World} (h : MarkW lo hi w w') (hB : B ≤ lo) (hs : B ≤ w.heap.size) : Below B w w' :=
  ⟨h.os, h.tape, h.output, h.size, fun b hb => h.out b (by omega) (.inl (by omega))⟩

theorem MarkW.same {lo hi lo' hi' : Nat} {w w' : World} (h : MarkW lo hi w w') (hs : hi' ≤ w.heap.size) (ho : hi' ≤ lo ∨ hi ≤ lo') : Same lo' hi' w w' :=
  fun b h1 h2 => h.out b (by omega) (by omega)

theorem markW_marks {lo hi : Nat} {L : List (Addr × IntKind)} {w : World} (h : LeafOk w L) (hb : ∀ x ∈ L, lo ≤ x.1.block ∧ x.1.block < hi) (k : Int) : MarkW lo hi w (marks w L k) := (markRel_marks h hb k).toW

theorem leafI_block {b off n : Nat} : ∀ x ∈ leafI b off n, b ≤ x.1.block ∧ x.1.block < b + 1 := by
  intro x hx
  simp only [leafI, List.mem_map, List.mem_range] at hx
  obtain ⟨j, _, rfl⟩ := hx
  exact ⟨Nat.le_refl _, Nat.lt_succ_self _⟩

/-- The marks of a list of numbers stand in its cells. -/
theorem marksI_cell {w : World} {b n : Nat} (h : LeafOk w (leafI b 0 n)) (hn : n ≤ 1048576) : ∀ j, j < n → (marks w (leafI b 0 n) 1).cell? ⟨b, 0 + j, none⟩ = some (.int .i64 (1 + j)) := by
  intro j hj
  have := held_leafI (held_marks h (leafI_nodup b 0 n) 1) j hj
  rw [wrapI (by omega) (by omega)] at this
  exact this

/-- A list of the call's own, anew after all that lies above is changed. -/
theorem OwnI.out {base : Nat} {w : World} {v : Value} {zs : List Int} (h : OwnI base w v zs) : ∃ a c b, v = .slice a zs.length c ∧ RI base w.heap.size w a zs.length c zs ∧ (zs.length = 0 ∨ a = some ⟨b, 0, none⟩) ∧ LeafOk w (leafI b 0 zs.length) ∧ (zs.length = 0 ∨ (base ≤ b ∧ b < w.heap.size)) := h.form

theorem extL_len (x : WD) (c : CN) : (extL x c).length ≤ 128 := by
  unfold extL
  split
  · next h =>
    simp only [Bool.and_eq_true] at h
    have h1 := ((worldB_iff x).1 h.1).1.1
    have := pickI_len (fun j => holdC x x.n.toNat c j) x.n.toNat
    omega
  · simp

theorem LeafOk.blk {w w' : World} {b off n : Nat} (h : LeafOk w (leafI b off n)) (e : w'.heap[b]? = w.heap[b]?) : LeafOk w' (leafI b off n) := by
  intro x hx
  have hb := leafI_block x hx
  obtain ⟨⟨m, hm⟩, hf⟩ := h x hx
  have e' : x.1.block = b := by omega
  exact ⟨⟨m, by rw [← hm]; exact World.cell?_of_block (by rw [e']; exact e)⟩, by rw [← hf]; exact World.frozen?_of_block (by rw [e']; exact e)⟩

end Go.Proofs.Ytfbokljbmihlbaa
