/- A slice of numbers that the call itself has made: what it is, what an append makes of it, what stays. -/
import Derived.Test.YtpedjcabapldgaaDoorWdMem
import Derived.Test.YtpedjcabapldgaaDoorOwnB
namespace Go.Proofs.YtpedjcabapldgaaDoor
open Go.RowKit

def OwnI (base : Nat) (w : World) (v : Value) (zs : List Int) : Prop := w.ownsRow base 3 1 v zs.length (zs.map (Value.int .i64))

theorem OwnI.nil (base : Nat) (w : World) : OwnI base w (.slice none 0 0) [] := World.ownsRow_nil _ _ _ _

theorem ownI_step {w0 W w2 : World} {v v' : Value} {xs ys : List Int} (hO : OwnI w0.heap.size W v xs) (hB : Below w0.heap.size w0 W)
    (hown : w2.ownsRow w0.heap.size 3 1 v' (xs.length + ys.length) (xs.map (Value.int .i64) ++ ys.map (Value.int .i64))) (hgrow : W.grownBy w2 v.ownBlock) :
    OwnI w0.heap.size w2 v' (xs ++ ys) ∧ Below w0.heap.size w0 w2 := by
  refine ⟨by unfold OwnI; simpa using hown, hB.grown hgrow hB.size (fun x hx => ?_)⟩
  rcases hO.2 with ⟨rfl, _⟩ | ⟨g1, cap1, cur, rfl, hg1, _⟩
  · simp [Value.ownBlock] at hx
  · simp [Value.ownBlock] at hx; omega

theorem OwnI.below {base B : Nat} {w w' : World} {v : Value} {zs : List Int} (h : OwnI base w v zs) (hb : Below B w w') (hB : w.heap.size ≤ B) : OwnI base w' v zs := by
  obtain ⟨h1, h2⟩ := h
  refine ⟨h1, ?_⟩
  rcases h2 with h2 | ⟨g, cap, cur, hv, hg, hh, r⟩
  · exact .inl h2
  · exact .inr ⟨g, cap, cur, hv, hg, by rw [hb.block g (Nat.lt_of_lt_of_le (Array.getElem?_eq_some_iff.1 hh).1 hB)]; exact hh, r⟩

/-- The leaves of a row of numbers. -/
def leafI (b off n : Nat) : List (Addr × IntKind) := (List.range n).map fun j => (⟨b, off + j, none⟩, .i64)

theorem leafI_nodup (b off n : Nat) : ((leafI b off n).map (·.1)).Nodup := by
  rw [List.nodup_iff_pairwise_ne, List.pairwise_iff_getElem]
  intro i j hi hj hij
  simp [leafI] <;> omega

/-- What it is: nil, with nothing in it; or a row of its own. -/
theorem OwnI.form {base : Nat} {w : World} {v : Value} {zs : List Int} (h : OwnI base w v zs) :
    ∃ a c b, v = .slice a zs.length c ∧ RI base w.heap.size w a zs.length c zs ∧ (zs.length = 0 ∨ a = some ⟨b, 0, none⟩) ∧ LeafOk w (leafI b 0 zs.length) ∧ (zs.length = 0 ∨ (base ≤ b ∧ b < w.heap.size)) := by
  by_cases hz : zs.length = 0
  · rcases h.2 with ⟨hv, _⟩ | ⟨g, cap, cur, hv, _, _, _, hc2, _⟩
    · refine ⟨none, 0, 0, by rw [hv, hz], ⟨rfl, by omega, .inl hz⟩, .inl hz, ?_, .inl hz⟩
      rw [hz]; intro x hx; simp [leafI] at hx
    · unfold maxLen at hc2
      refine ⟨_, cap, 0, hv, ⟨rfl, by omega, .inl hz⟩, .inl hz, ?_, .inl hz⟩
      rw [hz]; intro x hx; simp [leafI] at hx
  · obtain ⟨h1, h2⟩ := h
    rcases h2 with ⟨_, h0⟩ | ⟨g, cap, cur, hv, hg, hh, hc1, hc2, hc3, hc4⟩
    · exact absurd h0 hz
    · simp only [Nat.mul_one] at hc3 hc4
      unfold maxLen at hc2
      have hlt : g < w.heap.size := (Array.getElem?_eq_some_iff.1 hh).1
      have hcell : ∀ i, i < zs.length → w.cell? ⟨g, i, none⟩ = some (.int .i64 (zs.getD i 0)) := by
        intro i hi
        have e : (cur.toList.take zs.length)[i]? = (zs.map (Value.int .i64))[i]? := by rw [hc4]
        rw [List.getElem?_take, if_pos hi] at e
        simp only [Array.getElem?_toList] at e
        rw [show (zs.map (Value.int .i64))[i]? = some (.int .i64 (zs.getD i 0)) by simp [List.getD, hi]] at e
        simp [World.cell?, hh, e]
      refine ⟨_, cap, g, hv, ⟨rfl, ⟨hc1, hc2⟩, .inr ⟨g, 0, rfl, hg, hlt, fun i hi => ⟨_, by rw [Nat.zero_add]; exact hcell i hi, rfl⟩⟩⟩, .inr rfl, ?_, .inr ⟨hg, hlt⟩⟩
      intro x hx
      simp only [leafI, List.mem_map, List.mem_range] at hx
      obtain ⟨j, hj, rfl⟩ := hx
      simp only [Nat.zero_add]
      exact ⟨⟨_, hcell j hj⟩, by simp [World.frozen?, hh]⟩

theorem newI1 (w : World) (g : Nat) (c : Int) (hg : g = w.heap.size) : ∀ j u, ([c].map (Value.int .i64))[j]? = some u → (w.alloc (.cells #[.int .i64 c] 3)).cell? ((⟨g, 0, none⟩ : Addr).add j) = some u := by
  intro j u hu
  subst hg
  rw [Addr.add_lit]
  match j, hu with
  | 0, hu => simp at hu; subst hu; simp

theorem oneCI (zs : List Int) : ∀ u ∈ zs.map (Value.int .i64), u.oneCell' = true := by
  intro u hu; simp only [List.mem_map] at hu; obtain ⟨x, _, rfl⟩ := hu; rfl

/-- The numbers below n that f holds of, in their order. -/
def pickI (f : Nat → Bool) (n : Nat) : List Int := ((List.range n).filter f).map Int.ofNat

theorem pickI_zero (f : Nat → Bool) : pickI f 0 = [] := rfl
theorem pickI_yes {f : Nat → Bool} {n : Nat} (h : f n = true) : pickI f (n + 1) = pickI f n ++ [(n : Int)] := by
  unfold pickI; rw [List.range_succ, List.filter_append, List.map_append]; simp [h]
theorem pickI_no {f : Nat → Bool} {n : Nat} (h : f n = false) : pickI f (n + 1) = pickI f n := by
  unfold pickI; rw [List.range_succ, List.filter_append, List.map_append]; simp [h]
theorem pickI_len (f : Nat → Bool) (n : Nat) : (pickI f n).length ≤ n := by
  unfold pickI; rw [List.length_map]; exact Nat.le_trans (List.length_filter_le _ _) (by simp)
theorem pickI_congr {f g : Nat → Bool} {n : Nat} (h : ∀ i, i < n → f i = g i) : pickI f n = pickI g n := by
  unfold pickI; congr 1; exact List.filter_congr fun i hi => h i (List.mem_range.1 hi)

end Go.Proofs.YtpedjcabapldgaaDoor
