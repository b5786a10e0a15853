/- A set of words that the program keeps as the keys of a map. -/
import Derived.Test.YtpedjcabapldgaaDoorKbVoc
import Derived.Test.YtpedjcabapldgaaDoorConv
import Derived.Maps.OwnSet
import Derived.RangeFuncNested
namespace Go.Proofs.YtpedjcabapldgaaDoor
open Go.RowKit Go.Maps

theorem Tryd.undStr : Tryd.prog.underlying 9 = some .string := by kernel_rfl
theorem Tryd.undSet : Tryd.prog.underlying 65 = some (.map 9 69) := by kernel_rfl
theorem lawStr : Keyed Tryd.prog 9 := string_keyed Tryd.undStr

def litW (zs : List Int) : Lit := .string (strOfNums zs).data.toList

theorem litW_inj {xs ys : List Int} (hx : Byt xs) (hy : Byt ys) (h : litW xs = litW ys) : xs = ys := by
  have e : (strOfNums xs).data.toList = (strOfNums ys).data.toList := by simpa [litW] using h
  have := str_inj hx hy
  rw [ByteArray.toList_eq, ByteArray.toList_eq, e] at this
  simp at this
  exact this

theorem keyW {zs : List Int} (h : zs.length ≤ 9223372036854775807) : keyOf Tryd.prog 9 (.string (strOfNums zs)) = some (litW zs) :=
  WideMaps.keyOf_string_mk Tryd.undStr (by rw [strOfNums_size]; unfold maxLen; omega)

/-- Block b is a map whose keys are these words. -/
def WSet (w : World) (b : Nat) (L : List (List Int)) : Prop := ∃ D : DataW Unit, w.ownsMap Tryd.prog 9 unitElem b L.length D ∧ (∀ kl, has D kl = true ↔ ∃ z ∈ L, kl = litW z) ∧ size D = L.length ∧ Good L

theorem WSet.good {w : World} {b : Nat} {L : List (List Int)} (h : WSet w b L) : Good L := by obtain ⟨_, _, _, _, h⟩ := h; exact h
theorem WSet.lt {w : World} {b : Nat} {L : List (List Int)} (h : WSet w b L) : b < w.heap.size := by obtain ⟨_, h, _⟩ := h; exact h.lt
theorem WSet.kept {w w' : World} {b : Nat} {L : List (List Int)} {row : Option Nat} (h : WSet w b L) (hg : w.grownBy w' row) (hne : some b ≠ row) : WSet w' b L := by
  obtain ⟨D, h1, h2⟩ := h
  exact ⟨D, h1.kept hg hne, h2⟩
theorem WSet.below {w w' : World} {b B : Nat} {L : List (List Int)} (h : WSet w b L) (hb : Below B w w') (hB : b < B) : WSet w' b L := by
  obtain ⟨D, ⟨es, clock, e1, r⟩, h2⟩ := h
  exact ⟨D, ⟨es, clock, (hb.block b hB).trans e1, r⟩, h2⟩
theorem WSet.made (w : World) : WSet (w.alloc (.map #[] 0)) w.heap.size [] :=
  ⟨.map [], World.ownsMap_made w _ _ _, fun kl => by simp [has], rfl, Good.nil⟩
theorem WSet.noCells {w : World} {b : Nat} {L : List (List Int)} (h : WSet w b L) : ∃ o, w.heap[b]? = some o ∧ o.isCells = false := by
  obtain ⟨D, ⟨es, clock, e1, _⟩, _⟩ := h
  exact ⟨_, e1, rfl⟩

theorem ownsMap_tight {H : Type} {P : Program} {k : TypeId} {R : Value → Option (DataW H × List MemPlace)} {w : World} {b n m : Nat} {D : DataW H} (h : w.ownsMap P k R b n D) (hm : size D ≤ m) : w.ownsMap P k R b m D := by
  obtain ⟨es, clock, h1, h2, h3, rfl⟩ := h
  refine ⟨es, clock, h1, h2, ?_, rfl⟩
  simp only [size, length_sorted, List.length_map, Array.length_toList] at hm
  exact hm

theorem wset_has {L : List (List Int)} {D : DataW Unit} (h : ∀ kl, has D kl = true ↔ ∃ z ∈ L, kl = litW z) (hg : Good L) {zs : List Int} (hz : Byt zs) : has D (litW zs) = decide (zs ∈ L) := by
  by_cases hm : zs ∈ L
  · rw [decide_eq_true hm]; exact (h _).2 ⟨zs, hm, rfl⟩
  · rw [decide_eq_false hm]
    cases e : has D (litW zs)
    · rfl
    · obtain ⟨z, hz1, hz2⟩ := (h _).1 e
      exact absurd (litW_inj hz (hg.byt z hz1) hz2 ▸ hz1) hm

theorem wset_put {L : List (List Int)} {zs : List Int} {D : DataW Unit} {w : World} {b n : Nat} (h0 : w.ownsMap Tryd.prog 9 unitElem b n (D.put (litW zs) (.agg []))) (hT : Tidy D) (h : ∀ kl, has D kl = true ↔ ∃ z ∈ L, kl = litW z) (hs : size D = L.length) (hg : Good L) (hz : Byt zs) :
    WSet w b (insW L zs) ∧ size (D.put (litW zs) (.agg [])) = (insW L zs).length := by
  have e1 : size (D.put (litW zs) (.agg [])) = (insW L zs).length := by
    rw [size_put hT, wset_has h hg hz]
    by_cases hm : zs ∈ L
    · rw [insW_old hz hg.srt hg.byt hm, hs]; simp [hm]
    · rw [insW_new hz hg.srt hg.byt hm, hs]; simp [hm]
  refine ⟨⟨_, ownsMap_tight h0 (by rw [e1]; exact Nat.le_refl _), fun kl => ?_, e1, hg.ins hz⟩, e1⟩
  by_cases e : kl = litW zs
  · subst e
    rw [has_put_same hT.isMap (by unfold litW; trivial)]
    exact ⟨fun _ => ⟨zs, (insW_mem hz hg.srt hg.byt).2 (.inl rfl), rfl⟩, fun _ => rfl⟩
  · rw [has_put_other e, h]
    constructor
    · rintro ⟨z, h1, h2⟩; exact ⟨z, (insW_mem hz hg.srt hg.byt).2 (.inr h1), h2⟩
    · rintro ⟨z, h1, h2⟩
      rcases (insW_mem hz hg.srt hg.byt).1 h1 with rfl | h3
      · exact absurd h2 e
      · exact ⟨z, h3, h2⟩

set_option maxRecDepth 100000 in
set_option maxHeartbeats 1000000 in
theorem setAdd_any {b : Nat} {L : List (List Int)} {zs : List Int} {w : World} (h : WSet w b L) (hz : Byt zs) (hn : zs.length ≤ 9223372036854775807) (hl : L.length ≤ 1048576) :
    Calls Tryd.prog 41 #[.map (some b), .string (strOfNums zs)] w fun e w' => e = .returned (.bool (decide (zs ∉ L))) ∧ WSet w' b (insW L zs) ∧ w.grownBy w' (some b) := by
  obtain ⟨D, hown, hhas, hsz, hgood⟩ := h
  have hT := hown.tidy lawStr
  have hkey := keyW hn
  have HP : Hid (∀ (w' : World) (n : Nat), w'.ownsMap Tryd.prog 9 unitElem b n (D.put (litW zs) (.agg [])) → WSet w' b (insW L zs) ∧ size (D.put (litW zs) (.agg [])) = (insW L zs).length) := fun w' n h0 => wset_put h0 hT hhas hsz hgood hz
  have HN : Hid (L.length < (insW L zs).length ↔ zs ∉ L) := by
    by_cases hm : zs ∈ L
    · unfold Hid; rw [insW_old hz hgood.srt hgood.byt hm]; simp [hm]
    · unfold Hid; rw [insW_new hz hgood.srt hgood.byt hm]; simp [hm]
  obtain ⟨s, hs⟩ : ∃ s, s = strOfNums zs := ⟨_, rfl⟩
  rw [← hs] at hkey ⊢
  clear hs hhas hT
  go_enter Tryd.func41, Tryd.ntmps41
  go_wp2_with (first
    | (at_len; refine wpList_len_own _ rfl _ 65 rfl 9 69 Tryd.undSet unitElem b L.length D rfl hown ?_)
    | (at_mapUpdate; refine wpList_mapUpdate_own _ rfl _ _ _ 65 rfl 9 69 lawStr Tryd.undSet unitElem b L.length D rfl hown (by unfold maxLen; omega) _ _ _ rfl rfl hkey (.agg []) [] unitElem_mk ?_; intro w1 hown1 hgrow1)
    | (at_len; refine wpList_len_own _ rfl _ 65 rfl 9 69 Tryd.undSet unitElem b (L.length + 1) (D.put (litW zs) (.agg [])) rfl hown1 ?_)
    | go_in)
  go_ret
  obtain ⟨h1, h2⟩ := HP.out _ _ hown1
  refine ⟨rb ?_, h1, hgrow1⟩
  rw [h2]
  exact decide_eq_decide.2 HN.out

end Go.Proofs.YtpedjcabapldgaaDoor
