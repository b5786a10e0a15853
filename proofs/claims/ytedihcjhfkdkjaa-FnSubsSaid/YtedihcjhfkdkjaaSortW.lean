/- A row of words sorted by the library, then compacted: ascending, each once. -/
import Derived.Test.YtedihcjhfkdkjaaCompactW
import Derived.Test.YtedihcjhfkdkjaaSortLay
import Derived.Shelf.SlSortCmp.NoneTotal
namespace Go.Proofs.Ytedihcjhfkdkjaa
open Go.RowKit Go.Sort Go.Shelf

/-- A word in its block, apart from the row. -/
def WOk (w : World) (base blk : Nat) (x : List Int × (Nat × Nat)) : Prop := RowG w x.2.1 x.2.2 x.1 ∧ Byt x.1 ∧ x.2.1 ≠ blk ∧ x.2.2 ≤ 9223372036854775807 ∧ base ≤ x.2.1
abbrev WS (w : World) (base blk : Nat) := { x : List Int × (Nat × Nat) // WOk w base blk x }
def encS {w : World} {base blk : Nat} (x : WS w base blk) : Value := wv x.1.1 x.1.2
def cfS {w : World} {base blk : Nat} (x y : WS w base blk) : Int := cmpZ x.1.1 y.1.1

theorem cfS_lt {w : World} {base blk : Nat} (x y : WS w base blk) : ltOf cfS x y = ltW x.1.1 y.1.1 := by
  unfold ltOf cfS
  rw [cmpZ_eq]
  cases h1 : ltW x.1.1 y.1.1
  · cases h2 : ltW y.1.1 x.1.1 <;> simp
  · simp

theorem swoS {w : World} {base blk : Nat} : SWO (ltOf (cfS (w := w) (base := base) (blk := blk))) where
  irrefl x := by rw [cfS_lt]; exact ltW_self _
  trans x y z h1 h2 := by rw [cfS_lt] at *; exact ltW_trans h1 h2
  ntrans x y z h1 h2 := by
    rw [cfS_lt] at *
    cases h : ltW x.1.1 z.1.1 with
    | false => rfl
    | true =>
      cases h3 : ltW y.1.1 x.1.1 with
      | true => rw [ltW_trans h3 h] at h2; cases h2
      | false =>
        have e := ltW_tri x.2.2.1 y.2.2.1 h1 h3
        rw [← e, h] at h2
        cases h2

theorem sortWorld_other {w : World} {base blk m : Nat} [Inhabited (WS w base blk)] {dk : Array (WS w base blk)} {os : Array Obj} {k : Nat} (h : k ≠ blk) (hk : k < w.heap.size) : (sortWorld encS w blk 0 m dk os).heap[k]? = w.heap[k]? := by
  have : blk ≠ k := fun e => h e.symm
  unfold sortWorld
  rw [heap_grow_old _ _ (by simpa [putRow, mapBlock, Sort.ahead] using hk)]
  simp [putRow, mapBlock, Sort.ahead, Array.getElem?_modify, this]

theorem cmpS {w : World} {base blk n : Nat} [Inhabited (WS w base blk)] : CmpLays1 Try.prog 29 #[] (encS (w := w) (base := base) (blk := blk)) cfS blk 0 n w := by
  intro m os dk hs x y
  obtain ⟨⟨z, g, c⟩, hx⟩ := x
  obtain ⟨⟨z', g', c'⟩, hy⟩ := y
  have hr := (hx.1.of_block (sortWorld_other (m := m) (dk := dk) (os := os) hx.2.2.1 hx.1.lt)).rd hx.2.1 hx.2.2.2.1 (Nat.zero_le _) hx.1.lt
  have hr' := (hy.1.of_block (sortWorld_other (m := m) (dk := dk) (os := os) hy.2.2.1 hy.1.lt)).rd hy.2.1 hy.2.2.2.1 (Nat.zero_le _) hy.1.lt
  refine (bytesCompare_any hr hr').mono ?_
  rintro e w' ⟨rfl, rfl⟩
  exact ⟨rfl, 0, #[], by rw [grow_empty]; rfl⟩

theorem putRow_block {α : Type} [Inhabited α] (enc : α → Value) (w : World) (q blk : Nat) (dk : Array α) {cur : Array Value} {T : TypeId} {f : Nat × Nat} (h : w.heap[blk]? = some (.cells cur T f)) :
    (putRow enc (Sort.ahead w q) blk 0 dk).heap[blk]? = some (.cells (putCells enc 0 dk cur) T f) := by
  simp [putRow, mapBlock, Sort.ahead, Array.getElem?_modify, h, onCells]

theorem putCells_get {α : Type} [Inhabited α] (enc : α → Value) (dk : Array α) (cur : Array Value) {i : Nat} (h : i < dk.size) (hc : i < cur.size) : (putCells enc 0 dk cur)[i]? = some (enc dk[i]!) := by
  simp [putCells, hc, h]

/-- A row that holds these words. -/
theorem OwnW.of_row {base : Nat} {w : World} {b cap : Nat} {cur : Array Value} {L : List (List Int)} {gs : List (Nat × Nat)} (hl : gs.length = L.length) (hb : base ≤ b) (h : w.heap[b]? = some (.cells cur 22 (0, 0))) (hn : L.length ≤ cap) (hc : cap ≤ maxLen) (hs : cur.size = cap)
    (hcell : ∀ i, i < L.length → cur[i]? = some (wv (L.getD i []) (gs.getD i (0, 0))))
    (htxt : ∀ i, i < L.length → base ≤ (gs.getD i (0, 0)).1 ∧ RowG w (gs.getD i (0, 0)).1 (gs.getD i (0, 0)).2 (L.getD i []) ∧ (gs.getD i (0, 0)).2 ≤ 9223372036854775807)
    (hby : ∀ i, i < L.length → Byt (L.getD i [])) (hd : ∀ i j, i < j → j < L.length → (gs.getD i (0, 0)).1 ≠ (gs.getD j (0, 0)).1) : OwnW base w (.slice (some ⟨b, 0, none⟩) L.length cap) L gs := by
  refine ⟨hl, ⟨by simp [hl], .inr ⟨b, cap, cur, rfl, hb, h, hn, hc, by omega, ?_⟩⟩, htxt, hby, hd⟩
  apply List.ext_getElem?
  intro i
  by_cases hi : i < L.length
  · rw [zip_get L gs hl i hi, List.getElem?_take_of_lt (by omega), Array.getElem?_toList]
    exact hcell i hi
  · rw [List.getElem?_eq_none (by rw [List.length_take]; omega), List.getElem?_eq_none (by simp [hl]; omega)]

theorem arr_get {α : Type} [Inhabited α] (d : Array α) {i : Nat} (h : i < d.size) : d.toList[i]? = some d[i]! := by
  rw [Array.getElem?_toList, Array.getElem?_eq_getElem h, getElem!_pos d i h]

set_option maxHeartbeats 1000000 in
theorem sortRow_any {base : Nat} {w : World} {v : Value} {L : List (List Int)} {gs : List (Nat × Nat)} (h : OwnW base w v L gs) (hn : L.length ≤ 1000) :
    Calls Try.prog 28 #[v, .func (.func 29) #[] #[]] w fun e w' => e = .returned (.tuple #[]) ∧ ∃ L' gs', OwnW base w' v L' gs' ∧ L'.length = L.length ∧ (∀ z, z ∈ L' ↔ z ∈ L) ∧ L'.Pairwise (fun a b => ltW b a = false) ∧ Below base w w' ∧ (∀ (k : Nat) (o : Obj), w.heap[k]? = some o → o.isCells = false → w'.heap[k]? = some o) := by
  by_cases h0 : L.length = 0
  · have hv : ∃ p cap, v = .slice p 0 cap := by
      rcases h.row.2 with ⟨hv, _⟩ | ⟨g, cap, cur, hv, _⟩
      · exact ⟨_, _, hv⟩
      · exact ⟨_, _, by rw [hv, h0]⟩
    obtain ⟨p, cap, rfl⟩ := hv
    have hcon := AnyF.slices_SortFunc_none (P := Try.prog) (ρ := sortLay_ren) { sortLay with } p cap (.func (.func 29) #[] #[]) w
    refine hcon.mono ?_
    rintro e w' ⟨rfl, rfl⟩
    have hL : L = [] := List.eq_nil_of_length_eq_zero h0
    exact ⟨rfl, L, gs, h, rfl, fun _ => Iff.rfl, by rw [hL]; exact List.Pairwise.nil, Below.refl _ _, fun _ _ h _ => h⟩
  · obtain ⟨n, hnn⟩ : ∃ n, n = L.length := ⟨_, rfl⟩
    rcases h.row.2 with ⟨_, hz⟩ | ⟨b, cap, cur, hv, hgb, hb, hnc, hc, hs, ht⟩
    · exact absurd hz h0
    · have hrow := h.rowV
      rcases hrow with ⟨_, hz⟩ | ⟨b', cap', hv', _, _, _, hne', hcell'⟩
      · exact absurd hz h0
      have hbb : b' = b := by
        rw [hv] at hv'
        simp only [Value.slice.injEq, Option.some.injEq, Addr.mk.injEq] at hv'
        exact hv'.1.1.symm
      subst hbb
      have hok : ∀ i : Nat, i < L.length → WOk w base b' (L.getD i [], gs.getD i (0, 0)) := fun i hi => ⟨(h.txt i hi).2.1, h.byt i hi, fun e => hne' i hi e.symm, (h.txt i hi).2.2, (h.txt i hi).1⟩
      letI inst : Inhabited (WS w base b') := ⟨⟨(L.getD 0 [], gs.getD 0 (0, 0)), hok 0 (by omega)⟩⟩
      obtain ⟨d, hd⟩ : ∃ d : Array (WS w base b'), d = Array.ofFn (fun i : Fin L.length => (⟨(L.getD i.1 [], gs.getD i.1 (0, 0)), hok i.1 i.2⟩ : WS w base b')) := ⟨_, rfl⟩
      have hds : d.size = L.length := by rw [hd]; simp
      have hdg : ∀ i, i < L.length → d[i]!.1 = (L.getD i [], gs.getD i (0, 0)) := by
        intro i hi
        rw [getElem!_pos d i (by omega)]
        simp only [hd, Array.getElem_ofFn]
      have hH : Holds encS w b' 0 d := by
        intro j hj
        rw [Nat.zero_add]
        refine ⟨?_, by simp [World.frozen?, hb]⟩
        rw [hcell' j (by omega)]
        show _ = some (wv d[j]!.1.1 d[j]!.1.2)
        rw [hdg j (by omega)]
      have hcon := Any.slices_SortFunc sortLay encS (fun _ => rfl) cfS swoS 29 #[] b' 0 cap d w (enters_of Try.func29 (by kernel_rfl) rfl) cmpS hH (Array.getElem?_eq_some_iff.1 hb).1 (by omega)
      rw [hds, ← hv] at hcon
      refine Calls.mono hcon ?_
      rintro e w' ⟨rfl, d', m, os, hp, hso, hw'⟩
      have hds' : d'.size = L.length := hp.1.trans hds
      have hperm : d'.toList.Perm d.toList := by
        have := hp.2.2
        rw [← hds', Array.extract_size] at this
        have e2 : d.extract 0 d'.size = d := by rw [hp.1]; exact Array.extract_size
        rw [e2] at this
        exact this
      have hget : ∀ i, i < L.length → (d'.toList.map (fun x => x.1.1)).getD i [] = d'[i]!.1.1 ∧ (d'.toList.map (fun x => x.1.2)).getD i (0, 0) = d'[i]!.1.2 := by
        intro i hi
        have := arr_get d' (i := i) (by omega)
        constructor <;> simp only [List.getD, List.getElem?_map, this, Option.map_some, Option.getD_some]
      have hLd : L = d.toList.map (fun x => x.1.1) := by
        apply List.ext_getElem?
        intro i
        by_cases hi : i < L.length
        · rw [List.getElem?_map, arr_get d (by omega), Option.map_some, hdg i hi]
          simp [List.getD, hi]
        · rw [List.getElem?_eq_none (by omega), List.getElem?_eq_none (by simp; omega)]
      have hwb : w'.heap[b']? = some (.cells (putCells encS 0 d' cur) 22 (0, 0)) := by
        rw [hw']
        unfold sortWorld
        rw [heap_grow_old _ _ (by simpa [putRow, mapBlock, Sort.ahead] using (Array.getElem?_eq_some_iff.1 hb).1)]
        exact putRow_block encS w m b' d' hb
      have hoth : ∀ k, k ≠ b' → k < w.heap.size → w'.heap[k]? = w.heap[k]? := fun k h1 h2 => by rw [hw']; exact sortWorld_other h1 h2
      have hL' : (d'.toList.map (fun x => x.1.1)).length = L.length := by simp [hds']
      refine ⟨rfl, d'.toList.map (fun x => x.1.1), d'.toList.map (fun x => x.1.2), ?_, hL', ?_, ?_, ?_, fun k o hk hc => (hoth k (fun e => by subst e; rw [hb] at hk; cases hk; cases hc) (Array.getElem?_eq_some_iff.1 hk).1).trans hk⟩
      · have := OwnW.of_row (base := base) (w := w') (b := b') (cap := cap) (cur := putCells encS 0 d' cur) (L := d'.toList.map (fun x => x.1.1)) (gs := d'.toList.map (fun x => x.1.2)) (by simp) hgb hwb (by rw [hL']; exact hnc) hc (by simp [putCells]; omega)
          (fun i hi => by rw [hL'] at hi; rw [(hget i hi).1, (hget i hi).2]; exact putCells_get encS d' cur (by omega) (by omega))
          (fun i hi => by
            rw [hL'] at hi
            rw [(hget i hi).1, (hget i hi).2]
            have q := d'[i]!.2
            exact ⟨q.2.2.2.2, q.1.of_block (hoth _ q.2.2.1 q.1.lt), q.2.2.2.1⟩)
          (fun i hi => by rw [hL'] at hi; rw [(hget i hi).1]; exact d'[i]!.2.2.1)
          (fun i j hij hj => by
            rw [hL'] at hj
            rw [(hget i (by omega)).2, (hget j hj).2]
            have hnd : (d.toList.map (fun x => x.1.2.1)).Nodup := by
              rw [List.Nodup, List.pairwise_iff_getElem]
              intro i j hi hj hij
              simp only [List.length_map, Array.length_toList] at hi hj
              simp only [List.getElem_map, Array.getElem_toList]
              have e1 := hdg i (by omega)
              have e2 := hdg j (by omega)
              rw [getElem!_pos d i hi] at e1
              rw [getElem!_pos d j hj] at e2
              rw [e1, e2]
              exact h.dist i j hij (by omega)
            have hnd' : (d'.toList.map (fun x => x.1.2.1)).Nodup := (hperm.map _).nodup_iff.2 hnd
            rw [List.Nodup, List.pairwise_iff_getElem] at hnd'
            have := hnd' i j (by simp; omega) (by simp; omega) hij
            simp only [List.getElem_map, Array.getElem_toList] at this
            rw [getElem!_pos d' i (by omega), getElem!_pos d' j (by omega)]
            exact this)
        rw [hL'] at this
        rw [hv]
        exact this
      · intro z
        conv => rhs; rw [hLd]
        exact (hperm.map _).mem_iff
      · rw [List.pairwise_iff_getElem]
        intro i j hi hj hij
        simp only [List.length_map, Array.length_toList] at hi hj
        have := hso i j (Nat.zero_le _) hij (by omega)
        rw [cfS_lt, getElem!_pos d' i hi, getElem!_pos d' j hj] at this
        simpa using this
      · rw [hw']
        exact ⟨rfl, rfl, rfl, by simp [sortWorld, grow, putRow, mapBlock, Sort.ahead], fun k hk => by
          have hlt := (Array.getElem?_eq_some_iff.1 hb).1
          exact sortWorld_other (by omega) (by omega)⟩

theorem cpW_srt {d : Array OW} {n : Nat} (hby : ∀ i, i < n → Byt (wdO d[i]!)) (hs : ∀ i j, i < j → j < n → ltW (wdO d[j]!) (wdO d[i]!) = false) : ∀ m, m ≤ n → Srt ((cpW d m).map wdO) ∧ ∀ z, z ∈ (cpW d m).map wdO ↔ ∃ i, i < m ∧ z = wdO d[i]!
  | 0, _ => ⟨List.Pairwise.nil, fun z => by simp [cpW]⟩
  | m + 1, hm => by
    obtain ⟨h1, h2⟩ := cpW_srt hby hs m (by omega)
    rw [cpW]
    by_cases hk : kpW d m = true
    · rw [if_pos hk, List.map_append]
      refine ⟨?_, fun z => ?_⟩
      · unfold Srt
        rw [List.pairwise_append]
        refine ⟨h1, List.pairwise_singleton _ _, fun y hy z hz => ?_⟩
        have hz' : z = wdO d[m]! := by simpa using hz
        subst hz'
        obtain ⟨i, hi, rfl⟩ := (h2 y).1 hy
        cases h : ltW (wdO d[i]!) (wdO d[m]!) with
        | true => rfl
        | false =>
          exfalso
          have e := ltW_tri (hby i (by omega)) (hby m (by omega)) h (hs i m hi (by omega))
          have hm0 : m ≠ 0 := by omega
          have hne : wdO d[m]! ≠ wdO d[m - 1]! := by
            intro e'
            have hcon := kpW_neg (d := d) (m := m) (by omega) e'
            rw [hk] at hcon
            cases hcon
          by_cases hi1 : i = m - 1
          · exact hne (by rw [← e, hi1])
          · have f1 := hs i (m - 1) (by omega) (by omega)
            have f2 := hs (m - 1) m (by omega) (by omega)
            rw [← e] at f2
            exact hne (by rw [← e]; exact ltW_tri (hby i (by omega)) (hby (m - 1) (by omega)) f2 f1)
      · rw [List.mem_append, h2 z]
        constructor
        · rintro (⟨i, hi, rfl⟩ | hz)
          · exact ⟨i, by omega, rfl⟩
          · exact ⟨m, by omega, by simpa using hz⟩
        · rintro ⟨i, hi, rfl⟩
          by_cases e : i = m
          · subst e; exact .inr (by simp)
          · exact .inl ⟨i, by omega, rfl⟩
    · rw [if_neg hk, List.append_nil]
      refine ⟨h1, fun z => ?_⟩
      rw [h2 z]
      have hm0 : m ≠ 0 := by
        intro e
        exact hk (kpW_one d m (by omega))
      have he : wdO d[m]! = wdO d[m - 1]! := Classical.byContradiction fun h => hk (kpW_pos h)
      constructor
      · rintro ⟨i, hi, rfl⟩; exact ⟨i, by omega, rfl⟩
      · rintro ⟨i, hi, rfl⟩
        by_cases e : i = m
        · subst e; exact ⟨i - 1, by omega, he⟩
        · exact ⟨i, by omega, rfl⟩

theorem cpW_sub (d : Array OW) : ∀ m, (cpW d m).Sublist ((List.range m).map (d[·]!))
  | 0 => by simp [cpW]
  | m + 1 => by
    rw [cpW, List.range_succ, List.map_append]
    refine (cpW_sub d m).append ?_
    split
    · simp
    · simp

def blO : OW → Nat × Nat
  | none => (0, 0)
  | some x => x.2

set_option maxHeartbeats 400000 in
theorem compactNil_any (w : World) : Calls Try.prog 30 #[.slice none 0 0, .func (.func 31) #[] #[]] w fun e w' => e = .returned (.slice none 0 0) ∧ w' = w := by
  go_enter Try.func30, Try.ntmps30
  go_wp2_with fail
  go_ret
  exact ⟨rfl, rfl⟩

set_option maxHeartbeats 1000000 in
theorem compactRow_any {base : Nat} {w : World} {v : Value} {L : List (List Int)} {gs : List (Nat × Nat)} (h : OwnW base w v L gs) (hn : L.length ≤ 1000) (hsrt : L.Pairwise (fun a b => ltW b a = false)) :
    Calls Try.prog 30 #[v, .func (.func 31) #[] #[]] w fun e w' => ∃ u L' gs', e = .returned u ∧ OwnW base w' u L' gs' ∧ Srt L' ∧ (∀ z, z ∈ L' ↔ z ∈ L) ∧ Below base w w' ∧ (∀ (k : Nat) (o : Obj), w.heap[k]? = some o → o.isCells = false → w'.heap[k]? = some o) := by
  rcases h.row.2 with ⟨hv, hz⟩ | ⟨b, cap, cur, hv, hgb, hb, hnc, hc, hs, ht⟩
  · subst hv
    have hL : L = [] := List.eq_nil_of_length_eq_zero hz
    refine (compactNil_any w).mono ?_
    rintro e w' ⟨rfl, rfl⟩
    exact ⟨_, L, gs, rfl, h, by rw [hL]; exact Srt.nil, fun _ => Iff.rfl, Below.refl _ _, fun _ _ h _ => h⟩
  · rcases h.rowV with ⟨hv0, _⟩ | ⟨b', cap', hv', _, _, _, hne', hcell'⟩
    · rw [hv] at hv0; simp at hv0
    have hbb : b' = b := by
      rw [hv] at hv'
      simp only [Value.slice.injEq, Option.some.injEq, Addr.mk.injEq] at hv'
      exact hv'.1.1.symm
    subst hbb
    obtain ⟨d, hd⟩ : ∃ d : Array OW, d = Array.ofFn (fun i : Fin L.length => some (L.getD i.1 [], gs.getD i.1 (0, 0))) := ⟨_, rfl⟩
    have hds : d.size = L.length := by rw [hd]; simp
    have hdg : ∀ i, i < L.length → d[i]! = some (L.getD i [], gs.getD i (0, 0)) := by
      intro i hi
      rw [getElem!_pos d i (by omega)]
      simp only [hd, Array.getElem_ofFn]
    have hH : Holds encW w b' 0 d := by
      intro j hj
      rw [Nat.zero_add]
      refine ⟨?_, by simp [World.frozen?, hb]⟩
      rw [hcell' j (by omega), hdg j (by omega)]
      rfl
    have hR : RowsO w b' d := fun j hj => ⟨L.getD j [], (gs.getD j (0, 0)).1, (gs.getD j (0, 0)).2, hdg j (by omega), (h.txt j (by omega)).2.1, h.byt j (by omega), fun e => hne' j (by omega) e.symm, (h.txt j (by omega)).2.2⟩
    have hcon := compact_any (cap := cap) hH hR (by omega) (by omega)
    rw [hds, ← hv] at hcon
    refine hcon.mono ?_
    rintro e w' ⟨rfl, q, dk, hw', hdk, hlow⟩
    have hw : ∀ i, i < L.length → wdO d[i]! = L.getD i [] := fun i hi => by rw [hdg i hi]; rfl
    have hsw : ∀ i j, i < j → j < L.length → ltW (wdO d[j]!) (wdO d[i]!) = false := by
      intro i j hij hj
      rw [hw i (by omega), hw j hj]
      rw [List.pairwise_iff_getElem] at hsrt
      have := hsrt i j (by omega) hj hij
      simpa [List.getD, hj, show i < L.length by omega] using this
    obtain ⟨hS, hM⟩ := cpW_srt (fun i hi => by rw [hw i hi]; exact h.byt i hi) hsw L.length (Nat.le_refl _)
    have hcl : (cpW d L.length).length ≤ L.length := cpW_le d _
    have hmem : ∀ i, i < (cpW d L.length).length → ∃ j, j < L.length ∧ (cpW d L.length).getD i none = some (L.getD j [], gs.getD j (0, 0)) := by
      intro i hi
      have : (cpW d L.length).getD i none ∈ cpW d L.length := by
        rw [List.getD_eq_getElem?_getD, List.getElem?_eq_getElem hi]; exact List.getElem_mem hi
      have := (cpW_sub d L.length).subset this
      obtain ⟨j, hj, e⟩ := List.mem_map.1 this
      have hj' : j < L.length := by simpa using hj
      exact ⟨j, hj', by rw [← e, hdg j hj']⟩
    have hwb : w'.heap[b']? = some (.cells (putCells encW 0 dk cur) 22 (0, 0)) := by
      rw [hw']; exact putRow_block encW w q b' dk hb
    have hoth : ∀ k, k ≠ b' → w'.heap[k]? = w.heap[k]? := fun k h1 => by rw [hw']; exact putRowW_other w q b' dk h1
    have hgetL : ∀ i, i < (cpW d L.length).length → ((cpW d L.length).map wdO).getD i [] = wdO ((cpW d L.length).getD i none) ∧ ((cpW d L.length).map blO).getD i (0, 0) = blO ((cpW d L.length).getD i none) := by
      intro i hi
      constructor <;> simp [List.getD, hi]
    refine ⟨_, (cpW d L.length).map wdO, (cpW d L.length).map blO, rfl, ?_, hS, ?_, ?_, fun k o hk hc => (hoth k (fun e => by subst e; rw [hb] at hk; cases hk; cases hc)).trans hk⟩
    · have := OwnW.of_row (base := base) (w := w') (b := b') (cap := cap) (cur := putCells encW 0 dk cur) (L := (cpW d L.length).map wdO) (gs := (cpW d L.length).map blO) (by simp) hgb hwb (by simp; omega) hc (by simp [putCells]; omega)
        (fun i hi => by
          have hi' : i < (cpW d L.length).length := by simpa using hi
          obtain ⟨j, hj, e⟩ := hmem i hi'
          rw [(hgetL i hi').1, (hgetL i hi').2, putCells_get encW dk cur (by omega) (by omega), hlow i hi', e]
          rfl)
        (fun i hi => by
          have hi' : i < (cpW d L.length).length := by simpa using hi
          obtain ⟨j, hj, e⟩ := hmem i hi'
          rw [(hgetL i hi').1, (hgetL i hi').2, e]
          exact ⟨(h.txt j hj).1, (h.txt j hj).2.1.of_block (hoth _ (fun e => hne' j hj e.symm)), (h.txt j hj).2.2⟩)
        (fun i hi => by
          have hi' : i < (cpW d L.length).length := by simpa using hi
          obtain ⟨j, hj, e⟩ := hmem i hi'
          rw [(hgetL i hi').1, e]
          exact h.byt j hj)
        (fun i j hij hj => by
          have hj' : j < (cpW d L.length).length := by simpa using hj
          rw [(hgetL i (by omega)).2, (hgetL j hj').2]
          have hnd : (((List.range L.length).map (d[·]!)).map (fun x => (blO x).1)).Nodup := by
            rw [List.Nodup, List.pairwise_iff_getElem]
            intro i j hi hj hij
            simp only [List.length_map, List.length_range] at hi hj
            simp only [List.getElem_map, List.getElem_range]
            rw [hdg i hi, hdg j hj]
            exact h.dist i j hij hj
          have hnd' : ((cpW d L.length).map (fun x => (blO x).1)).Nodup := ((cpW_sub d L.length).map _).nodup hnd
          rw [List.Nodup, List.pairwise_iff_getElem] at hnd'
          have := hnd' i j (by simp; omega) (by simp; omega) hij
          simp only [List.getElem_map] at this
          simpa [List.getD, hj', show i < (cpW d L.length).length by omega] using this)
      simpa using this
    · intro z
      rw [hM z]
      constructor
      · rintro ⟨i, hi, rfl⟩
        rw [hw i hi, List.getD_eq_getElem?_getD, List.getElem?_eq_getElem hi]; exact List.getElem_mem hi
      · intro hz
        obtain ⟨i, hi, rfl⟩ := List.mem_iff_getElem.1 hz
        exact ⟨i, hi, by rw [hw i hi]; simp [List.getD, hi]⟩
    · rw [hw']
      exact ⟨rfl, rfl, rfl, by simp [putRow, mapBlock, Sort.ahead], fun k hk => putRowW_other w q b' dk (by omega)⟩

end Go.Proofs.Ytedihcjhfkdkjaa
