/- A list of words that the call itself has made: its row, the rows of its words, each apart from the others; the laws' marks on it. -/
import Derived.Test.YtoeoddfhofcpcaaGreatKbVocM
import Derived.Test.YtoeoddfhofcpcaaGreatKbSpecM
namespace Go.Proofs.YtoeoddfhofcpcaaGreat
open Go.RowKit

def wv (z : List Int) (g : Nat × Nat) : Value := .slice (some ⟨g.1, 0, none⟩) z.length g.2

/-- A row of bytes, none of them frozen. -/
def RowG (w : World) (g cap : Nat) (zs : List Int) : Prop := (∃ c f, w.heap[g]? = some (.cells c 5 f) ∧ zs.length ≤ cap ∧ ∀ i, i < zs.length → c[i]? = some (.int .u8 (zs.getD i 0))) ∧ ∀ i, i < zs.length → w.frozen? ⟨g, i, none⟩ = false

theorem RowG.of_block {w w' : World} {g cap : Nat} {zs : List Int} (h : RowG w g cap zs) (e : w'.heap[g]? = w.heap[g]?) : RowG w' g cap zs := by
  obtain ⟨⟨c, f, hb, r⟩, hf⟩ := h
  exact ⟨⟨c, f, e.trans hb, r⟩, fun i hi => (World.frozen?_of_block (w := w) (a := ⟨g, i, none⟩) e).trans (hf i hi)⟩
theorem RowG.lt {w : World} {g cap : Nat} {zs : List Int} (h : RowG w g cap zs) : g < w.heap.size := by
  obtain ⟨⟨c, f, hb, _⟩, _⟩ := h
  exact (Array.getElem?_eq_some_iff.1 hb).1
theorem RowG.cell {w : World} {g cap : Nat} {zs : List Int} (h : RowG w g cap zs) {i : Nat} (hi : i < zs.length) : w.cell? ⟨g, i, none⟩ = some (.int .u8 (zs.getD i 0)) := by
  obtain ⟨⟨c, f, hb, _, hc⟩, _⟩ := h
  simp [World.cell?, hb, hc i hi]
theorem RowG.rd {lo hi : Nat} {w : World} {g cap : Nat} {zs : List Int} (h : RowG w g cap zs) (hby : Byt zs) (hn : cap ≤ 9223372036854775807) (h1 : lo ≤ g) (h2 : g < hi) : Rd lo hi w (some ⟨g, 0, none⟩) zs.length cap zs := by
  have hle : zs.length ≤ cap := by obtain ⟨⟨c, f, _, h, _⟩, _⟩ := h; exact h
  refine ⟨rfl, ⟨hle, hn⟩, hby, .inr ⟨g, 0, rfl, h1, h2, fun i hi => ?_⟩⟩
  rw [Nat.zero_add]
  exact RowG.cell h hi

/-- Each word in a block of its own. -/
structure OwnW (base : Nat) (w : World) (v : Value) (L : List (List Int)) (gs : List (Nat × Nat)) : Prop where
  len : gs.length = L.length
  row : w.ownsRow base 25 1 v L.length (List.zipWith wv L gs)
  txt : ∀ i, i < L.length → base ≤ (gs.getD i (0, 0)).1 ∧ RowG w (gs.getD i (0, 0)).1 (gs.getD i (0, 0)).2 (L.getD i []) ∧ (gs.getD i (0, 0)).2 ≤ 9223372036854775807
  byt : ∀ i, i < L.length → Byt (L.getD i [])
  dist : ∀ i j, i < j → j < L.length → (gs.getD i (0, 0)).1 ≠ (gs.getD j (0, 0)).1

theorem OwnW.nil (base : Nat) (w : World) : OwnW base w (.slice none 0 0) [] [] :=
  ⟨rfl, World.ownsRow_nil _ _ _ _, fun i hi => by simp at hi, fun i hi => by simp at hi, fun i j _ hj => by simp at hj⟩

theorem ownsW_blocks {w w' : World} {base e size n : Nat} {v : Value} {xs : List Value} (h : w.ownsRow base e size v n xs) (hs : ∀ g, base ≤ g → g < w.heap.size → w'.heap[g]? = w.heap[g]?) : w'.ownsRow base e size v n xs := by
  obtain ⟨h1, h2⟩ := h
  refine ⟨h1, ?_⟩
  rcases h2 with h2 | ⟨g, cap, cur, hv, hg, hh, r⟩
  · exact .inl h2
  · exact .inr ⟨g, cap, cur, hv, hg, by rw [hs g hg (Array.getElem?_eq_some_iff.1 hh).1]; exact hh, r⟩

theorem OwnW.same {base : Nat} {w w' : World} {v : Value} {L : List (List Int)} {gs : List (Nat × Nat)} (h : OwnW base w v L gs) (hs : ∀ g, base ≤ g → g < w.heap.size → w'.heap[g]? = w.heap[g]?) : OwnW base w' v L gs := by
  obtain ⟨h1, h2, h3, h4, h5⟩ := h
  exact ⟨h1, ownsW_blocks h2 hs, fun i hi => ⟨(h3 i hi).1, (h3 i hi).2.1.of_block (hs _ (h3 i hi).1 (h3 i hi).2.1.lt), (h3 i hi).2.2⟩, h4, h5⟩
theorem OwnW.below {base : Nat} {w w' : World} {v : Value} {L : List (List Int)} {gs : List (Nat × Nat)} (h : OwnW base w v L gs) (hb : Below w.heap.size w w') : OwnW base w' v L gs := h.same (fun g _ hg => hb.block g hg)

theorem OwnW.base {base base' : Nat} {w : World} {v : Value} {L : List (List Int)} {gs : List (Nat × Nat)} (h : OwnW base w v L gs) (hb : base' ≤ base) : OwnW base' w v L gs := by
  obtain ⟨h1, ⟨r1, r2⟩, h3, h4, h5⟩ := h
  refine ⟨h1, ⟨r1, ?_⟩, fun i hi => ⟨Nat.le_trans hb (h3 i hi).1, (h3 i hi).2⟩, h4, h5⟩
  rcases r2 with r2 | ⟨g, cap, cur, hv, hg, r⟩
  · exact .inl r2
  · exact .inr ⟨g, cap, cur, hv, Nat.le_trans hb hg, r⟩

theorem getDw_lt {α : Type} (l : List α) (x d : α) (i : Nat) (h : i < l.length) : (l ++ [x]).getD i d = l.getD i d := by rw [List.getD, List.getElem?_append_left h, List.getD]
theorem getDw_eq {α : Type} (l : List α) (x d : α) : (l ++ [x]).getD l.length d = x := by simp [List.getD]

/-- One word more. -/
theorem OwnW.snoc {base : Nat} {w w1 : World} {v v' : Value} {L : List (List Int)} {gs : List (Nat × Nat)} (h : OwnW base w v L gs) (z : List Int) (g : Nat × Nat)
    (ht : base ≤ g.1 ∧ RowG w g.1 g.2 z ∧ g.2 ≤ 9223372036854775807) (hby : Byt z) (hd : ∀ i, i < L.length → (gs.getD i (0, 0)).1 ≠ g.1)
    (hown : w1.ownsRow base 25 1 v' (L.length + 1) (List.zipWith wv L gs ++ [wv z g])) (hgrow : w.grownBy w1 v.ownBlock) : OwnW base w1 v' (L ++ [z]) (gs ++ [g]) := by
  obtain ⟨h1, h2, h3, h4, h5⟩ := h
  have keep : ∀ x c zs, RowG w x c zs → RowG w1 x c zs := by
    intro x c zs hr
    refine hr.of_block (hgrow.block x hr.lt (fun e => ?_))
    obtain ⟨⟨c', f', hc', _⟩, _⟩ := hr
    rcases h2.2 with ⟨rfl, _⟩ | ⟨g', cap, cur, rfl, _, hh, _⟩
    · simp [Value.ownBlock] at e
    · simp [Value.ownBlock] at e
      rw [e, hh] at hc'
      simp at hc'
  refine ⟨by simp [h1], ?_, ?_, ?_, ?_⟩
  · rw [List.zipWith_append h1.symm]; simpa using hown
  · intro i hi
    simp only [List.length_append, List.length_cons, List.length_nil] at hi
    by_cases e : i < L.length
    · rw [getDw_lt _ _ _ _ e, getDw_lt _ _ _ _ (by omega)]
      exact ⟨(h3 i e).1, keep _ _ _ (h3 i e).2.1, (h3 i e).2.2⟩
    · have e' : i = L.length := by omega
      subst e'
      rw [getDw_eq, ← h1, getDw_eq]
      exact ⟨ht.1, keep _ _ _ ht.2.1, ht.2.2⟩
  · intro i hi
    simp only [List.length_append, List.length_cons, List.length_nil] at hi
    by_cases e : i < L.length
    · rw [getDw_lt _ _ _ _ e]; exact h4 i e
    · have e' : i = L.length := by omega
      subst e'
      rw [getDw_eq]; exact hby
  · intro i j hij hj
    simp only [List.length_append, List.length_cons, List.length_nil] at hj
    rw [getDw_lt _ _ _ i (by omega)]
    by_cases e : j < L.length
    · rw [getDw_lt _ _ _ _ (by omega)]
      exact h5 i j hij e
    · have e' : j = L.length := by omega
      subst e'
      rw [← h1, getDw_eq]
      exact hd i (by omega)

theorem zip_get (L : List (List Int)) (gs : List (Nat × Nat)) (h : gs.length = L.length) (i : Nat) (hi : i < L.length) : (List.zipWith wv L gs)[i]? = some (wv (L.getD i []) (gs.getD i (0, 0))) := by
  have e1 : L[i]? = some (L.getD i []) := by simp [List.getD, hi]
  have e2 : gs[i]? = some (gs.getD i (0, 0)) := by simp [List.getD, show i < gs.length by omega]
  rw [List.getElem?_zipWith, e1, e2]

/-- The row's cells. -/
def RowV (w : World) (v : Value) (L : List (List Int)) (gs : List (Nat × Nat)) : Prop := (v = .slice none 0 0 ∧ L.length = 0) ∨ ∃ b cap, v = .slice (some ⟨b, 0, none⟩) L.length cap ∧ L.length ≤ cap ∧ cap ≤ 9223372036854775807 ∧ b < w.heap.size ∧ (∀ i, i < L.length → b ≠ (gs.getD i (0, 0)).1) ∧ ∀ i, i < L.length → w.cell? ⟨b, i, none⟩ = some (wv (L.getD i []) (gs.getD i (0, 0)))

theorem OwnW.rowV {base : Nat} {w : World} {v : Value} {L : List (List Int)} {gs : List (Nat × Nat)} (h : OwnW base w v L gs) : RowV w v L gs := by
  obtain ⟨h1, h2, h3, h4, h5⟩ := h
  rcases h2.2 with h0 | ⟨g, cap, cur, hv, hg, hb, hn, hc, hs, ht⟩
  · exact .inl h0
  · refine .inr ⟨g, cap, hv, hn, by unfold maxLen at hc; omega, (Array.getElem?_eq_some_iff.1 hb).1, fun i hi e => ?_, fun i hi => ?_⟩
    · obtain ⟨⟨c, f, hc', _⟩, _⟩ := (h3 i hi).2.1
      rw [← e, hb] at hc'
      simp at hc'
    · have e := zip_get L gs h1 i hi
      rw [← ht, List.getElem?_take_of_lt (by omega)] at e
      simp only [Array.getElem?_toList] at e
      simp [World.cell?, hb, e]

theorem OwnW.rss {base : Nat} {w : World} {v : Value} {L : List (List Int)} {gs : List (Nat × Nat)} (h : OwnW base w v L gs) : ∃ a cap, v = .slice a L.length cap ∧ RSS base w.heap.size w a L.length cap L := by
  obtain ⟨h1, h2, h3, h4, h5⟩ := h
  have hr : RW base base w.heap.size w v L := by
    refine ⟨_, h2, fun i hi => ?_⟩
    have e := zip_get L gs h1 i hi
    have e' : (List.zipWith wv L gs).getD i undef = wv (L.getD i []) (gs.getD i (0, 0)) := by simp only [List.getD, e, Option.getD_some]
    rw [e']
    exact ⟨_, _, _, rfl, (h3 i hi).2.1.rd (h4 i hi) (h3 i hi).2.2 (h3 i hi).1 (h3 i hi).2.1.lt⟩
  exact hr.slice (Nat.le_refl _) (Nat.le_refl _)

def leafW (L : List (List Int)) (gs : List (Nat × Nat)) : Nat → List (Addr × IntKind)
  | 0 => []
  | n + 1 => leafW L gs n ++ leafB (gs.getD n (0, 0)).1 0 (L.getD n []).length

theorem leafW_mem {L : List (List Int)} {gs : List (Nat × Nat)} {x : Addr × IntKind} : ∀ {n : Nat}, x ∈ leafW L gs n → ∃ i, i < n ∧ x ∈ leafB (gs.getD i (0, 0)).1 0 (L.getD i []).length
  | 0, h => by simp [leafW] at h
  | n + 1, h => by
    rw [leafW] at h
    rcases List.mem_append.1 h with h | h
    · obtain ⟨i, hi, hx⟩ := leafW_mem h; exact ⟨i, by omega, hx⟩
    · exact ⟨n, by omega, h⟩

theorem leafBw_mem {b off n : Nat} {x : Addr × IntKind} (h : x ∈ leafB b off n) : x.1.block = b := by
  unfold leafB at h
  obtain ⟨j, _, rfl⟩ := List.mem_map.1 h
  rfl

theorem OwnW.leafOne {base : Nat} {w : World} {v : Value} {L : List (List Int)} {gs : List (Nat × Nat)} (h : OwnW base w v L gs) {i : Nat} (hi : i < L.length) : LeafOk w (leafB (gs.getD i (0, 0)).1 0 (L.getD i []).length) := by
  intro x hx
  unfold leafB at hx
  obtain ⟨j, hj, rfl⟩ := List.mem_map.1 hx
  have hr := (h.txt i hi).2.1
  have hj' : j < (L.getD i []).length := by simpa using hj
  refine ⟨⟨(L.getD i []).getD j 0, ?_⟩, by show w.frozen? ⟨(gs.getD i (0, 0)).1, 0 + j, none⟩ = _; rw [Nat.zero_add]; exact hr.2 j hj'⟩
  show w.cell? ⟨(gs.getD i (0, 0)).1, 0 + j, none⟩ = _
  rw [Nat.zero_add]
  exact hr.cell hj'

theorem OwnW.leaf {base : Nat} {w : World} {v : Value} {L : List (List Int)} {gs : List (Nat × Nat)} (h : OwnW base w v L gs) {n : Nat} (hn : n ≤ L.length) : LeafOk w (leafW L gs n) := by
  intro x hx
  obtain ⟨i, hi, hx⟩ := leafW_mem hx
  exact h.leafOne (by omega) x hx

theorem OwnW.ge {base : Nat} {w : World} {v : Value} {L : List (List Int)} {gs : List (Nat × Nat)} (h : OwnW base w v L gs) {n : Nat} (hn : n ≤ L.length) : ∀ x ∈ leafW L gs n, base ≤ x.1.block ∧ x.1.block < w.heap.size := by
  intro x hx
  obtain ⟨i, hi, hx⟩ := leafW_mem hx
  rw [leafBw_mem hx]
  exact ⟨(h.txt i (by omega)).1, (h.txt i (by omega)).2.1.lt⟩

theorem leafW_nodup {L : List (List Int)} {gs : List (Nat × Nat)} (h : ∀ i j, i < j → j < L.length → (gs.getD i (0, 0)).1 ≠ (gs.getD j (0, 0)).1) : ∀ n, n ≤ L.length → ((leafW L gs n).map (·.1)).Nodup
  | 0, _ => by simp [leafW]
  | n + 1, hn => by
    rw [leafW, List.map_append, List.nodup_append]
    refine ⟨leafW_nodup h n (by omega), leafB_nodup _ _ _, fun a ha b hb e => ?_⟩
    obtain ⟨x, hx, rfl⟩ := List.mem_map.1 ha
    obtain ⟨y, hy, rfl⟩ := List.mem_map.1 hb
    obtain ⟨i, hi, hx⟩ := leafW_mem hx
    have e1 := leafBw_mem hx
    have e2 := leafBw_mem hy
    exact h i n hi (by omega) (by rw [← e1, ← e2, e])

theorem leafW_le {L : List (List Int)} {gs : List (Nat × Nat)} {M : Nat} (h : ∀ i, (L.getD i []).length ≤ M) : ∀ n, (leafW L gs n).length ≤ n * M
  | 0 => by simp [leafW]
  | n + 1 => by
    rw [leafW, List.length_append, leafB_length]
    have := leafW_le h n (gs := gs)
    have := h n
    rw [Nat.succ_mul]
    omega

set_option maxRecDepth 100000 in
set_option maxHeartbeats 2000000 in
theorem markSS_any {base : Nat} {w : World} {v : Value} {L : List (List Int)} {gs : List (Nat × Nat)} (h : OwnW base w v L gs) (hn : L.length ≤ 1000) (hz : ∀ i, (L.getD i []).length ≤ 1000) :
    Calls Tryz.prog 16 #[v, .int .i64 1] w fun e w' => e = .returned (.int .i64 (1 + ((leafW L gs L.length).length : Nat))) ∧ w' = marks w (leafW L gs L.length) 1 := by
  have HO : Hid (OwnW base w v L gs) := h
  have HZ : Hid (∀ i, (L.getD i []).length ≤ 1000) := hz
  have HLe : Hid (∀ n, (leafW L gs n).length ≤ n * 1000) := fun n => leafW_le hz n
  rcases h.rowV with ⟨rfl, h0⟩ | ⟨b, cap, rfl, hc1, hc2, hbl, hne, hcell⟩
  · have HE : Hid (leafW L gs L.length = []) := by unfold Hid; rw [h0]; rfl
    clear h hz
    go_enter Tryz.func16, Tryz.ntmps16
    go_wp2
    refine wp_loop_rounds 1 ?_
    rw [rounds_succ]
    go_wp2_with fail
    go_ret
    exact ⟨by rw [HE.out]; rfl, by rw [HE.out]; rfl⟩
  · obtain ⟨n, hnn⟩ : ∃ n, n = L.length := ⟨_, rfl⟩
    rw [← hnn] at hc1 hn ⊢
    have HNn : Hid (n = L.length) := hnn
    have HCell : Hid (∀ j, j < n → ∀ k, (marks w (leafW L gs j) k).cell? ⟨b, j, none⟩ = some (wv (L.getD j []) (gs.getD j (0, 0)))) := fun j hj k => by
      rw [cell_marks_other (fun x hx e => ?_)]
      · exact hcell j (by rw [← hnn]; exact hj)
      · obtain ⟨i, hi, hx⟩ := leafW_mem hx
        have := leafBw_mem hx
        rw [e] at this
        exact hne i (by omega) this
    clear h hz hcell hne hnn
    go_enter Tryz.func16, Tryz.ntmps16
    go_wp2_with fail
    go_loopw [1, 5] (fun k i wr => ∃ (j : Nat), j ≤ n ∧ i = .int .i64 j ∧ k = .int .i64 (1 + ((leafW L gs j).length : Nat)) ∧ wr = marks w (leafW L gs j) 1) (fun _ i _ => n - (intOf i).toNat)
    case atStart => exact ⟨0, Nat.zero_le _, rfl, rfl, rfl⟩
    case round =>
      obtain ⟨j, hj, rfl, rfl, hwr⟩ := hrel
      have HWr : Hid (wr = marks w (leafW L gs j) 1) := hwr
      have hle : (leafW L gs j).length ≤ 1000000 := by have := HLe.out j; omega
      obtain ⟨t, ht⟩ : ∃ t, t = (leafW L gs j).length := ⟨_, rfl⟩
      rw [← ht] at hle ⊢
      have HT : Hid (t = (leafW L gs j).length) := ht
      by_cases hlt : j < n
      · have hcj : wr.cell? ⟨b, j, none⟩ = some (.slice (some ⟨(gs.getD j (0, 0)).1, 0, none⟩) (L.getD j []).length (gs.getD j (0, 0)).2) := by rw [hwr]; exact HCell.out j hlt 1
        have hjl : j < L.length := by rw [← HNn.out]; exact hlt
        have HLk : Hid (LeafOk wr (leafB (gs.getD j (0, 0)).1 0 (L.getD j []).length)) := by unfold Hid; rw [hwr]; exact (LeafOk.marks (HO.out.leaf (Nat.le_of_lt hjl)) (HO.out.leafOne hjl) 1).1
        have HSt : Hid (leafW L gs (j + 1) = leafW L gs j ++ leafB (gs.getD j (0, 0)).1 0 (L.getD j []).length) := rfl
        have hzj := HZ.out j
        obtain ⟨g, hg⟩ : ∃ g, g = (gs.getD j (0, 0)).1 := ⟨_, rfl⟩
        obtain ⟨gc, hgc⟩ : ∃ g, g = (gs.getD j (0, 0)).2 := ⟨_, rfl⟩
        obtain ⟨zl, hzl⟩ : ∃ l, l = (L.getD j []).length := ⟨_, rfl⟩
        rw [← hg, ← hgc, ← hzl] at hcj
        rw [← hg, ← hzl] at HLk HSt
        rw [← hzl] at hzj
        have hji : (j : Int) < (n : Int) := by omega
        have HM : Hid (marks w (leafW L gs (j + 1)) 1 = marks wr (leafB g 0 zl) (1 + (t : Nat)) ∧ (leafW L gs (j + 1)).length = t + zl) := by
          unfold Hid
          rw [HSt.out, marks_append, ← HWr.out, ← HT.out, List.length_append, leafB_length, ← HT.out]
          exact ⟨rfl, rfl⟩
        clear hwr ht hg hgc hzl
        go_wp2_with fail
        refine (markByteS_any _ zl gc (1 + (t : Nat)) wr g 0 (.inr rfl) HLk.out (by omega) (by omega)).mono ?_
        rintro e w1 ⟨rfl, hw1⟩
        have HW1 : Hid (w1 = marks w (leafW L gs (j + 1)) 1) := by unfold Hid; rw [HM.out.1]; exact hw1
        clear hw1
        go_wp2_with fail
        go_roundw
        case rel => exact ⟨j + 1, by omega, by go_num, by rw [HM.out.2]; congr 1; push_cast; omega, HW1.out⟩
        case measure => simp [intOf]; omega
      · have hjn : j = n := by omega
        subst hjn
        clear hwr ht
        go_wp2_with fail
        go_ret
        exact ⟨ri (by rw [HT.out]), HWr.out⟩

set_option maxRecDepth 100000 in
set_option maxHeartbeats 2000000 in
theorem heldSS_any {w : World} {v : Value} {L : List (List Int)} {gs : List (Nat × Nat)} (h : RowV w v L gs) (hH : Held w (leafW L gs L.length) 1) (hn : L.length ≤ 1000) (hz : ∀ i, (L.getD i []).length ≤ 1000) :
    Calls Tryz.prog 17 #[v, .int .i64 1] w fun e w' => e = .returned (.int .i64 (1 + ((leafW L gs L.length).length : Nat))) ∧ w' = w := by
  have HZ : Hid (∀ i, (L.getD i []).length ≤ 1000) := hz
  have HLe : Hid (∀ n, (leafW L gs n).length ≤ n * 1000) := fun n => leafW_le hz n
  have HH : Hid (Held w (leafW L gs L.length) 1) := hH
  rcases h with ⟨rfl, h0⟩ | ⟨b, cap, rfl, hc1, hc2, hbl, hne, hcell⟩
  · have HE : Hid (leafW L gs L.length = []) := by unfold Hid; rw [h0]; rfl
    clear hH hz
    go_enter Tryz.func17, Tryz.ntmps17
    go_wp2
    refine wp_loop_rounds 1 ?_
    rw [rounds_succ]
    go_wp2_with fail
    go_ret
    exact ⟨by rw [HE.out]; rfl, rfl⟩
  · obtain ⟨n, hnn⟩ : ∃ n, n = L.length := ⟨_, rfl⟩
    rw [← hnn] at hc1 hn hcell hne HH ⊢
    have HHj : Hid (∀ j, j < n → Held w (leafB (gs.getD j (0, 0)).1 0 (L.getD j []).length) (1 + ((leafW L gs j).length : Nat))) := by
      have key : ∀ m, m ≤ n → Held w (leafW L gs m) 1 := by
        have : ∀ d m, n = m + d → Held w (leafW L gs m) 1 := by
          intro d
          induction d with
          | zero => intro m e; rw [← show n = m by omega]; exact HH.out
          | succ d ih => intro m e; have := ih (m + 1) (by omega); rw [leafW] at this; exact (held_append.1 this).1
        intro m hm
        exact this (n - m) m (by omega)
      intro j hj
      have := key (j + 1) hj
      rw [leafW] at this
      exact (held_append.1 this).2
    have HCell : Hid (∀ j, j < n → w.cell? ⟨b, j, none⟩ = some (wv (L.getD j []) (gs.getD j (0, 0)))) := hcell
    clear hH hz hcell hne hnn
    go_enter Tryz.func17, Tryz.ntmps17
    go_wp2_with fail
    go_loopw [1, 5] (fun k i wr => ∃ (j : Nat), j ≤ n ∧ i = .int .i64 j ∧ k = .int .i64 (1 + ((leafW L gs j).length : Nat)) ∧ wr = w) (fun _ i _ => n - (intOf i).toNat)
    case atStart => exact ⟨0, Nat.zero_le _, rfl, rfl, rfl⟩
    case round =>
      obtain ⟨j, hj, rfl, rfl, rfl⟩ := hrel
      have hle : (leafW L gs j).length ≤ 1000000 := by have := HLe.out j; omega
      obtain ⟨t, ht⟩ : ∃ t, t = (leafW L gs j).length := ⟨_, rfl⟩
      rw [← ht] at hle ⊢
      have HT : Hid (t = (leafW L gs j).length) := ht
      by_cases hlt : j < n
      · have hcj : wr.cell? ⟨b, j, none⟩ = some (.slice (some ⟨(gs.getD j (0, 0)).1, 0, none⟩) (L.getD j []).length (gs.getD j (0, 0)).2) := HCell.out j hlt
        have hhj := HHj.out j hlt
        have HSt : Hid ((leafW L gs (j + 1)).length = t + (L.getD j []).length) := by unfold Hid; rw [leafW, List.length_append, leafB_length, ← ht]
        have hzj := HZ.out j
        rw [← ht] at hhj
        obtain ⟨g, hg⟩ : ∃ g, g = (gs.getD j (0, 0)).1 := ⟨_, rfl⟩
        obtain ⟨gc, hgc⟩ : ∃ g, g = (gs.getD j (0, 0)).2 := ⟨_, rfl⟩
        obtain ⟨zl, hzl⟩ : ∃ l, l = (L.getD j []).length := ⟨_, rfl⟩
        rw [← hg, ← hgc, ← hzl] at hcj
        rw [← hg, ← hzl] at hhj
        rw [← hzl] at hzj HSt
        have HHe : Hid (Held wr (leafB g 0 zl) (1 + (t : Nat))) := hhj
        have hji : (j : Int) < (n : Int) := by omega
        clear ht hg hgc hzl hhj
        go_wp2_with fail
        refine (heldByteS_any _ zl gc (1 + (t : Nat)) wr g 0 (.inr rfl) (held_leafB HHe.out) (by omega) (by omega)).mono ?_
        rintro e w1 ⟨rfl, hw1⟩
        rw [hw1]
        clear hw1
        have hnn : ¬ (1 + (t : Int) + (zl : Int) < 0) := by omega
        go_wp2_with fail
        go_roundw
        case rel => exact ⟨j + 1, by omega, by go_num, by rw [HSt.out]; congr 1; push_cast; omega, trivial⟩
        case measure => simp [intOf]; omega
      · have hjn : j = n := by omega
        subst hjn
        clear ht
        go_wp2_with fail
        go_ret
        exact ⟨ri (by rw [HT.out]), rfl⟩

end Go.Proofs.YtoeoddfhofcpcaaGreat
