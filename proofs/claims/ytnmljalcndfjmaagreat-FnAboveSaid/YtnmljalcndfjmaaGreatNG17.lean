/- Several texts in one: WFin, KbAsc, KbAsc2. -/
import Derived.Test.YtnmljalcndfjmaaGreatKbVocM
import Derived.Test.YtnmljalcndfjmaaGreatKbSpecM
import Derived.Test.YtnmljalcndfjmaaGreatKbAddM
import Derived.Test.YtnmljalcndfjmaaGreatIter
import Derived.Lib.ConvBytes
import Derived.Sort.KeysCollected
import Derived.Sort.Walk0
namespace Go.Proofs.YtnmljalcndfjmaaGreat

section
open Go.RowKit

def wv (z : List Int) (g : Nat × Nat) : Value := .slice (some ⟨g.1, 0, none⟩) z.length g.2

/-- A row of bytes, none of them frozen. -/
def RowG (w : World) (g cap : Nat) (zs : List Int) : Prop := (∃ c f, w.heap[g]? = some (.cells c 5 f) ∧ zs.length ≤ cap ∧ ∀ i, i < zs.length → c[i]? = some (.int .u8 (zs.getD i 0))) ∧ ∀ i, i < zs.length → w.frozen? ⟨g, i, none⟩ = false

theorem RowG.of_block {w w' : World} {g cap : Nat} {zs : List Int} (h : RowG w g cap zs) (e : w'.heap[g]? = w.heap[g]?) : RowG w' g cap zs := by
  obtain ⟨⟨c, f, hb, r⟩, hf⟩ := h
  exact ⟨⟨c, f, e.trans hb, r⟩, fun i hi => (World.frozen?_of_block (w := w) (a := ⟨g, i, none⟩) e).trans (hf i hi)⟩
theorem RowG.lt {w : World} {g cap : Nat} {zs : List Int} (h : RowG w g cap zs) : g < w.heap.size := by
  obtain ⟨⟨c, f, hb, _⟩, _⟩ := h
  exact (Array.getElem?_eq_some_iff.1 hb).1
theorem RowG.cell {w : World} {g cap : Nat} {zs : List Int} (h : RowG w g cap zs) {i : Nat} (hi : i < zs.length) : w.cell? ⟨g, i, none⟩ = some (.int .u8 (zs.getD i 0)) := by
  obtain ⟨⟨c, f, hb, _, hc⟩, _⟩ := h
  simp [World.cell?, hb, hc i hi]
theorem RowG.rd {lo hi : Nat} {w : World} {g cap : Nat} {zs : List Int} (h : RowG w g cap zs) (hby : Byt zs) (hn : cap ≤ 9223372036854775807) (h1 : lo ≤ g) (h2 : g < hi) : Rd lo hi w (some ⟨g, 0, none⟩) zs.length cap zs := by
  have hle : zs.length ≤ cap := by obtain ⟨⟨c, f, _, h, _⟩, _⟩ := h; exact h
  refine ⟨rfl, ⟨hle, hn⟩, hby, .inr ⟨g, 0, rfl, h1, h2, fun i hi => ?_⟩⟩
  rw [Nat.zero_add]
  exact RowG.cell h hi

/-- Each word in a block of its own. -/
structure OwnW (base : Nat) (w : World) (v : Value) (L : List (List Int)) (gs : List (Nat × Nat)) : Prop where
  len : gs.length = L.length
  row : w.ownsRow base 22 1 v L.length (List.zipWith wv L gs)
  txt : ∀ i, i < L.length → base ≤ (gs.getD i (0, 0)).1 ∧ RowG w (gs.getD i (0, 0)).1 (gs.getD i (0, 0)).2 (L.getD i []) ∧ (gs.getD i (0, 0)).2 ≤ 9223372036854775807
  byt : ∀ i, i < L.length → Byt (L.getD i [])
  dist : ∀ i j, i < j → j < L.length → (gs.getD i (0, 0)).1 ≠ (gs.getD j (0, 0)).1

theorem OwnW.nil (base : Nat) (w : World) : OwnW base w (.slice none 0 0) [] [] :=
  ⟨rfl, World.ownsRow_nil _ _ _ _, fun i hi => by simp at hi, fun i hi => by simp at hi, fun i j _ hj => by simp at hj⟩

theorem ownsW_blocks {w w' : World} {base e size n : Nat} {v : Value} {xs : List Value} (h : w.ownsRow base e size v n xs) (hs : ∀ g, base ≤ g → g < w.heap.size → w'.heap[g]? = w.heap[g]?) : w'.ownsRow base e size v n xs := by
  obtain ⟨h1, h2⟩ := h
  refine ⟨h1, ?_⟩
  rcases h2 with h2 | ⟨g, cap, cur, hv, hg, hh, r⟩
  · exact .inl h2
  · exact .inr ⟨g, cap, cur, hv, hg, by rw [hs g hg (Array.getElem?_eq_some_iff.1 hh).1]; exact hh, r⟩

theorem OwnW.same {base : Nat} {w w' : World} {v : Value} {L : List (List Int)} {gs : List (Nat × Nat)} (h : OwnW base w v L gs) (hs : ∀ g, base ≤ g → g < w.heap.size → w'.heap[g]? = w.heap[g]?) : OwnW base w' v L gs := by
  obtain ⟨h1, h2, h3, h4, h5⟩ := h
  exact ⟨h1, ownsW_blocks h2 hs, fun i hi => ⟨(h3 i hi).1, (h3 i hi).2.1.of_block (hs _ (h3 i hi).1 (h3 i hi).2.1.lt), (h3 i hi).2.2⟩, h4, h5⟩
theorem OwnW.below {base : Nat} {w w' : World} {v : Value} {L : List (List Int)} {gs : List (Nat × Nat)} (h : OwnW base w v L gs) (hb : Below w.heap.size w w') : OwnW base w' v L gs := h.same (fun g _ hg => hb.block g hg)

theorem OwnW.base {base base' : Nat} {w : World} {v : Value} {L : List (List Int)} {gs : List (Nat × Nat)} (h : OwnW base w v L gs) (hb : base' ≤ base) : OwnW base' w v L gs := by
  obtain ⟨h1, ⟨r1, r2⟩, h3, h4, h5⟩ := h
  refine ⟨h1, ⟨r1, ?_⟩, fun i hi => ⟨Nat.le_trans hb (h3 i hi).1, (h3 i hi).2⟩, h4, h5⟩
  rcases r2 with r2 | ⟨g, cap, cur, hv, hg, r⟩
  · exact .inl r2
  · exact .inr ⟨g, cap, cur, hv, Nat.le_trans hb hg, r⟩

theorem getDw_lt {α : Type} (l : List α) (x d : α) (i : Nat) (h : i < l.length) : (l ++ [x]).getD i d = l.getD i d := by rw [List.getD, List.getElem?_append_left h, List.getD]
theorem getDw_eq {α : Type} (l : List α) (x d : α) : (l ++ [x]).getD l.length d = x := by simp [List.getD]

/-- One word more. -/
theorem OwnW.snoc {base : Nat} {w w1 : World} {v v' : Value} {L : List (List Int)} {gs : List (Nat × Nat)} (h : OwnW base w v L gs) (z : List Int) (g : Nat × Nat)
    (ht : base ≤ g.1 ∧ RowG w g.1 g.2 z ∧ g.2 ≤ 9223372036854775807) (hby : Byt z) (hd : ∀ i, i < L.length → (gs.getD i (0, 0)).1 ≠ g.1)
    (hown : w1.ownsRow base 22 1 v' (L.length + 1) (List.zipWith wv L gs ++ [wv z g])) (hgrow : w.grownBy w1 v.ownBlock) : OwnW base w1 v' (L ++ [z]) (gs ++ [g]) := by
  obtain ⟨h1, h2, h3, h4, h5⟩ := h
  have keep : ∀ x c zs, RowG w x c zs → RowG w1 x c zs := by
    intro x c zs hr
    refine hr.of_block (hgrow.block x hr.lt (fun e => ?_))
    obtain ⟨⟨c', f', hc', _⟩, _⟩ := hr
    rcases h2.2 with ⟨rfl, _⟩ | ⟨g', cap, cur, rfl, _, hh, _⟩
    · simp [Value.ownBlock] at e
    · simp [Value.ownBlock] at e
      rw [e, hh] at hc'
      simp at hc'
  refine ⟨by simp [h1], ?_, ?_, ?_, ?_⟩
  · rw [List.zipWith_append h1.symm]; simpa using hown
  · intro i hi
    simp only [List.length_append, List.length_cons, List.length_nil] at hi
    by_cases e : i < L.length
    · rw [getDw_lt _ _ _ _ e, getDw_lt _ _ _ _ (by omega)]
      exact ⟨(h3 i e).1, keep _ _ _ (h3 i e).2.1, (h3 i e).2.2⟩
    · have e' : i = L.length := by omega
      subst e'
      rw [getDw_eq, ← h1, getDw_eq]
      exact ⟨ht.1, keep _ _ _ ht.2.1, ht.2.2⟩
  · intro i hi
    simp only [List.length_append, List.length_cons, List.length_nil] at hi
    by_cases e : i < L.length
    · rw [getDw_lt _ _ _ _ e]; exact h4 i e
    · have e' : i = L.length := by omega
      subst e'
      rw [getDw_eq]; exact hby
  · intro i j hij hj
    simp only [List.length_append, List.length_cons, List.length_nil] at hj
    rw [getDw_lt _ _ _ i (by omega)]
    by_cases e : j < L.length
    · rw [getDw_lt _ _ _ _ (by omega)]
      exact h5 i j hij e
    · have e' : j = L.length := by omega
      subst e'
      rw [← h1, getDw_eq]
      exact hd i (by omega)

def leafW (L : List (List Int)) (gs : List (Nat × Nat)) : Nat → List (Addr × IntKind)
  | 0 => []
  | n + 1 => leafW L gs n ++ leafB (gs.getD n (0, 0)).1 0 (L.getD n []).length

theorem leafW_mem {L : List (List Int)} {gs : List (Nat × Nat)} {x : Addr × IntKind} : ∀ {n : Nat}, x ∈ leafW L gs n → ∃ i, i < n ∧ x ∈ leafB (gs.getD i (0, 0)).1 0 (L.getD i []).length
  | 0, h => by simp [leafW] at h
  | n + 1, h => by
    rw [leafW] at h
    rcases List.mem_append.1 h with h | h
    · obtain ⟨i, hi, hx⟩ := leafW_mem h; exact ⟨i, by omega, hx⟩
    · exact ⟨n, by omega, h⟩

theorem leafBw_mem {b off n : Nat} {x : Addr × IntKind} (h : x ∈ leafB b off n) : x.1.block = b := by
  unfold leafB at h
  obtain ⟨j, _, rfl⟩ := List.mem_map.1 h
  rfl

theorem OwnW.leafOne {base : Nat} {w : World} {v : Value} {L : List (List Int)} {gs : List (Nat × Nat)} (h : OwnW base w v L gs) {i : Nat} (hi : i < L.length) : LeafOk w (leafB (gs.getD i (0, 0)).1 0 (L.getD i []).length) := by
  intro x hx
  unfold leafB at hx
  obtain ⟨j, hj, rfl⟩ := List.mem_map.1 hx
  have hr := (h.txt i hi).2.1
  have hj' : j < (L.getD i []).length := by simpa using hj
  refine ⟨⟨(L.getD i []).getD j 0, ?_⟩, by show w.frozen? ⟨(gs.getD i (0, 0)).1, 0 + j, none⟩ = _; rw [Nat.zero_add]; exact hr.2 j hj'⟩
  show w.cell? ⟨(gs.getD i (0, 0)).1, 0 + j, none⟩ = _
  rw [Nat.zero_add]
  exact hr.cell hj'

theorem OwnW.leaf {base : Nat} {w : World} {v : Value} {L : List (List Int)} {gs : List (Nat × Nat)} (h : OwnW base w v L gs) {n : Nat} (hn : n ≤ L.length) : LeafOk w (leafW L gs n) := by
  intro x hx
  obtain ⟨i, hi, hx⟩ := leafW_mem hx
  exact h.leafOne (by omega) x hx

theorem OwnW.ge {base : Nat} {w : World} {v : Value} {L : List (List Int)} {gs : List (Nat × Nat)} (h : OwnW base w v L gs) {n : Nat} (hn : n ≤ L.length) : ∀ x ∈ leafW L gs n, base ≤ x.1.block ∧ x.1.block < w.heap.size := by
  intro x hx
  obtain ⟨i, hi, hx⟩ := leafW_mem hx
  rw [leafBw_mem hx]
  exact ⟨(h.txt i (by omega)).1, (h.txt i (by omega)).2.1.lt⟩
end

section
open Go.RowKit Go.Maps Go.Sort Go.Shelf

/-- A word's bytes. -/
def bz (zs : List Int) : List UInt8 := zs.map fun n => UInt8.ofNat n.toNat

theorem bz_inj {xs ys : List Int} (hx : Byt xs) (hy : Byt ys) (h : bz xs = bz ys) : xs = ys := by
  refine litW_inj hx hy ?_
  unfold litW
  rw [strOfNums_data, strOfNums_data]
  exact congrArg Lit.string h

theorem ltW_bz (xs ys : List Int) : ltW xs ys = decide (bz xs < bz ys) := by
  unfold ltW
  rw [bytesLess_eq, ByteArray.toList_eq, ByteArray.toList_eq]
  rfl

theorem wset_sorted {w : World} {b : Nat} {L : List (List Int)} {D : DataW Unit} {n : Nat} (hown : w.ownsMap Tryz.prog 9 unitElem b n D) (hhas : ∀ kl, has D kl = true ↔ ∃ z ∈ L, kl = litW z) (hg : GoodV L) {ss : List (List UInt8)} (hp : ss.Perm (strKeys D)) :
    ss.mergeSort (fun x y => decide (x ≤ y)) = L.map bz ∧ ss.length = L.length := by
  have hT := hown.tidy lawStr
  obtain ⟨es, hD, hk⟩ := hown.keysOf
  obtain ⟨es', hD', hpw⟩ := hT
  rw [hD] at hD'
  cases hD'
  have hnd : (L.map bz).Nodup := by
    refine List.pairwise_map.2 (hg.srt.imp_of_mem fun {x y} hx hy hlt e => ?_)
    have := bz_inj (hg.byt x hx) (hg.byt y hy) e
    subst this
    rw [ltW_self] at hlt
    cases hlt
  have hmem : ∀ x, x ∈ L.map bz ↔ has (.map es) (.string x) = true := by
    intro x
    rw [← hD, hhas, List.mem_map]
    constructor
    · rintro ⟨z, hz, rfl⟩; exact ⟨z, hz, rfl⟩
    · rintro ⟨z, hz, e⟩; exact ⟨z, hz, (Lit.string.inj e).symm⟩
  have hkk : ∀ p ∈ es, ∃ x, p.1 = .string x := by
    intro p hp
    have h1 := (hhas p.1).1 (by rw [hD]; show es.any (fun q => q.1.sameKey p.1) = true; rw [List.any_eq_true]; refine ⟨p, hp, ?_⟩; obtain ⟨v, hv⟩ := hk p hp; obtain ⟨x, _, hx, _⟩ := Maps.keyOf_str Tryz.undStr hv; rw [hx]; simp [Lit.sameKey])
    obtain ⟨z, _, e⟩ := h1
    exact ⟨_, e⟩
  have hperm := perm_strKeys hpw hkk hnd hmem
  rw [hD] at hp
  have hp2 := hp.trans hperm.symm
  refine ⟨?_, by rw [hp2.length_eq, List.length_map]⟩
  have e := mergeSort_of_perm hp2
  rw [show ss.mergeSort (fun x y => decide (x ≤ y)) = ss.mergeSort leB from rfl, e]
  refine List.mergeSort_of_pairwise (List.pairwise_map.2 (hg.srt.imp fun {x y} hlt => ?_))
  rw [ltW_bz] at hlt
  simp only [leB, decide_eq_true_eq] at *
  exact List.le_of_lt hlt

set_option maxRecDepth 100000 in
set_option maxHeartbeats 1000000 in
theorem ascending_any {b : Nat} {L : List (List Int)} {w : World} (h : WSet w b L) (hl : L.length ≤ 1048576) :
    Calls Tryz.prog 108 #[.map (some b)] w fun e w' => ∃ v, e = .returned v ∧ w'.ownsRow w.heap.size 9 1 v L.length (L.map fun z => .string (strOfNums z)) ∧ Below w.heap.size w w' := by
  obtain ⟨D, hown, hhas, hsz, hgood⟩ := h
  have HS : Hid (∀ ss : List (List UInt8), ss.Perm (strKeys D) → ss.mergeSort (fun x y => decide (x ≤ y)) = L.map bz ∧ ss.length = L.length) := fun ss hp => wset_sorted hown hhas hgood hp
  have hmax : Maps.size D ≤ maxLen := by rw [hsz]; unfold maxLen; omega
  have hbytes : Maps.size D * 16 ≤ 140737488355328 := by rw [hsz]; omega
  refine (callsIn_wide (n := 6)).1 ?_
  have hfK : Fence.wide.fn 147 := trivial
  have hfS : Fence.wide.fn 146 := trivial
  refine callsIn_of_wp Tryz.func108 rfl trivial ?_ rfl
  simp only [Tryz.ntmps108, List.size_toArray, List.length_cons, List.length_nil, Nat.reduceAdd, Nat.reduceSub, Array.replicate_succ, Array.replicate_zero, List.push_toArray, List.append_toArray, List.nil_append, List.cons_append]
  gi_wp2_with (first
    | (gi_at_call 147; refine (setKeys_in _ _).mono ?_; rintro e w' ⟨rfl, rfl⟩)
    | (gi_at_call 146; refine (setSorted_in b L.length D unitElem w hown hmax hbytes).mono ?_; rintro e w' ⟨v, ss, rfl, hS, hrow, hnil, hb⟩))
  go_ret
  obtain ⟨e1, e2⟩ := HS.out ss hS
  rw [e1, e2, List.map_map] at hrow
  refine ⟨v, rfl, ownsRow_base_a hrow (by simp), ((Below.refl _ w).alloc (Nat.le_refl _) _).trans (hb.mono (by simp))⟩
end

section
open Go.RowKit Go.Maps Go.Shelf

theorem bytes_rowG (w : World) (zs : List Int) (hz : Byt zs) : RowG (Lib.bytesWorld w 5 (strOfNums zs)) w.heap.size (grownCap w zs.length 0 5) zs := by
  have hsz : (strOfNums zs).size = zs.length := strOfNums_size zs
  have hnew := Lib.bytesWorld_at_new w 5 (strOfNums zs)
  have hcs : (Lib.bytesCells w 5 (strOfNums zs)).size = zs.length + (grownCap w zs.length 0 5 - zs.length) := by
    unfold Lib.bytesCells
    rw [hsz, Array.size_append, Array.size_map, Array.size_replicate]
    congr 1
  refine ⟨⟨_, _, hnew, ?_, fun i hi => ?_⟩, fun i hi => ?_⟩
  · exact grownCap_ge w zs.length 0 5
  · have hc := Lib.bytesWorld_cell w 5 (strOfNums zs) i (by rw [hsz]; exact hi)
    simp only [World.cell?, hnew, Option.isSome_none, Bool.false_eq_true, if_false] at hc
    rw [hc]
    congr 2
    have hb := hz i
    have e : (strOfNums zs).data.toList.getD i 0 = UInt8.ofNat (zs.getD i 0).toNat := by
      rw [strOfNums_data]
      simp [List.getD, hi]
    rw [e]
    simp only [UInt8.toNat_ofNat']
    omega
  · simp only [World.frozen?, hnew]
    simp
    rw [hcs]
    omega

theorem bytesK_below (w : World) (s : ByteArray) : Below w.heap.size w (Lib.bytesWorld w 5 s) := by
  refine ⟨rfl, rfl, rfl, by rw [Lib.bytesWorld_size]; omega, fun k hk => Lib.bytesWorld_at_old w 5 s k hk⟩

set_option maxRecDepth 100000 in
set_option maxHeartbeats 2000000 in
theorem ascTexts_any {b : Nat} {L : List (List Int)} {w : World} (h : WSet w b L) (hl : L.length ≤ 1000) (hz : ∀ i, (L.getD i []).length ≤ 1000) :
    Calls Tryz.prog 51 #[.map (some b)] w fun e w' => ∃ v gs, e = .returned v ∧ OwnW w.heap.size w' v L gs ∧ Below w.heap.size w w' := by
  have HW : Hid (WSet w b L) := h
  have HG : Hid (GoodV L) := h.good
  have HZ : Hid (∀ i, (L.getD i []).length ≤ 1000) := hz
  obtain ⟨i0, hi0, hz0, hz1, hz2⟩ := info_parts Tryz.infoBS
  have und9 : Tryz.prog.underlying 9 = some .string := Tryz.undStr
  clear h hz
  go_enter Tryz.func51, Tryz.ntmps51
  go_wp2_with fail
  refine (ascending_any HW.out (by omega)).mono ?_
  rintro e w1 ⟨sv, rfl, hrow, hb1⟩
  obtain ⟨n, hn⟩ : ∃ n, n = L.length := ⟨_, rfl⟩
  have HN : Hid (n = L.length) := hn
  obtain ⟨sa, scap, rfl, hsc, hcell⟩ : ∃ sa scap, sv = .slice sa n scap ∧ (n ≤ scap ∧ scap ≤ 9223372036854775807) ∧ (n = 0 ∨ ∃ sb, sa = some ⟨sb, 0, none⟩ ∧ sb < w1.heap.size ∧ ∀ i, i < n → w1.cell? ⟨sb, i, none⟩ = some (.string (strOfNums (L.getD i [])))) := by
    rcases hrow.2 with ⟨rfl, h0⟩ | ⟨g, cap, cur, rfl, hg, hb, hn', hc, hs, ht⟩
    · exact ⟨none, 0, by rw [hn, h0], by omega, .inl (by omega)⟩
    · refine ⟨_, _, by rw [hn], by unfold maxLen at hc; omega, .inr ⟨g, rfl, (Array.getElem?_eq_some_iff.1 hb).1, fun i hi => ?_⟩⟩
      have e : (L.map fun z => Value.string (strOfNums z))[i]? = some (.string (strOfNums (L.getD i []))) := by
        have : i < L.length := by omega
        simp [List.getD, this]
      rw [← ht, List.getElem?_take_of_lt (by omega)] at e
      simp only [Array.getElem?_toList] at e
      simp [World.cell?, hb, e]
  have HC : Hid (n = 0 ∨ ∃ sb, sa = some ⟨sb, 0, none⟩ ∧ sb < w1.heap.size ∧ ∀ i, i < n → w1.cell? ⟨sb, i, none⟩ = some (.string (strOfNums (L.getD i [])))) := hcell
  have HB1 : Hid (Below w.heap.size w w1) := hb1
  have hn1 : n ≤ 1000 := by omega
  clear hrow hb1 hcell hn
  go_wp2_with fail
  go_loopw [3, 9] (fun u i wr => ∃ (j : Nat) (ov : Value) (gs : List (Nat × Nat)), j ≤ n ∧ i = .int .i64 j ∧ ov = u ∧ OwnW w1.heap.size wr ov (L.take j) gs ∧ Below w1.heap.size w1 wr) (fun _ i _ => n - (intOf i).toNat)
  case atStart => exact ⟨0, _, [], Nat.zero_le _, rfl, rfl, OwnW.nil _ _, Below.refl _ _⟩
  case round =>
    obtain ⟨j, ov, gs, hj, rfl, rfl, hO, hbel⟩ := hrel
    have HO : Hid (OwnW w1.heap.size wr ov (L.take j) gs) := hO
    have HB : Hid (Below w1.heap.size w1 wr) := hbel
    have hs1 := hbel.size
    by_cases hlt : j < n
    · rcases HC.out with hz | ⟨sb, e1, hsb, hc⟩
      · omega
      · subst e1
        have hjl : j < L.length := by rw [← HN.out]; exact hlt
        have c0 : wr.cell? ⟨sb, j, none⟩ = some (.string (strOfNums (L.getD j []))) := (hbel.cell (p := ⟨sb, j, none⟩) hsb).trans (hc j hlt)
        have hcv := Lib.run_convert_string_bytes (P := Tryz.prog) wr 9 22 5 (strOfNums (L.getD j [])) und9 Tryz.underlying22 Tryz.underlying5
        rw [strOfNums_size] at hcv
        have hby : Byt (L.getD j []) := HG.out.byt _ (by rw [List.getD_eq_getElem?_getD, List.getElem?_eq_getElem hjl]; exact List.getElem_mem hjl)
        have hrg := bytes_rowG wr (L.getD j []) hby
        have hbb := bytesK_below wr (strOfNums (L.getD j []))
        have hzj := HZ.out j
        have HT : Hid (L.take (j + 1) = L.take j ++ [L.getD j []]) := take_succ_getD L [] j hjl
        have HJ : Hid ((L.take j).length = j) := by unfold Hid; rw [List.length_take]; omega
        obtain ⟨z, hzz⟩ : ∃ z, z = L.getD j [] := ⟨_, rfl⟩
        rw [← hzz] at c0 hcv hby hrg hbb hzj HT
        obtain ⟨gc, hgc⟩ : ∃ gc, gc = grownCap wr z.length 0 5 := ⟨_, rfl⟩
        have hgm : gc ≤ 9223372036854775807 := by rw [hgc]; have := grownCap_le_maxLen wr z.length 0 5 (by unfold maxLen; omega); unfold maxLen at this; omega
        rw [← hgc] at hcv hrg
        obtain ⟨W2, hW2⟩ : ∃ W2, W2 = Lib.bytesWorld wr 5 (strOfNums z) := ⟨_, rfl⟩
        rw [← hW2] at hcv hrg hbb
        have HRg : Hid (RowG W2 wr.heap.size gc z) := hrg
        have HBb : Hid (Below wr.heap.size wr W2) := hbb
        have HBy : Hid (Byt z) := hby
        have hs2 := hrg.lt
        obtain ⟨s, hs⟩ : ∃ s, s = strOfNums z := ⟨_, rfl⟩
        rw [← hs] at c0 hcv
        obtain ⟨zl, hzl⟩ : ∃ zl, zl = z.length := ⟨_, rfl⟩
        rw [← hzl] at hcv hzj
        have HZl : Hid (z.length = zl) := hzl.symm
        have HOr : Hid (W2.ownsRow w1.heap.size 22 1 ov j (List.zipWith wv (L.take j) gs)) := by have := (HO.out.below hbb).row; rw [HJ.out] at this; exact this
        have hji : (j : Int) < (n : Int) := by omega
        clear hO hbel hc hrg hbb hW2 hgc hs hzl hzz hby
        go_wp2_with (first | (at_builtin; refine wpList_append_own _ rfl (.tmp 13) (.tmp 16) 23 rfl w1.heap.size 22 i0 (.slice none 0 0) 1 24 Tryz.undBSS hi0 hz0 hz1 hz2 rfl (by decide) ov j (List.zipWith wv (L.take j) gs) rfl (HOr.out.alloc _) ⟨W2.heap.size, 0, none⟩ 1 1 [.slice (some ⟨wr.heap.size, 0, none⟩) zl gc] rfl rfl (cell_one_new _ _ _) (by simp [Value.oneCell']) (by unfold maxLen; omega) (by omega) (by simp; omega) ?_; intro v3 w3 hown3 hgrow3 hnil3) | fail)
        go_roundw
        case rel =>
          have hO2 : OwnW w1.heap.size (W2.alloc (.cells #[.slice (some ⟨wr.heap.size, 0, none⟩) zl gc] 22)) ov (L.take j) gs := (HO.out.below HBb.out).below ((Below.refl _ _).alloc (Nat.le_refl _) _)
          have hge := own_ge hO2.row
          have hb3 : Below w1.heap.size w1 w3 := ((HB.out.trans (HBb.out.mono hs1)).alloc (by omega) _).grown hgrow3 (by simp; omega) hge
          refine ⟨j + 1, v3, gs ++ [(wr.heap.size, gc)], by omega, by go_num, rfl, ?_, hb3⟩
          rw [HT.out]
          refine hO2.snoc z (wr.heap.size, gc) ⟨hs1, HRg.out.of_block (Below.heap_alloc _ _ _ hs2), hgm⟩ HBy.out (fun i hi e => ?_) (by rw [HJ.out]; show w3.ownsRow _ _ _ _ _ (_ ++ [.slice (some ⟨wr.heap.size, 0, none⟩) z.length gc]); rw [HZl.out]; exact hown3) hgrow3
          have := (HO.out.txt i hi).2.1.lt
          omega
        case measure => simp [intOf]; omega
    · have HE : Hid (L.take j = L) := List.take_of_length_le (by rw [← HN.out]; omega)
      clear hO hbel
      go_wp2_with fail
      go_ret
      exact ⟨ov, gs, rfl, by have := HO.out; rw [HE.out] at this; exact this.base HB1.out.size, HB1.out.trans (HB.out.mono HB1.out.size)⟩
end

end Go.Proofs.YtnmljalcndfjmaaGreat
