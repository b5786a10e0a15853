/- A list of things told under way, in memory: a row of its own, what each reads as, and the cells that are its own. -/
import Derived.Test.YtckhjoancfbkfaaGreatKrI3
import Derived.Test.YtckhjoancfbkfaaGreatKbVocM
import Derived.Deep.AppendLies
import Derived.Deep.RegionHeldLaw
import Derived.Maps.AppendAt
namespace Go.Proofs.YtckhjoancfbkfaaGreat
open Go.RowKit
set_option linter.unusedVariables false

/-- The lists of cells of so many things told: each once, apart, not frozen, none of the row v. -/
structure SeL (m : Nat) (ts : List Tok) (gs : List (Nat × Nat)) (j B t : Nat) (w : World) (v : Value) (LL : Nat → Nat → List (Addr × IntKind)) : Prop where
  nd : ∀ i p, ((LL i p).map (·.1)).Nodup
  dj : ∀ i p i' p', (i ≠ i' ∨ p ≠ p') → ∀ x ∈ LL i p, ∀ y ∈ LL i' p', x.1.block ≠ y.1.block
  fr : ∀ i p, ∀ x ∈ LL i p, w.frozen? x.1 = false
  us : ∀ i p, Use ts gs 0 j B t (LL i p)
  off : ∀ i p, ∀ x ∈ LL i p, v.ownBlock ≠ some x.1.block

theorem SeL.nil (ts : List Tok) (gs : List (Nat × Nat)) (j B t : Nat) (w : World) (v : Value) : SeL 0 ts gs j B t w v (fun _ _ => []) :=
  ⟨fun _ _ => by simp, fun _ _ _ _ _ x hx => by simp at hx, fun _ _ x hx => by simp at hx, fun _ _ => Use.nil _ _ _ _ _ _, fun _ _ x hx => by simp at hx⟩

/-- So many things told in a row of the call's own. -/
structure OwXs (B d : Nat) (w : World) (v : Value) (m : Nat) (vs : List Value) (xs : List AX) (Vs : Nat → XV) (LL : Nat → Nat → List (Addr × IntKind)) : Prop where
  len : xs.length = m
  row : w.ownsRow B 39 13 v m vs
  at' : ∀ i, i < m → ∀ j, j < 13 → vs[i * 13 + j]? = ((Vs i).arr (xs.getD i AX.zero).kind)[j]?
  pa : ∀ i, i < m → PaX w d (Vs i) (xs.getD i AX.zero) (LL i)

/-- What is under way: the list's box p, the result's box at w.heap.size. -/
structure KsX (base pb g : Nat) (ts : List Tok) (gs : List (Nat × Nat)) (en : Int) (w : World) (p B : Nat) (wr : World) (v : Value) (m : Nat) (vs : List Value) (xs : List AX) (Vs : Nat → XV) (LL : Nat → Nat → List (Addr × IntKind)) (j : Nat) : Prop where
  t : TkM base pb w g ts gs
  lt : pb < w.heap.size ∧ w.heap.size < p ∧ p < B
  bt : Bt pb w.heap.size w wr
  box : wr.heap[p]? = some (.cells #[v] 25 (0, 0))
  res : wr.heap[w.heap.size]? = some (.cells #[.slice none 0 0] 25 (0, 0))
  ow : OwXs B 6 wr v m vs xs Vs LL
  se : SeL m ts gs j B wr.heap.size wr v LL
  rdr : RdrAt wr pb g j ts en
  le : B ≤ wr.heap.size

section
variable {base pb g : Nat} {ts : List Tok} {gs : List (Nat × Nat)} {en : Int} {w : World} {p B : Nat} {wr w5 w6 : World} {v : Value} {m : Nat} {vs : List Value} {xs : List AX} {Vs : Nat → XV} {LL : Nat → Nat → List (Addr × IntKind)} {j j' : Nat}
theorem KsX.tk (h : KsX base pb g ts gs en w p B wr v m vs xs Vs LL j) : TkM base pb wr g ts gs := h.t.bt h.bt (Nat.le_of_lt h.lt.1)
theorem KsX.fm (h : KsX base pb g ts gs en w p B wr v m vs xs Vs LL j) : ∃ va vc, v = .slice va m vc := by
  rcases h.ow.row.2 with ⟨e, e0⟩ | ⟨g, c, _, e, _⟩
  · exact ⟨none, 0, by rw [e, e0]⟩
  · exact ⟨_, c, e⟩
theorem KsX.cell (h : KsX base pb g ts gs en w p B wr v m vs xs Vs LL j) : wr.cell? ⟨p, 0, none⟩ = some v ∧ wr.frozen? ⟨p, 0, none⟩ = false := by
  have := h.box
  constructor
  · simp [World.cell?, this]
  · simp [World.frozen?, this]
theorem ownsX_keep {base e size n : Nat} {w w' : World} {v : Value} {xs : List Value} (h : w.ownsRow base e size v n xs) (hk : ∀ b, v.ownBlock = some b → w'.heap[b]? = w.heap[b]?) : w'.ownsRow base e size v n xs := by
  obtain ⟨h1, h2⟩ := h
  refine ⟨h1, ?_⟩
  rcases h2 with h2 | ⟨g, cap, cur, hv, hg, hh, r⟩
  · exact .inl h2
  · exact .inr ⟨g, cap, cur, hv, hg, by rw [hk g (by rw [hv]; rfl)]; exact hh, r⟩
/-- What is not turned. -/
theorem KsX.keep (h : KsX base pb g ts gs en w p B wr v m vs xs Vs LL j) (hs : wr.heap.size ≤ w5.heap.size) (hb : Bt pb w.heap.size wr w5) (hk : ∀ b, w.heap.size ≤ b → b < wr.heap.size → w5.heap[b]? = wr.heap[b]?) (ht : ∀ b, b < w.heap.size → b ≠ pb → w5.heap[b]? = wr.heap[b]?) (hjj : j ≤ j') (hR : RdrAt w5 pb g j' ts en) : KsX base pb g ts gs en w p B w5 v m vs xs Vs LL j' := by
  obtain ⟨q1, q2, q3⟩ := h.lt
  have hle := h.le
  have hall : ∀ i q, ∀ x ∈ LL i q, w5.heap[x.1.block]? = wr.heap[x.1.block]? := fun i q x hx => by
    have h1 := (h.se.us i q).lt h.t (by have := h.bt.size; omega) x hx
    have h2 := (h.se.us i q).ne h.t (Nat.le_refl pb) (by omega) x hx
    by_cases hw : x.1.block < w.heap.size
    · exact ht _ hw h2
    · exact hk _ (by omega) h1
  have hrl := h.ow.row.lt
  refine ⟨h.t, h.lt, h.bt.trans hb, (hk p (by omega) (by omega)).trans h.box, (hk _ (Nat.le_refl _) (by have := h.bt.size; omega)).trans h.res, ⟨h.ow.len, ownsX_keep h.ow.row (fun b e => hk b (by have := (hrl b e).1; omega) (hrl b e).2), h.ow.at', fun i hi => (h.ow.pa i hi).keep (hall i)⟩, ⟨h.se.nd, h.se.dj, fun i q x hx => (World.frozen?_of_block (w := wr) (hall i q x hx)).trans (h.se.fr i q x hx), fun i q => (h.se.us i q).mono (Nat.le_refl _) hjj (Nat.le_refl _) hs, h.se.off⟩, hR, Nat.le_trans hle hs⟩
theorem KsX.next (h : KsX base pb g ts gs en w p B wr v m vs xs Vs LL j) (hb : Bt pb wr.heap.size wr w5) (hjj : j ≤ j') (hR : RdrAt w5 pb g j' ts en) : KsX base pb g ts gs en w p B w5 v m vs xs Vs LL j' :=
  h.keep hb.size (hb.mono h.bt.size) (fun b h1 h2 => hb.block b h2 (by have := h.lt.1; omega)) (fun b h1 h2 => hb.block b (by have := h.bt.size; omega) h2) hjj hR
theorem KsX.below (h : KsX base pb g ts gs en w p B wr v m vs xs Vs LL j) (hb : Below wr.heap.size wr w5) : KsX base pb g ts gs en w p B w5 v m vs xs Vs LL j := h.next (Bt.of_below hb) (Nat.le_refl _) (h.rdr.below hb)
/-- One more is appended, and the list's box written. -/
theorem KsX.push (h : KsX base pb g ts gs en w p B wr v m vs xs Vs LL j) (hjj : j ≤ j') {V : XV} {x : AX} {Ls : Nat → List (Addr × IntKind)} {t : Nat} (hbb : Bt pb t wr w5) (ht : wr.heap.size = t) (hpa : PaX w5 6 V x Ls) (hse : Se6 ts gs j j' t w5.heap.size w5 Ls) (hk5 : KsX base pb g ts gs en w p B w5 v m vs xs Vs LL j') (hu : ∀ i q, Use ts gs 0 j B t (LL i q)) (hv5 : ∀ b, v.ownBlock = some b → b < t) {g1 cap1 : Nat} {cs : List Value} (hcs : cs = (V.arr x.kind).toList)
    (hn : w6.ownsRow B 39 13 (.slice (some ⟨g1, 0, none⟩) (m + 1) cap1) (m + 1) (vs ++ cs)) (hgr : w5.grownBy w6 v.ownBlock) (hat : v.ownBlock = some g1 ∨ w5.heap.size ≤ g1) :
    KsX base pb g ts gs en w p B (w6.setCell ⟨p, 0, none⟩ (.slice (some ⟨g1, 0, none⟩) (m + 1) cap1)) (.slice (some ⟨g1, 0, none⟩) (m + 1) cap1) (m + 1) (vs ++ cs) (xs ++ [x]) (fun i => if i = m then V else Vs i) (fun i => if i = m then Ls else LL i) j' ∧ w6.cell? ⟨p, 0, none⟩ = some v ∧ w6.frozen? ⟨p, 0, none⟩ = false := by
  subst hcs
  obtain ⟨q1, q2, q3⟩ := h.lt
  have hle := h.le
  have hle5 := hk5.le
  have hrl := hk5.ow.row.lt
  have hlen := h.ow.len
  have hvl := hk5.ow.row.1
  have hneg : ∀ b, v.ownBlock = some b → B ≤ b := fun b e => (hrl b e).1
  have hb6 : w6.heap[p]? = some (.cells #[v] 25 (0, 0)) := (hgr.block p (by omega) (fun e => by have := hneg p e.symm; omega)).trans hk5.box
  have hnp : ∀ b, b ≠ p → (w6.setCell ⟨p, 0, none⟩ (.slice (some ⟨g1, 0, none⟩) (m + 1) cap1)).heap[b]? = w6.heap[b]? := fun b hb => Below.heap_setCell _ _ _ _ (by show b ≠ p; exact hb)
  have hsz : (w6.setCell ⟨p, 0, none⟩ (.slice (some ⟨g1, 0, none⟩) (m + 1) cap1)).heap.size = w6.heap.size := by simp
  have offN : ∀ q, ∀ x ∈ Ls q, v.ownBlock ≠ some x.1.block := fun q y hy e => by
    have h1 := hv5 _ e
    have h2 := hneg _ e
    rcases hse.us q y hy with ⟨a, b⟩ | ⟨n, a, b, c, d, e⟩
    · omega
    · have := (h.t.txt n c d).1; omega
  have kN : ∀ q, ∀ y ∈ Ls q, (w6.setCell ⟨p, 0, none⟩ (.slice (some ⟨g1, 0, none⟩) (m + 1) cap1)).heap[y.1.block]? = w5.heap[y.1.block]? := fun q y hy => by
    rw [hnp _ ((hse.us q).ne h.t (by omega) (by omega) y hy)]
    exact hgr.block _ ((hse.us q).lt h.t (by omega) y hy) (fun e => offN q y hy e.symm)
  have kO : ∀ i q, ∀ y ∈ LL i q, (w6.setCell ⟨p, 0, none⟩ (.slice (some ⟨g1, 0, none⟩) (m + 1) cap1)).heap[y.1.block]? = w5.heap[y.1.block]? := fun i q y hy => by
    rw [hnp _ ((hk5.se.us i q).ne h.t (by omega) q3 y hy)]
    exact hgr.block _ ((hk5.se.us i q).lt h.t (by omega) y hy) (fun e => hk5.se.off i q y hy e.symm)
  have offG : ∀ b, b < w5.heap.size → v.ownBlock ≠ some b → (Value.slice (some ⟨g1, 0, none⟩) (m + 1) cap1).ownBlock ≠ some b := fun b hb hv e => by
    have e1 : g1 = b := by simpa [Value.ownBlock] using e
    subst e1
    rcases hat with hat | hat
    · exact hv hat
    · omega
  have djN : ∀ i q q', ∀ x ∈ LL i q, ∀ y ∈ Ls q', x.1.block ≠ y.1.block := fun i q q' x hx y hy => (hu i q).disj (hse.us q') h.t (Nat.le_refl _) (Nat.le_refl _) (by omega) (by omega) x hx y hy
  refine ⟨⟨h.t, h.lt, ?_, heap_setCell_same w6 p 0 _ _ _ hb6, ?_, ⟨by simp [hlen], ownsX_keep hn (fun b e => hnp b (by have := (hn.lt b e).1; omega)), fun i hi jj hj => ?_, fun i hi => ?_⟩, ⟨fun i q => ?_, fun i q i' q' hne x hx y hy => ?_, fun i q x hx => ?_, fun i q => ?_, fun i q x hx => ?_⟩, ?_, by rw [hsz]; exact Nat.le_trans hle5 hgr.size⟩, by simp [World.cell?, hb6], by simp [World.frozen?, hb6]⟩
  · exact (hk5.bt.grown hgr hk5.bt.size (fun k e => by have := hneg k e; omega)).set (.inl (by show w.heap.size ≤ p; omega)) _
  · rw [hnp _ (by omega)]; exact (hgr.block _ (by omega) (fun e => by have := hneg _ e.symm; omega)).trans hk5.res
  · by_cases him : i = m
    · subst him
      rw [if_pos rfl, List.getElem?_append_right (by omega), hvl, show i * 13 + jj - i * 13 = jj from by omega]
      have e : (xs ++ [x]).getD i AX.zero = x := by simp [List.getD, hlen]
      rw [e]; simp
    · rw [if_neg him, List.getElem?_append_left (by omega), h.ow.at' i (by omega) jj hj]
      have e : (xs ++ [x]).getD i AX.zero = xs.getD i AX.zero := by simp [List.getD, List.getElem?_append_left (show i < xs.length by omega)]
      rw [e]
  · show PaX _ 6 (if i = m then V else Vs i) _ (if i = m then Ls else LL i)
    by_cases him : i = m
    · subst him
      have e : (xs ++ [x]).getD i AX.zero = x := by simp [List.getD, hlen]
      rw [e, if_pos rfl, if_pos rfl]
      exact hpa.keep kN
    · have e : (xs ++ [x]).getD i AX.zero = xs.getD i AX.zero := by simp [List.getD, List.getElem?_append_left (show i < xs.length by omega)]
      rw [e, if_neg him, if_neg him]
      exact (hk5.ow.pa i (by omega)).keep (kO i)
  · show (((if i = m then Ls else LL i) q).map (·.1)).Nodup
    split
    · exact hse.nd q
    · exact h.se.nd i q
  · have hx : x ∈ (if i = m then Ls else LL i) q := hx
    have hy : y ∈ (if i' = m then Ls else LL i') q' := hy
    split at hx <;> split at hy
    · exact hse.dj q q' (by omega) x hx y hy
    · exact fun e => djN i' q' q y hy x hx e.symm
    · exact djN i q q' x hx y hy
    · exact h.se.dj i q i' q' hne x hx y hy
  · have hx : x ∈ (if i = m then Ls else LL i) q := hx
    split at hx
    · exact (World.frozen?_of_block (w := w5) (kN q x hx)).trans (hse.fr q x hx)
    · exact (World.frozen?_of_block (w := w5) (kO i q x hx)).trans (hk5.se.fr i q x hx)
  · show Use ts gs 0 j' B _ ((if i = m then Ls else LL i) q)
    rw [hsz]
    split
    · exact (hse.us q).mono (Nat.zero_le _) (Nat.le_refl _) (by omega) hgr.size
    · exact (hk5.se.us i q).mono (Nat.le_refl _) (Nat.le_refl _) (Nat.le_refl _) hgr.size
  · have hx : x ∈ (if i = m then Ls else LL i) q := hx
    split at hx
    · exact offG _ ((hse.us q).lt h.t (by omega) x hx) (offN q x hx)
    · exact offG _ ((hk5.se.us i q).lt h.t (by omega) x hx) (hk5.se.off i q x hx)
  · exact hk5.rdr.of ((hnp pb (by omega)).trans (hgr.block pb (by omega) (fun e => by have := hneg pb e.symm; omega)))
end

theorem new13X (w : World) (cs : Array Value) (t : Nat) : ∀ j v, cs.toList[j]? = some v → (w.alloc (.cells cs t)).cell? ((⟨w.heap.size, 0, none⟩ : Addr).add j) = some v := by
  intro j v hv
  have hb : (w.alloc (.cells cs t)).heap[w.heap.size]? = some (.cells cs t) := World.alloc_heap_new w _
  have : ((⟨w.heap.size, 0, none⟩ : Addr).add j) = ⟨w.heap.size, j, none⟩ := by simp [Addr.add]; exact fun h => h.symm
  rw [this]
  unfold World.cell?
  simp only []
  rw [hb]
  simpa using hv
theorem one13X {cs : Array Value} (h : cs.all (·.oneCell') = true) : ∀ u ∈ cs.toList, u.oneCell' = true := by
  intro u hu
  rw [← Array.all_toList, List.all_eq_true] at h
  exact h u hu
theorem infoX : (Tryz.prog.info? 39).map (fun i => (i.zero, i.size, i.bytes)) = some (some (.agg zeroX), 13, 264) := by kernel_rfl
end Go.Proofs.YtckhjoancfbkfaaGreat
