/- One thing told under way, in memory, for the model's parser. -/
import Derived.Test.YtckhjoancfbkfaaGreatKrO
import Derived.Test.YtckhjoancfbkfaaGreatReadS1
namespace Go.Proofs.YtckhjoancfbkfaaGreat
open Go.RowKit

/-- What is under way: the box p; the reader stands at the token j. -/
structure StZ (pb g : Nat) (ts : List Tok) (gs : List (Nat × Nat)) (en : Int) (w0 : World) (i0 p s : Nat) (k : Int) (w : World) (V : XV) (x : AX) (Ls : Nat → List (Addr × IntKind)) (j : Nat) : Prop where
  bt : Bt pb w0.heap.size w0 w
  box : BoxX w p k V
  pa : PaX w 6 V x Ls
  se : Se6 ts gs i0 j s w.heap.size w Ls
  rdr : PsAt w pb g j ts en (-1)
  le : s ≤ w.heap.size

theorem StZ.tk {base pb g : Nat} {ts : List Tok} {gs : List (Nat × Nat)} {en : Int} {w0 : World} {i0 p s : Nat} {k : Int} {w : World} {V : XV} {x : AX} {Ls : Nat → List (Addr × IntKind)} {j : Nat} (h : StZ pb g ts gs en w0 i0 p s k w V x Ls j) (hS : SsX base pb g ts gs w0 p s) : TkM base pb w g ts gs := hS.t.bt h.bt (Nat.le_of_lt hS.plt)

/-- The reader goes on: what was read is kept. -/
theorem StZ.next {base pb g : Nat} {ts : List Tok} {gs : List (Nat × Nat)} {en : Int} {w0 : World} {i0 p s : Nat} {k : Int} {w w1 : World} {V : XV} {x : AX} {Ls : Nat → List (Addr × IntKind)} {j j' : Nat} (h : StZ pb g ts gs en w0 i0 p s k w V x Ls j) (hS : SsX base pb g ts gs w0 p s) (hb : Bt pb w.heap.size w w1) (hjj : j ≤ j') (hR : PsAt w1 pb g j' ts en (-1)) : StZ pb g ts gs en w0 i0 p s k w1 V x Ls j' := by
  have hplt := hS.plt
  have hp0 := hS.p0
  have hp1 := hS.p1
  have hle := h.le
  have hk : ∀ q, ∀ y ∈ Ls q, w1.heap[y.1.block]? = w.heap[y.1.block]? := fun q y hy => hb.block _ ((h.se.us q).lt hS.t (by omega) y hy) ((h.se.us q).ne hS.t (Nat.le_refl pb) (by omega) y hy)
  exact ⟨h.bt.trans (hb.mono h.bt.size), h.box.of (hb.block _ h.box.lt (by omega)), h.pa.keep hk, (h.se.keep hk).mono (Nat.le_refl _) hjj (Nat.le_refl _) hb.size, hR, Nat.le_trans h.le hb.size⟩

theorem StZ.setC {base pb g : Nat} {ts : List Tok} {gs : List (Nat × Nat)} {en : Int} {w0 : World} {i0 p s : Nat} {k : Int} {w w1 : World} {V : XV} {x : AX} {Ls : Nat → List (Addr × IntKind)} {j j' : Nat} (h : StZ pb g ts gs en w0 i0 p s k w V x Ls j) (hS : SsX base pb g ts gs w0 p s) (hij : i0 ≤ j) (hjj : j ≤ j') {v0 v1 v2 v3 : Value} {c : CN} {L : List (Addr × IntKind)} (hb : Bt pb w.heap.size w w1) (hO : OwnR ts gs j j' w.heap.size w1 6 (.agg #[v0, v1, v2, v3]) c L) (hR : PsAt w1 pb g j' ts en (-1)) :
    StZ pb g ts gs en w0 i0 p s k ((((w1.setCell ⟨p, 1, none⟩ v0).setCell ⟨p, 2, none⟩ v1).setCell ⟨p, 3, none⟩ v2).setCell ⟨p, 4, none⟩ v3) { V with c0 := v0, c1 := v1, c2 := v2, c3 := v3 } { x with c := c } (upd Ls 0 L) j' := by
  have hplt := hS.plt
  have hp0 := hS.p0
  have hp1 := hS.p1
  have hle := h.le
  have hsz := hb.size
  have h1 : StZ pb g ts gs en w0 i0 p s k w1 V x Ls j' := h.next hS hb hjj hR
  have hn : ∀ q, q ≠ p → ((((w1.setCell ⟨p, 1, none⟩ v0).setCell ⟨p, 2, none⟩ v1).setCell ⟨p, 3, none⟩ v2).setCell ⟨p, 4, none⟩ v3).heap[q]? = w1.heap[q]? := fun q hq => by
    rw [Below.heap_setCell _ _ _ _ (by show q ≠ p; exact hq), Below.heap_setCell _ _ _ _ (by show q ≠ p; exact hq), Below.heap_setCell _ _ _ _ (by show q ≠ p; exact hq), Below.heap_setCell _ _ _ _ (by show q ≠ p; exact hq)]
  have hk : ∀ q, ∀ y ∈ Ls q, ((((w1.setCell ⟨p, 1, none⟩ v0).setCell ⟨p, 2, none⟩ v1).setCell ⟨p, 3, none⟩ v2).setCell ⟨p, 4, none⟩ v3).heap[y.1.block]? = w1.heap[y.1.block]? := fun q y hy => hn _ ((h.se.us q).ne hS.t (by omega) hp1 y hy)
  have hkn : ∀ y ∈ L, ((((w1.setCell ⟨p, 1, none⟩ v0).setCell ⟨p, 2, none⟩ v1).setCell ⟨p, 3, none⟩ v2).setCell ⟨p, 4, none⟩ v3).heap[y.1.block]? = w1.heap[y.1.block]? := fun y hy => hn _ (hO.us.ne hS.t (by omega) (by omega) y hy)
  refine ⟨(((h1.bt.set (.inl (by show w0.heap.size ≤ p; omega)) _).set (.inl (by show w0.heap.size ≤ p; omega)) _).set (.inl (by show w0.heap.size ≤ p; omega)) _).set (.inl (by show w0.heap.size ≤ p; omega)) _, h1.box.setC _ _ _ _, ?_, ?_, hR.of (hn pb (by omega)), by simpa using h1.le⟩
  · have hp := h1.pa.keep hk
    have hc := hO.ow.keep hkn
    exact ⟨by simpa [upd] using hc, by simpa [upd] using hp.d, by simpa [upd] using hp.r, by simpa [upd] using hp.s, by simpa [upd] using hp.a, by simpa [upd] using hp.b⟩
  · have hs := (h.se.keep (fun q y hy => hb.block _ ((h.se.us q).lt hS.t (by omega) y hy) ((h.se.us q).ne hS.t (Nat.le_refl pb) (by omega) y hy))).keep hk
    exact (hs.put hS.t 0 hO.nd (fun y hy => (World.frozen?_of_block (w := w1) (hkn y hy)).trans (hO.fr y hy)) hO.us hij hjj hle hsz (by omega)).mono (Nat.le_refl _) (Nat.le_refl _) (Nat.le_refl _) (by simp)

theorem StZ.setD {base pb g : Nat} {ts : List Tok} {gs : List (Nat × Nat)} {en : Int} {w0 : World} {i0 p s : Nat} {k : Int} {w w1 : World} {V : XV} {x : AX} {Ls : Nat → List (Addr × IntKind)} {j j' : Nat} (h : StZ pb g ts gs en w0 i0 p s k w V x Ls j) (hS : SsX base pb g ts gs w0 p s) (hij : i0 ≤ j) (hjj : j ≤ j') {v0 v1 v2 v3 : Value} {c : CN} {L : List (Addr × IntKind)} (hb : Bt pb w.heap.size w w1) (hO : OwnR ts gs j j' w.heap.size w1 6 (.agg #[v0, v1, v2, v3]) c L) (hR : PsAt w1 pb g j' ts en (-1)) :
    StZ pb g ts gs en w0 i0 p s k ((((w1.setCell ⟨p, 5, none⟩ v0).setCell ⟨p, 6, none⟩ v1).setCell ⟨p, 7, none⟩ v2).setCell ⟨p, 8, none⟩ v3) { V with d0 := v0, d1 := v1, d2 := v2, d3 := v3 } { x with d := c } (upd Ls 1 L) j' := by
  have hplt := hS.plt
  have hp0 := hS.p0
  have hp1 := hS.p1
  have hle := h.le
  have hsz := hb.size
  have h1 : StZ pb g ts gs en w0 i0 p s k w1 V x Ls j' := h.next hS hb hjj hR
  have hn : ∀ q, q ≠ p → ((((w1.setCell ⟨p, 5, none⟩ v0).setCell ⟨p, 6, none⟩ v1).setCell ⟨p, 7, none⟩ v2).setCell ⟨p, 8, none⟩ v3).heap[q]? = w1.heap[q]? := fun q hq => by
    rw [Below.heap_setCell _ _ _ _ (by show q ≠ p; exact hq), Below.heap_setCell _ _ _ _ (by show q ≠ p; exact hq), Below.heap_setCell _ _ _ _ (by show q ≠ p; exact hq), Below.heap_setCell _ _ _ _ (by show q ≠ p; exact hq)]
  have hk : ∀ q, ∀ y ∈ Ls q, ((((w1.setCell ⟨p, 5, none⟩ v0).setCell ⟨p, 6, none⟩ v1).setCell ⟨p, 7, none⟩ v2).setCell ⟨p, 8, none⟩ v3).heap[y.1.block]? = w1.heap[y.1.block]? := fun q y hy => hn _ ((h.se.us q).ne hS.t (by omega) hp1 y hy)
  have hkn : ∀ y ∈ L, ((((w1.setCell ⟨p, 5, none⟩ v0).setCell ⟨p, 6, none⟩ v1).setCell ⟨p, 7, none⟩ v2).setCell ⟨p, 8, none⟩ v3).heap[y.1.block]? = w1.heap[y.1.block]? := fun y hy => hn _ (hO.us.ne hS.t (by omega) (by omega) y hy)
  refine ⟨(((h1.bt.set (.inl (by show w0.heap.size ≤ p; omega)) _).set (.inl (by show w0.heap.size ≤ p; omega)) _).set (.inl (by show w0.heap.size ≤ p; omega)) _).set (.inl (by show w0.heap.size ≤ p; omega)) _, h1.box.setD _ _ _ _, ?_, ?_, hR.of (hn pb (by omega)), by simpa using h1.le⟩
  · have hp := h1.pa.keep hk
    have hc := hO.ow.keep hkn
    exact ⟨by simpa [upd] using hp.c, by simpa [upd] using hc, by simpa [upd] using hp.r, by simpa [upd] using hp.s, by simpa [upd] using hp.a, by simpa [upd] using hp.b⟩
  · have hs := (h.se.keep (fun q y hy => hb.block _ ((h.se.us q).lt hS.t (by omega) y hy) ((h.se.us q).ne hS.t (Nat.le_refl pb) (by omega) y hy))).keep hk
    exact (hs.put hS.t 1 hO.nd (fun y hy => (World.frozen?_of_block (w := w1) (hkn y hy)).trans (hO.fr y hy)) hO.us hij hjj hle hsz (by omega)).mono (Nat.le_refl _) (Nat.le_refl _) (Nat.le_refl _) (by simp)

theorem StZ.setR {base pb g : Nat} {ts : List Tok} {gs : List (Nat × Nat)} {en : Int} {w0 : World} {i0 p s : Nat} {k : Int} {w w1 : World} {V : XV} {x : AX} {Ls : Nat → List (Addr × IntKind)} {j : Nat} (h : StZ pb g ts gs en w0 i0 p s k w V x Ls j) (hS : SsX base pb g ts gs w0 p s) (hij : i0 ≤ j) {v : Value} {L : List (Addr × IntKind)} (hb : Bt pb w.heap.size w w1) (hO : OwS w1 v (wordI ts j) L) (hnd : (L.map (·.1)).Nodup) (hfr : ∀ x ∈ L, w1.frozen? x.1 = false) (hus : Use ts gs j (j + 1) w.heap.size w1.heap.size L) (hR : PsAt w1 pb g (j + 1) ts en (-1)) :
    StZ pb g ts gs en w0 i0 p s k (w1.setCell ⟨p, 9, none⟩ v) { V with r := v } (putB x 82 (wordI ts j)) (upd Ls 2 L) (j + 1) := by
  have hplt := hS.plt
  have hp0 := hS.p0
  have hp1 := hS.p1
  have hle := h.le
  have hsz := hb.size
  have h1 : StZ pb g ts gs en w0 i0 p s k w1 V x Ls (j + 1) := h.next hS hb (Nat.le_succ _) hR
  have hn : ∀ q, q ≠ p → (w1.setCell ⟨p, 9, none⟩ v).heap[q]? = w1.heap[q]? := fun q hq => Below.heap_setCell _ _ _ _ (by show q ≠ p; exact hq)
  have hk : ∀ q, ∀ y ∈ Ls q, (w1.setCell ⟨p, 9, none⟩ v).heap[y.1.block]? = w1.heap[y.1.block]? := fun q y hy => hn _ ((h.se.us q).ne hS.t (by omega) hp1 y hy)
  have hkn : ∀ y ∈ L, (w1.setCell ⟨p, 9, none⟩ v).heap[y.1.block]? = w1.heap[y.1.block]? := fun y hy => hn _ (by
    rcases hus y hy with ⟨a, b⟩ | ⟨t, a, b, c, d, e⟩
    · omega
    · have := (hS.t.txt t c d).1; omega)
  refine ⟨h1.bt.set (.inl (by show w0.heap.size ≤ p; omega)) _, h1.box.setR _, ?_, ?_, hR.of (hn pb (by omega)), by simpa using h1.le⟩
  · have hp := h1.pa.keep hk
    have hc := hO.keep hkn
    exact ⟨by simpa [upd, putB] using hp.c, by simpa [upd, putB] using hp.d, by simpa [upd, putB] using hc, by simpa [upd, putB] using hp.s, by simpa [upd, putB] using hp.a, by simpa [upd, putB] using hp.b⟩
  · have hs := (h.se.keep (fun q y hy => hb.block _ ((h.se.us q).lt hS.t (by omega) y hy) ((h.se.us q).ne hS.t (Nat.le_refl pb) (by omega) y hy))).keep hk
    exact (hs.put hS.t 2 hnd (fun y hy => (World.frozen?_of_block (w := w1) (hkn y hy)).trans (hfr y hy)) hus hij (Nat.le_succ _) hle hsz (by omega)).mono (Nat.le_refl _) (Nat.le_refl _) (Nat.le_refl _) (by simp)

theorem StZ.setS {base pb g : Nat} {ts : List Tok} {gs : List (Nat × Nat)} {en : Int} {w0 : World} {i0 p s : Nat} {k : Int} {w w1 : World} {V : XV} {x : AX} {Ls : Nat → List (Addr × IntKind)} {j : Nat} (h : StZ pb g ts gs en w0 i0 p s k w V x Ls j) (hS : SsX base pb g ts gs w0 p s) (hij : i0 ≤ j) {v : Value} {L : List (Addr × IntKind)} (hb : Bt pb w.heap.size w w1) (hO : OwS w1 v (wordI ts j) L) (hnd : (L.map (·.1)).Nodup) (hfr : ∀ x ∈ L, w1.frozen? x.1 = false) (hus : Use ts gs j (j + 1) w.heap.size w1.heap.size L) (hR : PsAt w1 pb g (j + 1) ts en (-1)) :
    StZ pb g ts gs en w0 i0 p s k (w1.setCell ⟨p, 10, none⟩ v) { V with s := v } (putB x 83 (wordI ts j)) (upd Ls 3 L) (j + 1) := by
  have hplt := hS.plt
  have hp0 := hS.p0
  have hp1 := hS.p1
  have hle := h.le
  have hsz := hb.size
  have h1 : StZ pb g ts gs en w0 i0 p s k w1 V x Ls (j + 1) := h.next hS hb (Nat.le_succ _) hR
  have hn : ∀ q, q ≠ p → (w1.setCell ⟨p, 10, none⟩ v).heap[q]? = w1.heap[q]? := fun q hq => Below.heap_setCell _ _ _ _ (by show q ≠ p; exact hq)
  have hk : ∀ q, ∀ y ∈ Ls q, (w1.setCell ⟨p, 10, none⟩ v).heap[y.1.block]? = w1.heap[y.1.block]? := fun q y hy => hn _ ((h.se.us q).ne hS.t (by omega) hp1 y hy)
  have hkn : ∀ y ∈ L, (w1.setCell ⟨p, 10, none⟩ v).heap[y.1.block]? = w1.heap[y.1.block]? := fun y hy => hn _ (by
    rcases hus y hy with ⟨a, b⟩ | ⟨t, a, b, c, d, e⟩
    · omega
    · have := (hS.t.txt t c d).1; omega)
  refine ⟨h1.bt.set (.inl (by show w0.heap.size ≤ p; omega)) _, h1.box.setS _, ?_, ?_, hR.of (hn pb (by omega)), by simpa using h1.le⟩
  · have hp := h1.pa.keep hk
    have hc := hO.keep hkn
    exact ⟨by simpa [upd, putB] using hp.c, by simpa [upd, putB] using hp.d, by simpa [upd, putB] using hp.r, by simpa [upd, putB] using hc, by simpa [upd, putB] using hp.a, by simpa [upd, putB] using hp.b⟩
  · have hs := (h.se.keep (fun q y hy => hb.block _ ((h.se.us q).lt hS.t (by omega) y hy) ((h.se.us q).ne hS.t (Nat.le_refl pb) (by omega) y hy))).keep hk
    exact (hs.put hS.t 3 hnd (fun y hy => (World.frozen?_of_block (w := w1) (hkn y hy)).trans (hfr y hy)) hus hij (Nat.le_succ _) hle hsz (by omega)).mono (Nat.le_refl _) (Nat.le_refl _) (Nat.le_refl _) (by simp)

theorem StZ.setA {base pb g : Nat} {ts : List Tok} {gs : List (Nat × Nat)} {en : Int} {w0 : World} {i0 p s : Nat} {k : Int} {w w1 : World} {V : XV} {x : AX} {Ls : Nat → List (Addr × IntKind)} {j : Nat} (h : StZ pb g ts gs en w0 i0 p s k w V x Ls j) (hS : SsX base pb g ts gs w0 p s) (hij : i0 ≤ j) {v : Value} {L : List (Addr × IntKind)} (hb : Bt pb w.heap.size w w1) (hO : OwS w1 v (wordI ts j) L) (hnd : (L.map (·.1)).Nodup) (hfr : ∀ x ∈ L, w1.frozen? x.1 = false) (hus : Use ts gs j (j + 1) w.heap.size w1.heap.size L) (hR : PsAt w1 pb g (j + 1) ts en (-1)) :
    StZ pb g ts gs en w0 i0 p s k (w1.setCell ⟨p, 11, none⟩ v) { V with a := v } (putB x 65 (wordI ts j)) (upd Ls 4 L) (j + 1) := by
  have hplt := hS.plt
  have hp0 := hS.p0
  have hp1 := hS.p1
  have hle := h.le
  have hsz := hb.size
  have h1 : StZ pb g ts gs en w0 i0 p s k w1 V x Ls (j + 1) := h.next hS hb (Nat.le_succ _) hR
  have hn : ∀ q, q ≠ p → (w1.setCell ⟨p, 11, none⟩ v).heap[q]? = w1.heap[q]? := fun q hq => Below.heap_setCell _ _ _ _ (by show q ≠ p; exact hq)
  have hk : ∀ q, ∀ y ∈ Ls q, (w1.setCell ⟨p, 11, none⟩ v).heap[y.1.block]? = w1.heap[y.1.block]? := fun q y hy => hn _ ((h.se.us q).ne hS.t (by omega) hp1 y hy)
  have hkn : ∀ y ∈ L, (w1.setCell ⟨p, 11, none⟩ v).heap[y.1.block]? = w1.heap[y.1.block]? := fun y hy => hn _ (by
    rcases hus y hy with ⟨a, b⟩ | ⟨t, a, b, c, d, e⟩
    · omega
    · have := (hS.t.txt t c d).1; omega)
  refine ⟨h1.bt.set (.inl (by show w0.heap.size ≤ p; omega)) _, h1.box.setA _, ?_, ?_, hR.of (hn pb (by omega)), by simpa using h1.le⟩
  · have hp := h1.pa.keep hk
    have hc := hO.keep hkn
    exact ⟨by simpa [upd, putB] using hp.c, by simpa [upd, putB] using hp.d, by simpa [upd, putB] using hp.r, by simpa [upd, putB] using hp.s, by simpa [upd, putB] using hc, by simpa [upd, putB] using hp.b⟩
  · have hs := (h.se.keep (fun q y hy => hb.block _ ((h.se.us q).lt hS.t (by omega) y hy) ((h.se.us q).ne hS.t (Nat.le_refl pb) (by omega) y hy))).keep hk
    exact (hs.put hS.t 4 hnd (fun y hy => (World.frozen?_of_block (w := w1) (hkn y hy)).trans (hfr y hy)) hus hij (Nat.le_succ _) hle hsz (by omega)).mono (Nat.le_refl _) (Nat.le_refl _) (Nat.le_refl _) (by simp)

theorem StZ.setB {base pb g : Nat} {ts : List Tok} {gs : List (Nat × Nat)} {en : Int} {w0 : World} {i0 p s : Nat} {k : Int} {w w1 : World} {V : XV} {x : AX} {Ls : Nat → List (Addr × IntKind)} {j : Nat} (h : StZ pb g ts gs en w0 i0 p s k w V x Ls j) (hS : SsX base pb g ts gs w0 p s) (hij : i0 ≤ j) {v : Value} {L : List (Addr × IntKind)} (hb : Bt pb w.heap.size w w1) (hO : OwS w1 v (wordI ts j) L) (hnd : (L.map (·.1)).Nodup) (hfr : ∀ x ∈ L, w1.frozen? x.1 = false) (hus : Use ts gs j (j + 1) w.heap.size w1.heap.size L) (hR : PsAt w1 pb g (j + 1) ts en (-1)) :
    StZ pb g ts gs en w0 i0 p s k (w1.setCell ⟨p, 12, none⟩ v) { V with b := v } (putB x 66 (wordI ts j)) (upd Ls 5 L) (j + 1) := by
  have hplt := hS.plt
  have hp0 := hS.p0
  have hp1 := hS.p1
  have hle := h.le
  have hsz := hb.size
  have h1 : StZ pb g ts gs en w0 i0 p s k w1 V x Ls (j + 1) := h.next hS hb (Nat.le_succ _) hR
  have hn : ∀ q, q ≠ p → (w1.setCell ⟨p, 12, none⟩ v).heap[q]? = w1.heap[q]? := fun q hq => Below.heap_setCell _ _ _ _ (by show q ≠ p; exact hq)
  have hk : ∀ q, ∀ y ∈ Ls q, (w1.setCell ⟨p, 12, none⟩ v).heap[y.1.block]? = w1.heap[y.1.block]? := fun q y hy => hn _ ((h.se.us q).ne hS.t (by omega) hp1 y hy)
  have hkn : ∀ y ∈ L, (w1.setCell ⟨p, 12, none⟩ v).heap[y.1.block]? = w1.heap[y.1.block]? := fun y hy => hn _ (by
    rcases hus y hy with ⟨a, b⟩ | ⟨t, a, b, c, d, e⟩
    · omega
    · have := (hS.t.txt t c d).1; omega)
  refine ⟨h1.bt.set (.inl (by show w0.heap.size ≤ p; omega)) _, h1.box.setB _, ?_, ?_, hR.of (hn pb (by omega)), by simpa using h1.le⟩
  · have hp := h1.pa.keep hk
    have hc := hO.keep hkn
    exact ⟨by simpa [upd, putB] using hp.c, by simpa [upd, putB] using hp.d, by simpa [upd, putB] using hp.r, by simpa [upd, putB] using hp.s, by simpa [upd, putB] using hp.a, by simpa [upd, putB] using hc⟩
  · have hs := (h.se.keep (fun q y hy => hb.block _ ((h.se.us q).lt hS.t (by omega) y hy) ((h.se.us q).ne hS.t (Nat.le_refl pb) (by omega) y hy))).keep hk
    exact (hs.put hS.t 5 hnd (fun y hy => (World.frozen?_of_block (w := w1) (hkn y hy)).trans (hfr y hy)) hus hij (Nat.le_succ _) hle hsz (by omega)).mono (Nat.le_refl _) (Nat.le_refl _) (Nat.le_refl _) (by simp)

end Go.Proofs.YtckhjoancfbkfaaGreat
