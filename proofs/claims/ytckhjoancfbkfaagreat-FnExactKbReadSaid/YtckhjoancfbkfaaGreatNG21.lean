/- Several texts in one: KrI4, KrA. -/
import Derived.Test.YtckhjoancfbkfaaGreatKrL
namespace Go.Proofs.YtckhjoancfbkfaaGreat

section
open Go.RowKit
set_option linter.unusedVariables false

/-- How many tokens are left. -/
def lenOf (w : World) (b : Nat) : Nat := match w.cell? ⟨b, 0, none⟩ with | some (.slice _ n _) => n | _ => 0
theorem lenOf_at {w : World} {pb g i : Nat} {ts : List Tok} {en : Int} (h : RdrAt w pb g i ts en) : lenOf w pb = ts.length - i := by
  obtain ⟨a, c, hb, _⟩ := h
  unfold lenOf; rw [hb.cells.1]

/-- What the reader of all leaves. -/
def KsP (base pb g : Nat) (ts : List Tok) (gs : List (Nat × Nat)) (en : Int) (w : World) (r : ResK) (e : Ending) (w' : World) : Prop :=
  match r with
  | .bad q => e = gaveUp q ∧ Bt pb w.heap.size w w'
  | .ok xs => ∃ (va : Option Addr) (vc : Nat) (vs : List Value) (Vs : Nat → XV) (LL : Nat → Nat → List (Addr × IntKind)), e = .returned (.agg #[.slice va xs.length vc]) ∧ OwXs w.heap.size 6 w' (.slice va xs.length vc) xs.length vs xs Vs LL ∧ SeL xs.length ts gs ts.length w.heap.size w'.heap.size w' (.slice va xs.length vc) LL ∧ RdrAt w' pb g ts.length ts en ∧ Bt pb w.heap.size w w'

theorem KsP.fell {base pb g : Nat} {ts : List Tok} {gs : List (Nat × Nat)} {en : Int} {w : World} {r : ResK} {p q : Int} {w' : World} (hb : Bt pb w.heap.size w w') (hr : r = .bad p) (hq : q = p) : KsP base pb g ts gs en w r (.panicked [{ v := .iface 111 (.int .i64 q), recovered := false }]) w' := by
  subst hr; subst hq; exact ⟨rfl, hb⟩

theorem ownsX_low {base base' e size n : Nat} {w : World} {v : Value} {xs : List Value} (h : w.ownsRow base e size v n xs) (hb : base' ≤ base) : w.ownsRow base' e size v n xs := by
  obtain ⟨h1, h2⟩ := h
  refine ⟨h1, ?_⟩
  rcases h2 with h2 | ⟨g, cap, cur, hv, hg, r⟩
  · exact .inl h2
  · exact .inr ⟨g, cap, cur, hv, Nat.le_trans hb hg, r⟩

theorem KsX.fin {base pb g : Nat} {ts : List Tok} {gs : List (Nat × Nat)} {en : Int} {w : World} {p B : Nat} {wr : World} {va : Option Addr} {m vc : Nat} {vs : List Value} {xs : List AX} {Vs : Nat → XV} {LL : Nat → Nat → List (Addr × IntKind)} {j : Nat} (h : KsX base pb g ts gs en w p B wr (.slice va m vc) m vs xs Vs LL j) (hj : j = ts.length) {r : ResK} (hr : r = .ok xs) :
    KsP base pb g ts gs en w r (.returned (.agg #[.slice va m vc])) (wr.setCell ⟨w.heap.size, 0, none⟩ (.slice va m vc)) ∧ (wr.setCell ⟨w.heap.size, 0, none⟩ (.slice va m vc)).cell? ⟨w.heap.size, 0, none⟩ = some (.slice va m vc) := by
  subst hr hj
  obtain ⟨q1, q2, q3⟩ := h.lt
  have hlen := h.ow.len
  subst hlen
  have hn : ∀ b, b ≠ w.heap.size → (wr.setCell ⟨w.heap.size, 0, none⟩ (.slice va xs.length vc)).heap[b]? = wr.heap[b]? := fun b hb => Below.heap_setCell _ _ _ _ (by show b ≠ w.heap.size; exact hb)
  have hsz : (wr.setCell ⟨w.heap.size, 0, none⟩ (.slice va xs.length vc)).heap.size = wr.heap.size := by simp
  have kO : ∀ i q, ∀ y ∈ LL i q, (wr.setCell ⟨w.heap.size, 0, none⟩ (.slice va xs.length vc)).heap[y.1.block]? = wr.heap[y.1.block]? := fun i q y hy => hn _ ((h.se.us i q).ne h.t (by omega) (by omega) y hy)
  refine ⟨⟨va, vc, vs, Vs, LL, rfl, ⟨rfl, ownsX_low (ownsX_keep h.ow.row (fun b e => hn b (by have := (h.ow.row.lt b e).1; omega))) (by omega), h.ow.at', fun i hi => (h.ow.pa i hi).keep (kO i)⟩, ⟨h.se.nd, h.se.dj, fun i q x hx => (World.frozen?_of_block (w := wr) (kO i q x hx)).trans (h.se.fr i q x hx), fun i q => (h.se.us i q).mono (Nat.le_refl _) (Nat.le_refl _) (by omega) (by rw [hsz]; exact Nat.le_refl _), h.se.off⟩, h.rdr.of (hn pb (by omega)), h.bt.set (.inl (Nat.le_refl _)) _⟩, ?_⟩
  have := heap_setCell_same wr w.heap.size 0 _ _ (.slice va xs.length vc) h.res
  simp [World.cell?, this]

set_option maxRecDepth 100000 in
set_option maxHeartbeats 8000000 in
theorem axioms_any (base pb g : Nat) (ts : List Tok) (gs : List (Nat × Nat)) (en : Int) (w : World) (hR : RdrAt w pb g 0 ts en) (hT : TkM base pb w g ts gs) (hn15 : ts.length ≤ 1500) :
    Calls Tryz.prog 42 #[.pointer (some ⟨pb, 0, none⟩)] w (KsP base pb g ts gs en w (axsR ts en (ts.length + 1) 0 [])) := by
  have hpl := hR.lt
  obtain ⟨W0, HW0⟩ : ∃ W, Hid (W = (w.alloc (.cells #[.slice none 0 0] 25)).alloc (.cells #[.slice none 0 0] 25)) := ⟨_, rfl⟩
  obtain ⟨p, hp⟩ : ∃ p, p = w.heap.size + 1 := ⟨_, rfl⟩
  have hb0 : Below w.heap.size w W0 := by rw [HW0.out]; exact ((Below.refl _ _).alloc (Nat.le_refl _) _).alloc (by simp) _
  have hz0 : W0.heap.size = w.heap.size + 2 := by rw [HW0.out]; simp
  have hx0 : W0.heap[w.heap.size]? = some (.cells #[.slice none 0 0] 25 (0, 0)) := by rw [HW0.out]; exact (Below.heap_alloc _ _ _ (by simp)).trans (World.alloc_heap_new w _)
  have hx1 : W0.heap[p]? = some (.cells #[.slice none 0 0] 25 (0, 0)) := by
    have := World.alloc_heap_new (w.alloc (.cells #[.slice none 0 0] 25)) (.cells #[.slice none 0 0] 25)
    rw [World.size_alloc] at this
    rw [HW0.out, hp]; exact this
  have HI0 : Hid (KsX base pb g ts gs en w p (p + 1) W0 (.slice none 0 0) 0 [] [] (fun _ => XV.zero) (fun _ _ => []) 0) :=
    ⟨hT, ⟨hpl, by omega, by omega⟩, Bt.of_below hb0, hx1, hx0, ⟨rfl, World.ownsRow_nil _ _ _ _, fun i hi => by omega, fun i hi => by omega⟩, SeL.nil _ _ _ _ _ _ _, hR.below hb0, by omega⟩
  clear hR hT hb0 hz0 hx0 hx1
  obtain ⟨i0, hi0, hz0, hz1, hz2⟩ := info_parts infoX
  go_enter Tryz.func42, Tryz.ntmps42
  go_wp2_with fail
  rw [← HW0.out, ← hp]
  clear hp
  go_loopw [4] (fun _ wr => ∃ (v : Value) (m : Nat) (vs : List Value) (xs : List AX) (Vs : Nat → XV) (LL : Nat → Nat → List (Addr × IntKind)) (j f : Nat), KsX base pb g ts gs en w p (p + 1) wr v m vs xs Vs LL j ∧ m ≤ j ∧ j ≤ ts.length ∧ ts.length < f + j ∧ axsR ts en (ts.length + 1) 0 [] = axsR ts en f j xs) (fun _ wr => lenOf wr pb)
  case atStart => exact ⟨_, 0, [], [], _, _, 0, ts.length + 1, HI0.out, Nat.le_refl _, Nat.zero_le _, by omega, rfl⟩
  case round =>
    obtain ⟨v, m, vs, xs, Vs, LL, j, f, hinv, hmj, hjl, hfj, heq⟩ := hrel
    rename World => wo
    obtain ⟨va, vc, rfl⟩ := hinv.fm
    have HI : Hid (KsX base pb g ts gs en w p (p + 1) wo (.slice va m vc) m vs xs Vs LL j) := hinv
    have HEq : Hid (axsR ts en (ts.length + 1) 0 [] = axsR ts en f j xs) := heq
    have hm1 : Hid (lenOf wo pb = ts.length - j) := lenOf_at hinv.rdr
    clear hinv heq
    obtain ⟨z0, zf0⟩ := HI.out.cell
    obtain ⟨rra, rrc, hbx, _, _, _⟩ := HI.out.rdr
    obtain ⟨b0, b1⟩ := hbx.cells
    obtain ⟨n, hn⟩ : ∃ n, n = ts.length - j := ⟨_, rfl⟩
    rw [← hn] at b0
    have HNn : Hid (n = ts.length - j) := hn
    clear hbx hn
    by_cases hlt : j < ts.length
    · have hn0 : (0 : Int) < (n : Int) := by have := HNn.out; omega
      obtain ⟨f', hf'⟩ : ∃ f', f = f' + 1 := ⟨f - 1, by omega⟩
      subst hf'
      cases hres : axR ts en j with
      | bad a =>
        have HC : Hid (axsR ts en (ts.length + 1) 0 [] = .bad a) := by unfold Hid; rw [HEq.out]; exact axsR_bad hlt hres
        go_wp2_with fail
        refine wp_region_any (by kernel_rfl) ?_
        change wpAny _ _ _ _ _ _ _ (World.drew _)
        (refine wpAny_take (i := 0) (v := .pointer (some ⟨p, 0, none⟩)) rfl (by kernel_rfl) (by kernel_rfl) (by kernel_rfl) (fun _ _ _ h => h) (Or.inl ⟨by rfl, fun w => by first | rfl | go_simp⟩) ?_; try simp only [List.getElem_toArray, List.getElem_cons_zero, Act.put, List.setIfInBounds_toArray, List.set_cons_zero, List.set_cons_succ])
        (refine wpAny_take (i := 2) (v := .pointer (some ⟨pb, 0, none⟩)) rfl (by kernel_rfl) (by kernel_rfl) (by kernel_rfl) (fun _ _ _ h => h) (Or.inl ⟨by rfl, fun w => by first | rfl | go_simp⟩) ?_; try simp only [List.getElem_toArray, List.getElem_cons_succ, List.getElem_cons_zero, Act.put, List.setIfInBounds_toArray, List.set_cons_zero, List.set_cons_succ])
        refine wpAny_ready (rs := [1, 3]) (by kernel_rfl) (by simp) ?_
        refine AllReady.cons rfl (fun K hK => ?_) ?_
        · go_simp
          refine hK _ _ ?_
          clear hK K
          refine wpAny_ready (rs := [3]) (by kernel_rfl) (by simp) ?_
          refine AllReady.cons rfl (fun K hK => ?_) AllReady.nil
          go_simp
          refine (axiom_any base pb g j ts gs en wo.drew (HI.out.rdr.of rfl) (HI.out.tk.below (Below.refl _ _).drew) hjl).mono ?_; rintro e w5 hP; rw [hres] at hP; obtain ⟨hb5, he5⟩ := hP; subst he5; have HBf : Hid (Bt pb w.heap.size w w5) := (HI.out.bt.trans (((Bt.refl _ _ _).drew.trans hb5).mono HI.out.bt.size)); simp only [gaveUp]; clear hb5; go_simp; exact ⟨rfl, KsP.fell HBf.out HC.out rfl⟩
        · refine AllReady.cons rfl (fun K hK => ?_) AllReady.nil
          go_simp
          refine (axiom_any base pb g j ts gs en wo.drew (HI.out.rdr.of rfl) (HI.out.tk.below (Below.refl _ _).drew) hjl).mono ?_; rintro e w5 hP; rw [hres] at hP; obtain ⟨hb5, he5⟩ := hP; subst he5; have HBf : Hid (Bt pb w.heap.size w w5) := (HI.out.bt.trans (((Bt.refl _ _ _).drew.trans hb5).mono HI.out.bt.size)); simp only [gaveUp]; clear hb5; go_simp; exact ⟨rfl, KsP.fell HBf.out HC.out rfl⟩
      | ok x j' =>
        have hje := axR_end hres
        have HEq7 : Hid (axsR ts en (ts.length + 1) 0 [] = axsR ts en f' j' (xs ++ [x])) := by unfold Hid; rw [HEq.out]; exact axsR_step hlt hres
        go_wp2_with fail
        clear b0 b1
        first
        | go_region_law (first
          | (refine step_append_lies _ rfl (.tmp 11) (.tmp 14) 23 rfl (p + 1) 39 i0 (.agg zeroX) 13 264 Tryz.underlying23 hi0 hz0 hz1 hz2 rfl (by decide) (.slice va m vc) m vs (by simp [Act.eval]) HK6.out.ow.row ⟨w5.heap.size, 0, none⟩ 1 1 [.int .i64 xk, .int .i64 ck, .slice c1a c1n c1c, .slice c2a c2n c2c, .slice c3a c3n c3c, .int .i64 dk, .slice d1a d1n d1c, .slice d2a d2n d2c, .slice d3a d3n d3c, .slice ra rn rc, .slice sa sn sc, .slice aa an ac, .slice ba bn bc] (by simp [Act.eval]) rfl HN6.out (one13X (cs := #[.int .i64 xk, .int .i64 ck, .slice c1a c1n c1c, .slice c2a c2n c2c, .slice c3a c3n c3c, .int .i64 dk, .slice d1a d1n d1c, .slice d2a d2n d2c, .slice d3a d3n d3c, .slice ra rn rc, .slice sa sn sc, .slice aa an ac, .slice ba bn bc]) (by simp [Value.oneCell'])) (by decide) (by unfold maxLen; omega) (by omega) hbs _ rfl ?_; intro g1 cap1 w6 hown hgrow hat hlt6; obtain ⟨hI7, y0, yf0⟩ := HI.out.push (Nat.le_of_lt hje.1) HBt6.out rfl HPa.out HSe.out HK6.out HI.out.se.us (fun b e => (HI.out.ow.row.lt b e).2) (by rw [← HXk.out]; rfl) hown hgrow (by rcases hat with q | q; exact .inl q; exact .inr (by rw [q]; exact Nat.le_refl _)); have HI7 : Hid _ := hI7; clear hI7 hown hgrow hat hlt6)
          | (go_simp; refine (axiom_any base pb g j ts gs en wo.drew (HI.out.rdr.of rfl) (HI.out.tk.below (Below.refl _ _).drew) hjl).mono ?_; rintro e w5 hP; rw [hres] at hP; obtain ⟨hb5, V5, Ls5, he5, hpa5, hse5, hR5⟩ := hP; subst he5; obtain ⟨ck, c1a, c1n, c1c, c2a, c2n, c2c, c3a, c3n, c3c, dk, d1a, d1n, d1c, d2a, d2n, d2c, d3a, d3n, d3c, ra, rn, rc, sa, sn, sc, aa, an, ac, ba, bn, bc, hV⟩ := hpa5.forms; subst hV; obtain ⟨xk, hxk⟩ : ∃ k, k = x.kind := ⟨_, rfl⟩; rw [← hxk]; simp only [XV.arr]; have HXk : Hid (xk = x.kind) := hxk; have hbt5 : Bt pb wo.heap.size wo w5 := (Bt.refl _ _ _).drew.trans hb5; have HK5 : Hid (KsX base pb g ts gs en w p (p + 1) w5 (.slice va m vc) m vs xs Vs LL j') := HI.out.next hbt5 (Nat.le_of_lt hje.1) hR5; obtain ⟨y0, yf0⟩ := HK5.out.cell; have hp5 : p < w5.heap.size := Nat.lt_of_lt_of_le (Nat.lt_succ_self p) HK5.out.le; have hbw : Below w5.heap.size w5 (w5.alloc (.cells #[.int .i64 xk, .int .i64 ck, .slice c1a c1n c1c, .slice c2a c2n c2c, .slice c3a c3n c3c, .int .i64 dk, .slice d1a d1n d1c, .slice d2a d2n d2c, .slice d3a d3n d3c, .slice ra rn rc, .slice sa sn sc, .slice aa an ac, .slice ba bn bc] 39)) := (Below.refl _ _).alloc (Nat.le_refl _) _; have HK6 : Hid (KsX base pb g ts gs en w p (p + 1) (w5.alloc (.cells #[.int .i64 xk, .int .i64 ck, .slice c1a c1n c1c, .slice c2a c2n c2c, .slice c3a c3n c3c, .int .i64 dk, .slice d1a d1n d1c, .slice d2a d2n d2c, .slice d3a d3n d3c, .slice ra rn rc, .slice sa sn sc, .slice aa an ac, .slice ba bn bc] 39)) (.slice va m vc) m vs xs Vs LL j') := HK5.out.below hbw; have HPa : Hid (PaX (w5.alloc (.cells #[.int .i64 xk, .int .i64 ck, .slice c1a c1n c1c, .slice c2a c2n c2c, .slice c3a c3n c3c, .int .i64 dk, .slice d1a d1n d1c, .slice d2a d2n d2c, .slice d3a d3n d3c, .slice ra rn rc, .slice sa sn sc, .slice aa an ac, .slice ba bn bc] 39)) 6 ⟨.int .i64 ck, .slice c1a c1n c1c, .slice c2a c2n c2c, .slice c3a c3n c3c, .int .i64 dk, .slice d1a d1n d1c, .slice d2a d2n d2c, .slice d3a d3n d3c, .slice ra rn rc, .slice sa sn sc, .slice aa an ac, .slice ba bn bc⟩ x Ls5) := hpa5.keep (fun q y hy => hbw.block _ ((hse5.us q).lt HI.out.t (by have := HI.out.bt.size; have := hbt5.size; have := HI.out.lt; omega) y hy)); have HSe : Hid (Se6 ts gs j j' wo.heap.size (w5.alloc (.cells #[.int .i64 xk, .int .i64 ck, .slice c1a c1n c1c, .slice c2a c2n c2c, .slice c3a c3n c3c, .int .i64 dk, .slice d1a d1n d1c, .slice d2a d2n d2c, .slice d3a d3n d3c, .slice ra rn rc, .slice sa sn sc, .slice aa an ac, .slice ba bn bc] 39)).heap.size (w5.alloc (.cells #[.int .i64 xk, .int .i64 ck, .slice c1a c1n c1c, .slice c2a c2n c2c, .slice c3a c3n c3c, .int .i64 dk, .slice d1a d1n d1c, .slice d2a d2n d2c, .slice d3a d3n d3c, .slice ra rn rc, .slice sa sn sc, .slice aa an ac, .slice ba bn bc] 39)) Ls5) := Se6.mono (Se6.keep hse5 (fun q y hy => hbw.block _ ((hse5.us q).lt HI.out.t (by have := HI.out.bt.size; have := hbt5.size; have := HI.out.lt; omega) y hy))) (Nat.le_refl _) (Nat.le_refl _) (Nat.le_refl _) hbw.size; have HBt6 : Hid (Bt pb wo.heap.size wo (w5.alloc (.cells #[.int .i64 xk, .int .i64 ck, .slice c1a c1n c1c, .slice c2a c2n c2c, .slice c3a c3n c3c, .int .i64 dk, .slice d1a d1n d1c, .slice d2a d2n d2c, .slice d3a d3n d3c, .slice ra rn rc, .slice sa sn sc, .slice aa an ac, .slice ba bn bc] 39))) := hbt5.trans (Bt.of_below (hbw.mono hbt5.size)); have hbs : p + 1 ≤ (w5.alloc (.cells #[.int .i64 xk, .int .i64 ck, .slice c1a c1n c1c, .slice c2a c2n c2c, .slice c3a c3n c3c, .int .i64 dk, .slice d1a d1n d1c, .slice d2a d2n d2c, .slice d3a d3n d3c, .slice ra rn rc, .slice sa sn sc, .slice aa an ac, .slice ba bn bc] 39)).heap.size := HK6.out.le; have HN6 : Hid _ := new13X w5 #[.int .i64 xk, .int .i64 ck, .slice c1a c1n c1c, .slice c2a c2n c2c, .slice c3a c3n c3c, .int .i64 dk, .slice d1a d1n d1c, .slice d2a d2n d2c, .slice d3a d3n d3c, .slice ra rn rc, .slice sa sn sc, .slice aa an ac, .slice ba bn bc] 39; clear hb5 hpa5 hse5 hR5 hxk hbt5 hbw))
        | fail
        all_goals
          have hm2 := lenOf_at HI7.out.rdr
          have hm3 := hm1.out
          go_wp2_with fail
          go_roundw
          case rel => exact ⟨_, m + 1, _, _, _, _, j', f', HI7.out, by omega, hje.2, by omega, HEq7.out⟩
          case measure => omega
    · have hn0 : ¬ (0 : Int) < (n : Int) := by have := HNn.out; omega
      have hjn : j = ts.length := by omega
      have HE : Hid (axsR ts en (ts.length + 1) 0 [] = .ok xs) := by unfold Hid; rw [HEq.out]; exact axsR_end (by omega)
      obtain ⟨hF, y0⟩ := HI.out.fin hjn HE.out
      have HF : Hid _ := hF
      have u0 : wo.cell? ⟨w.heap.size, 0, none⟩ = some (.slice none 0 0) := by have := HI.out.res; simp [World.cell?, this]
      have uf0 : wo.frozen? ⟨w.heap.size, 0, none⟩ = false := by have := HI.out.res; simp [World.frozen?, this]
      clear hF
      go_wp2
      refine bodyPost_ret (v := .agg #[.slice va m vc]) (by simp [results, Tryz.results42, go_sem, y0]) rfl ?_
      exact HF.out
end

section
open Go.RowKit
set_option linter.unusedVariables false

/-- An answer of things told, in blocks from base on. -/
structure OwnKb (base : Nat) (w : World) (v : Value) (vs : List Value) (xs : List AX) (Vs : Nat → XV) (LL : Nat → Nat → List (Addr × IntKind)) : Prop where
  ow : OwXs base 6 w v xs.length vs xs Vs LL
  nd : ∀ i p, ((LL i p).map (·.1)).Nodup
  dj : ∀ i p i' p', (i ≠ i' ∨ p ≠ p') → ∀ x ∈ LL i p, ∀ y ∈ LL i' p', x.1.block ≠ y.1.block
  fr : ∀ i p, ∀ x ∈ LL i p, w.frozen? x.1 = false
  off : ∀ i p, ∀ x ∈ LL i p, v.ownBlock ≠ some x.1.block
  bl : ∀ i p, ∀ x ∈ LL i p, base ≤ x.1.block ∧ x.1.block < w.heap.size

theorem ownKb_nil (base : Nat) (w : World) : OwnKb base w (.slice none 0 0) [] [] (fun _ => XV.zero) (fun _ _ => []) :=
  ⟨⟨rfl, World.ownsRow_nil _ _ _ _, fun i hi => by simp at hi, fun i hi => by simp at hi⟩, fun _ _ => by simp, fun _ _ _ _ _ x hx => by simp at hx, fun _ _ x hx => by simp at hx, fun _ _ x hx => by simp at hx, fun _ _ x hx => by simp at hx⟩

section
variable {base : Nat} {w w' : World} {v : Value} {vs : List Value} {xs : List AX} {Vs : Nat → XV} {LL : Nat → Nat → List (Addr × IntKind)}
theorem OwnKb.keep (h : OwnKb base w v vs xs Vs LL) (hk : ∀ b, base ≤ b → b < w.heap.size → w'.heap[b]? = w.heap[b]?) (hs : w.heap.size ≤ w'.heap.size) : OwnKb base w' v vs xs Vs LL := by
  have hall : ∀ i p, ∀ x ∈ LL i p, w'.heap[x.1.block]? = w.heap[x.1.block]? := fun i p x hx => hk _ (h.bl i p x hx).1 (h.bl i p x hx).2
  exact ⟨⟨h.ow.len, ownsX_keep h.ow.row (fun b e => hk b (h.ow.row.lt b e).1 (h.ow.row.lt b e).2), h.ow.at', fun i hi => (h.ow.pa i hi).keep (hall i)⟩, h.nd, h.dj, fun i p x hx => (World.frozen?_of_block (w := w) (hall i p x hx)).trans (h.fr i p x hx), h.off, fun i p x hx => ⟨(h.bl i p x hx).1, Nat.lt_of_lt_of_le (h.bl i p x hx).2 hs⟩⟩
theorem OwnKb.below (h : OwnKb base w v vs xs Vs LL) (hb : Below w.heap.size w w') : OwnKb base w' v vs xs Vs LL := h.keep (fun b _ h2 => hb.block b h2) hb.size
theorem OwnKb.mono {base' : Nat} (h : OwnKb base w v vs xs Vs LL) (hb : base' ≤ base) : OwnKb base' w v vs xs Vs LL :=
  ⟨⟨h.ow.len, ownsX_low h.ow.row hb, h.ow.at', h.ow.pa⟩, h.nd, h.dj, h.fr, h.off, fun i p x hx => ⟨Nat.le_trans hb (h.bl i p x hx).1, (h.bl i p x hx).2⟩⟩
theorem OwnKb.form (h : OwnKb base w v vs xs Vs LL) : ∃ va vc, v = .slice va xs.length vc := by
  rcases h.ow.row.2 with ⟨e, e0⟩ | ⟨g, c, _, e, _⟩
  · exact ⟨none, 0, by rw [e, e0]⟩
  · exact ⟨_, c, e⟩
theorem OwS.rd {v : Value} {zs : List Int} {L : List (Addr × IntKind)} {lo hi : Nat} (h : OwS w v zs L) (hb : ∀ x ∈ L, lo ≤ x.1.block ∧ x.1.block < hi) : ∃ a c, v = .slice a zs.length c ∧ Rd lo hi w a zs.length c zs := by
  obtain ⟨a, c, b, h1, h2, rfl⟩ := h
  exact ⟨a, c, h1, h2.rd hb⟩
/-- It reads as what is told. -/
theorem OwnKb.rd (h : OwnKb base w v vs xs Vs LL) : ∃ va vc, v = .slice va xs.length vc ∧ RdK base w.heap.size w 6 va xs.length vc xs := by
  have hrow := h.ow.row
  rcases hrow.2 with ⟨e1, e2⟩ | ⟨g, cap, cur, e1, hg, hb, hc1, hc2, _⟩
  · exact ⟨none, 0, by rw [e1, e2], ⟨rfl, ⟨by omega, by omega⟩, .inl e2⟩⟩
  · refine ⟨_, cap, e1, ⟨rfl, ⟨hc1, by unfold maxLen at hc2; omega⟩, .inr ⟨g, 0, rfl, hg, (Array.getElem?_eq_some_iff.1 hb).1, fun i hi => ?_⟩⟩⟩
    have hpa := h.ow.pa i hi
    have hrc := hpa.c.rd (h.bl i 0)
    have hrd := hpa.d.rd (h.bl i 1)
    obtain ⟨ra, rc, er, hrr⟩ := hpa.r.rd (h.bl i 2)
    obtain ⟨sa, sc, es, hrs⟩ := hpa.s.rd (h.bl i 3)
    obtain ⟨aa, ac, ea, hra⟩ := hpa.a.rd (h.bl i 4)
    obtain ⟨ba, bc, eb, hrb⟩ := hpa.b.rd (h.bl i 5)
    subst e1
    have cell : ∀ j, j < 13 → ∀ u, ((Vs i).arr (xs.getD i AX.zero).kind)[j]? = some u → w.cell? ⟨g, 0 + i * 13 + j, none⟩ = some u := by
      intro j hj u hu
      rw [← hu, ← h.ow.at' i hi j hj, Nat.zero_add]
      exact hrow.cellAt (i * 13 + j) (by omega)
    exact ⟨(Vs i).c0, (Vs i).c1, (Vs i).c2, (Vs i).c3, (Vs i).d0, (Vs i).d1, (Vs i).d2, (Vs i).d3, ra, _, rc, sa, _, sc, aa, _, ac, ba, _, bc, cell 0 (by omega) _ rfl, cell 1 (by omega) _ rfl, cell 2 (by omega) _ rfl, cell 3 (by omega) _ rfl, cell 4 (by omega) _ rfl, cell 5 (by omega) _ rfl, cell 6 (by omega) _ rfl, cell 7 (by omega) _ rfl, cell 8 (by omega) _ rfl, cell 9 (by omega) _ (by rw [← er]; rfl), cell 10 (by omega) _ (by rw [← es]; rfl), cell 11 (by omega) _ (by rw [← ea]; rfl), cell 12 (by omega) _ (by rw [← eb]; rfl), ⟨hrc, hrd, hrr, hrs, hra, hrb⟩⟩
end

/-- What is told in memory of the call's own, and a number. -/
def AnsK (w : World) (r : List AX × Int) (e : Ending) (w' : World) : Prop := ∃ v vs Vs LL, e = .returned (.tuple #[.agg #[v], .int .i64 r.2]) ∧ OwnKb w.heap.size w' v vs r.1 Vs LL ∧ Below w.heap.size w w'
theorem AnsK.mk {w w' : World} {r : List AX × Int} {xs : List AX} {p : Int} {v : Value} {vs : List Value} {Vs : Nat → XV} {LL : Nat → Nat → List (Addr × IntKind)} (hr : r = (xs, p)) (hO : OwnKb w.heap.size w' v vs xs Vs LL) (hB : Below w.heap.size w w') : AnsK w r (.returned (.tuple #[.agg #[v], .int .i64 p])) w' := by
  subst hr; exact ⟨v, vs, Vs, LL, rfl, hO, hB⟩

/-- A list's box. -/
def BoxKv (W : World) (b : Nat) (v : Value) : Prop := W.heap[b]? = some (.cells #[v] 25 (0, 0))
theorem BoxKv.cell {W : World} {b : Nat} {v : Value} (h : BoxKv W b v) : W.cell? ⟨b, 0, none⟩ = some v := by
  unfold BoxKv at h
  simp [World.cell?, h]
theorem BoxKv.frz {W : World} {b : Nat} {v : Value} (h : BoxKv W b v) (o : Nat) : W.frozen? ⟨b, o, none⟩ = false := by
  unfold BoxKv at h
  simp [World.frozen?, h]
theorem BoxKv.lt {W : World} {b : Nat} {v : Value} (h : BoxKv W b v) : b < W.heap.size := (Array.getElem?_eq_some_iff.1 h).1
theorem BoxKv.set {W : World} {b : Nat} {v : Value} (h : BoxKv W b v) (x : Value) : BoxKv (W.setCell ⟨b, 0, none⟩ x) b x := by
  unfold BoxKv
  rw [heap_setCell_same W b 0 _ _ _ h]
  rfl
theorem BoxKv.of {W W' : World} {b : Nat} {v : Value} (h : BoxKv W b v) (e : W'.heap[b]? = W.heap[b]?) : BoxKv W' b v := e.trans h
theorem BoxKv.new (W : World) (v : Value) : BoxKv (W.alloc (.cells #[v] 25)) W.heap.size v := World.alloc_heap_new W _
end

end Go.Proofs.YtckhjoancfbkfaaGreat
