/- spec.KbRead: for every list of bytes it answers what 'kbRead' says, in memory of its own. -/
import Derived.Test.YtckhjoancfbkfaaGreatKrLZ
import Derived.Test.YtckhjoancfbkfaaGreatNG23
import Derived.Test.YtckhjoancfbkfaaGreatKbOkFn
namespace Go.Proofs.YtckhjoancfbkfaaGreat
open Go.RowKit
set_option linter.unusedVariables false

theorem axR_pos {ts : List Tok} {en : Int} (hp : ∀ q, 0 ≤ hereI ts en q) : ∀ {i : Nat} {a : Int}, axR ts en i = .bad a → 0 ≤ a := by
  have hf : ∀ {f : Nat} {x : AX} {i : Nat} {a : Int}, fieldR ts en f x i = .bad a → 0 ≤ a := by
    intro f x i a h
    unfold fieldR at h
    split at h
    · cases hc : conR ts en 6 i with
      | bad p => rw [hc] at h; simp only [ResX.bad.injEq] at h; rw [← h]; exact conR_pos hp hc
      | ok c k => rw [hc] at h; simp at h
    · split at h
      · cases hc : conR ts en 6 i with
        | bad p => rw [hc] at h; simp only [ResX.bad.injEq] at h; rw [← h]; exact conR_pos hp hc
        | ok c k => rw [hc] at h; simp at h
      · split at h
        · simp at h
        · simp only [ResX.bad.injEq] at h; rw [← h]; exact hp _
  have hfs : ∀ {fs : List Nat} {x : AX} {i : Nat} {a : Int}, fieldsR ts en fs x i = .bad a → 0 ≤ a := by
    intro fs
    induction fs with
    | nil => intro x i a h; simp [fieldsR] at h
    | cons f fs ih =>
      intro x i a h
      simp only [fieldsR] at h
      cases h1 : fieldR ts en f x i with
      | bad p => rw [h1] at h; simp only [ResX.bad.injEq] at h; rw [← h]; exact hf h1
      | ok x1 j1 => rw [h1] at h; exact ih h
  intro i a h
  unfold axR at h
  split at h
  · simp only [ResX.bad.injEq] at h; rw [← h]; exact hp _
  · split at h
    · simp only [ResX.bad.injEq] at h; rw [← h]; exact hp _
    · split at h
      · simp only [ResX.bad.injEq] at h; rw [← h]; exact hp _
      · cases h5 : fieldsR ts en (fieldsN (kindXI ts i)) (AX.kd (kindXI ts i)) (i + 2) with
        | bad p => rw [h5] at h; simp only [closeX, ResX.bad.injEq] at h; rw [← h]; exact hfs h5
        | ok x1 j1 =>
          rw [h5] at h
          simp only [closeX] at h
          split at h
          · simp at h
          · simp only [ResX.bad.injEq] at h; rw [← h]; exact hp _

/-- How much is left of the tokens. -/
def leftP (w : World) (b L : Nat) : Nat := match w.cell? ⟨b, 3, none⟩ with
  | some (.int _ q) => if q < 0 then (match w.cell? ⟨b, 1, none⟩ with | some (.int _ i) => L + 1 - i.toNat | _ => 0) else 0
  | _ => 0
theorem leftP_at {w : World} {pb g i L : Nat} {ts : List Tok} {en : Int} (h : PsAt w pb g i ts en (-1)) : leftP w pb L = L + 1 - i := by
  obtain ⟨a, c, hb, _⟩ := h
  obtain ⟨_, c1, _, c3⟩ := hb.cells
  unfold leftP; rw [c3, c1]; simp
theorem leftP_bad {w : World} {pb L : Nat} {q : Int} (h : PsBad w pb q) (hq : 0 ≤ q) : leftP w pb L = 0 := by
  obtain ⟨lv, i, en, hb⟩ := h
  obtain ⟨_, _, _, c3⟩ := hb.cells
  unfold leftP; rw [c3]; simp; omega

/-- Something is wrong: the list's box p holds some list. -/
structure BdK (pb : Nat) (w : World) (p : Nat) (q : Int) (wr : World) : Prop where
  bad : PsBad wr pb q ∧ 0 ≤ q
  bt : Bt pb w.heap.size w wr

theorem BdK.push {base pb g : Nat} {ts : List Tok} {gs : List (Nat × Nat)} {en : Int} {w : World} {p : Nat} {wo w5 V w6 : World} {v : Value} {m : Nat} {vs : List Value} {xs : List AX} {Vs : Nat → XV} {LL : Nat → Nat → List (Addr × IntKind)} {j : Nat} {q : Int} {u v0 : Value} (h : KsZ base pb g ts gs en w p (p + 1) wo v m vs xs Vs LL j) (hb : Bt pb wo.heap.size wo w5) (hq : PsBad w5 pb q ∧ 0 ≤ q) (hbw : Below w5.heap.size w5 V) (hx : w5.heap[p]? = some (.cells #[v0] 25 (0, 0))) (hgr : V.grownBy w6 v.ownBlock) : BdK pb w p q (w6.setCell ⟨p, 0, none⟩ u) := by
  obtain ⟨q1, q2, q3⟩ := h.lt
  have hr := h.ow.row.lt
  have hsz := h.bt.size
  have hs5 := hb.size
  have hsV := hbw.size
  have hle := h.le
  have hpb : (w6.setCell ⟨p, 0, none⟩ u).heap[pb]? = w5.heap[pb]? := by
    rw [heap_set1 _ _ _ _ (by omega), hgr.block pb (by omega) (fun e => by have := (hr pb e.symm).1; omega), hbw.block pb (by omega)]
  have h5 := h.bt.trans (hb.mono hsz)
  exact ⟨⟨hq.1.of hpb, hq.2⟩, ((h5.trans (Bt.of_below (hbw.mono (by omega)))).grown hgr (by omega) (fun k e => by have := (hr k e).1; omega)).set (.inl (by show w.heap.size ≤ p; omega)) _⟩

theorem KsZ.ans {base pb g : Nat} {ts : List Tok} {gs : List (Nat × Nat)} {en : Int} {w : World} {p B : Nat} {wr : World} {v : Value} {m : Nat} {vs : List Value} {xs : List AX} {Vs : Nat → XV} {LL : Nat → Nat → List (Addr × IntKind)} {j : Nat} (h : KsZ base pb g ts gs en w p B wr v m vs xs Vs LL j) (hlb : base ≤ B) : OwnKb base wr v vs xs Vs LL := by
  obtain ⟨q1, q2, q3⟩ := h.lt
  have hlen := h.ow.len
  subst hlen
  have hge : ∀ i q, ∀ x ∈ LL i q, base ≤ x.1.block := fun i q x hx => by
    rcases h.se.us i q x hx with ⟨a, b⟩ | ⟨n, a, b, c, d, e⟩
    · omega
    · have := (h.t.txt n c d).1; omega
  exact ⟨⟨rfl, ownsX_low h.ow.row hlb, h.ow.at', h.ow.pa⟩, h.se.nd, h.se.dj, h.se.fr, h.se.off, fun i q x hx => ⟨hge i q x hx, (h.se.us i q).lt h.t (by have := h.bt.size; omega) x hx⟩⟩

set_option maxRecDepth 100000 in
set_option maxHeartbeats 8000000 in
theorem specKbRead_any (a : Option Addr) (n cap : Nat) (zs : List Int) (w : World) {lo hi : Nat} (h : Rd lo hi w a n cap zs) (hhi : hi ≤ w.heap.size) :
    Calls Tryz.prog 25 #[.slice a n cap] w (AnsK w (kbRead zs)) := by
  have HL : Hid (zs.length = n) := h.len
  obtain ⟨ts, bad, htp⟩ : ∃ ts p, toks zs = (ts, p) := ⟨_, _, rfl⟩
  have HT : Hid (toks zs = (ts, bad)) := htp
  have HK : Hid (Tks ts (n : Nat)) := by have := toks_tks zs n; rw [htp] at this; exact this
  have hbp : bad = -1 ∨ 0 ≤ bad := by have := (toks_place zs).2; rw [htp] at this; exact this
  obtain ⟨W0, HW0⟩ : ∃ W0, Hid (W0 = w.alloc (.cells #[.slice none 0 0] 25)) := ⟨_, rfl⟩
  have hb0 : Below w.heap.size w W0 := by rw [HW0.out]; exact (Below.refl _ _).alloc (Nat.le_refl _) _
  have HB0 : Hid (Below w.heap.size w W0) := hb0
  have HV0 : Hid (BoxKv W0 w.heap.size (.slice none 0 0)) := by unfold Hid; rw [HW0.out]; exact BoxKv.new w _
  have hs0 : w.heap.size < W0.heap.size := HV0.out.lt
  have HR0 : Hid (Rd lo hi W0 a n cap zs) := h.below hb0 hhi
  have hh0 : hi ≤ W0.heap.size := by omega
  clear h hb0 htp
  go_enter Tryz.func25, Tryz.ntmps25
  go_wp2_with fail
  rw [← HW0.out]
  refine (specTokens_any a n cap zs W0 HR0.out hh0).mono ?_
  rintro e w1 ⟨vt, gs, rfl, hO, hb1⟩
  rw [HT.out] at hO ⊢
  obtain ⟨ta, tcp, g, rfl, hta, htc1, htc2, hTk⟩ := OwnT.tkm hO (pb := w1.heap.size) (Nat.le_refl _)
  have HV1 : Hid (BoxKv w1 w.heap.size (.slice none 0 0)) := HV0.out.of (hb1.block _ HV0.out.lt)
  have HB1 : Hid (Below w.heap.size w w1) := HB0.out.trans (hb1.mono HB0.out.size)
  have hs1 : W0.heap.size ≤ w1.heap.size := hb1.size
  rcases hbp with hbad | hbad
  · subst hbad
    obtain ⟨pb, hpb⟩ : ∃ pb, pb = w1.heap.size := ⟨_, rfl⟩
    obtain ⟨p, hp⟩ : ∃ p, p = w1.heap.size + 1 := ⟨_, rfl⟩
    obtain ⟨W2, HW2⟩ : ∃ W, Hid (W = w1.alloc (.cells #[.slice ta ts.length tcp, .int .i64 0, .int .i64 n, .int .i64 (-1)] 96)) := ⟨_, rfl⟩
    have hb2 : Below w1.heap.size w1 W2 := by rw [HW2.out]; exact (Below.refl _ _).alloc (Nat.le_refl _) _
    have hzw2 : W2.heap.size = w1.heap.size + 1 := by rw [HW2.out]; simp
    have HP2 : PsAt W2 pb g 0 ts n (-1) := ⟨ta, tcp, by rw [HW2.out, hpb]; exact BoxQ.new w1 _ _ _ _, hta, htc1, htc2⟩
    have HT2 : TkM W0.heap.size pb W2 g ts gs := by rw [hpb]; exact hTk.below hb2
    have HV2 : Hid (BoxKv W2 w.heap.size (.slice none 0 0)) := HV1.out.of (hb2.block _ HV1.out.lt)
    have HB2 : Hid (Below w.heap.size w W2) := HB1.out.trans (hb2.mono (by omega))
    have hpb2 : pb < W2.heap.size := HP2.lt
    have hpb1 : W0.heap.size ≤ pb := by omega
    obtain ⟨W3, HW3⟩ : ∃ W, Hid (W = (w1.alloc (.cells #[.slice ta ts.length tcp, .int .i64 0, .int .i64 n, .int .i64 (-1)] 96)).alloc (.cells #[.slice none 0 0] 25)) := ⟨_, rfl⟩
    have HW3' : W3 = W2.alloc (.cells #[.slice none 0 0] 25) := by rw [HW3.out, HW2.out]
    have hb3 : Below W2.heap.size W2 W3 := by rw [HW3']; exact (Below.refl _ _).alloc (Nat.le_refl _) _
    have hx3 : W3.heap[p]? = some (.cells #[.slice none 0 0] 25 (0, 0)) := by rw [HW3', hp, ← hzw2]; exact World.alloc_heap_new W2 _
    have hz3 : W3.heap.size = p + 1 := by rw [HW3', World.size_alloc]; omega
    have HI3 : Hid (KsZ W0.heap.size pb g ts gs n W2 p (p + 1) W3 (.slice none 0 0) 0 [] [] (fun _ => XV.zero) (fun _ _ => []) 0) :=
      ⟨HT2, ⟨hpb2, by omega, by omega⟩, Bt.of_below hb3, hx3, ⟨rfl, World.ownsRow_nil _ _ _ _, fun i hi => by omega, fun i hi => by omega⟩, SeL.nil _ _ _ _ _ _ _, HP2.below hb3, by omega⟩
    have hpw2 : W2.heap.size ≤ p := by omega
    have hn15 : ts.length ≤ 1500 := HK.out.len
    obtain ⟨i0, hi0, hz0, hz1, hz2⟩ := info_parts infoX
    clear hO hb1 hTk hta hb2 hzw2 HP2 HT2 hb3 hx3 hz3 HW3' htc1 htc2
    go_wp2_with fail
    rw [← HW3.out, ← hp, ← hpb]
    clear hp hpb
    go_loopw [22] (fun _ wr => (∃ (v : Value) (m : Nat) (vs : List Value) (xs : List AX) (Vs : Nat → XV) (LL : Nat → Nat → List (Addr × IntKind)) (j f : Nat), KsZ W0.heap.size pb g ts gs n W2 p (p + 1) wr v m vs xs Vs LL j ∧ m ≤ j ∧ j ≤ ts.length ∧ ts.length < f + j ∧ axsR ts (n : Nat) (ts.length + 1) 0 [] = axsR ts (n : Nat) f j xs) ∨ (∃ q : Int, BdK pb W2 p q wr ∧ axsR ts (n : Nat) (ts.length + 1) 0 [] = .bad q)) (fun _ wr => leftP wr pb ts.length)
    case atStart => exact .inl ⟨_, 0, [], [], _, _, 0, ts.length + 1, HI3.out, Nat.le_refl _, Nat.zero_le _, by omega, rfl⟩
    case round =>
      rename World => wx
      rcases hrel with ⟨v, m, vs, xs, Vs, LL, j, f, hinv, hmj, hjl, hfj, heq⟩ | ⟨q, hbd, heq⟩
      · obtain ⟨va, vc, rfl⟩ := hinv.fm
        have HIx : Hid (KsZ W0.heap.size pb g ts gs n W2 p (p + 1) wx (.slice va m vc) m vs xs Vs LL j) := hinv
        have HEq : Hid (axsR ts (n : Nat) (ts.length + 1) 0 [] = axsR ts (n : Nat) f j xs) := heq
        have hm1 : Hid (leftP wx pb ts.length = ts.length + 1 - j) := leftP_at hinv.rdr
        clear hinv heq
        obtain ⟨qa, qc, hqb, _⟩ := HIx.out.rdr
        obtain ⟨q0, q1, q2, q3⟩ := hqb.cells
        obtain ⟨L, hL⟩ : ∃ L, L = ts.length := ⟨_, rfl⟩
        have HLn : Hid (L = ts.length) := hL
        rw [← hL] at q0
        clear hqb hL
        by_cases hlt : j < ts.length
        · have hji : (j : Int) < (L : Int) := by have := HLn.out; omega
          obtain ⟨f', hf'⟩ : ∃ f', f = f' + 1 := ⟨f - 1, by omega⟩
          subst hf'
          go_wp2_with fail
          go_quiet (fail)
          clear q0 q1 q2 q3
          obtain ⟨wo, hwo⟩ : ∃ wo, wo = wx.drewN nq := ⟨_, rfl⟩
          rw [← hwo]
          have HI : Hid (KsZ W0.heap.size pb g ts gs n W2 p (p + 1) wo (.slice va m vc) m vs xs Vs LL j) := by unfold Hid; rw [hwo]; exact HIx.out.below (below_drewN (Below.refl _ _) nq)
          obtain ⟨z0, zf0⟩ := HI.out.cell
          clear hwo HIx
          cases hres : axR ts (n : Nat) j with
          | bad q =>
            have hqp := axR_pos HK.out.pos hres
            have HEq7 : Hid (axsR ts (n : Nat) (ts.length + 1) 0 [] = .bad q) := by unfold Hid; rw [HEq.out]; exact axsR_bad hlt hres
            go_wp2_with fail
            first
            | go_region_law (first
              | (refine step_append_lies _ rfl (.tmp 40) (.tmp 43) 23 rfl (p + 1) 39 i0 (.agg zeroX) 13 264 Tryz.underlying23 hi0 hz0 hz1 hz2 rfl (by decide) (.slice va m vc) m vs (by simp [Act.eval]) HOw6.out ⟨w5.heap.size, 0, none⟩ 1 1 [.int .i64 xk, .int .i64 ck, .slice c1a c1n c1c, .slice c2a c2n c2c, .slice c3a c3n c3c, .int .i64 dk, .slice d1a d1n d1c, .slice d2a d2n d2c, .slice d3a d3n d3c, .slice ra rn rc, .slice sa sn sc, .slice aa an ac, .slice ba bn bc] (by simp [Act.eval]) rfl HN6.out (one13X (cs := #[.int .i64 xk, .int .i64 ck, .slice c1a c1n c1c, .slice c2a c2n c2c, .slice c3a c3n c3c, .int .i64 dk, .slice d1a d1n d1c, .slice d2a d2n d2c, .slice d3a d3n d3c, .slice ra rn rc, .slice sa sn sc, .slice aa an ac, .slice ba bn bc]) (by simp [Value.oneCell'])) (by decide) (by unfold maxLen; omega) (by omega) hbs _ rfl ?_; intro g1 cap1 w6 hown hgrow hat hlt6; have HG7 : Hid (BdK pb W2 p q (w6.setCell ⟨p, 0, none⟩ (.slice (some ⟨g1, 0, none⟩) (m + 1) cap1))) := BdK.push HI.out HBt5.out HKb.out HBw.out HBx5.out hgrow; have hbx6 : w6.heap[p]? = some (.cells #[.slice va m vc] 25 (0, 0)) := (hgrow.block p (by omega) (fun e => by have := (HI.out.ow.row.lt p e.symm).1; omega)).trans ((HBw.out.block p hp5).trans HBx5.out); have y0 : w6.cell? ⟨p, 0, none⟩ = some (.slice va m vc) := (by simp [World.cell?, hbx6]); have yf0 : w6.frozen? ⟨p, 0, none⟩ = false := (by simp [World.frozen?, hbx6]); clear hbx6 hown hgrow hat hlt6)
              | (go_simp; refine (l3axiom_any W0.heap.size pb g j ts gs n wo.drew HK.out (HI.out.rdr.of rfl) (HI.out.tk.below (Below.refl _ _).drew) hjl).mono ?_; rintro e w5 hP; rw [hres] at hP; obtain ⟨hb5, xk, V5, hfm, he5, hm5⟩ := hP; subst he5; obtain ⟨ck, c1a, c1n, c1c, c2a, c2n, c2c, c3a, c3n, c3c, dk, d1a, d1n, d1c, d2a, d2n, d2c, d3a, d3n, d3c, ra, rn, rc, sa, sn, sc, aa, an, ac, ba, bn, bc, hV⟩ := hfm; subst hV; simp only [XV.arr]; have hbt5 : Bt pb wo.heap.size wo w5 := (Bt.refl _ _ _).drew.trans hb5; have hp5 : p < w5.heap.size := Nat.lt_of_lt_of_le (Nat.lt_of_lt_of_le (Nat.lt_succ_self p) HI.out.le) hbt5.size; have hbw : Below w5.heap.size w5 (w5.alloc (.cells #[.int .i64 xk, .int .i64 ck, .slice c1a c1n c1c, .slice c2a c2n c2c, .slice c3a c3n c3c, .int .i64 dk, .slice d1a d1n d1c, .slice d2a d2n d2c, .slice d3a d3n d3c, .slice ra rn rc, .slice sa sn sc, .slice aa an ac, .slice ba bn bc] 39)) := (Below.refl _ _).alloc (Nat.le_refl _) _; have HN6 : Hid _ := new13X w5 #[.int .i64 xk, .int .i64 ck, .slice c1a c1n c1c, .slice c2a c2n c2c, .slice c3a c3n c3c, .int .i64 dk, .slice d1a d1n d1c, .slice d2a d2n d2c, .slice d3a d3n d3c, .slice ra rn rc, .slice sa sn sc, .slice aa an ac, .slice ba bn bc] 39; have HBt6 : Hid (Bt pb wo.heap.size wo (w5.alloc (.cells #[.int .i64 xk, .int .i64 ck, .slice c1a c1n c1c, .slice c2a c2n c2c, .slice c3a c3n c3c, .int .i64 dk, .slice d1a d1n d1c, .slice d2a d2n d2c, .slice d3a d3n d3c, .slice ra rn rc, .slice sa sn sc, .slice aa an ac, .slice ba bn bc] 39))) := hbt5.trans (Bt.of_below (hbw.mono hbt5.size)); have hbs : p + 1 ≤ (w5.alloc (.cells #[.int .i64 xk, .int .i64 ck, .slice c1a c1n c1c, .slice c2a c2n c2c, .slice c3a c3n c3c, .int .i64 dk, .slice d1a d1n d1c, .slice d2a d2n d2c, .slice d3a d3n d3c, .slice ra rn rc, .slice sa sn sc, .slice aa an ac, .slice ba bn bc] 39)).heap.size := Nat.le_trans hp5 hbw.size; have HKb : Hid (PsBad w5 pb q ∧ 0 ≤ q) := hm5; have hbx5 : w5.heap[p]? = some (.cells #[.slice va m vc] 25 (0, 0)) := (hbt5.block p (Array.getElem?_eq_some_iff.1 HI.out.box).1 (by have := HI.out.lt; omega)).trans HI.out.box; have y0 : w5.cell? ⟨p, 0, none⟩ = some (.slice va m vc) := (by simp [World.cell?, hbx5]); have yf0 : w5.frozen? ⟨p, 0, none⟩ = false := (by simp [World.frozen?, hbx5]); have HBx5 : Hid (w5.heap[p]? = some (.cells #[.slice va m vc] 25 (0, 0))) := hbx5; have HOw6 : Hid ((w5.alloc (.cells #[.int .i64 xk, .int .i64 ck, .slice c1a c1n c1c, .slice c2a c2n c2c, .slice c3a c3n c3c, .int .i64 dk, .slice d1a d1n d1c, .slice d2a d2n d2c, .slice d3a d3n d3c, .slice ra rn rc, .slice sa sn sc, .slice aa an ac, .slice ba bn bc] 39)).ownsRow (p + 1) 39 13 (.slice va m vc) m vs) := ownsX_keep (ownsX_keep HI.out.ow.row (fun b e => hbt5.block b (HI.out.ow.row.lt b e).2 (by have := (HI.out.ow.row.lt b e).1; have := HI.out.lt; omega))) (fun b e => hbw.block b (by have := (HI.out.ow.row.lt b e).2; have := hbt5.size; omega)); have HBw : Hid (Below w5.heap.size w5 (w5.alloc (.cells #[.int .i64 xk, .int .i64 ck, .slice c1a c1n c1c, .slice c2a c2n c2c, .slice c3a c3n c3c, .int .i64 dk, .slice d1a d1n d1c, .slice d2a d2n d2c, .slice d3a d3n d3c, .slice ra rn rc, .slice sa sn sc, .slice aa an ac, .slice ba bn bc] 39))) := hbw; have HBt5 : Hid (Bt pb wo.heap.size wo w5) := hbt5; clear hb5 hm5 hbt5 hbw hbx5))
            | fail
            all_goals
              have hm2 := leftP_bad HG7.out.bad.1 HG7.out.bad.2 (L := ts.length)
              have hm3 := hm1.out
              go_wp2_with fail
              go_roundw
              case rel => exact .inr ⟨q, HG7.out, HEq7.out⟩
              case measure => omega
          | ok x j' =>
            have hje := axR_end hres
            have HEq7 : Hid (axsR ts (n : Nat) (ts.length + 1) 0 [] = axsR ts (n : Nat) f' j' (xs ++ [x])) := by unfold Hid; rw [HEq.out]; exact axsR_step hlt hres
            go_wp2_with fail
            first
            | go_region_law (first
              | (refine step_append_lies _ rfl (.tmp 40) (.tmp 43) 23 rfl (p + 1) 39 i0 (.agg zeroX) 13 264 Tryz.underlying23 hi0 hz0 hz1 hz2 rfl (by decide) (.slice va m vc) m vs (by simp [Act.eval]) HK6.out.ow.row ⟨w5.heap.size, 0, none⟩ 1 1 [.int .i64 xk, .int .i64 ck, .slice c1a c1n c1c, .slice c2a c2n c2c, .slice c3a c3n c3c, .int .i64 dk, .slice d1a d1n d1c, .slice d2a d2n d2c, .slice d3a d3n d3c, .slice ra rn rc, .slice sa sn sc, .slice aa an ac, .slice ba bn bc] (by simp [Act.eval]) rfl HN6.out (one13X (cs := #[.int .i64 xk, .int .i64 ck, .slice c1a c1n c1c, .slice c2a c2n c2c, .slice c3a c3n c3c, .int .i64 dk, .slice d1a d1n d1c, .slice d2a d2n d2c, .slice d3a d3n d3c, .slice ra rn rc, .slice sa sn sc, .slice aa an ac, .slice ba bn bc]) (by simp [Value.oneCell'])) (by decide) (by unfold maxLen; omega) (by omega) hbs _ rfl ?_; intro g1 cap1 w6 hown hgrow hat hlt6; obtain ⟨hI7, y0, yf0⟩ := HI.out.push (Nat.le_of_lt hje.1) HBt6.out rfl HPa.out HSe.out HK6.out HI.out.se.us (fun b e => (HI.out.ow.row.lt b e).2) (by rw [← HXk.out]; rfl) hown hgrow (by rcases hat with q | q; exact .inl q; exact .inr (by rw [q]; exact Nat.le_refl _)); have HI7 : Hid _ := hI7; clear hI7 hown hgrow hat hlt6)
              | (go_simp; refine (l3axiom_any W0.heap.size pb g j ts gs n wo.drew HK.out (HI.out.rdr.of rfl) (HI.out.tk.below (Below.refl _ _).drew) hjl).mono ?_; rintro e w5 hP; rw [hres] at hP; obtain ⟨hb5, xk, V5, hfm, he5, hm5⟩ := hP; subst he5; obtain ⟨ck, c1a, c1n, c1c, c2a, c2n, c2c, c3a, c3n, c3c, dk, d1a, d1n, d1c, d2a, d2n, d2c, d3a, d3n, d3c, ra, rn, rc, sa, sn, sc, aa, an, ac, ba, bn, bc, hV⟩ := hfm; subst hV; simp only [XV.arr]; have hbt5 : Bt pb wo.heap.size wo w5 := (Bt.refl _ _ _).drew.trans hb5; have hp5 : p < w5.heap.size := Nat.lt_of_lt_of_le (Nat.lt_of_lt_of_le (Nat.lt_succ_self p) HI.out.le) hbt5.size; have hbw : Below w5.heap.size w5 (w5.alloc (.cells #[.int .i64 xk, .int .i64 ck, .slice c1a c1n c1c, .slice c2a c2n c2c, .slice c3a c3n c3c, .int .i64 dk, .slice d1a d1n d1c, .slice d2a d2n d2c, .slice d3a d3n d3c, .slice ra rn rc, .slice sa sn sc, .slice aa an ac, .slice ba bn bc] 39)) := (Below.refl _ _).alloc (Nat.le_refl _) _; have HN6 : Hid _ := new13X w5 #[.int .i64 xk, .int .i64 ck, .slice c1a c1n c1c, .slice c2a c2n c2c, .slice c3a c3n c3c, .int .i64 dk, .slice d1a d1n d1c, .slice d2a d2n d2c, .slice d3a d3n d3c, .slice ra rn rc, .slice sa sn sc, .slice aa an ac, .slice ba bn bc] 39; have HBt6 : Hid (Bt pb wo.heap.size wo (w5.alloc (.cells #[.int .i64 xk, .int .i64 ck, .slice c1a c1n c1c, .slice c2a c2n c2c, .slice c3a c3n c3c, .int .i64 dk, .slice d1a d1n d1c, .slice d2a d2n d2c, .slice d3a d3n d3c, .slice ra rn rc, .slice sa sn sc, .slice aa an ac, .slice ba bn bc] 39))) := hbt5.trans (Bt.of_below (hbw.mono hbt5.size)); have hbs : p + 1 ≤ (w5.alloc (.cells #[.int .i64 xk, .int .i64 ck, .slice c1a c1n c1c, .slice c2a c2n c2c, .slice c3a c3n c3c, .int .i64 dk, .slice d1a d1n d1c, .slice d2a d2n d2c, .slice d3a d3n d3c, .slice ra rn rc, .slice sa sn sc, .slice aa an ac, .slice ba bn bc] 39)).heap.size := Nat.le_trans hp5 hbw.size; obtain ⟨hxk, hj5, Ls5, hpa5, hse5, hR5⟩ := hm5; have HXk : Hid (xk = x.kind) := hxk; have HK5 : Hid (KsZ W0.heap.size pb g ts gs n W2 p (p + 1) w5 (.slice va m vc) m vs xs Vs LL j') := HI.out.next hbt5 (Nat.le_of_lt hje.1) hR5; obtain ⟨y0, yf0⟩ := HK5.out.cell; have HK6 : Hid (KsZ W0.heap.size pb g ts gs n W2 p (p + 1) (w5.alloc (.cells #[.int .i64 xk, .int .i64 ck, .slice c1a c1n c1c, .slice c2a c2n c2c, .slice c3a c3n c3c, .int .i64 dk, .slice d1a d1n d1c, .slice d2a d2n d2c, .slice d3a d3n d3c, .slice ra rn rc, .slice sa sn sc, .slice aa an ac, .slice ba bn bc] 39)) (.slice va m vc) m vs xs Vs LL j') := HK5.out.below hbw; have HPa : Hid (PaX (w5.alloc (.cells #[.int .i64 xk, .int .i64 ck, .slice c1a c1n c1c, .slice c2a c2n c2c, .slice c3a c3n c3c, .int .i64 dk, .slice d1a d1n d1c, .slice d2a d2n d2c, .slice d3a d3n d3c, .slice ra rn rc, .slice sa sn sc, .slice aa an ac, .slice ba bn bc] 39)) 6 ⟨.int .i64 ck, .slice c1a c1n c1c, .slice c2a c2n c2c, .slice c3a c3n c3c, .int .i64 dk, .slice d1a d1n d1c, .slice d2a d2n d2c, .slice d3a d3n d3c, .slice ra rn rc, .slice sa sn sc, .slice aa an ac, .slice ba bn bc⟩ x Ls5) := hpa5.keep (fun q y hy => hbw.block _ ((hse5.us q).lt HI.out.t (by have := HI.out.bt.size; have := hbt5.size; have := HI.out.lt; omega) y hy)); have HSe : Hid (Se6 ts gs j j' wo.heap.size (w5.alloc (.cells #[.int .i64 xk, .int .i64 ck, .slice c1a c1n c1c, .slice c2a c2n c2c, .slice c3a c3n c3c, .int .i64 dk, .slice d1a d1n d1c, .slice d2a d2n d2c, .slice d3a d3n d3c, .slice ra rn rc, .slice sa sn sc, .slice aa an ac, .slice ba bn bc] 39)).heap.size (w5.alloc (.cells #[.int .i64 xk, .int .i64 ck, .slice c1a c1n c1c, .slice c2a c2n c2c, .slice c3a c3n c3c, .int .i64 dk, .slice d1a d1n d1c, .slice d2a d2n d2c, .slice d3a d3n d3c, .slice ra rn rc, .slice sa sn sc, .slice aa an ac, .slice ba bn bc] 39)) Ls5) := Se6.mono (Se6.keep hse5 (fun q y hy => hbw.block _ ((hse5.us q).lt HI.out.t (by have := HI.out.bt.size; have := hbt5.size; have := HI.out.lt; omega) y hy))) (Nat.le_refl _) (Nat.le_refl _) (Nat.le_refl _) hbw.size; clear hb5 hpa5 hse5 hR5 hxk hbt5 hbw))
            | fail
            all_goals
              have hm2 := leftP_at (L := ts.length) HI7.out.rdr
              have hm3 := hm1.out
              go_wp2_with fail
              go_roundw
              case rel => exact .inl ⟨_, m + 1, _, _, _, _, j', f', HI7.out, by omega, hje.2, by omega, HEq7.out⟩
              case measure => omega
        · have hji : ¬ (j : Int) < (L : Int) := by have := HLn.out; omega
          have HWr : Hid (wholeK zs = (xs, -1)) := wholeK_ok HT.out HL.out (by rw [HEq.out]; exact axsR_end (by omega))
          go_wp2_with fail
          go_quiet (fail)
          clear q0 q1 q2 q3
          obtain ⟨wo, hwo⟩ : ∃ wo, wo = wx.drewN nq := ⟨_, rfl⟩
          rw [← hwo]
          have HI : Hid (KsZ W0.heap.size pb g ts gs n W2 p (p + 1) wo (.slice va m vc) m vs xs Vs LL j) := by unfold Hid; rw [hwo]; exact HIx.out.below (below_drewN (Below.refl _ _) nq)
          obtain ⟨qa, qc, hqb, _⟩ := HI.out.rdr
          obtain ⟨q0, q1, q2, q3⟩ := hqb.cells
          obtain ⟨z0, zf0⟩ := HI.out.cell
          have hml := HI.out.ow.len
          have HO5 : Hid (OwnKb W0.heap.size wo (.slice va m vc) vs xs Vs LL) := HI.out.ans (by omega)
          have HV5 : Hid (BoxKv wo w.heap.size (.slice none 0 0)) := HV2.out.of (HI.out.bt.block _ (by omega) (by omega))
          have HB5 : Hid (Below w.heap.size w wo) := HB2.out.trans (HI.out.bt.below (by omega) (by omega))
          have HC5 : Hid (BoxKv wo p (.slice va m vc)) := HI.out.box
          have HRd : Hid (RdK W0.heap.size wo.heap.size wo 6 va m vc xs) := by
            obtain ⟨a', c', e1, e2⟩ := HO5.out.rd
            simp only [Value.slice.injEq] at e1
            obtain ⟨rfl, _, rfl⟩ := e1
            unfold Hid; rw [← hml]; exact e2
          have hsW0 : W0.heap.size ≤ wo.heap.size := by have := HI.out.bt.size; omega
          clear hwo HIx hqb
          cases hok : kbB xs
          · have HCr : Hid (kbRead zs = ([], ((n : Nat) : Int))) := kbRead_no HL.out HWr.out hok
            go_wp2_with fail
            refine (specKbOk_any HRd.out (Nat.le_refl _) hsW0).mono ?_
            rintro e w6 ⟨rfl, hb6⟩
            rw [hok]
            have HV6 : Hid (BoxKv w6 w.heap.size (.slice none 0 0)) := HV5.out.of (hb6.block _ HV5.out.lt)
            have HB6 : Hid (Below w.heap.size w w6) := HB5.out.trans (hb6.mono HB5.out.size)
            clear hb6 q0 q1 q2 q3 z0 zf0
            have v0 := HV6.out.cell
            have vf0 := HV6.out.frz 0
            go_wp2
            have s0 := (HV6.out.set (.slice none 0 0)).cell
            refine bodyPost_ret (v := .tuple #[.agg #[.slice none 0 0], .int .i64 n]) (by simp [results, Tryz.results25, go_sem, s0]) rfl ?_
            exact AnsK.mk HCr.out (ownKb_nil _ _) (HB6.out.setCell (Nat.le_refl _) _)
          · have HCr : Hid (kbRead zs = (xs, -1)) := kbRead_ok HWr.out hok
            go_wp2_with fail
            refine (specKbOk_any HRd.out (Nat.le_refl _) hsW0).mono ?_
            rintro e w6 ⟨rfl, hb6⟩
            rw [hok]
            have HV6 : Hid (BoxKv w6 w.heap.size (.slice none 0 0)) := HV5.out.of (hb6.block _ HV5.out.lt)
            have HC6 : Hid (BoxKv w6 p (.slice va m vc)) := HC5.out.of (hb6.block _ HC5.out.lt)
            have HB6 : Hid (Below w.heap.size w w6) := HB5.out.trans (hb6.mono HB5.out.size)
            have HO6 : Hid (OwnKb W0.heap.size w6 (.slice va m vc) vs xs Vs LL) := HO5.out.below hb6
            clear hb6 q0 q1 q2 q3 z0 zf0
            have c0 := HC6.out.cell
            have v0 := HV6.out.cell
            have vf0 := HV6.out.frz 0
            go_wp2
            have s0 := (HV6.out.set (.slice va m vc)).cell
            refine bodyPost_ret (v := .tuple #[.agg #[.slice va m vc], .int .i64 (-1)]) (by simp [results, Tryz.results25, go_sem, s0]) rfl ?_
            exact AnsK.mk HCr.out ((HO6.out.keep (fun q hq _ => heap_set1 _ _ _ _ (by omega)) (by simp)).mono (by omega)) (HB6.out.setCell (Nat.le_refl _) _)
      · have HBd : Hid (BdK pb W2 p q wx) := hbd
        have hq0 := hbd.bad.2
        have HCr : Hid (kbRead zs = ([], q)) := kbRead_fell (wholeK_bad HT.out HL.out heq) (by omega)
        obtain ⟨lv, qi, qe, hqb⟩ := hbd.bad.1
        obtain ⟨q0, q1, q2, q3⟩ := hqb.cells
        have hpd : decide (q < 0) = false := by simp; omega
        have hqn : ¬ q < 0 := by omega
        clear hbd heq hqb
        go_wp2_with fail
        go_quiet (fail)
        clear q0 q1 q2 q3
        obtain ⟨W5, HW5⟩ : ∃ W, Hid (W = wx.drewN nq) := ⟨_, rfl⟩
        rw [← HW5.out]
        have HP5 : Hid (PsBad W5 pb q) := by unfold Hid; rw [HW5.out]; exact HBd.out.bad.1.of rfl
        have hv5 : BoxKv wx w.heap.size (.slice none 0 0) := HV2.out.of (HBd.out.bt.block _ (by omega) (by omega))
        have HV5 : Hid (BoxKv W5 w.heap.size (.slice none 0 0)) := by unfold Hid; rw [HW5.out]; exact hv5
        have HB5 : Hid (Below w.heap.size w W5) := by unfold Hid; rw [HW5.out]; exact below_drewN (HB2.out.trans (HBd.out.bt.below (by omega) (by omega))) nq
        obtain ⟨lv, qi, qe, hqb⟩ := HP5.out
        obtain ⟨q0, q1, q2, q3⟩ := hqb.cells
        have v0 := HV5.out.cell
        have vf0 := HV5.out.frz 0
        clear hqb hv5
        go_wp2_with fail
        go_region
        all_goals
          go_wp2
          have s0 := (HV5.out.set (.slice none 0 0)).cell
          refine bodyPost_ret (v := .tuple #[.agg #[.slice none 0 0], .int .i64 q]) (by simp [results, Tryz.results25, go_sem, s0]) rfl ?_
          exact AnsK.mk HCr.out (ownKb_nil _ _) (Below.drew (HB5.out.setCell (Nat.le_refl _) _))
  · have HCr : Hid (kbRead zs = ([], bad)) := kbRead_fell (wholeK_tok HT.out (by omega)) (by omega)
    have v0 := HV1.out.cell
    have vf0 := HV1.out.frz 0
    clear hO hb1 hTk hta
    go_wp2
    have s0 := (HV1.out.set (.slice none 0 0)).cell
    refine bodyPost_ret (v := .tuple #[.agg #[.slice none 0 0], .int .i64 bad]) (by simp [results, Tryz.results25, go_sem, s0]) rfl ?_
    exact AnsK.mk HCr.out (ownKb_nil _ _) (HB1.out.setCell (Nat.le_refl _) _)

end Go.Proofs.YtckhjoancfbkfaaGreat
