/- The program's reader of a text's tokens: for every list of bytes it answers what 'toks' says, in memory of its own: the walk. -/
import Derived.Test.YtckhjoancfbkfaaGreatNG16
import Derived.Test.YtckhjoancfbkfaaGreatNG1
namespace Go.Proofs.YtckhjoancfbkfaaGreat
open Go.RowKit Go.Shelf

attribute [local go_sem] Oper.semAt_some

theorem Rd.pieceOf {lo hi : Nat} {w : World} {b off n cap : Nat} {zs : List Int} (h : Rd lo hi w (some ⟨b, off, none⟩) n cap zs) {i : Nat} (hi' : i < n) : Rd lo hi w (some ⟨b, off + i, none⟩) (pend zs i - i) (cap - i) (piece zs i) := by
  obtain ⟨hl, ⟨hn, hm⟩, hby, hc⟩ := h
  have hp := pend_le zs i (by omega)
  refine ⟨piece_length zs i (by omega), by omega, piece_byte hby i, .inr ?_⟩
  rcases hc with h0 | ⟨b, off, e, hb, hb', hc⟩
  · omega
  · simp only [Option.some.injEq, Addr.mk.injEq, and_true] at e
    obtain ⟨rfl, rfl⟩ := e
    refine ⟨_, _, rfl, hb, hb', fun j hj => ?_⟩
    rw [piece_getD zs i j (by omega) hj, Nat.add_assoc]
    exact hc (i + j) (by omega)

theorem kind_range (p : List Int) : kindOf p = 0 ∨ kindOf p = 1 ∨ kindOf p = 2 ∨ kindOf p = 3 ∨ kindOf p = 4 := by
  unfold kindOf
  split
  · simp
  · split
    · simp
    · split
      · simp
      · split <;> simp

def InvI (s : Nat) (w : World) (zs : List Int) (sv : Value) (pre : List (PosOf zs)) (W : World) : Prop := ∃ v gs, InvT s w W zs sv v pre gs
def InvX (s : Nat) (w : World) (zs : List Int) (c : Code) (pre : List (PosOf zs)) (W : World) : Prop :=
  c = .exit 0 ∧ Below s w W ∧ ∃ pre' x, pre = pre' ++ [x] ∧ Good zs pre' ∧ kindOf (piece zs x.1) = 0 ∧ Boxed W s 91 (.slice none 0 0) ∧ Boxed W (s + 1) 3 (.int .i64 (x.1 : Nat))

theorem InvI.own {s : Nat} {w : World} {zs : List Int} {sv : Value} {B : Nat} (hB : s ≤ B) : OwnFrom B (InvI s w zs sv) := by
  rintro pre W W' row ⟨v, gs, h⟩ hg hr
  have : s ≤ W.heap.size := by have := Boxed.lt h.list; omega
  exact ⟨v, gs, h.noncells this hg fun r e => ⟨by have := (hr r e).1; omega, (hr r e).2⟩⟩

theorem InvX.own {s : Nat} {w : World} {zs : List Int} {B : Nat} (hB : s ≤ B) (c : Code) : OwnFrom B (InvX s w zs c) := by
  rintro pre W W' row ⟨hc, hb, pre', x, h1, h2, h3, h4, h5⟩ hg hr
  have : s ≤ W.heap.size := by have := Boxed.lt h4; omega
  exact ⟨hc, hb.grown hg this fun k e => by have := (hr k e).1; omega, pre', x, h1, h2, h3, boxed_noncells h4 hg fun r e => (hr r e).2, boxed_noncells h5 hg fun r e => (hr r e).2⟩

/-- Behind the copy of a word's bytes: what the append answers, and what is so behind the store. -/
theorem word_round {s : Nat} {w W w1 : World} {zs : List Int} {sv v : Value} {xs : List (PosOf zs)} {ts : List Tok} {gs : List (Nat × Nat)} {x : PosOf zs} {kd : Int} {g c : Nat}
    (hs : s = w.heap.size) (hts : ts = xs.map (fun x => tokAt zs x.1)) (hI : InvT s w W zs sv v xs gs) (hb1 : Below W.heap.size W.drew w1) (hkd : kd = kindOf (piece zs x.1)) (h12 : kd = 1 ∨ kd = 2) (hn : ts.length ≤ 1500)
    (hg : W.heap.size ≤ g) (hr : Row w1 g c (piece zs x.1)) (hc : c ≤ 9223372036854775807) (hby : ∀ i, 0 ≤ zs.getD i 0 ∧ zs.getD i 0 ≤ 255) :
    ∃ v' w2 g' cap', (Builtin.append_ #[91, 91] 91 #[v, .slice (some ⟨w1.heap.size, 0, none⟩) 1 1]).run Tryz.prog (w1.alloc (.cells #[.int .i64 kd, .int .i64 (x.1 : Nat), .slice (some ⟨g, 0, none⟩) (pend zs x.1 - x.1) c] 134)) = .ok v' w2 ∧
      v' = .slice (some ⟨g', 0, none⟩) (ts.length + 1) cap' ∧ Boxed w2 s 91 v ∧ KeepsOthers W (w2.setCell ⟨s, 0, none⟩ v') ∧ KpT s (s + 1 + 1) W (w2.setCell ⟨s, 0, none⟩ v') ∧ InvT s w (w2.setCell ⟨s, 0, none⟩ v') zs sv v' (xs ++ [x]) (gs ++ [(g, c)]) := by
  obtain ⟨i0, hi0, hz0, hz1, hz2⟩ := info_parts Tryz.infoTok3
  have hW1 : Below W.heap.size W w1 := ⟨hb1.os, hb1.tape, hb1.output, hb1.size, hb1.block⟩
  have hWb : Below W.heap.size W (w1.alloc (.cells #[.int .i64 kd, .int .i64 (x.1 : Nat), .slice (some ⟨g, 0, none⟩) (pend zs x.1 - x.1) c] 134)) := hW1.alloc hW1.size _
  have hss : s ≤ W.heap.size := by have := Boxed.lt hI.list; omega
  have hrow := (hI.own.below hWb).row
  rw [← hts] at hrow
  have hk0 : kindOf (piece zs x.1) ≠ 0 := by rw [← hkd]; rcases h12 with e | e <;> rw [e] <;> simp
  have ht : (tokAt zs x.1).text = piece zs x.1 := by simp only [tokAt]; rw [← hkd, if_pos h12]
  have hpl := piece_length zs x.1 x.2.1
  have hpg := pend_gt zs x.1
  have hne : piece zs x.1 ≠ [] := fun e => by rw [e] at hpl; simp at hpl; omega
  have hG : kd = (tokAt zs x.1).kind ∧ Value.slice (some ⟨g, 0, none⟩) (pend zs x.1 - x.1) c = txv (tokAt zs x.1) (g, c) := ⟨hkd, by rw [txv_cons _ (by rw [ht]; exact hne), ht, hpl]⟩
  have hM : (tokAt zs x.1).text ≠ [] → W.heap.size ≤ (g, c).1 ∧ Row (w1.alloc (.cells #[.int .i64 kd, .int .i64 (x.1 : Nat), .slice (some ⟨g, 0, none⟩) (pend zs x.1 - x.1) c] 134)) (g, c).1 (g, c).2 (tokAt zs x.1).text ∧ (g, c).2 ≤ 9223372036854775807 := fun _ => ⟨hg, by rw [ht]; exact hr.allocOf, hc⟩
  obtain ⟨v', w2, hrun, hown, hgrow, _⟩ := run_append_own (P := Tryz.prog) (w1.alloc (.cells #[.int .i64 kd, .int .i64 (x.1 : Nat), .slice (some ⟨g, 0, none⟩) (pend zs x.1 - x.1) c] 134)) s 91 91 134 i0 (.agg #[.int .i64 0, .int .i64 0, .slice none 0 0]) 3 40 Tryz.underlying91 hi0 hz0 hz1 hz2 rfl (by decide) v ts.length (flatT ts gs) hrow ⟨w1.heap.size, 0, none⟩ 1 1 [.int .i64 kd, .int .i64 (x.1 : Nat), .slice (some ⟨g, 0, none⟩) (pend zs x.1 - x.1) c] rfl (new3 _ _ _ _ _ _ rfl) (one3 _ _ _ _ _) (by unfold maxLen; omega) (by omega) (Nat.le_trans hss hWb.size)
  obtain ⟨g', cap', hv', bL2, hKO, hKp, hInv⟩ := round_tok hs hts hI hWb hk0 hG hM hby hown hgrow
  exact ⟨v', w2, g', cap', hrun, hv', bL2, hKO, hKp, hInv⟩

set_option maxRecDepth 100000 in
set_option maxHeartbeats 600000 in
theorem implTokens_small (b off n cap : Nat) (zs : List Int) (w : World) (h : Rd 0 w.heap.size w (some ⟨b, off, none⟩) n cap zs) (hb : b < w.heap.size) (hsm : n ≤ 1500) :
    Calls Tryz.prog 79 #[.slice (some ⟨b, off, none⟩) n cap] w fun e w' => ∃ v gs, e = .returned (.tuple #[v, .int .i64 (toks zs).2]) ∧ OwnT w.heap.size w' v (toks zs).1 gs ∧ Below w.heap.size w w' := by
  have hle := h.fits.1
  have H : Hid (Rd 0 w.heap.size w (some ⟨b, off, none⟩) n cap zs) := h
  have HL : Hid (zs.length = n) := h.len
  have HT : Hid (toks zs = goToks zs (posFrom zs (n + 1) 0) []) := by unfold Hid toks; rw [if_neg (by rw [h.len]; omega), h.len, goToks_pos]
  have hd : decide ((1500 : Int) < (n : Int)) = false := by simp; omega
  clear h
  obtain ⟨i0, hi0, hz0, hz1, hz2⟩ := info_parts Tryz.infoTok3
  refine (callsIn_wide (n := 6)).1 ?_
  refine callsIn_of_wp_marks Tryz.func79 rfl trivial ?_ rfl
  simp only [Tryz.ntmps79, List.size_toArray, List.length_cons, List.length_nil, Nat.reduceAdd, Nat.reduceSub, Array.replicate_succ, Array.replicate_zero, List.push_toArray, List.append_toArray, List.nil_append, List.cons_append]
  gi_wp2
  refine wpIn_scope_wide ?_
  gi_wp2
  refine wpIn_label ?_
  gi_wp2_with (refine ⟨trivial, ?_⟩; gi_at_call 124; refine (pieces_in _ _ _ _ _).mono ?_; rintro e w' ⟨rfl, rfl⟩)
  have bL := Boxed.new w 91 (.slice none 0 0)
  have bB := Boxed.new (w.alloc (.cells #[.slice none 0 0] 91)) 3 (.int .i64 (-1))
  have bS := Boxed.new ((w.alloc (.cells #[.slice none 0 0] 91)).alloc (.cells #[.int .i64 (-1)] 3)) 22 (.slice (some ⟨b, off, none⟩) n cap)
  rw [World.size_alloc] at bB
  rw [World.size_alloc, World.size_alloc] at bS
  have hB0 : Below w.heap.size w (((w.alloc (.cells #[.slice none 0 0] 91)).alloc (.cells #[.int .i64 (-1)] 3)).alloc (.cells #[.slice (some ⟨b, off, none⟩) n cap] 22)) := (((Below.refl _ w).alloc (Nat.le_refl _) _).alloc (by simp) _).alloc (by simp; omega) _
  refine wpIn_rangeFunc_ownG rfl (by omega) (gf := 151) (lb := #[.pointer (some ⟨w.heap.size + 1 + 1, 0, none⟩)]) rfl trivial (enters_of Tryz.func151 (by kernel_rfl) rfl)
    (pieces_stops 5 (w.heap.size + 1 + 1) w.heap.size b off n cap (by omega) zs hb hsm _ (by simp) (by simp; omega) (Boxed.cell bS) (H.out.below hB0 (Nat.le_refl _))) KpT.trans
    (fun W l o o' hl hW hc hw => ⟨belowK_b (w := w) (Nat.le_refl _) W l o o' (by simp at hl; omega) hW hc hw, World.putObj_heap_other (by simp at hl; omega)⟩) (Below.refl _ _) (fun _ => rfl)
    (InvI w.heap.size w zs (.slice (some ⟨b, off, none⟩) n cap)) (InvX w.heap.size w zs) (InvI.own (by simp; omega)) (InvX.own (by simp; omega))
    ⟨.slice none 0 0, [], ⟨(bL.alloc _).alloc _, bB.alloc _, bS, OwnT.nil _ _, fun _ h => by simp at h, hB0⟩⟩
    (fun x => { tmps := #[.slice (some ⟨b, off, none⟩) n cap, undef, .slice none 0 0, .int .i64 0, .pointer (some ⟨w.heap.size, 0, none⟩), .pointer (some ⟨w.heap.size + 1, 0, none⟩), .int .i64 (x.1 : Nat), .slice (some ⟨b, off + x.1, none⟩) (pend zs x.1 - x.1) (cap - x.1), undef, .slice (some ⟨b, off, none⟩) n cap, .int .i64 n, .bool false, .slice (some ⟨b, off, none⟩) n cap, .func (.func 151) #[] #[.pointer (some ⟨w.heap.size + 1 + 1, 0, none⟩)], .int .i64 (x.1 : Nat), .slice (some ⟨b, off + x.1, none⟩) (pend zs x.1 - x.1) (cap - x.1), undef, undef, undef, undef, undef, undef, undef, undef, undef, undef, undef, undef, undef, undef, undef, undef, undef, undef, undef, undef, undef, undef, undef, undef, undef, undef], defers := [] }) ?assign ?body ?done ?stop
  case assign =>
    intro l x W K hK
    unfold encP
    gi_wp2
    exact hK
  case body =>
    rintro l pre x W ⟨v, gs, hI⟩ hlen
    have hxn : x.1 < n := by rw [← HL.out]; exact x.2.1
    have HRx : Hid (Rd 0 w.heap.size W (some ⟨b, off + x.1, none⟩) (pend zs x.1 - x.1) (cap - x.1) (piece zs x.1)) := (H.out.below hI.bel (Nat.le_refl _)).pieceOf hxn
    obtain ⟨kd, HKD⟩ : ∃ kd, Hid (kd = kindOf (piece zs x.1)) := ⟨_, rfl⟩
    have hkd : kd = 0 ∨ kd = 1 ∨ kd = 2 ∨ kd = 3 ∨ kd = 4 := by rw [HKD.out]; exact kind_range _
    have cL := Boxed.cell hI.list
    have fL := Boxed.frozen hI.list
    have cB := Boxed.cell hI.bad
    have fB := Boxed.frozen hI.bad
    have HI : Hid (InvT w.heap.size w W zs (.slice (some ⟨b, off, none⟩) n cap) v pre gs) := hI
    have hWs : w.heap.size ≤ W.heap.size := by have := Boxed.lt hI.list; omega
    obtain ⟨ts, HTS⟩ : ∃ ts, Hid (ts = pre.map (fun x => tokAt zs x.1)) := ⟨_, rfl⟩
    have htl : ts.length ≤ n := by rw [HTS.out, List.length_map]; omega
    clear hI
    rcases hkd with rfl | rfl | rfl | rfl | rfl
    · gi_wp2_with (refine ⟨trivial, ?_⟩; gi_at_call 125; refine (CallsIn.inRound l (callsIn_wide.2 (pieceKind_any _ _ _ (piece zs x.1) _ HRx.out))).mono ?_; rintro e w1 ⟨rfl, hw⟩; rw [hw, ← HKD.out]; clear hw)
      exact ⟨((KeepsOthers.setCell _ _ _).trans (KeepsOthers.setCell _ _ _)).from _, rfl, (HI.out.bel.setCell (p := ⟨w.heap.size, 0, none⟩) (Nat.le_refl _) _).setCell (p := ⟨w.heap.size + 1, 0, none⟩) (Nat.le_succ _) _, pre, x, rfl, HI.out.good, HKD.out.symm, boxed_setOther (Boxed.set _ HI.out.list) (by omega) _, Boxed.set _ (boxed_setOther HI.out.bad (by omega) _)⟩
    · have HPos : Hid (0 < pend zs x.1 - x.1) := by have := pend_gt zs x.1; unfold Hid; omega
      have HPB : Hid (pend zs x.1 - x.1 ≤ 1048576) := by have := pend_le zs x.1 x.2.1; have := HL.out; unfold Hid; omega
      have hmx : Tryz.prog.follows .mixedOrders = true := by kernel_rfl
      gi_wp2_with (refine ⟨trivial, ?_⟩; gi_at_call 125; refine (CallsIn.inRound l (callsIn_wide.2 (pieceKind_any _ _ _ (piece zs x.1) _ HRx.out))).mono ?_; rintro e w1 ⟨rfl, hw⟩; rw [hw, ← HKD.out]; clear hw)
      refine region_round hmx (by kernel_rfl) ?_
      refine wpAnyIn_take (i := 1) (v := .int .i64 1) rfl rfl (by kernel_rfl) (by kernel_rfl) (by kernel_rfl) (fun _ _ _ h => h) ⟨Or.inl ⟨by rfl, fun w' => by go_simp⟩, fun _ => rfl⟩ ?_
      refine wpAnyIn_take (i := 2) (v := .int .i64 (x.1 : Nat)) rfl rfl (by kernel_rfl) (by kernel_rfl) (by kernel_rfl) (fun _ _ _ h => h) ⟨Or.inl ⟨by rfl, fun w' => by go_simp⟩, fun _ => rfl⟩ ?_
      refine wpAnyIn_take (i := 3) (v := .slice (some ⟨b, off + x.1, none⟩) (pend zs x.1 - x.1) (cap - x.1)) rfl rfl (by kernel_rfl) (by kernel_rfl) (by kernel_rfl) (fun _ _ _ h => h) ⟨Or.inl ⟨by rfl, fun w' => by go_simp⟩, fun _ => rfl⟩ ?_
      refine wpAnyIn_ready (rs := [0, 4]) (by kernel_rfl) (by simp) ?_
      refine AllReadyIn.cons rfl (fun K hK => ?_) (AllReadyIn.cons rfl (fun K hK => ?_) AllReadyIn.nil)
      · go_simp
        refine hK _ _ ?_
        clear hK
        refine wpAnyIn_ready (rs := [4]) (by kernel_rfl) (by simp) ?_
        refine AllReadyIn.cons rfl (fun K hK => ?_) AllReadyIn.nil
        go_simp
        refine ⟨trivial, ?_⟩
        refine (callsIn_wide.2 (clone_any b (off + x.1) (pend zs x.1 - x.1) (cap - x.1) (piece zs x.1) W.drew (lo := 0) (hi := w.heap.size) (HRx.out.same (fun _ _ _ => rfl)) hWs HPos.out HPB.out)).mono ?_
        rintro e w1 ⟨g, c, rfl, hg, hr, hc, hb1⟩
        obtain ⟨v', w2, g', cap', hrun, hv', bL2, hKO, hKp, hInv⟩ := word_round (kd := 1) rfl HTS.out HI.out hb1 HKD.out (by simp) (by omega) hg hr hc H.out.byte
        subst hv'
        have cL1 := (hb1.cell (p := ⟨w.heap.size, 0, none⟩) (Boxed.lt HI.out.list)).trans cL
        have hlt1 : w.heap.size < w1.heap.size := Nat.lt_of_lt_of_le (Boxed.lt HI.out.list) hb1.size
        have cL2 := Boxed.cell bL2
        have fL2 := Boxed.frozen bL2
        have HRun : Hid ((Builtin.append_ #[91, 91] 91 #[v, .slice (some ⟨w1.heap.size, 0, none⟩) 1 1]).run Tryz.prog (w1.alloc (.cells #[.int .i64 1, .int .i64 (x.1 : Nat), .slice (some ⟨g, 0, none⟩) (pend zs x.1 - x.1) c] 134)) = .ok (.slice (some ⟨g', 0, none⟩) (ts.length + 1) cap') w2) := hrun
        clear hrun hr hb1
        refine hK _ _ ?_
        clear hK
        refine wpAnyIn_ready (rs := [5]) (by kernel_rfl) (by simp) ?_
        refine AllReadyIn.cons rfl (fun K hK => ?_) AllReadyIn.nil
        go_simp
        refine hK _ _ ?_
        clear hK
        refine wpAnyIn_ready (rs := [6]) (by kernel_rfl) (by simp) ?_
        refine AllReadyIn.cons rfl (fun K hK => ?_) AllReadyIn.nil
        go_simp
        refine hK _ _ ?_
        clear hK
        refine wpAnyIn_ready (rs := [7]) (by kernel_rfl) (by simp) ?_
        refine AllReadyIn.cons rfl (fun K hK => ?_) AllReadyIn.nil
        refine stepIn_append_own rfl rfl (.tmp 32) (.tmp 38) 91 rfl 91 rfl v (.slice (some ⟨w1.heap.size, 0, none⟩) 1 1) rfl rfl _ _ HRun.out ?_
        refine hK _ _ ?_
        clear hK
        refine wpAnyIn_ready (rs := [8]) (by kernel_rfl) (by simp) ?_
        refine AllReadyIn.cons rfl (fun K hK => ?_) AllReadyIn.nil
        go_simp
        refine hK _ _ ?_
        clear hK
        refine wpAnyIn_done (by kernel_rfl) ?_ _
        gi_wp2
        exact ⟨hKO.from _, hKp, _, _, hInv⟩
      · go_simp
        refine ⟨trivial, ?_⟩
        refine (callsIn_wide.2 (clone_any b (off + x.1) (pend zs x.1 - x.1) (cap - x.1) (piece zs x.1) W.drew (lo := 0) (hi := w.heap.size) (HRx.out.same (fun _ _ _ => rfl)) hWs HPos.out HPB.out)).mono ?_
        rintro e w1 ⟨g, c, rfl, hg, hr, hc, hb1⟩
        obtain ⟨v', w2, g', cap', hrun, hv', bL2, hKO, hKp, hInv⟩ := word_round (kd := 1) rfl HTS.out HI.out hb1 HKD.out (by simp) (by omega) hg hr hc H.out.byte
        subst hv'
        have cL1 := (hb1.cell (p := ⟨w.heap.size, 0, none⟩) (Boxed.lt HI.out.list)).trans cL
        have hlt1 : w.heap.size < w1.heap.size := Nat.lt_of_lt_of_le (Boxed.lt HI.out.list) hb1.size
        have cL2 := Boxed.cell bL2
        have fL2 := Boxed.frozen bL2
        have HRun : Hid ((Builtin.append_ #[91, 91] 91 #[v, .slice (some ⟨w1.heap.size, 0, none⟩) 1 1]).run Tryz.prog (w1.alloc (.cells #[.int .i64 1, .int .i64 (x.1 : Nat), .slice (some ⟨g, 0, none⟩) (pend zs x.1 - x.1) c] 134)) = .ok (.slice (some ⟨g', 0, none⟩) (ts.length + 1) cap') w2) := hrun
        clear hrun hr hb1
        refine hK _ _ ?_
        clear hK
        refine wpAnyIn_take (i := 5) (v := .agg #[.int .i64 1, .int .i64 (x.1 : Nat), .slice (some ⟨g, 0, none⟩) (pend zs x.1 - x.1) c]) rfl rfl (by kernel_rfl) (by kernel_rfl) (by kernel_rfl) (fun _ _ _ h => h) ⟨Or.inl ⟨by rfl, fun w' => by go_simp⟩, fun _ => rfl⟩ ?_
        refine wpAnyIn_ready (rs := [0, 6]) (by kernel_rfl) (by simp) ?_
        refine AllReadyIn.cons rfl (fun K hK => ?_) (AllReadyIn.cons rfl (fun K hK => ?_) AllReadyIn.nil)
        · go_simp
          refine hK _ _ ?_
          clear hK
          refine wpAnyIn_ready (rs := [6]) (by kernel_rfl) (by simp) ?_
          refine AllReadyIn.cons rfl (fun K hK => ?_) AllReadyIn.nil
          go_simp
          refine hK _ _ ?_
          clear hK
          refine wpAnyIn_ready (rs := [7]) (by kernel_rfl) (by simp) ?_
          refine AllReadyIn.cons rfl (fun K hK => ?_) AllReadyIn.nil
          refine stepIn_append_own rfl rfl (.tmp 32) (.tmp 38) 91 rfl 91 rfl v (.slice (some ⟨w1.heap.size, 0, none⟩) 1 1) rfl rfl _ _ HRun.out ?_
          refine hK _ _ ?_
          clear hK
          refine wpAnyIn_ready (rs := [8]) (by kernel_rfl) (by simp) ?_
          refine AllReadyIn.cons rfl (fun K hK => ?_) AllReadyIn.nil
          go_simp
          refine hK _ _ ?_
          clear hK
          refine wpAnyIn_done (by kernel_rfl) ?_ _
          gi_wp2
          exact ⟨hKO.from _, hKp, _, _, hInv⟩
        · go_simp
          refine hK _ _ ?_
          clear hK
          refine wpAnyIn_ready (rs := [0]) (by kernel_rfl) (by simp) ?_
          refine AllReadyIn.cons rfl (fun K hK => ?_) AllReadyIn.nil
          go_simp
          refine hK _ _ ?_
          clear hK
          refine wpAnyIn_ready (rs := [7]) (by kernel_rfl) (by simp) ?_
          refine AllReadyIn.cons rfl (fun K hK => ?_) AllReadyIn.nil
          refine stepIn_append_own rfl rfl (.tmp 32) (.tmp 38) 91 rfl 91 rfl v (.slice (some ⟨w1.heap.size, 0, none⟩) 1 1) rfl rfl _ _ HRun.out ?_
          refine hK _ _ ?_
          clear hK
          refine wpAnyIn_ready (rs := [8]) (by kernel_rfl) (by simp) ?_
          refine AllReadyIn.cons rfl (fun K hK => ?_) AllReadyIn.nil
          go_simp
          refine hK _ _ ?_
          clear hK
          refine wpAnyIn_done (by kernel_rfl) ?_ _
          gi_wp2
          exact ⟨hKO.from _, hKp, _, _, hInv⟩
    · have HPos : Hid (0 < pend zs x.1 - x.1) := by have := pend_gt zs x.1; unfold Hid; omega
      have HPB : Hid (pend zs x.1 - x.1 ≤ 1048576) := by have := pend_le zs x.1 x.2.1; have := HL.out; unfold Hid; omega
      have hmx : Tryz.prog.follows .mixedOrders = true := by kernel_rfl
      gi_wp2_with (refine ⟨trivial, ?_⟩; gi_at_call 125; refine (CallsIn.inRound l (callsIn_wide.2 (pieceKind_any _ _ _ (piece zs x.1) _ HRx.out))).mono ?_; rintro e w1 ⟨rfl, hw⟩; rw [hw, ← HKD.out]; clear hw)
      refine region_round hmx (by kernel_rfl) ?_
      refine wpAnyIn_take (i := 1) (v := .int .i64 2) rfl rfl (by kernel_rfl) (by kernel_rfl) (by kernel_rfl) (fun _ _ _ h => h) ⟨Or.inl ⟨by rfl, fun w' => by go_simp⟩, fun _ => rfl⟩ ?_
      refine wpAnyIn_take (i := 2) (v := .int .i64 (x.1 : Nat)) rfl rfl (by kernel_rfl) (by kernel_rfl) (by kernel_rfl) (fun _ _ _ h => h) ⟨Or.inl ⟨by rfl, fun w' => by go_simp⟩, fun _ => rfl⟩ ?_
      refine wpAnyIn_take (i := 3) (v := .slice (some ⟨b, off + x.1, none⟩) (pend zs x.1 - x.1) (cap - x.1)) rfl rfl (by kernel_rfl) (by kernel_rfl) (by kernel_rfl) (fun _ _ _ h => h) ⟨Or.inl ⟨by rfl, fun w' => by go_simp⟩, fun _ => rfl⟩ ?_
      refine wpAnyIn_ready (rs := [0, 4]) (by kernel_rfl) (by simp) ?_
      refine AllReadyIn.cons rfl (fun K hK => ?_) (AllReadyIn.cons rfl (fun K hK => ?_) AllReadyIn.nil)
      · go_simp
        refine hK _ _ ?_
        clear hK
        refine wpAnyIn_ready (rs := [4]) (by kernel_rfl) (by simp) ?_
        refine AllReadyIn.cons rfl (fun K hK => ?_) AllReadyIn.nil
        go_simp
        refine ⟨trivial, ?_⟩
        refine (callsIn_wide.2 (clone_any b (off + x.1) (pend zs x.1 - x.1) (cap - x.1) (piece zs x.1) W.drew (lo := 0) (hi := w.heap.size) (HRx.out.same (fun _ _ _ => rfl)) hWs HPos.out HPB.out)).mono ?_
        rintro e w1 ⟨g, c, rfl, hg, hr, hc, hb1⟩
        obtain ⟨v', w2, g', cap', hrun, hv', bL2, hKO, hKp, hInv⟩ := word_round (kd := 2) rfl HTS.out HI.out hb1 HKD.out (by simp) (by omega) hg hr hc H.out.byte
        subst hv'
        have cL1 := (hb1.cell (p := ⟨w.heap.size, 0, none⟩) (Boxed.lt HI.out.list)).trans cL
        have hlt1 : w.heap.size < w1.heap.size := Nat.lt_of_lt_of_le (Boxed.lt HI.out.list) hb1.size
        have cL2 := Boxed.cell bL2
        have fL2 := Boxed.frozen bL2
        have HRun : Hid ((Builtin.append_ #[91, 91] 91 #[v, .slice (some ⟨w1.heap.size, 0, none⟩) 1 1]).run Tryz.prog (w1.alloc (.cells #[.int .i64 2, .int .i64 (x.1 : Nat), .slice (some ⟨g, 0, none⟩) (pend zs x.1 - x.1) c] 134)) = .ok (.slice (some ⟨g', 0, none⟩) (ts.length + 1) cap') w2) := hrun
        clear hrun hr hb1
        refine hK _ _ ?_
        clear hK
        refine wpAnyIn_ready (rs := [5]) (by kernel_rfl) (by simp) ?_
        refine AllReadyIn.cons rfl (fun K hK => ?_) AllReadyIn.nil
        go_simp
        refine hK _ _ ?_
        clear hK
        refine wpAnyIn_ready (rs := [6]) (by kernel_rfl) (by simp) ?_
        refine AllReadyIn.cons rfl (fun K hK => ?_) AllReadyIn.nil
        go_simp
        refine hK _ _ ?_
        clear hK
        refine wpAnyIn_ready (rs := [7]) (by kernel_rfl) (by simp) ?_
        refine AllReadyIn.cons rfl (fun K hK => ?_) AllReadyIn.nil
        refine stepIn_append_own rfl rfl (.tmp 32) (.tmp 38) 91 rfl 91 rfl v (.slice (some ⟨w1.heap.size, 0, none⟩) 1 1) rfl rfl _ _ HRun.out ?_
        refine hK _ _ ?_
        clear hK
        refine wpAnyIn_ready (rs := [8]) (by kernel_rfl) (by simp) ?_
        refine AllReadyIn.cons rfl (fun K hK => ?_) AllReadyIn.nil
        go_simp
        refine hK _ _ ?_
        clear hK
        refine wpAnyIn_done (by kernel_rfl) ?_ _
        gi_wp2
        exact ⟨hKO.from _, hKp, _, _, hInv⟩
      · go_simp
        refine ⟨trivial, ?_⟩
        refine (callsIn_wide.2 (clone_any b (off + x.1) (pend zs x.1 - x.1) (cap - x.1) (piece zs x.1) W.drew (lo := 0) (hi := w.heap.size) (HRx.out.same (fun _ _ _ => rfl)) hWs HPos.out HPB.out)).mono ?_
        rintro e w1 ⟨g, c, rfl, hg, hr, hc, hb1⟩
        obtain ⟨v', w2, g', cap', hrun, hv', bL2, hKO, hKp, hInv⟩ := word_round (kd := 2) rfl HTS.out HI.out hb1 HKD.out (by simp) (by omega) hg hr hc H.out.byte
        subst hv'
        have cL1 := (hb1.cell (p := ⟨w.heap.size, 0, none⟩) (Boxed.lt HI.out.list)).trans cL
        have hlt1 : w.heap.size < w1.heap.size := Nat.lt_of_lt_of_le (Boxed.lt HI.out.list) hb1.size
        have cL2 := Boxed.cell bL2
        have fL2 := Boxed.frozen bL2
        have HRun : Hid ((Builtin.append_ #[91, 91] 91 #[v, .slice (some ⟨w1.heap.size, 0, none⟩) 1 1]).run Tryz.prog (w1.alloc (.cells #[.int .i64 2, .int .i64 (x.1 : Nat), .slice (some ⟨g, 0, none⟩) (pend zs x.1 - x.1) c] 134)) = .ok (.slice (some ⟨g', 0, none⟩) (ts.length + 1) cap') w2) := hrun
        clear hrun hr hb1
        refine hK _ _ ?_
        clear hK
        refine wpAnyIn_take (i := 5) (v := .agg #[.int .i64 2, .int .i64 (x.1 : Nat), .slice (some ⟨g, 0, none⟩) (pend zs x.1 - x.1) c]) rfl rfl (by kernel_rfl) (by kernel_rfl) (by kernel_rfl) (fun _ _ _ h => h) ⟨Or.inl ⟨by rfl, fun w' => by go_simp⟩, fun _ => rfl⟩ ?_
        refine wpAnyIn_ready (rs := [0, 6]) (by kernel_rfl) (by simp) ?_
        refine AllReadyIn.cons rfl (fun K hK => ?_) (AllReadyIn.cons rfl (fun K hK => ?_) AllReadyIn.nil)
        · go_simp
          refine hK _ _ ?_
          clear hK
          refine wpAnyIn_ready (rs := [6]) (by kernel_rfl) (by simp) ?_
          refine AllReadyIn.cons rfl (fun K hK => ?_) AllReadyIn.nil
          go_simp
          refine hK _ _ ?_
          clear hK
          refine wpAnyIn_ready (rs := [7]) (by kernel_rfl) (by simp) ?_
          refine AllReadyIn.cons rfl (fun K hK => ?_) AllReadyIn.nil
          refine stepIn_append_own rfl rfl (.tmp 32) (.tmp 38) 91 rfl 91 rfl v (.slice (some ⟨w1.heap.size, 0, none⟩) 1 1) rfl rfl _ _ HRun.out ?_
          refine hK _ _ ?_
          clear hK
          refine wpAnyIn_ready (rs := [8]) (by kernel_rfl) (by simp) ?_
          refine AllReadyIn.cons rfl (fun K hK => ?_) AllReadyIn.nil
          go_simp
          refine hK _ _ ?_
          clear hK
          refine wpAnyIn_done (by kernel_rfl) ?_ _
          gi_wp2
          exact ⟨hKO.from _, hKp, _, _, hInv⟩
        · go_simp
          refine hK _ _ ?_
          clear hK
          refine wpAnyIn_ready (rs := [0]) (by kernel_rfl) (by simp) ?_
          refine AllReadyIn.cons rfl (fun K hK => ?_) AllReadyIn.nil
          go_simp
          refine hK _ _ ?_
          clear hK
          refine wpAnyIn_ready (rs := [7]) (by kernel_rfl) (by simp) ?_
          refine AllReadyIn.cons rfl (fun K hK => ?_) AllReadyIn.nil
          refine stepIn_append_own rfl rfl (.tmp 32) (.tmp 38) 91 rfl 91 rfl v (.slice (some ⟨w1.heap.size, 0, none⟩) 1 1) rfl rfl _ _ HRun.out ?_
          refine hK _ _ ?_
          clear hK
          refine wpAnyIn_ready (rs := [8]) (by kernel_rfl) (by simp) ?_
          refine AllReadyIn.cons rfl (fun K hK => ?_) AllReadyIn.nil
          go_simp
          refine hK _ _ ?_
          clear hK
          refine wpAnyIn_done (by kernel_rfl) ?_ _
          gi_wp2
          exact ⟨hKO.from _, hKp, _, _, hInv⟩
    · have hWb : Below W.heap.size W (W.alloc (.cells #[.int .i64 3, .int .i64 (x.1 : Nat), .slice none 0 0] 134)) := (Below.refl _ W).alloc (Nat.le_refl _) _
      have hrow : (W.alloc (.cells #[.int .i64 3, .int .i64 (x.1 : Nat), .slice none 0 0] 134)).ownsRow w.heap.size 134 3 v ts.length (flatT ts gs) := by have := (HI.out.own.below hWb).row; rwa [← HTS.out] at this
      have hG : (3 : Int) = (tokAt zs x.1).kind ∧ Value.slice none 0 0 = txv (tokAt zs x.1) (0, 0) := ⟨HKD.out, (txv_nil _ (by simp only [tokAt]; rw [← HKD.out]; simp)).symm⟩
      have HG : Hid ((3 : Int) = (tokAt zs x.1).kind ∧ Value.slice none 0 0 = txv (tokAt zs x.1) (0, 0)) := hG
      have HE : Hid ((tokAt zs x.1).text = []) := by unfold Hid; simp only [tokAt]; rw [← HKD.out]; simp
      have HW : Hid (Below W.heap.size W (W.alloc (.cells #[.int .i64 3, .int .i64 (x.1 : Nat), .slice none 0 0] 134))) := hWb
      have HRow : Hid ((W.alloc (.cells #[.int .i64 3, .int .i64 (x.1 : Nat), .slice none 0 0] 134)).ownsRow w.heap.size 134 3 v ts.length (flatT ts gs)) := hrow
      have HK0 : Hid (kindOf (piece zs x.1) ≠ 0) := by unfold Hid; rw [← HKD.out]; simp
      clear hWb hrow hG
      gi_wp2_with (first | (refine ⟨trivial, ?_⟩; gi_at_call 125; refine (CallsIn.inRound l (callsIn_wide.2 (pieceKind_any _ _ _ (piece zs x.1) _ HRx.out))).mono ?_; rintro e w1 ⟨rfl, hw⟩; rw [hw, ← HKD.out]; clear hw) | (gi_at_builtin; refine wpListIn_append_own _ rfl (.tmp 23) (.tmp 27) 91 rfl w.heap.size 134 i0 (.agg #[.int .i64 0, .int .i64 0, .slice none 0 0]) 3 40 Tryz.underlying91 hi0 hz0 hz1 hz2 rfl (by decide) v ts.length (flatT ts gs) rfl HRow.out ⟨W.heap.size, 0, none⟩ 1 1 [.int .i64 3, .int .i64 (x.1 : Nat), .slice none 0 0] rfl rfl (new3 _ _ _ _ _ _ rfl) (one3 _ _ _ _ _) (by unfold maxLen; omega) (by omega) (by simp; omega) ?_; intro v' w2 hown' hgrow hnil; obtain ⟨g', cap', hv', bL2, hKF, hKp, hInv⟩ := round_tok rfl HTS.out HI.out HW.out HK0.out HG.out (fun h => absurd HE.out h) H.out.byte hown' hgrow; subst hv'; have cL2 := Boxed.cell bL2; have fL2 := Boxed.frozen bL2; clear hown' hgrow hnil))
      exact ⟨hKF.from _, hKp, _, _, hInv⟩
    · have hWb : Below W.heap.size W (W.alloc (.cells #[.int .i64 4, .int .i64 (x.1 : Nat), .slice none 0 0] 134)) := (Below.refl _ W).alloc (Nat.le_refl _) _
      have hrow : (W.alloc (.cells #[.int .i64 4, .int .i64 (x.1 : Nat), .slice none 0 0] 134)).ownsRow w.heap.size 134 3 v ts.length (flatT ts gs) := by have := (HI.out.own.below hWb).row; rwa [← HTS.out] at this
      have hG : (4 : Int) = (tokAt zs x.1).kind ∧ Value.slice none 0 0 = txv (tokAt zs x.1) (0, 0) := ⟨HKD.out, (txv_nil _ (by simp only [tokAt]; rw [← HKD.out]; simp)).symm⟩
      have HG : Hid ((4 : Int) = (tokAt zs x.1).kind ∧ Value.slice none 0 0 = txv (tokAt zs x.1) (0, 0)) := hG
      have HE : Hid ((tokAt zs x.1).text = []) := by unfold Hid; simp only [tokAt]; rw [← HKD.out]; simp
      have HW : Hid (Below W.heap.size W (W.alloc (.cells #[.int .i64 4, .int .i64 (x.1 : Nat), .slice none 0 0] 134))) := hWb
      have HRow : Hid ((W.alloc (.cells #[.int .i64 4, .int .i64 (x.1 : Nat), .slice none 0 0] 134)).ownsRow w.heap.size 134 3 v ts.length (flatT ts gs)) := hrow
      have HK0 : Hid (kindOf (piece zs x.1) ≠ 0) := by unfold Hid; rw [← HKD.out]; simp
      clear hWb hrow hG
      gi_wp2_with (first | (refine ⟨trivial, ?_⟩; gi_at_call 125; refine (CallsIn.inRound l (callsIn_wide.2 (pieceKind_any _ _ _ (piece zs x.1) _ HRx.out))).mono ?_; rintro e w1 ⟨rfl, hw⟩; rw [hw, ← HKD.out]; clear hw) | (gi_at_builtin; refine wpListIn_append_own _ rfl (.tmp 23) (.tmp 27) 91 rfl w.heap.size 134 i0 (.agg #[.int .i64 0, .int .i64 0, .slice none 0 0]) 3 40 Tryz.underlying91 hi0 hz0 hz1 hz2 rfl (by decide) v ts.length (flatT ts gs) rfl HRow.out ⟨W.heap.size, 0, none⟩ 1 1 [.int .i64 4, .int .i64 (x.1 : Nat), .slice none 0 0] rfl rfl (new3 _ _ _ _ _ _ rfl) (one3 _ _ _ _ _) (by unfold maxLen; omega) (by omega) (by simp; omega) ?_; intro v' w2 hown' hgrow hnil; obtain ⟨g', cap', hv', bL2, hKF, hKp, hInv⟩ := round_tok rfl HTS.out HI.out HW.out HK0.out HG.out (fun h => absurd HE.out h) H.out.byte hown' hgrow; subst hv'; have cL2 := Boxed.cell bL2; have fL2 := Boxed.frozen bL2; clear hown' hgrow hnil))
      exact ⟨hKF.from _, hKp, _, _, hInv⟩
  case done =>
    rintro D ys W hD rfl ⟨v, gs, hI⟩ hK
    have cL := Boxed.cell hI.list
    have cB := Boxed.cell hI.bad
    gi_wp2
    refine wpIn_wide.2 ?_
    go_quiet (fail)
    gi_wp2
    rw [Exit.noGoto_ret]
    have hK' : (W.drewN nq).heap[D]? = some (.deferred (some [])) := hK
    refine ⟨by simp, .inl ⟨_, _, rfl, run_takeDeferred hK', ?_⟩⟩
    have hE : toks zs = ((posFrom zs (n + 1) 0).map (fun x => tokAt zs x.1), -1) := by rw [HT.out, goToks_good zs _ _ hI.good]; simp
    have hO : OwnT w.heap.size (W.drewN nq) v ((posFrom zs (n + 1) 0).map (fun x => tokAt zs x.1)) gs := hI.own.of_cells fun _ _ _ _ h => h
    have hnc : ∀ r, some D = some r → ∃ o : Obj, (W.drewN nq).heap[r]? = some o ∧ o.isCells = false := fun r e => by cases e; exact ⟨_, hK', rfl⟩
    have hDs : w.heap.size ≤ D := by simp at hD; omega
    exact ⟨_, results_tmp2 rfl _ _ _, v, gs, by rw [hE]; rfl, by rw [hE]; exact hO.noncells (grownBy_putObj' _ D _) hnc, (below_drewN hI.bel nq).grown (grownBy_putObj' _ D _) (by have := Boxed.lt hI.list; simp; omega) (fun k e => by cases e; exact hDs)⟩
  case stop =>
    rintro D c pre W hD hpre ⟨rfl, hbel, pre', x, rfl, hgd, hk0, bL', bB'⟩ hK
    have cL := Boxed.cell bL'
    have cB := Boxed.cell bB'
    gi_wp2
    refine wpIn_wide.2 ?_
    go_quiet (fail)
    gi_wp2
    rw [Exit.noGoto_ret]
    have hK' : (W.drewN nq).heap[D]? = some (.deferred (some [])) := hK
    refine ⟨by simp, .inl ⟨_, _, rfl, run_takeDeferred hK', ?_⟩⟩
    obtain ⟨rest, hrest⟩ := hpre
    have hE : toks zs = ([], ((x.1 : Nat) : Int)) := by rw [HT.out, ← hrest, List.append_assoc, List.cons_append, List.nil_append]; exact goToks_bad zs pre' x rest [] hgd hk0
    have hDs : w.heap.size ≤ D := by simp at hD; omega
    exact ⟨_, results_tmp2 rfl _ _ _, .slice none 0 0, [], by rw [hE]; rfl, by rw [hE]; exact OwnT.nil _ _, (below_drewN hbel nq).grown (grownBy_putObj' _ D _) (by have := Boxed.lt bL'; simp; omega) (fun k e => by cases e; exact hDs)⟩

end Go.Proofs.YtckhjoancfbkfaaGreat
