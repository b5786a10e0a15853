/- Several texts in one: ReadS8, ConAt, Worlds. -/
import Derived.Test.YtnmljalcndfjmaaGreatReadS7
import Derived.Test.YtnmljalcndfjmaaGreatNG20
import Derived.Test.YtnmljalcndfjmaaGreatLawWords
import Derived.Test.YtnmljalcndfjmaaGreatNG23
import Derived.Test.YtnmljalcndfjmaaGreatNG25
import Derived.Test.YtnmljalcndfjmaaGreatNG18
import Derived.Test.YtnmljalcndfjmaaGreatDrawWd0
import Derived.Deep.RegionHeld3
import Derived.Lib.SlBytesConst
namespace Go.Proofs.YtnmljalcndfjmaaGreat

section
open Go.RowKit

theorem toksFrom_place (zs : List Int) : ∀ (f i : Nat) (acc : List Tok), (∀ t ∈ acc, 0 ≤ t.place) → (∀ t ∈ (toksFrom zs f i acc).1, 0 ≤ t.place) ∧ ((toksFrom zs f i acc).2 = -1 ∨ 0 ≤ (toksFrom zs f i acc).2)
  | 0, _, acc, h => ⟨by simpa [toksFrom] using h, .inl rfl⟩
  | f + 1, i, acc, h => by
    rw [toksFrom]
    split
    · split
      · exact toksFrom_place zs f (i + 1) acc h
      · split
        · exact ⟨fun t ht => by simp at ht, .inr (Int.natCast_nonneg i)⟩
        · refine toksFrom_place zs f (pend zs i) (acc ++ [tokAt zs i]) (fun t ht => ?_)
          rcases List.mem_append.1 ht with ht | ht
          · exact h t ht
          · simp only [List.mem_singleton] at ht
            subst ht
            exact Int.natCast_nonneg i
    · exact ⟨h, .inl rfl⟩

theorem toks_place (zs : List Int) : (∀ i, 0 ≤ ((toks zs).1.getD i Tok.zero).place) ∧ ((toks zs).2 = -1 ∨ 0 ≤ (toks zs).2) := by
  have h : (∀ t ∈ (toks zs).1, 0 ≤ t.place) ∧ ((toks zs).2 = -1 ∨ 0 ≤ (toks zs).2) := by
    unfold toks
    split
    · exact ⟨fun t ht => by simp at ht, .inr (by simp)⟩
    · exact toksFrom_place zs _ _ _ (fun t ht => by simp at ht)
  refine ⟨fun i => ?_, h.2⟩
  by_cases hi : i < (toks zs).1.length
  · have e : (toks zs).1.getD i Tok.zero = (toks zs).1[i] := by simp [List.getD, hi]
    rw [e]
    exact h.1 _ (List.getElem_mem hi)
  · have e : (toks zs).1.getD i Tok.zero = Tok.zero := by simp [List.getD, List.getElem?_eq_none (Nat.le_of_not_lt hi)]
    rw [e]; simp [Tok.zero]

/-- A token that is a word has letters. -/
theorem toksFrom_word (zs : List Int) : ∀ (f i : Nat) (acc : List Tok), (∀ t ∈ acc, t.kind = 1 ∨ t.kind = 2 → 1 ≤ t.text.length) → ∀ t ∈ (toksFrom zs f i acc).1, t.kind = 1 ∨ t.kind = 2 → 1 ≤ t.text.length
  | 0, _, acc, h => by simpa [toksFrom] using h
  | f + 1, i, acc, h => by
    rw [toksFrom]
    split
    · split
      · exact toksFrom_word zs f (i + 1) acc h
      · split
        · intro t ht; simp at ht
        · refine toksFrom_word zs f (pend zs i) (acc ++ [tokAt zs i]) (fun t ht => ?_)
          rcases List.mem_append.1 ht with ht | ht
          · exact h t ht
          · simp only [List.mem_singleton] at ht
            subst ht
            intro hk
            have hb : ∀ p : List Int, longB p.length = true → 1 ≤ p.length := fun p hp => by
              simp only [longB, Bool.and_eq_true, decide_eq_true_eq] at hp; exact hp.1
            simp only [tokAt] at hk ⊢
            rw [if_pos hk]
            unfold kindOf at hk
            split at hk
            · rename_i hu
              simp only [upOk, Bool.and_eq_true] at hu
              exact hb _ hu.1
            · split at hk
              · rename_i hu
                simp only [lowOk, Bool.and_eq_true] at hu
                exact hb _ hu.1
              · split at hk
                · simp at hk
                · split at hk <;> simp at hk
    · exact h

theorem toks_word (zs : List Int) (q : Nat) (h : isI (toks zs).1 1 q = true ∨ isI (toks zs).1 2 q = true) : 1 ≤ (wordI (toks zs).1 q).length := by
  have key : ∀ t ∈ (toks zs).1, t.kind = 1 ∨ t.kind = 2 → 1 ≤ t.text.length := by
    unfold toks
    split
    · intro t ht; simp at ht
    · exact toksFrom_word zs _ _ _ (fun t ht => by simp at ht)
  have hi : q < (toks zs).1.length := by rcases h with h | h <;> exact isI_lt h
  have hk : ((toks zs).1.getD q Tok.zero).kind = 1 ∨ ((toks zs).1.getD q Tok.zero).kind = 2 := by
    rcases h with h | h
    · exact .inl (isI_kind h)
    · exact .inr (isI_kind h)
  have e : (toks zs).1.getD q Tok.zero = (toks zs).1[q] := by simp [List.getD, hi]
  unfold wordI
  rw [e] at hk ⊢
  exact key _ (List.getElem_mem hi) hk

theorem toks_tks (zs : List Int) (n : Nat) : Tks (toks zs).1 (n : Nat) :=
  ⟨(toks_bound zs).1, fun q => by unfold hereI; split; exact (toks_place zs).1 q; exact Int.natCast_nonneg n, toks_word zs, toks_short zs⟩

set_option maxRecDepth 100000 in
set_option maxHeartbeats 4000000 in
theorem specConRead_any (a : Option Addr) (n cap : Nat) (zs : List Int) (w : World) {lo hi : Nat} (h : Rd lo hi w a n cap zs) (hhi : hi ≤ w.heap.size) :
    Calls Tryz.prog 86 #[.slice a n cap] w (AnsP w (conRead zs)) := by
  have HL : Hid (zs.length = n) := h.len
  obtain ⟨ts, bad, htp⟩ : ∃ ts p, toks zs = (ts, p) := ⟨_, _, rfl⟩
  have HT : Hid (toks zs = (ts, bad)) := htp
  have HK : Hid (Tks ts (n : Nat)) := by have := toks_tks zs n; rw [htp] at this; exact this
  have hbp : bad = -1 ∨ 0 ≤ bad := by have := (toks_place zs).2; rw [htp] at this; exact this
  obtain ⟨W0, hW0⟩ : ∃ W0, W0 = w.alloc (.cells #[.int .i64 0, .slice none 0 0, .slice none 0 0, .slice none 0 0] 30) := ⟨_, rfl⟩
  have HW0 : Hid (W0 = w.alloc (.cells #[.int .i64 0, .slice none 0 0, .slice none 0 0, .slice none 0 0] 30)) := hW0
  have hb0 : Below w.heap.size w W0 := by rw [hW0]; exact (Below.refl _ _).alloc (Nat.le_refl _) _
  have HB0 : Hid (Below w.heap.size w W0) := hb0
  have HV0 : Hid (BoxC W0 w.heap.size (.int .i64 0) (.slice none 0 0) (.slice none 0 0) (.slice none 0 0)) := by unfold Hid; rw [hW0]; exact BoxC.new w _ _ _ _
  have hs0 : w.heap.size < W0.heap.size := HV0.out.lt
  have HR0 : Hid (Rd lo hi W0 a n cap zs) := h.below hb0 hhi
  have hh0 : hi ≤ W0.heap.size := by omega
  clear h hb0 hW0 htp
  go_enter Tryz.func86, Tryz.ntmps86
  go_wp2_with fail
  rw [← HW0.out]
  refine (specTokens_any a n cap zs W0 HR0.out hh0).mono ?_
  rintro e w1 ⟨vt, gs, rfl, hO, hb1⟩
  rw [HT.out] at hO ⊢
  obtain ⟨ta, tcp, g, rfl, hta, htc1, htc2, hTk⟩ := OwnT.tkm hO (pb := w1.heap.size) (Nat.le_refl _)
  have HV1 : Hid (BoxC w1 w.heap.size (.int .i64 0) (.slice none 0 0) (.slice none 0 0) (.slice none 0 0)) := HV0.out.below hb1 HV0.out.lt
  have HB1 : Hid (Below w.heap.size w w1) := HB0.out.trans (hb1.mono HB0.out.size)
  have hs1 : W0.heap.size ≤ w1.heap.size := hb1.size
  rcases hbp with hbad | hbad
  · subst hbad
    obtain ⟨W2, hW2⟩ : ∃ W, W = w1.alloc (.cells #[.slice ta ts.length tcp, .int .i64 0, .int .i64 n, .int .i64 (-1)] 166) := ⟨_, rfl⟩
    have HW2 : Hid (W2 = w1.alloc (.cells #[.slice ta ts.length tcp, .int .i64 0, .int .i64 n, .int .i64 (-1)] 166)) := hW2
    have hb2 : Below w1.heap.size w1 W2 := by rw [hW2]; exact (Below.refl _ _).alloc (Nat.le_refl _) _
    have HP2 : Hid (PsAt W2 w1.heap.size g 0 ts n (-1)) := ⟨ta, tcp, by rw [hW2]; exact BoxQ.new w1 _ _ _ _, hta, htc1, htc2⟩
    have HT2 : Hid (TkM W0.heap.size w1.heap.size W2 g ts gs) := hTk.below hb2
    have HV2 : Hid (BoxC W2 w.heap.size (.int .i64 0) (.slice none 0 0) (.slice none 0 0) (.slice none 0 0)) := HV1.out.below hb2 HV1.out.lt
    have HB2 : Hid (Below w.heap.size w W2) := HB1.out.trans (hb2.mono (by omega))
    have hs2 : w1.heap.size < W2.heap.size := HP2.out.lt
    clear hO hb1 hTk hta hW2 hb2
    go_wp2_with fail
    rw [← HW2.out]
    refine (conC_any 6 1 (by omega) (by omega) W0.heap.size w1.heap.size g 0 ts gs n W2 HK.out HP2.out HT2.out (Nat.zero_le _)).mono ?_
    rintro e w3 hP
    cases hres : conR ts (n : Nat) 6 0 with
    | bad p =>
      rw [hres] at hP
      obtain ⟨hb3, hP3, zk, zna, znn, znc, zra, zrn, zrc, zka, zkn, zkc, he⟩ := hP
      subst he
      have HCr : Hid (conRead zs = (CN.zero, p)) := by
        have h1 := wholeR_bad HT.out HL.out hres
        exact conRead_fell h1 (by have := conR_pos HK.out.pos hres; omega)
      have hp0 : 0 ≤ p := conR_pos HK.out.pos hres
      obtain ⟨W4, HW4⟩ : ∃ W, Hid (W = w3.alloc (.cells #[.int .i64 zk, .slice zna znn znc, .slice zra zrn zrc, .slice zka zkn zkc] 30)) := ⟨_, rfl⟩
      have hb4 : Below w3.heap.size w3 W4 := by rw [HW4.out]; exact (Below.refl _ _).alloc (Nat.le_refl _) _
      have HP4 : Hid (PsBad W4 w1.heap.size p) := hP3.below hb4
      have hV3 : BoxC w3 w.heap.size (.int .i64 0) (.slice none 0 0) (.slice none 0 0) (.slice none 0 0) := (hb3.block _ HV2.out.lt (by omega)).trans HV2.out
      have HV4 : Hid (BoxC W4 w.heap.size (.int .i64 0) (.slice none 0 0) (.slice none 0 0) (.slice none 0 0)) := hV3.below hb4 hV3.lt
      have HB4 : Hid (Below w.heap.size w W4) := (HB2.out.trans (hb3.below (by omega) (by omega))).trans (hb4.mono (by have := hV3.lt; omega))
      clear hb3 hP3 hb4 hV3
      go_upto_region 6 with fail
      rw [← HW4.out]
      obtain ⟨lv, qi, qe, hq⟩ := HP4.out
      obtain ⟨q0, q1, q2, q3⟩ := hq.cells
      have hpd : decide (p < 0) = false := by simp; omega
      clear hq
      go_quiet (fail)
      clear q0 q1 q2 q3 hpd
      obtain ⟨W5, HW5⟩ : ∃ W, Hid (W = W4.drewN nq) := ⟨_, rfl⟩
      rw [← HW5.out]
      have HP5 : Hid (PsBad W5 w1.heap.size p) := by unfold Hid; rw [HW5.out]; exact HP4.out.of rfl
      have HV5 : Hid (BoxC W5 w.heap.size (.int .i64 0) (.slice none 0 0) (.slice none 0 0) (.slice none 0 0)) := by unfold Hid; rw [HW5.out]; exact HV4.out
      have HB5 : Hid (Below w.heap.size w W5) := by unfold Hid; rw [HW5.out]; exact below_drewN HB4.out nq
      obtain ⟨lv, qi, qe, hq⟩ := HP5.out
      obtain ⟨q0, q1, q2, q3⟩ := hq.cells
      obtain ⟨v0, v1, v2, v3⟩ := HV5.out.cells
      have vf0 := HV5.out.frz 0
      have vf1 := HV5.out.frz 1
      have vf2 := HV5.out.frz 2
      have vf3 := HV5.out.frz 3
      clear hq
      go_wp2_with fail
      go_region
      all_goals
        go_wp2
        obtain ⟨s0, s1, s2, s3⟩ := (HV5.out.set4 (.int .i64 0) (.slice none 0 0) (.slice none 0 0) (.slice none 0 0)).cells
        refine bodyPost_ret (v := .tuple #[.agg #[.int .i64 0, .slice none 0 0, .slice none 0 0, .slice none 0 0], .int .i64 p]) (by simp [results, Tryz.results86, go_sem, s0, s1, s2, s3]) rfl ?_
        exact AnsP.mk HCr.out (OwnC.none _ _ _) (Below.drew ((((HB5.out.setCell (Nat.le_refl _) _).setCell (Nat.le_refl _) _).setCell (Nat.le_refl _) _).setCell (Nat.le_refl _) _))

    | ok c j =>
      rw [hres] at hP
      obtain ⟨hb3, v, L, he, hO3, hP3⟩ := hP
      subst he
      obtain ⟨zna, znn, znc, zra, zrn, zrc, zka, zkn, zkc, rfl⟩ := hO3.ow.agg
      obtain ⟨zk, hzk⟩ : ∃ zk, zk = c.kind := ⟨_, rfl⟩
      rw [← hzk] at hO3
      rw [← hzk]
      have hje := conR_end ts (n : Nat) 6 0 c j hres
      obtain ⟨W4, HW4⟩ : ∃ W, Hid (W = w3.alloc (.cells #[.int .i64 zk, .slice zna znn znc, .slice zra zrn zrc, .slice zka zkn zkc] 30)) := ⟨_, rfl⟩
      have hb4 : Below w3.heap.size w3 W4 := by rw [HW4.out]; exact (Below.refl _ _).alloc (Nat.le_refl _) _
      have HP4 : Hid (PsAt W4 w1.heap.size g j ts n (-1)) := hP3.below hb4
      have hV3 : BoxC w3 w.heap.size (.int .i64 0) (.slice none 0 0) (.slice none 0 0) (.slice none 0 0) := (hb3.block _ HV2.out.lt (by omega)).trans HV2.out
      have HV4 : Hid (BoxC W4 w.heap.size (.int .i64 0) (.slice none 0 0) (.slice none 0 0) (.slice none 0 0)) := hV3.below hb4 hV3.lt
      have HB4 : Hid (Below w.heap.size w W4) := (HB2.out.trans (hb3.below (by omega) (by omega))).trans (hb4.mono (by have := hV3.lt; omega))
      have HT4 : Hid (TkM W0.heap.size w1.heap.size W4 g ts gs) := (HT2.out.bt hb3 (by omega)).below (hb4.mono (Nat.le_of_lt hP3.lt))
      have HC4 : Hid (BoxC W4 w3.heap.size (.int .i64 zk) (.slice zna znn znc) (.slice zra zrn zrc) (.slice zka zkn zkc)) := by unfold Hid; rw [HW4.out]; exact BoxC.new w3 _ _ _ _
      have hs3 : w1.heap.size < w3.heap.size := hP3.lt
      have hge := hO3.us.ge HT2.out (by omega)
      have hlt := hO3.us.lt HT2.out (by omega)
      have HO4 : Hid (OwnC W0.heap.size W4 6 (.agg #[.int .i64 zk, .slice zna znn znc, .slice zra zrn zrc, .slice zka zkn zkc]) c L) := OwnC.below (w := w3) ⟨hO3.ow, hO3.nd, hO3.fr, fun x hx => ⟨hge x hx, hlt x hx⟩⟩ hb4
      clear hb3 hP3 hb4 hV3 hO3 hge hlt hzk
      go_upto_region 6 with fail
      rw [← HW4.out]
      obtain ⟨qa, qc, hq, _, _, _⟩ := HP4.out
      obtain ⟨q0, q1, q2, q3⟩ := hq.cells
      obtain ⟨m, hm⟩ : ∃ m, m = ts.length := ⟨_, rfl⟩
      have HM : Hid (m = ts.length) := hm
      rw [← hm] at q0
      clear hq hm
      by_cases hj : j < ts.length
      · have hjm : (j : Int) < (m : Int) := by have := HM.out; omega
        have HCr0 : Hid (conRead zs = (CN.zero, hereI ts (n : Nat) j)) := by
          have h1 := wholeR_more HT.out HL.out hres hj
          exact conRead_fell h1 (by have := HK.out.pos j; omega)
        obtain ⟨p, hp⟩ : ∃ p, p = hereI ts (n : Nat) j := ⟨_, rfl⟩
        have hp0 : 0 ≤ p := by rw [hp]; exact HK.out.pos j
        have HCr : Hid (conRead zs = (CN.zero, p)) := by unfold Hid; rw [hp]; exact HCr0.out
        have HPe : Hid (p = hereI ts (n : Nat) j) := hp
        clear hp
        go_quiet (fail)
        clear q0 q1 q2 q3
        go_wp2_with fail
        refine (fail_any W0.heap.size w1.heap.size g j ts gs n (W4.drewN nq) (HP4.out.of rfl) (HT4.out.keep (fun _ _ _ => rfl)) hje.2).mono ?_
        rintro e W5 ⟨rfl, hP5, hb5⟩
        rw [← HPe.out] at hP5
        have HP5 : Hid (PsBad W5 w1.heap.size p) := hP5
        have HV5 : Hid (BoxC W5 w.heap.size (.int .i64 0) (.slice none 0 0) (.slice none 0 0) (.slice none 0 0)) := (hb5.block _ HV4.out.lt (by omega)).trans HV4.out
        have HB5 : Hid (Below w.heap.size w W5) := (below_drewN HB4.out nq).trans (hb5.below (by show w.heap.size ≤ W4.heap.size; have := HV4.out.lt; omega) (by omega))
        clear hP5 hb5
        obtain ⟨lv, qi, qe, hq⟩ := HP5.out
        obtain ⟨q0, q1, q2, q3⟩ := hq.cells
        obtain ⟨v0, v1, v2, v3⟩ := HV5.out.cells
        have vf0 := HV5.out.frz 0
        have vf1 := HV5.out.frz 1
        have vf2 := HV5.out.frz 2
        have vf3 := HV5.out.frz 3
        clear hq
        go_wp2_with fail
        go_region
        all_goals
          go_wp2
          obtain ⟨s0, s1, s2, s3⟩ := (HV5.out.set4 (.int .i64 0) (.slice none 0 0) (.slice none 0 0) (.slice none 0 0)).cells
          refine bodyPost_ret (v := .tuple #[.agg #[.int .i64 0, .slice none 0 0, .slice none 0 0, .slice none 0 0], .int .i64 p]) (by simp [results, Tryz.results86, go_sem, s0, s1, s2, s3]) rfl ?_
          exact AnsP.mk HCr.out (OwnC.none _ _ _) (Below.drew ((((HB5.out.setCell (Nat.le_refl _) _).setCell (Nat.le_refl _) _).setCell (Nat.le_refl _) _).setCell (Nat.le_refl _) _))

      · have hjm : ¬ (j : Int) < (m : Int) := by have := HM.out; omega
        have HWr : Hid (wholeR zs = (c, -1)) := wholeR_ok HT.out HL.out hres hj
        go_quiet (fail)
        clear q0 q1 q2 q3
        obtain ⟨W5, HW5⟩ : ∃ W, Hid (W = W4.drewN nq) := ⟨_, rfl⟩
        rw [← HW5.out]
        have HP5 : Hid (PsAt W5 w1.heap.size g j ts n (-1)) := by unfold Hid; rw [HW5.out]; exact HP4.out.of rfl
        have HV5 : Hid (BoxC W5 w.heap.size (.int .i64 0) (.slice none 0 0) (.slice none 0 0) (.slice none 0 0)) := by unfold Hid; rw [HW5.out]; exact HV4.out
        have HC5 : Hid (BoxC W5 w3.heap.size (.int .i64 zk) (.slice zna znn znc) (.slice zra zrn zrc) (.slice zka zkn zkc)) := by unfold Hid; rw [HW5.out]; exact HC4.out
        have HB5 : Hid (Below w.heap.size w W5) := by unfold Hid; rw [HW5.out]; exact below_drewN HB4.out nq
        have HO5 : Hid (OwnC W0.heap.size W5 6 (.agg #[.int .i64 zk, .slice zna znn znc, .slice zra zrn zrc, .slice zka zkn zkc]) c L) := by unfold Hid; rw [HW5.out]; exact OwnC.below HO4.out (below_drewN (Below.refl _ _) nq)
        obtain ⟨qa, qc, hq, _, _, _⟩ := HP5.out
        obtain ⟨q0, q1, q2, q3⟩ := hq.cells
        obtain ⟨c0, c1, c2, c3⟩ := HC5.out.cells
        clear hq
        cases hok : conOk c
        · have HCr : Hid (conRead zs = (CN.zero, ((n : Nat) : Int))) := conRead_no HL.out HWr.out hok
          go_wp2_with fail
          refine (specConOk_any HO5.out.rd (Nat.le_refl _)).mono ?_
          rintro e w6 ⟨rfl, hb6⟩
          rw [hok]
          have HV6 : Hid (BoxC w6 w.heap.size (.int .i64 0) (.slice none 0 0) (.slice none 0 0) (.slice none 0 0)) := HV5.out.below hb6 HV5.out.lt
          have HB6 : Hid (Below w.heap.size w w6) := HB5.out.trans (hb6.mono HB5.out.size)
          clear hb6 c0 c1 c2 c3 q0 q1 q2 q3
          obtain ⟨v0, v1, v2, v3⟩ := HV6.out.cells
          have vf0 := HV6.out.frz 0
          have vf1 := HV6.out.frz 1
          have vf2 := HV6.out.frz 2
          have vf3 := HV6.out.frz 3
          go_wp2
          obtain ⟨s0, s1, s2, s3⟩ := (HV6.out.set4 (.int .i64 0) (.slice none 0 0) (.slice none 0 0) (.slice none 0 0)).cells
          refine bodyPost_ret (v := .tuple #[.agg #[.int .i64 0, .slice none 0 0, .slice none 0 0, .slice none 0 0], .int .i64 n]) (by simp [results, Tryz.results86, go_sem, s0, s1, s2, s3]) rfl ?_
          exact AnsP.mk HCr.out (OwnC.none _ _ _) ((((HB6.out.setCell (Nat.le_refl _) _).setCell (Nat.le_refl _) _).setCell (Nat.le_refl _) _).setCell (Nat.le_refl _) _)
        · have HCr : Hid (conRead zs = (c, -1)) := conRead_ok HWr.out hok
          go_wp2_with fail
          refine (specConOk_any HO5.out.rd (Nat.le_refl _)).mono ?_
          rintro e w6 ⟨rfl, hb6⟩
          rw [hok]
          have HV6 : Hid (BoxC w6 w.heap.size (.int .i64 0) (.slice none 0 0) (.slice none 0 0) (.slice none 0 0)) := HV5.out.below hb6 HV5.out.lt
          have HC6 : Hid (BoxC w6 w3.heap.size (.int .i64 zk) (.slice zna znn znc) (.slice zra zrn zrc) (.slice zka zkn zkc)) := HC5.out.below hb6 HC5.out.lt
          have HB6 : Hid (Below w.heap.size w w6) := HB5.out.trans (hb6.mono HB5.out.size)
          have HO6 : Hid (OwnC W0.heap.size w6 6 (.agg #[.int .i64 zk, .slice zna znn znc, .slice zra zrn zrc, .slice zka zkn zkc]) c L) := OwnC.below HO5.out hb6
          clear hb6 c0 c1 c2 c3 q0 q1 q2 q3
          obtain ⟨c0, c1, c2, c3⟩ := HC6.out.cells
          obtain ⟨v0, v1, v2, v3⟩ := HV6.out.cells
          have vf0 := HV6.out.frz 0
          have vf1 := HV6.out.frz 1
          have vf2 := HV6.out.frz 2
          have vf3 := HV6.out.frz 3
          go_wp2
          obtain ⟨s0, s1, s2, s3⟩ := (HV6.out.set4 (.int .i64 zk) (.slice zna znn znc) (.slice zra zrn zrc) (.slice zka zkn zkc)).cells
          refine bodyPost_ret (v := .tuple #[.agg #[.int .i64 zk, .slice zna znn znc, .slice zra zrn zrc, .slice zka zkn zkc], .int .i64 (-1)]) (by simp [results, Tryz.results86, go_sem, s0, s1, s2, s3]) rfl ?_
          refine AnsP.mk (L := L) HCr.out ?_ ((((HB6.out.setCell (Nat.le_refl _) _).setCell (Nat.le_refl _) _).setCell (Nat.le_refl _) _).setCell (Nat.le_refl _) _)
          exact (HO6.out.same (fun q hq _ => heap_set4 _ _ _ _ _ (by omega)) (by simp)).mono (by omega)
  · have HCr : Hid (conRead zs = (CN.zero, bad)) := conRead_fell (wholeR_tok HT.out (by omega)) (by omega)
    obtain ⟨v0, v1, v2, v3⟩ := HV1.out.cells
    have vf0 := HV1.out.frz 0
    have vf1 := HV1.out.frz 1
    have vf2 := HV1.out.frz 2
    have vf3 := HV1.out.frz 3
    clear hO hb1 hTk hta
    go_wp2
    obtain ⟨s0, s1, s2, s3⟩ := (HV1.out.set4 (.int .i64 0) (.slice none 0 0) (.slice none 0 0) (.slice none 0 0)).cells
    refine bodyPost_ret (v := .tuple #[.agg #[.int .i64 0, .slice none 0 0, .slice none 0 0, .slice none 0 0], .int .i64 bad]) (by simp [results, Tryz.results86, go_sem, s0, s1, s2, s3]) rfl ?_
    exact AnsP.mk HCr.out (OwnC.none _ _ _) ((((HB1.out.setCell (Nat.le_refl _) _).setCell (Nat.le_refl _) _).setCell (Nat.le_refl _) _).setCell (Nat.le_refl _) _)
end

section
open Go.RowKit

theorem ownC_shapeS {base : Nat} {w : World} {d : Nat} {v : Value} {c : CN} {L : List (Addr × IntKind)} (h : OwnC base w d v c L) : ∃ k na nn nc ra rn rc ka kn kc, v = .agg #[.int .i64 k, .slice na nn nc, .slice ra rn rc, .slice ka kn kc] := by
  obtain ⟨na, nn, nc, ra, rn, rc, ka, kn, kc, e⟩ := h.ow.agg
  exact ⟨_, na, nn, nc, ra, rn, rc, ka, kn, kc, e⟩

set_option maxRecDepth 100000 in
set_option maxHeartbeats 1000000 in
theorem con_any (s : ByteArray) (hs : s.size ≤ 255) (w : World) :
    Calls Tryz.prog 35 #[.string s] w fun e w' => ∃ v, e = .returned v ∧ RdC w.heap.size w'.heap.size w' 6 v (conRead (numsOf s)).1 ∧ Below w.heap.size w w' := by
  obtain ⟨W0, HW0⟩ : ∃ W, Hid (W = w.alloc (.cells #[.int .i64 0, .slice none 0 0, .slice none 0 0, .slice none 0 0] 30)) := ⟨_, rfl⟩
  have HB0 : Hid (Below w.heap.size w W0) := by unfold Hid; rw [HW0.out]; exact (Below.refl _ _).alloc (Nat.le_refl _) _
  have HX0 : Hid (BoxC W0 w.heap.size (.int .i64 0) (.slice none 0 0) (.slice none 0 0) (.slice none 0 0)) := by unfold Hid; rw [HW0.out]; exact BoxC.new w _ _ _ _
  obtain ⟨Wx, HWx⟩ : ∃ W, Hid (W = Lib.bytesWorld W0 5 s) := ⟨_, rfl⟩
  obtain ⟨cp, HCP⟩ : ∃ cp, Hid (cp = grownCap W0 s.size 0 5) := ⟨_, rfl⟩
  have hcv : (convert 9 22 (.string s)).run Tryz.prog W0 = .ok (.slice (some ⟨W0.heap.size, 0, none⟩) s.size cp) Wx := by
    rw [HWx.out, HCP.out]
    exact Lib.run_convert_string_bytes W0 9 22 5 s Tryz.underlying9 Tryz.underlying22 Tryz.underlying5
  have hbx : Below W0.heap.size W0 Wx := by rw [HWx.out]; exact bytes_below W0 5 s
  have hsx : W0.heap.size < Wx.heap.size := by rw [HWx.out, Lib.bytesWorld_size]; omega
  have HRx : Hid (Rd 0 Wx.heap.size Wx (some ⟨W0.heap.size, 0, none⟩) s.size cp (numsOf s)) := by
    have hr : RolR Wx (.slice (some ⟨W0.heap.size, 0, none⟩) s.size cp) (numsOf s) W0.heap.size := by rw [HWx.out, HCP.out]; exact rol_conv W0 s hs
    obtain ⟨a', c', e, h3, _⟩ := hr
    simp only [Value.slice.injEq] at e
    obtain ⟨e1, e2, e3⟩ := e
    rw [← e1, ← e2, ← e3] at h3
    refine h3.rd (fun x hx => ?_)
    obtain ⟨j, hj, rfl⟩ := mem_leafB.1 hx
    exact ⟨Nat.zero_le _, hsx⟩
  have HBx : Hid (Below w.heap.size w Wx) := HB0.out.trans (hbx.mono HB0.out.size)
  have HXx : Hid (BoxC Wx w.heap.size (.int .i64 0) (.slice none 0 0) (.slice none 0 0) (.slice none 0 0)) := HX0.out.below hbx HX0.out.lt
  clear hbx
  go_enter Tryz.func35, Tryz.ntmps35
  go_upto_region 1 with fail
  rw [← HW0.out]
  go_wp2_with fail
  refine (specConRead_any _ _ _ (numsOf s) Wx HRx.out (Nat.le_refl _)).mono ?_
  rintro e w2 hA
  obtain ⟨v2, L2, rfl, hO2, hb2⟩ := hA
  obtain ⟨k, na, nn, nc, ra, rn, rc, ka, kn, kc, rfl⟩ := ownC_shapeS hO2
  obtain ⟨W3, HW3⟩ : ∃ W, Hid (W = w2.alloc (.cells #[.int .i64 k, .slice na nn nc, .slice ra rn rc, .slice ka kn kc] 30)) := ⟨_, rfl⟩
  have hb3 : Below w2.heap.size w2 W3 := by rw [HW3.out]; exact (Below.refl _ _).alloc (Nat.le_refl _) _
  have HY3 : Hid (BoxC W3 w2.heap.size (.int .i64 k) (.slice na nn nc) (.slice ra rn rc) (.slice ka kn kc)) := by unfold Hid; rw [HW3.out]; exact BoxC.new w2 _ _ _ _
  have HX3 : Hid (BoxC W3 w.heap.size (.int .i64 0) (.slice none 0 0) (.slice none 0 0) (.slice none 0 0)) := (HXx.out.below hb2 HXx.out.lt).below hb3 (Nat.lt_of_lt_of_le HXx.out.lt hb2.size)
  have HR3 : Hid (RdC Wx.heap.size w2.heap.size W3 6 (.agg #[.int .i64 k, .slice na nn nc, .slice ra rn rc, .slice ka kn kc]) (conRead (numsOf s)).1) := hO2.rd.below hb3 (Nat.le_refl _)
  have HB3 : Hid (Below w.heap.size w W3) := (HBx.out.trans (hb2.mono HBx.out.size)).trans (hb3.mono (Nat.le_trans HBx.out.size hb2.size))
  have hs3 : w2.heap.size < W3.heap.size := HY3.out.lt
  have hsx' : w.heap.size < Wx.heap.size := HXx.out.lt
  clear hO2 hb2 hb3
  obtain ⟨y0, y1, y2, y3⟩ := HY3.out.cells
  obtain ⟨z0, z1, z2, z3⟩ := HX3.out.cells
  have zf0 := HX3.out.frz 0
  have zf1 := HX3.out.frz 1
  have zf2 := HX3.out.frz 2
  have zf3 := HX3.out.frz 3
  try dsimp only
  go_upto_region 2 with fail
  rw [← HW3.out]
  go_wp2
  obtain ⟨s0, s1, s2, s3⟩ := (HX3.out.set4 (.int .i64 k) (.slice na nn nc) (.slice ra rn rc) (.slice ka kn kc)).cells
  refine bodyPost_ret (v := .agg #[.int .i64 k, .slice na nn nc, .slice ra rn rc, .slice ka kn kc]) (by simp [results, Tryz.results35, go_sem, s0, s1, s2, s3]) rfl ?_
  have hsm : Same Wx.heap.size w2.heap.size W3 ((((W3.setCell ⟨w.heap.size, 0, none⟩ (.int .i64 k)).setCell ⟨w.heap.size, 1, none⟩ (.slice na nn nc)).setCell ⟨w.heap.size, 2, none⟩ (.slice ra rn rc)).setCell ⟨w.heap.size, 3, none⟩ (.slice ka kn kc)) := fun q h1 h2 => heap_set4 _ _ _ _ _ (by omega)
  refine ⟨_, rfl, (HR3.out.same hsm).mono (by omega) (by simp; omega), ?_⟩
  exact (((HB3.out.setCell (p := ⟨w.heap.size, 0, none⟩) (Nat.le_refl _) _).setCell (p := ⟨w.heap.size, 1, none⟩) (Nat.le_refl _) _).setCell (p := ⟨w.heap.size, 2, none⟩) (Nat.le_refl _) _).setCell (p := ⟨w.heap.size, 3, none⟩) (Nat.le_refl _) _
end

section
open Go.RowKit

def wdA : WD := ⟨1, [[65]], [[true]], [], [], [], []⟩
theorem wdA_ok : worldB wdA = true := by kernel_rfl
theorem readConA : (conRead (numsOf { data := #[65] })).1 = CN.mk 2 [65] [] [] := by kernel_rfl
theorem readConNA : (conRead (numsOf { data := #[78, 111, 116, 40, 65, 41] })).1 = CN.mk 3 [] [] [CN.mk 2 [65] [] []] := by kernel_rfl
theorem holdA : holdsB wdA (CN.mk 2 [65] [] []) 0 = true := by kernel_rfl
theorem holdNA : holdsB wdA (CN.mk 3 [] [] [CN.mk 2 [65] [] []]) 0 = false := by kernel_rfl
theorem inSetA : inSetB wdA [65] 0 = true := by kernel_rfl

theorem wcAt (W : World) (g : Nat) (x : Int) (h : g = W.heap.size) : (convert 22 22 (.slice (some ⟨g, 0, none⟩) 1 1)).run Tryz.prog (W.alloc (.cells #[.int .u8 x] 5)) = .ok (.slice (some ⟨g, 0, none⟩) 1 1) (W.alloc (.cells #[.int .u8 x] 5 (1, 2))) :=
  by subst h; exact Lib.run_convert_bytes_const W 22 5 #[.int .u8 x] 1 1 Tryz.underlying22 Tryz.underlying5

theorem litA (w : World) : Rd w.heap.size (w.heap.size + 1) (w.alloc (.cells #[.int .u8 65] 5 (1, 2))) (some ⟨w.heap.size, 0, none⟩) 1 1 [65] := rd_lits w [65] (1, 2) (by simp) (byteLit (by decide))
theorem litA_size (w : World) : w.heap.size + 1 ≤ (w.alloc (.cells #[.int .u8 65] 5 (1, 2))).heap.size := by simp

theorem boxAt {t : Nat} {W : World} {k : Nat} {m : Int} {x1 x2 x3 x4 x5 x6 : Value} (h : k = W.heap.size) : BoxW t (W.alloc (.cells #[.int .i64 m, x1, x2, x3, x4, x5, x6] t)) k m x1 x2 x3 x4 x5 x6 := by subst h; exact BoxW.new _ W _ _ _ _ _ _ _

theorem wdA_rd (w V : World) (h0 : V.heap[w.heap.size]? = some (.cells #[.int .u8 65] 5 (1, 2))) (h1 : V.heap[w.heap.size + 1]? = some (.cells #[.slice (some ⟨w.heap.size, 0, none⟩) 1 1] 22 (0, 0)))
    (h2 : V.heap[w.heap.size + 2]? = some (.cells #[.bool true] 4 (0, 0))) (h3 : V.heap[w.heap.size + 3]? = some (.cells #[.slice (some ⟨w.heap.size + 2, 0, none⟩) 1 1] 63 (0, 0))) : RdW 0 V.heap.size V (some ⟨w.heap.size + 1, 0, none⟩) 1 1 (some ⟨w.heap.size + 3, 0, none⟩) 1 1 none 0 0 none 0 0 none 0 0 none 0 0 wdA := by
  have l0 := (Array.getElem?_eq_some_iff.1 h0).1
  have l1 := (Array.getElem?_eq_some_iff.1 h1).1
  have l2 := (Array.getElem?_eq_some_iff.1 h2).1
  have l3 := (Array.getElem?_eq_some_iff.1 h3).1
  have c0 : V.cell? ⟨w.heap.size, 0 + 0, none⟩ = some (.int .u8 65) := by simp [World.cell?, h0]
  have c1 : V.cell? ⟨w.heap.size + 1, 0 + 0, none⟩ = some (.slice (some ⟨w.heap.size, 0, none⟩) 1 1) := by simp [World.cell?, h1]
  have c2 : V.cell? ⟨w.heap.size + 2, 0 + 0, none⟩ = some (.bool true) := by simp [World.cell?, h2]
  have c3 : V.cell? ⟨w.heap.size + 3, 0 + 0, none⟩ = some (.slice (some ⟨w.heap.size + 2, 0, none⟩) 1 1) := by simp [World.cell?, h3]
  have r0 : Rd 0 V.heap.size V (some ⟨w.heap.size, 0, none⟩) 1 1 [65] := by
    refine ⟨rfl, by omega, fun i => ?_, .inr ⟨_, _, rfl, Nat.zero_le _, l0, fun i hi => ?_⟩⟩
    · match i with
      | 0 => exact ⟨by decide, by decide⟩
      | i + 1 => exact ⟨by simp, by simp⟩
    · have : i = 0 := by omega
      subst this
      exact c0
  have r2 : RB 0 V.heap.size V (some ⟨w.heap.size + 2, 0, none⟩) 1 1 [true] := by
    refine ⟨rfl, by omega, .inr ⟨_, _, rfl, Nat.zero_le _, l2, fun i hi => ?_⟩⟩
    have : i = 0 := by omega
    subst this
    exact ⟨_, c2, rfl⟩
  refine ⟨⟨rfl, by omega, .inr ⟨_, _, rfl, Nat.zero_le _, l1, fun i hi => ?_⟩⟩, ⟨rfl, by omega, .inr ⟨_, _, rfl, Nat.zero_le _, l3, fun i hi => ?_⟩⟩, ⟨rfl, by omega, .inl rfl⟩, ⟨rfl, by omega, .inl rfl⟩, ⟨rfl, by omega, .inl rfl⟩, ⟨rfl, by omega, .inl rfl⟩⟩
  · have : i = 0 := by omega
    subst this
    exact ⟨_, c1, _, _, _, rfl, r0⟩
  · have : i = 0 := by omega
    subst this
    exact ⟨_, c3, _, _, _, rfl, r2⟩

set_option maxRecDepth 100000 in
set_option maxHeartbeats 8000000 in
theorem worlds_any (w : World) : Calls Tryz.prog 10 #[] w fun e w' => e = .returned (.bool true) ∧ Below w.heap.size w w' := by
  have kc0 := wcAt w w.heap.size 65 rfl
  go_enter Tryz.func10, Tryz.ntmps10
  go_upto_region 2 with fail
  refine Code.wp_name (fun W1 hW1 => ?_)
  simp only [Nat.add_assoc, Nat.reduceAdd] at hW1 ⊢
  have hs1 : W1.heap.size = w.heap.size + 5 := by rw [hW1]; simp
  have hb0 : W1.heap[w.heap.size]? = some (.cells #[.int .u8 65] 5 (1, 2)) := by
    rw [hW1]
    repeat rw [allocOld (by first | (simp; done) | (simp; omega))]
    exact allocAt (by simp)
  have hb1 : W1.heap[w.heap.size + 1]? = some (.cells #[.slice (some ⟨w.heap.size, 0, none⟩) 1 1] 22 (0, 0)) := by
    rw [hW1]
    repeat rw [allocOld (by first | (simp; done) | (simp; omega))]
    exact allocAt (by simp)
  have hb2 : W1.heap[w.heap.size + 2]? = some (.cells #[.bool true] 4 (0, 0)) := by
    rw [hW1]
    repeat rw [allocOld (by first | (simp; done) | (simp; omega))]
    exact allocAt (by simp)
  have hb3 : W1.heap[w.heap.size + 3]? = some (.cells #[.slice (some ⟨w.heap.size + 2, 0, none⟩) 1 1] 63 (0, 0)) := by
    rw [hW1]
    repeat rw [allocOld (by first | (simp; done) | (simp; omega))]
    exact allocAt (by simp)
  have hbx : BoxW 27 W1 (w.heap.size + 4) 1 (.slice (some ⟨w.heap.size + 1, 0, none⟩) 1 1) (.slice (some ⟨w.heap.size + 3, 0, none⟩) 1 1) (.slice none 0 0) (.slice none 0 0) (.slice none 0 0) (.slice none 0 0) := by
    rw [hW1]
    exact boxAt (by simp)
  have HB1 : Hid (Below w.heap.size w W1) := by
    unfold Hid
    rw [hW1]
    refine Below.alloc (Below.alloc (Below.alloc (Below.alloc (Below.alloc (Below.refl _ _) ?_ _) ?_ _) ?_ _) ?_ _) ?_ _ <;> first | (simp; done) | (simp; omega)
  have HBx : Hid (∀ V, Below W1.heap.size W1 V → V.cell? ⟨w.heap.size + 4, 0, none⟩ = some (.int .i64 1) ∧ V.cell? ⟨w.heap.size + 4, 1, none⟩ = some (.slice (some ⟨w.heap.size + 1, 0, none⟩) 1 1) ∧ V.cell? ⟨w.heap.size + 4, 2, none⟩ = some (.slice (some ⟨w.heap.size + 3, 0, none⟩) 1 1) ∧ V.cell? ⟨w.heap.size + 4, 3, none⟩ = some (.slice none 0 0) ∧ V.cell? ⟨w.heap.size + 4, 4, none⟩ = some (.slice none 0 0) ∧ V.cell? ⟨w.heap.size + 4, 5, none⟩ = some (.slice none 0 0) ∧ V.cell? ⟨w.heap.size + 4, 6, none⟩ = some (.slice none 0 0)) := fun V hV => (hbx.below hV (by omega)).cells
  have HRd : Hid (∀ V, Below W1.heap.size W1 V → RdW 0 W1.heap.size V (some ⟨w.heap.size + 1, 0, none⟩) 1 1 (some ⟨w.heap.size + 3, 0, none⟩) 1 1 none 0 0 none 0 0 none 0 0 none 0 0 wdA ∧ W1.heap.size ≤ V.heap.size) := fun V hV => ⟨(wdA_rd w W1 hb0 hb1 hb2 hb3).below hV (Nat.le_refl _), hV.size⟩
  have HTo : Hid (∀ V, Below W1.heap.size W1 V → Below w.heap.size w V) := fun V hV => HB1.out.trans (hV.mono HB1.out.size)
  have Hd : Hid (Below W1.heap.size W1 W1.drew) := (Below.refl _ _).drew
  have hwn : wdA.n = 1 := rfl
  have hs6 : ({ data := #[78, 111, 116, 40, 65, 41] } : ByteArray).size ≤ 255 := by decide
  have hs1' : ({ data := #[65] } : ByteArray).size ≤ 255 := by decide
  have hbkA : (CN.mk 2 [65] [] []).bulk ≤ 1048576 := by simp [CN.bulk, bulks]
  have hbkN : (CN.mk 3 [] [] [CN.mk 2 [65] [] []]).bulk ≤ 1048576 := by simp [CN.bulk, bulks]
  have HKA : Hid ((CN.mk 2 [65] [] []).bulk ≤ 1048576) := hbkA
  have HKN : Hid ((CN.mk 3 [] [] [CN.mk 2 [65] [] []]).bulk ≤ 1048576) := hbkN
  obtain ⟨z0, z1, z2, z3, z4, z5, z6⟩ := HBx.out _ Hd.out
  clear hbx hb0 hb1 hb2 hb3 hs1 hW1 kc0 hbkA hbkN
  first
  | go_region_with (first
    | (go_at_call 36; (with_reducible refine (implInSet_any (nx := 1) (z := 0) (HRd.out _ (H6.out.alloc H6.out.size _)).1 HRA.out hwn (HRd.out _ (H6.out.alloc H6.out.size _)).2 hsA).mono ?_); rintro e w8 ⟨he, hb8⟩; rw [inSetA] at he; subst he; have H8 : Hid (Below W1.heap.size W1 w8) := (H6.out.alloc H6.out.size _).trans (hb8.mono (H6.out.alloc H6.out.size _).size); clear hb8)
    | (go_at_call 14; (with_reducible refine (implHolds_any (nx := 1) (z := 0) (HRd.out _ H5.out).1 HR5.out hwn (HRd.out _ H5.out).2 (Nat.le_refl _) HKN.out).mono ?_); rintro e w6 ⟨he, hb6⟩; rw [holdNA] at he; subst he; have H6 : Hid (Below W1.heap.size W1 w6) := H5.out.trans (hb6.mono H5.out.size); have kc6 := wcAt w6 w6.heap.size 65 rfl; have HRA : Hid (Rd w6.heap.size (w6.heap.size + 1) (w6.alloc (.cells #[.int .u8 65] 5 (1, 2))) (some ⟨w6.heap.size, 0, none⟩) 1 1 [65]) := litA w6; have hsA := litA_size w6; clear hb6 z0 z1 z2 z3 z4 z5 z6; obtain ⟨z0, z1, z2, z3, z4, z5, z6⟩ := HBx.out _ H6.out; have hs46 : w.heap.size + 4 < w6.heap.size := World.block_lt_of_cell? w6 _ z0)
    | (go_at_call 14; (with_reducible refine (implHolds_any (nx := 1) (z := 0) (HRd.out _ H3.out).1 HR3.out hwn (HRd.out _ H3.out).2 (Nat.le_refl _) HKA.out).mono ?_); rintro e w4 ⟨he, hb4⟩; rw [holdA] at he; subst he; have H4 : Hid (Below W1.heap.size W1 w4) := H3.out.trans (hb4.mono H3.out.size); clear hb4 z0 z1 z2 z3 z4 z5 z6; obtain ⟨z0, z1, z2, z3, z4, z5, z6⟩ := HBx.out _ H4.out)
    | (go_at_call 35; (with_reducible refine (con_any { data := #[78, 111, 116, 40, 65, 41] } hs6 w4).mono ?_); rintro e w5 ⟨v5, rfl, hr5, hb5⟩; rw [readConNA] at hr5; have HR5 : Hid (RdC w4.heap.size w5.heap.size w5 6 v5 (CN.mk 3 [] [] [CN.mk 2 [65] [] []])) := hr5; have H5 : Hid (Below W1.heap.size W1 w5) := H4.out.trans (hb5.mono H4.out.size); clear hr5 hb5 z0 z1 z2 z3 z4 z5 z6; obtain ⟨z0, z1, z2, z3, z4, z5, z6⟩ := HBx.out _ H5.out)
    | (go_at_call 35; (with_reducible refine (con_any { data := #[65] } hs1' w2).mono ?_); rintro e w3 ⟨v3, rfl, hr3, hb3⟩; rw [readConA] at hr3; have HR3 : Hid (RdC w2.heap.size w3.heap.size w3 6 v3 (CN.mk 2 [65] [] [])) := hr3; have H3 : Hid (Below W1.heap.size W1 w3) := H2.out.trans (hb3.mono H2.out.size); clear hr3 hb3 z0 z1 z2 z3 z4 z5 z6; obtain ⟨z0, z1, z2, z3, z4, z5, z6⟩ := HBx.out _ H3.out)
    | (go_at_call 28; (with_reducible refine (implWorldOk_any (nx := 1) (HRd.out _ Hd.out).1 hwn (HRd.out _ Hd.out).2).mono ?_); rintro e w2 ⟨he, hb2⟩; rw [wdA_ok] at he; subst he; have H2 : Hid (Below W1.heap.size W1 w2) := Hd.out.trans (hb2.mono Hd.out.size); clear hb2 z0 z1 z2 z3 z4 z5 z6; obtain ⟨z0, z1, z2, z3, z4, z5, z6⟩ := HBx.out _ H2.out))
  | fail
  all_goals
    go_wp2
    go_ret
    exact ⟨rfl, HTo.out _ H8.out⟩
end

end Go.Proofs.YtnmljalcndfjmaaGreat
