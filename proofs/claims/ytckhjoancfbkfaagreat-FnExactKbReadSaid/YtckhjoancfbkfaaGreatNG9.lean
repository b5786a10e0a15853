/- Several texts in one: AxSpec, ConShape2, SpecToks, AxLawM. -/
import Derived.Test.YtckhjoancfbkfaaGreatNG6
import Derived.Test.YtckhjoancfbkfaaGreatNG8
import Derived.Test.YtckhjoancfbkfaaGreatNG2
import Derived.Deep.DeepCutAuto
import Derived.Test.YtckhjoancfbkfaaGreatNG7
namespace Go.Proofs.YtckhjoancfbkfaaGreat

section
open Go.RowKit

theorem zeroB_of {c : CN} {k : Int} {nn rn kn : Nat} (hk : k = c.kind) (h1 : c.name.length = nn) (h2 : c.role.length = rn) (h3 : c.kids.length = kn) : zeroB c = (decide (k = 0) && (decide (nn = 0) && (decide (rn = 0) && decide (kn = 0)))) := by
  unfold zeroB
  rw [← hk, h1, h2, h3]

set_option maxRecDepth 100000 in
set_option maxHeartbeats 1000000 in
theorem l3zero_any {d : Nat} {v : Value} {c : CN} {w : World} {lo hi : Nat} (h : RdC lo hi w d v c) :
    Calls Tryz.prog 72 #[v] w fun e w' => e = .returned (.bool (zeroB c)) ∧ Below w.heap.size w w' := by
  cases d with
  | zero => exact h.elim
  | succ d =>
    obtain ⟨na, nn, nc, ra, rn, rc, ka, kn, kc, rfl, hn, hr, hks⟩ := h
    obtain ⟨k, hk⟩ : ∃ k, k = c.kind := ⟨_, rfl⟩
    rw [← hk]
    have HZ : Hid (zeroB c = (decide (k = 0) && (decide (nn = 0) && (decide (rn = 0) && decide (kn = 0))))) := zeroB_of hk hn.len hr.len hks.len
    have HB : Hid (Below w.heap.size w (w.alloc (.cells #[.int .i64 k, .slice na nn nc, .slice ra rn rc, .slice ka kn kc] 37))) := (Below.refl _ _).alloc (Nat.le_refl _) _
    clear hk hn hr hks
    by_cases h0 : k = 0
    · have b0 : (k == 0) = true := by simpa using h0
      by_cases h1 : nn = 0
      · have b1 : ((nn : Int) == 0) = true := by simp; omega
        by_cases h2 : rn = 0
        · have b2 : ((rn : Int) == 0) = true := by simp; omega
          by_cases h3 : kn = 0
          · have b3 : ((kn : Int) == 0) = true := by simp; omega
            have HE : Hid (zeroB c = true) := by unfold Hid; rw [HZ.out]; simp [h0, h1, h2, h3]
            clear h0 h1 h2 h3
            go_enter Tryz.func72, Tryz.ntmps72
            go_wp2_with fail
            go_ret
            exact ⟨rb HE.out.symm, HB.out⟩
          · have b3 : ((kn : Int) == 0) = false := by simp; omega
            have HE : Hid (zeroB c = false) := by unfold Hid; rw [HZ.out]; simp [h3]
            clear h0 h1 h2 h3
            go_enter Tryz.func72, Tryz.ntmps72
            go_wp2_with fail
            go_ret
            exact ⟨rb HE.out.symm, HB.out⟩
        · have b2 : ((rn : Int) == 0) = false := by simp; omega
          have HE : Hid (zeroB c = false) := by unfold Hid; rw [HZ.out]; simp [h2]
          clear h0 h1 h2
          go_enter Tryz.func72, Tryz.ntmps72
          go_wp2_with fail
          go_ret
          exact ⟨rb HE.out.symm, HB.out⟩
      · have b1 : ((nn : Int) == 0) = false := by simp; omega
        have HE : Hid (zeroB c = false) := by unfold Hid; rw [HZ.out]; simp [h1]
        clear h0 h1
        go_enter Tryz.func72, Tryz.ntmps72
        go_wp2_with fail
        go_ret
        exact ⟨rb HE.out.symm, HB.out⟩
    · have b0 : (k == 0) = false := by simpa using h0
      have HE : Hid (zeroB c = false) := by unfold Hid; rw [HZ.out]; simp [h0]
      clear h0
      go_enter Tryz.func72, Tryz.ntmps72
      go_wp2_with fail
      go_ret
      exact ⟨rb HE.out.symm, HB.out⟩
end

section
open Go.RowKit

set_option maxRecDepth 100000 in
set_option maxHeartbeats 2000000 in
theorem shapeOk_any {d : Nat} {v : Value} {c : CN} {w : World} {lo hi : Nat} (h : RdC lo hi w d v c) (hhi : hi ≤ w.heap.size) :
    Calls Tryz.prog 135 #[v] w fun e w' => e = .returned (.bool (shapeB c)) ∧ Below w.heap.size w w' := by
  cases d with
  | zero => exact h.elim
  | succ d =>
    have HRd : Hid (RdC lo hi w (d + 1) v c) := h
    obtain ⟨na, nn, nc, ra, rn, rc, ka, kn, kc, rfl, _, _, hk⟩ := h
    have HKL : Hid (c.kids.length = kn) := hk.len
    have HS : Hid (shapeB c = (nameFit c && (roleFit c && decide ((kn : Int) = kidN c.kind)))) := by unfold Hid shapeB; rw [hk.len]
    obtain ⟨k, hkd⟩ : ∃ k, k = c.kind := ⟨_, rfl⟩
    rw [← hkd] at HRd HS ⊢
    have hb0 : Below w.heap.size w (w.alloc (.cells #[.int .i64 k, .slice na nn nc, .slice ra rn rc, .slice ka kn kc] 37)).drew := ((Below.refl _ _).alloc (Nat.le_refl _) _).drew
    have HB0 : Hid (Below w.heap.size w (w.alloc (.cells #[.int .i64 k, .slice na nn nc, .slice ra rn rc, .slice ka kn kc] 37)).drew) := hb0
    have HR0 : Hid (RdC lo hi (w.alloc (.cells #[.int .i64 k, .slice na nn nc, .slice ra rn rc, .slice ka kn kc] 37)).drew (d + 1) (.agg #[.int .i64 k, .slice na nn nc, .slice ra rn rc, .slice ka kn kc]) c) := HRd.out.below hb0 hhi
    have HBx0 : Hid (BoxC (w.alloc (.cells #[.int .i64 k, .slice na nn nc, .slice ra rn rc, .slice ka kn kc] 37)).drew w.heap.size (.int .i64 k) (.slice na nn nc) (.slice ra rn rc) (.slice ka kn kc)) := BoxC.new w _ _ _ _
    clear hk hkd hb0
    cases hN : nameFit c
    · have HE : Hid (shapeB c = false) := by unfold Hid; rw [HS.out, hN]; rfl
      go_enter Tryz.func135, Tryz.ntmps135
      go_wp2_with fail
      first | go_region_with (go_at_call 155; refine (nameFits_any HR0.out (Nat.le_trans hhi HB0.out.size)).mono ?_; rintro e w1 ⟨rfl, hb1⟩; rw [hN]; have HB1 : Hid (Below w.heap.size w w1) := HB0.out.trans (hb1.mono HB0.out.size); clear hb1) | fail
      all_goals
        go_wp2_with fail
        go_ret
        exact ⟨rb HE.out.symm, HB1.out⟩
    · cases hR : roleFit c
      · have HE : Hid (shapeB c = false) := by unfold Hid; rw [HS.out, hN, hR]; rfl
        go_enter Tryz.func135, Tryz.ntmps135
        go_wp2_with fail
        first | go_region_with (first | (go_at_call 155; refine (nameFits_any HR0.out (Nat.le_trans hhi HB0.out.size)).mono ?_; rintro e w1 ⟨rfl, hb1⟩; rw [hN]; have HB1 : Hid (Below w.heap.size w w1) := HB0.out.trans (hb1.mono HB0.out.size); have HR1 : Hid (RdC lo hi w1 (d + 1) (.agg #[.int .i64 k, .slice na nn nc, .slice ra rn rc, .slice ka kn kc]) c) := HRd.out.below HB1.out hhi; have HBx1 : Hid (BoxC w1 w.heap.size (.int .i64 k) (.slice na nn nc) (.slice ra rn rc) (.slice ka kn kc)) := HBx0.out.below hb1 HBx0.out.lt; obtain ⟨c0, c1, c2, c3⟩ := HBx1.out.cells; clear hb1) | (go_at_call 156; refine (roleFits_any HR1.out (Nat.le_trans hhi HB1.out.size)).mono ?_; rintro e w2 ⟨rfl, hb2⟩; rw [hR]; have HB2 : Hid (Below w.heap.size w w2) := HB1.out.trans (hb2.mono HB1.out.size); clear hb2)) | fail
        all_goals
          go_wp2_with fail
          go_ret
          exact ⟨rb HE.out.symm, HB2.out⟩
      · have HE : Hid (shapeB c = ((kn : Int) == kidN k)) := by unfold Hid; rw [HS.out, hN, hR]; rfl
        go_enter Tryz.func135, Tryz.ntmps135
        go_wp2_with fail
        first | go_region_with (first | (go_at_call 155; refine (nameFits_any HR0.out (Nat.le_trans hhi HB0.out.size)).mono ?_; rintro e w1 ⟨rfl, hb1⟩; rw [hN]; have HB1 : Hid (Below w.heap.size w w1) := HB0.out.trans (hb1.mono HB0.out.size); have HR1 : Hid (RdC lo hi w1 (d + 1) (.agg #[.int .i64 k, .slice na nn nc, .slice ra rn rc, .slice ka kn kc]) c) := HRd.out.below HB1.out hhi; have HBx1 : Hid (BoxC w1 w.heap.size (.int .i64 k) (.slice na nn nc) (.slice ra rn rc) (.slice ka kn kc)) := HBx0.out.below hb1 HBx0.out.lt; obtain ⟨c0, c1, c2, c3⟩ := HBx1.out.cells; clear hb1) | (go_at_call 156; refine (roleFits_any HR1.out (Nat.le_trans hhi HB1.out.size)).mono ?_; rintro e w2 ⟨rfl, hb2⟩; rw [hR]; have HB2 : Hid (Below w.heap.size w w2) := HB1.out.trans (hb2.mono HB1.out.size); have HBx2 : Hid (BoxC w2 w.heap.size (.int .i64 k) (.slice na nn nc) (.slice ra rn rc) (.slice ka kn kc)) := HBx1.out.below hb2 HBx1.out.lt; obtain ⟨e0, e1, e2, e3⟩ := HBx2.out.cells; clear hb2) | (go_at_call 133; refine (kidCount_any _ _).mono ?_; rintro e w3 ⟨rfl, hw⟩; rw [hw]; clear hw)) | fail
        all_goals
          go_wp2_with fail
          go_ret
          exact ⟨rb HE.out.symm, HB2.out⟩
end

section
open Go.RowKit

theorem toksFrom_stop (zs : List Int) (f i : Nat) (acc : List Tok) (h : zs.length ≤ i) : toksFrom zs f i acc = (acc, -1) := by
  cases f with
  | zero => rfl
  | succ f => rw [toksFrom, if_neg (by omega)]

theorem toksFrom_blank (zs : List Int) (f i : Nat) (acc : List Tok) (h : i < zs.length) (hb : blankB (zs.getD i 0) = true) : toksFrom zs (f + 1) i acc = toksFrom zs f (i + 1) acc := by
  rw [toksFrom, if_pos h, if_pos hb]

theorem toksFrom_bad (zs : List Int) (f i : Nat) (acc : List Tok) (h : i < zs.length) (hb : blankB (zs.getD i 0) = false) (hk : kindOf (piece zs i) = 0) : toksFrom zs (f + 1) i acc = ([], (i : Int)) := by
  rw [toksFrom, if_pos h, if_neg (by rw [hb]; exact Bool.false_ne_true), if_pos hk]

theorem toksFrom_tok (zs : List Int) (f i : Nat) (acc : List Tok) (h : i < zs.length) (hb : blankB (zs.getD i 0) = false) (hk : kindOf (piece zs i) ≠ 0) : toksFrom zs (f + 1) i acc = toksFrom zs f (pend zs i) (acc ++ [tokAt zs i]) := by
  rw [toksFrom, if_pos h, if_neg (by rw [hb]; exact Bool.false_ne_true), if_neg hk]

/-- What is at place i: a value of three cells, the tokens' own memory, whether it is a token. -/
structure OneAt (zs : List Int) (i : Nat) (w w' : World) (kd : Int) (tv : Value) (e : Nat) (ok : Bool) (g : Nat × Nat) : Prop where
  bel : Below w.heap.size w w'
  stop : e = pend zs i
  okv : ok = !(kindOf (piece zs i) == 0)
  good : ok = true → kd = (tokAt zs i).kind ∧ tv = txv (tokAt zs i) g
  mem : ok = true → (tokAt zs i).text ≠ [] → w.heap.size ≤ g.1 ∧ Row w' g.1 g.2 (tokAt zs i).text ∧ g.2 ≤ 9223372036854775807
  form : ∃ a n c, tv = .slice a n c

theorem l1one_any (a : Option Addr) (n cap : Nat) (zs : List Int) (i : Nat) (w : World) {lo hi : Nat} (h : Rd lo hi w a n cap zs) (hhi : hi ≤ w.heap.size) (hi' : i < n) (hbig : n ≤ 1048576) :
    Calls Tryz.prog 108 #[.slice a n cap, .int .i64 i] w fun e w' => ∃ kd tv st ok g, e = .returned (.tuple #[.agg #[.int .i64 kd, .int .i64 i, tv], .int .i64 (st : Nat), .bool ok]) ∧ OneAt zs i w w' kd tv st ok g := by
  have hl := h.len
  by_cases h40 : zs.getD i 0 = 40
  · obtain ⟨hp, he⟩ := piece_open zs i (by omega) h40
    refine (l1one_open a n cap zs i w h hhi hi' h40).mono fun e w' ⟨he', hb⟩ => ?_
    refine ⟨3, .slice none 0 0, i + 1, true, (0, 0), by rw [he']; simp, hb, he.symm, ?_, ?_, ?_, ⟨_, _, _, rfl⟩⟩
    · rw [hp, kind_open]; rfl
    · intro _; simp only [tokAt, hp, kind_open]; exact ⟨trivial, by simp [txv]⟩
    · intro _ h; simp [tokAt, hp, kind_open] at h
  · by_cases h41 : zs.getD i 0 = 41
    · obtain ⟨hp, he⟩ := piece_close zs i (by omega) h41
      refine (l1one_close a n cap zs i w h hhi hi' h41).mono fun e w' ⟨he', hb⟩ => ?_
      refine ⟨4, .slice none 0 0, i + 1, true, (0, 0), by rw [he']; simp, hb, he.symm, ?_, ?_, ?_, ⟨_, _, _, rfl⟩⟩
      · rw [hp, kind_close]; rfl
      · intro _; simp only [tokAt, hp, kind_close]; exact ⟨trivial, by simp [txv]⟩
      · intro _ h; simp [tokAt, hp, kind_close] at h
    · refine (l1one_word a n cap zs i w h hhi hi' h40 h41 hbig).mono fun e w' ⟨g, c, he', hb, hg, hr, hc⟩ => ?_
      have hp0 : (piece zs i).getD 0 0 = zs.getD i 0 := by rw [piece_getD zs i 0 (by omega) (by have := pend_gt zs i; omega)]; rfl
      have hk := kind_word (piece zs i) (by rw [hp0]; exact h40) (by rw [hp0]; exact h41)
      have hpl := piece_length zs i (by omega)
      have hpos := pend_gt zs i
      have hne : piece zs i ≠ [] := fun e => by rw [e] at hpl; simp at hpl; omega
      have hw12 : wordKind (zs.getD i 0) = 1 ∨ wordKind (zs.getD i 0) = 2 := by unfold wordKind; split <;> simp
      rw [hp0] at hk
      refine ⟨_, _, pend zs i, _, (g, c), he', hb, rfl, ?_, ?_, ?_, ⟨_, _, _, rfl⟩⟩
      · rw [hk]
        cases hok : wordOk (piece zs i)
        · simp
        · rw [if_pos rfl]
          rcases hw12 with e | e <;> rw [e] <;> rfl
      · intro hok
        rw [if_pos hok] at hk
        have ht : (tokAt zs i).text = piece zs i := by simp only [tokAt]; rw [hk, if_pos hw12]
        refine ⟨by simp only [tokAt]; rw [hk], ?_⟩
        rw [txv_cons _ (by rw [ht]; exact hne), ht, hpl]
      · intro hok _
        rw [if_pos hok] at hk
        have ht : (tokAt zs i).text = piece zs i := by simp only [tokAt]; rw [hk, if_pos hw12]
        exact ⟨hg, by rw [ht]; exact hr, hc⟩

theorem Tryz.infoTok3 : (Tryz.prog.info? 134).map (fun i => (i.zero, i.size, i.bytes)) = some (some (.agg #[.int .i64 0, .int .i64 0, .slice none 0 0]), 3, 40) := by kernel_rfl

theorem new3 (w : World) (g : Nat) (x y z : Value) (t : Nat) (hg : g = w.heap.size) : ∀ j u, [x, y, z][j]? = some u → (w.alloc (.cells #[x, y, z] t)).cell? ((⟨g, 0, none⟩ : Addr).add j) = some u := by
  intro j u hu
  subst hg
  rw [Addr.add_lit]
  match j, hu with
  | 0, hu => simp at hu; subst hu; simp
  | 1, hu => simp at hu; subst hu; simp
  | 2, hu => simp at hu; subst hu; simp

theorem one3 (kd k : Int) (ta : Option Addr) (tn tc : Nat) : ∀ u ∈ [Value.int .i64 kd, .int .i64 k, .slice ta tn tc], u.oneCell' = true := by
  intro u hu
  simp at hu
  rcases hu with rfl | rfl | rfl <;> rfl

theorem piece_byte {zs : List Int} (h : ∀ i, 0 ≤ zs.getD i 0 ∧ zs.getD i 0 ≤ 255) (k : Nat) : ∀ j, 0 ≤ (piece zs k).getD j 0 ∧ (piece zs k).getD j 0 ≤ 255 := by
  intro j
  have := h (k + j)
  simp only [piece, List.getD, List.getElem?_take, List.getElem?_drop] at this ⊢
  split
  · exact this
  · simp

theorem step_tok {w0 wr W w2 : World} {u v' : Value} {ts : List Tok} {gs : List (Nat × Nat)} {zs : List Int} {k : Nat} {kd : Int} {tv : Value} {g : Nat × Nat}
    (hO : OwnT w0.heap.size W u ts gs) (hB : Below w0.heap.size w0 W) (hG : kd = (tokAt zs k).kind ∧ tv = txv (tokAt zs k) g)
    (hM : (tokAt zs k).text ≠ [] → w0.heap.size ≤ g.1 ∧ wr.heap.size ≤ g.1 ∧ Row W g.1 g.2 (tokAt zs k).text ∧ g.2 ≤ 9223372036854775807)
    (hS : ∀ i, i < ts.length → (ts.getD i Tok.zero).text ≠ [] → (gs.getD i (0, 0)).1 < wr.heap.size) (hby : ∀ i, 0 ≤ zs.getD i 0 ∧ zs.getD i 0 ≤ 255)
    (hown : w2.ownsRow w0.heap.size 134 3 v' (ts.length + 1) (flatT ts gs ++ [.int .i64 kd, .int .i64 k, tv])) (hgrow : W.grownBy w2 u.ownBlock) :
    ∃ g' cap', v' = .slice (some ⟨g', 0, none⟩) (ts.length + 1) cap' ∧ OwnT w0.heap.size w2 v' (ts ++ [tokAt zs k]) (gs ++ [g]) ∧ Below w0.heap.size w0 w2 := by
  obtain ⟨rfl, rfl⟩ := hG
  have hO2 := hO.snoc (tokAt zs k) g (fun ht => ⟨(hM ht).1, (hM ht).2.2.1, (hM ht).2.2.2⟩) (by
      simp only [tokAt]; split
      · exact piece_byte hby k
      · simp) (fun ht i hi hti => by have := hS i hi hti; have := (hM ht).2.1; omega) hown hgrow
  have hb2 : Below w0.heap.size w0 w2 := hB.grown hgrow hB.size (fun x hx => by
      rcases hO.row.2 with ⟨rfl, _⟩ | ⟨g1, cap1, cur, rfl, hg1, _⟩
      · simp [Value.ownBlock] at hx
      · simp [Value.ownBlock] at hx; omega)
  rcases hown.2 with ⟨_, h0⟩ | ⟨g', cap', _, rfl, _⟩
  · omega
  · exact ⟨g', cap', rfl, hO2, hb2⟩

set_option maxRecDepth 100000 in
set_option maxHeartbeats 1000000 in
theorem specTokens_any (a : Option Addr) (n cap : Nat) (zs : List Int) (w : World) {lo hi : Nat} (h : Rd lo hi w a n cap zs) (hhi : hi ≤ w.heap.size) :
    Calls Tryz.prog 62 #[.slice a n cap] w fun e w' => ∃ v gs, e = .returned (.tuple #[v, .int .i64 (toks zs).2]) ∧ OwnT w.heap.size w' v (toks zs).1 gs ∧ Below w.heap.size w w' := by
  have H : Hid (Rd lo hi w a n cap zs) := h
  obtain ⟨hl, ⟨hn, hm⟩, hby, hcs⟩ := h
  by_cases hbig : 1500 < n
  · have HT : Hid (toks zs = ([], 0)) := by unfold Hid toks; rw [if_pos (by omega)]
    clear hby hcs hl
    go_enter Tryz.func62, Tryz.ntmps62
    go_wp2
    go_ret2
    exact ⟨_, [], by rw [HT.out]; rfl, by rw [HT.out]; exact OwnT.nil _ _, Below.refl _ _⟩
  · have HT : Hid (toks zs = toksFrom zs (n + 1) 0 []) := by unfold Hid toks; rw [if_neg (by omega), hl]
    have HL : Hid (zs.length = n) := hl
    have HBy : Hid (∀ i, 0 ≤ zs.getD i 0 ∧ zs.getD i 0 ≤ 255) := hby
    have HCell : Hid (∀ k, k < n → ∃ b off, a = some ⟨b, off, none⟩ ∧ b < w.heap.size ∧ w.cell? ⟨b, off + k, none⟩ = some (.int .u8 (zs.getD k 0))) := by
      intro k hk
      rcases hcs with h0 | ⟨b, off, e, _, hb, hcs⟩
      · omega
      · exact ⟨b, off, e, by omega, hcs k hk⟩
    clear hby hcs hl
    obtain ⟨i0, hi0, hz0, hz1, hz2⟩ := info_parts Tryz.infoTok3
    go_enter Tryz.func62, Tryz.ntmps62
    go_wp2
    go_loopw [4, 5] (fun v i wr => ∃ (k f : Nat) (ts : List Tok) (gs : List (Nat × Nat)), k ≤ n ∧ n + 1 ≤ f + k ∧ i = .int .i64 k ∧ OwnT w.heap.size wr v ts gs ∧ Below w.heap.size w wr ∧ toksFrom zs f k ts = toks zs ∧ ts.length ≤ k) (fun _ i _ => n - (intOf i).toNat)
    case atStart => exact ⟨0, n + 1, [], [], Nat.zero_le _, by omega, rfl, OwnT.nil _ _, Below.refl _ _, HT.out.symm, by simp⟩
    case round =>
      obtain ⟨k, f, ts, gs, hk, hf, rfl, hown, hbel, htok, htl⟩ := hrel
      have HO : Hid (OwnT w.heap.size wr _ ts gs) := hown
      have HB : Hid (Below w.heap.size w wr) := hbel
      have HK : Hid (toksFrom zs f k ts = toks zs) := htok
      by_cases hlt : k < n
      · obtain ⟨b, off, ha, hb, hck⟩ := HCell.out k hlt
        obtain ⟨c, hc⟩ : ∃ c, c = zs.getD k 0 := ⟨_, rfl⟩
        rw [← hc] at hck
        have HC : Hid (c = zs.getD k 0) := hc
        have hck' : wr.cell? ⟨b, off + k, none⟩ = some (.int .u8 c) := (hbel.cell (p := ⟨b, off + k, none⟩) hb).trans hck
        obtain ⟨f', rfl⟩ : ∃ f', f = f' + 1 := ⟨f - 1, by omega⟩
        clear hown hbel htok hc hck
        subst ha
        cases hb1 : (c == 32)
        · cases hb2 : (c == 10)
          · have hnb : blankB (zs.getD k 0) = false := by rw [← HC.out]; simp [blankB, hb1, hb2]
            go_wp2_with fail
            refine (l1one_any (some ⟨b, off, none⟩) n cap zs k _ (H.out.below HB.out hhi) (Nat.le_trans hhi HB.out.size) hlt (by omega)).mono ?_
            rintro e w1 ⟨kd, tv, st, ok, g, rfl, hone⟩
            obtain ⟨ta, tn, tc, rfl⟩ := hone.form
            have HOne : Hid (OneAt zs k wr w1 kd (.slice ta tn tc) st ok g) := hone
            clear hone
            cases ok
            · have HN : Hid (toks zs = ([], (k : Int))) := by
                rw [← HK.out]; exact toksFrom_bad zs f' k ts (by rw [HL.out]; exact hlt) hnb (by have := HOne.out.okv; simpa using this.symm)
              go_wp2
              go_ret2
              exact ⟨_, [], by rw [HN.out]; rfl, by rw [HN.out]; exact OwnT.nil _ _, (HB.out.trans (HOne.out.bel.mono HB.out.size)).alloc (Nat.le_trans HB.out.size HOne.out.bel.size) _⟩
            · have hstop := HOne.out.stop
              have HS : Hid (st = pend zs k) := hstop
              have hst1 : k < st := by rw [hstop]; exact pend_gt zs k
              have hst2 : st ≤ n := by rw [hstop, ← HL.out]; exact pend_le zs k (by rw [HL.out]; exact hlt)
              have HN : Hid (toksFrom zs f' st (ts ++ [tokAt zs k]) = toks zs) := by
                rw [← HK.out, hstop]; exact (toksFrom_tok zs f' k ts (by rw [HL.out]; exact hlt) hnb (fun e => by have := HOne.out.okv; rw [e] at this; simp at this)).symm
              have HGood := HOne.out.good rfl
              have HMem := HOne.out.mem rfl
              have hbW : Below wr.heap.size wr ((w1.alloc (Obj.cells #[Value.int IntKind.i64 kd, Value.int IntKind.i64 k, Value.slice ta tn tc] 134)).alloc (Obj.cells #[Value.int IntKind.i64 kd, Value.int IntKind.i64 k, Value.slice ta tn tc] 134)) := (HOne.out.bel.alloc HOne.out.bel.size _).alloc (by have := HOne.out.bel.size; simp; omega) _
              have HOW : Hid (OwnT w.heap.size ((w1.alloc (Obj.cells #[Value.int IntKind.i64 kd, Value.int IntKind.i64 k, Value.slice ta tn tc] 134)).alloc (Obj.cells #[Value.int IntKind.i64 kd, Value.int IntKind.i64 k, Value.slice ta tn tc] 134)) u4 ts gs) := HO.out.below hbW
              have HBW : Hid (Below w.heap.size w ((w1.alloc (Obj.cells #[Value.int IntKind.i64 kd, Value.int IntKind.i64 k, Value.slice ta tn tc] 134)).alloc (Obj.cells #[Value.int IntKind.i64 kd, Value.int IntKind.i64 k, Value.slice ta tn tc] 134))) := HB.out.trans (hbW.mono HB.out.size)
              have HS1 : Hid (∀ i, i < ts.length → (ts.getD i Tok.zero).text ≠ [] → (gs.getD i (0, 0)).1 < wr.heap.size) := fun i hi ht => (HO.out.txt i hi ht).2.1.lt
              have HG : Hid (kd = (tokAt zs k).kind ∧ Value.slice ta tn tc = txv (tokAt zs k) g) := HGood
              have HM : Hid ((tokAt zs k).text ≠ [] → w.heap.size ≤ g.1 ∧ wr.heap.size ≤ g.1 ∧ Row ((w1.alloc (Obj.cells #[Value.int IntKind.i64 kd, Value.int IntKind.i64 k, Value.slice ta tn tc] 134)).alloc (Obj.cells #[Value.int IntKind.i64 kd, Value.int IntKind.i64 k, Value.slice ta tn tc] 134)) g.1 g.2 (tokAt zs k).text ∧ g.2 ≤ 9223372036854775807) :=
                fun ht => ⟨Nat.le_trans HB.out.size (HMem ht).1, (HMem ht).1, (HMem ht).2.1.allocOf.allocOf, (HMem ht).2.2⟩
              clear hstop hbW HGood HMem
              go_wp2_with (at_builtin; refine wpList_append_own _ rfl (.tmp 40) (.tmp 42) 91 rfl w.heap.size 134 i0 (.agg #[.int .i64 0, .int .i64 0, .slice none 0 0]) 3 40 Tryz.underlying91 hi0 hz0 hz1 hz2 rfl (by decide) u4 ts.length (flatT ts gs) rfl HOW.out.row ⟨w1.heap.size + 1, 0, none⟩ 1 1 [.int .i64 kd, .int .i64 k, .slice ta tn tc] rfl rfl (new3 _ _ _ _ _ _ (by simp)) (one3 _ _ _ _ _) (by unfold maxLen; omega) (by omega) HBW.out.size ?_; intro v' w2 hown' hgrow hnil; obtain ⟨g', cap', hv', hownT, hb2⟩ := step_tok HOW.out HBW.out HG.out HM.out HS1.out HBy.out hown' hgrow; subst hv'; have HF : Hid (OwnT w.heap.size w2 (.slice (some ⟨g', 0, none⟩) (ts.length + 1) cap') (ts ++ [tokAt zs k]) (gs ++ [g])) := hownT; have HB2 : Hid (Below w.heap.size w w2) := hb2; clear hown' hgrow hnil hownT hb2)
              go_roundw
              case rel => exact ⟨st, f', ts ++ [tokAt zs k], gs ++ [g], hst2, by omega, rfl, HF.out, HB2.out, HN.out, by simp; omega⟩
              case measure => simp [intOf]; omega
          · have HN : Hid (toksFrom zs f' (k + 1) ts = toks zs) := by rw [← HK.out]; exact (toksFrom_blank zs f' k ts (by rw [HL.out]; exact hlt) (by rw [← HC.out]; simp [blankB, hb2])).symm
            go_wp2
            go_roundw
            case rel => exact ⟨k + 1, f', ts, gs, by omega, by omega, by go_num, HO.out, HB.out, HN.out, by omega⟩
            case measure => simp [intOf]; omega
        · have HN : Hid (toksFrom zs f' (k + 1) ts = toks zs) := by rw [← HK.out]; exact (toksFrom_blank zs f' k ts (by rw [HL.out]; exact hlt) (by rw [← HC.out]; simp [blankB, hb1])).symm
          go_wp2
          go_roundw
          case rel => exact ⟨k + 1, f', ts, gs, by omega, by omega, by go_num, HO.out, HB.out, HN.out, by omega⟩
          case measure => simp [intOf]; omega
      · have HE : Hid (toks zs = (ts, -1)) := by rw [← HK.out]; exact toksFrom_stop zs f k ts (by rw [HL.out]; omega)
        clear hown hbel htok
        go_wp2
        go_ret2
        exact ⟨_, gs, by rw [HE.out]; rfl, by rw [HE.out]; exact HO.out, HB.out⟩
end

section
section
open Go.RowKit

theorem BoxA.frz {t : Nat} {W : World} {p : Nat} {k : Int} {c0 c1 c2 c3 d0 d1 d2 d3 r s a b : Value} (h : BoxA t W p k c0 c1 c2 c3 d0 d1 d2 d3 r s a b) (o : Nat) : W.frozen? ⟨p, o, none⟩ = false := by
  unfold BoxA at h
  simp [World.frozen?, h]

theorem BoxA.at {t : Nat} {W : World} {p : Nat} {k : Int} {c0 c1 c2 c3 d0 d1 d2 d3 r s a b : Value} (h : BoxA t W p k c0 c1 c2 c3 d0 d1 d2 d3 r s a b) (i : Nat) (v : Value) : (W.setCell ⟨p, i, none⟩ v).heap[p]? = some (.cells (#[.int .i64 k, c0, c1, c2, c3, d0, d1, d2, d3, r, s, a, b].setIfInBounds i v) t (0, 0)) := heap_setCell_same W p i _ _ v h

theorem BoxA.setC {t : Nat} {W : World} {p : Nat} {k : Int} {c0 c1 c2 c3 d0 d1 d2 d3 r s a b : Value} (h : BoxA t W p k c0 c1 c2 c3 d0 d1 d2 d3 r s a b) (x0 x1 x2 x3 : Value) : BoxA t ((((W.setCell ⟨p, 1, none⟩ x0).setCell ⟨p, 2, none⟩ x1).setCell ⟨p, 3, none⟩ x2).setCell ⟨p, 4, none⟩ x3) p k x0 x1 x2 x3 d0 d1 d2 d3 r s a b := by
  have e0 : BoxA t (W.setCell ⟨p, 1, none⟩ x0) p k x0 c1 c2 c3 d0 d1 d2 d3 r s a b := h.at 1 x0
  have e1 : BoxA t ((W.setCell ⟨p, 1, none⟩ x0).setCell ⟨p, 2, none⟩ x1) p k x0 x1 c2 c3 d0 d1 d2 d3 r s a b := e0.at 2 x1
  have e2 : BoxA t (((W.setCell ⟨p, 1, none⟩ x0).setCell ⟨p, 2, none⟩ x1).setCell ⟨p, 3, none⟩ x2) p k x0 x1 x2 c3 d0 d1 d2 d3 r s a b := e1.at 3 x2
  exact e2.at 4 x3

theorem BoxA.setD {t : Nat} {W : World} {p : Nat} {k : Int} {c0 c1 c2 c3 d0 d1 d2 d3 r s a b : Value} (h : BoxA t W p k c0 c1 c2 c3 d0 d1 d2 d3 r s a b) (x0 x1 x2 x3 : Value) : BoxA t ((((W.setCell ⟨p, 5, none⟩ x0).setCell ⟨p, 6, none⟩ x1).setCell ⟨p, 7, none⟩ x2).setCell ⟨p, 8, none⟩ x3) p k c0 c1 c2 c3 x0 x1 x2 x3 r s a b := by
  have e0 : BoxA t (W.setCell ⟨p, 5, none⟩ x0) p k c0 c1 c2 c3 x0 d1 d2 d3 r s a b := h.at 5 x0
  have e1 : BoxA t ((W.setCell ⟨p, 5, none⟩ x0).setCell ⟨p, 6, none⟩ x1) p k c0 c1 c2 c3 x0 x1 d2 d3 r s a b := e0.at 6 x1
  have e2 : BoxA t (((W.setCell ⟨p, 5, none⟩ x0).setCell ⟨p, 6, none⟩ x1).setCell ⟨p, 7, none⟩ x2) p k c0 c1 c2 c3 x0 x1 x2 d3 r s a b := e1.at 7 x2
  exact e2.at 8 x3

end

section
open Go.RowKit

end
end

end Go.Proofs.YtckhjoancfbkfaaGreat
