/- Several texts in one: ReadS3, ReadS4. -/
import Derived.Test.YtckhjoancfbkfaaGreatReadS2
import Derived.Deep.RegionHeld
import Derived.Deep.RegionLaw
import Derived.Deep.AppendLies
namespace Go.Proofs.YtckhjoancfbkfaaGreat

section
open Go.RowKit

theorem run_append_nil {P : Program} (w : World) (t rt e : TypeId) (i : TypeInfo) (ht : P.underlying t = some (.slice e)) (hi : P.info? e = some i) (base : Option Addr) (n cap c : Nat) (h : n ≤ cap) :
    (Builtin.append_ #[t, t] rt #[.slice base n cap, .slice none 0 c]).run P w = .ok (.slice base n cap) w := by
  cases base <;> simp [Builtin.append_, run_underlying ht, sizeOf, typeInfo, hi, Builtin.lenOf, Builtin.firstCells, storeCells, h]

theorem wpList_append_nil {P : Program} {w : World} {ops : Array Oper} {rest : List Oper} {o : Oper} {a : Act} {Q : Exit → Act → World → Prop} (hgd : o.guard = none) (s x : Operand) (t e : TypeId) (i : TypeInfo)
    (ho : o.op = .call { callee := .builtin .append, args := #[s, x], argTypes := #[t, t] }) (ht : P.underlying t = some (.slice e)) (hi : P.info? e = some i) (base : Option Addr) (n cap c : Nat) (hn : n ≤ cap) (hs : a.eval s = .slice base n cap) (hx : a.eval x = .slice none 0 c)
    (h : wpList P ops Q rest (a.put o.dst (.slice base n cap)) w) : wpList P ops Q (o :: rest) a w := by
  refine wpList_plain hgd fun K hK => ?_
  have hr := run_append_nil (P := P) w t o.type e i ht hi base n cap c hn
  unfold Oper.wp execOp
  simp only [ho, resolve, invoke, builtin, Sem.run_bind, Sem.run_pure, Result.andThen_ok, List.map_toArray, List.map_cons, List.map_nil, hs, hx, hr]
  exact hK _ _ h

/-- What is under way behind a fault: nothing is known of its kids but that their row is the call's own. -/
structure JunkR (pb : Nat) (w : World) (B ob : Nat) (k : Int) (rv : Value) (wr : World) (kv : Value) (m : Nat) : Prop where
  row : ∃ xs, wr.ownsRow B 37 4 kv m xs
  box : BoxC wr ob (.int .i64 k) (.slice none 0 0) rv kv
  bt : Bt pb w.heap.size w wr
  sz : B ≤ wr.heap.size

theorem ownsRow_bt {w w' : World} {pb base e size n : Nat} {v : Value} {xs : List Value} (h : w.ownsRow base e size v n xs) (hb : Bt pb w.heap.size w w') (hp : pb < base) : w'.ownsRow base e size v n xs := by
  have hl := h.lt
  obtain ⟨h1, h2⟩ := h
  refine ⟨h1, ?_⟩
  rcases h2 with h2 | ⟨g, cap, cur, rfl, hg, hh, r⟩
  · exact .inl h2
  · exact .inr ⟨g, cap, cur, rfl, hg, by rw [hb.block g (hl g rfl).2 (by omega)]; exact hh, r⟩

theorem ownsRow_set {w : World} {base e size n o i : Nat} {v x : Value} {xs : List Value} (h : w.ownsRow base e size v n xs) (ho : o < base) : (w.setCell ⟨o, i, none⟩ x).ownsRow base e size v n xs := ownsRow_setCell_below h (a := ⟨o, i, none⟩) ho x

theorem JunkR.keep {pb : Nat} {w : World} {B ob : Nat} {k : Int} {rv : Value} {wr w' : World} {kv : Value} {m : Nat} (h : JunkR pb w B ob k rv wr kv m) (hb : Bt pb wr.heap.size wr w') (h1 : pb < ob) (h2 : ob < B) : JunkR pb w B ob k rv w' kv m := by
  have sz := h.sz
  obtain ⟨xs, hx⟩ := h.row
  exact ⟨⟨xs, ownsRow_bt hx hb (by omega)⟩, (hb.block ob (by omega) (by omega)).trans h.box, h.bt.trans (hb.mono h.bt.size), Nat.le_trans sz hb.size⟩

theorem JunkR.app {pb : Nat} {w : World} {B ob : Nat} {k : Int} {rv : Value} {W w6 : World} {kv : Value} {m g cap : Nat} {xs ys : List Value} (h : JunkR pb w B ob k rv W kv m) (h2 : ob < B) (h3 : w.heap.size ≤ ob) (hrow : W.ownsRow B 37 4 kv m xs)
    (hown : w6.ownsRow B 37 4 (.slice (some ⟨g, 0, none⟩) (m + 1) cap) (m + 1) ys) (hgrow : W.grownBy w6 kv.ownBlock) :
    BoxC w6 ob (.int .i64 k) (.slice none 0 0) rv kv ∧ JunkR pb w B ob k rv (w6.setCell ⟨ob, 3, none⟩ (.slice (some ⟨g, 0, none⟩) (m + 1) cap)) (.slice (some ⟨g, 0, none⟩) (m + 1) cap) (m + 1) := by
  have hl := hrow.lt
  have sz := h.sz
  have hbox6 : BoxC w6 ob (.int .i64 k) (.slice none 0 0) rv kv := (hgrow.block ob h.box.lt (fun e => by have := (hl ob e.symm).1; omega)).trans h.box
  refine ⟨hbox6, ⟨⟨ys, ownsRow_set hown h2⟩, hbox6.set3 _, (h.bt.grown hgrow h.bt.size (fun x hx => by have := hl x hx; omega)).set (.inl h3) _, ?_⟩⟩
  have := hgrow.size
  simp; omega

theorem InvR.junk {pb : Nat} {ts : List Tok} {gs : List (Nat × Nat)} {i0 : Nat} {w : World} {B ob d : Nat} {k : Int} {rv : Value} {role : List Int} {br : Nat} {wr : World} {kv : Value} {cs : List CN} {Ls : List (List (Addr × IntKind))} {xs : List Value} {j m : Nat} (h : InvR pb ts gs i0 w B ob d k rv role br wr kv cs Ls xs j) (hm : cs.length = m) : JunkR pb w B ob k rv wr kv m :=
  ⟨⟨xs, by rw [← hm]; exact h.row.row⟩, h.box, h.bt, h.sz⟩

theorem con_stuckA (pb : Nat) (p : Int) (w : World) (dp : Int) (hd : dp ≤ 7) (hp : 0 ≤ p) (hP : PsBad w pb p) :
    Calls Tryz.prog 98 #[.pointer (some ⟨pb, 0, none⟩), .int .i64 dp] w fun e w' => e = .returned (.agg #[.int .i64 0, .slice none 0 0, .slice none 0 0, .slice none 0 0]) ∧ PsBad w' pb p ∧ Below w.heap.size w w' := by
  by_cases h : dp = 7
  · subst h; exact con_stuck7 pb p w hp hP
  · exact con_stuck pb p w dp (by omega) hp hP

def ConC (f : Nat) : Prop := ∀ (dp : Int), 1 ≤ dp → dp + (f : Int) = 7 → ∀ (base pb g i : Nat) (ts : List Tok) (gs : List (Nat × Nat)) (en : Int) (w : World), Tks ts en → PsAt w pb g i ts en (-1) → TkM base pb w g ts gs → i ≤ ts.length →
  Calls Tryz.prog 98 #[.pointer (some ⟨pb, 0, none⟩), .int .i64 dp] w (SP ts gs en g pb i w f (conR ts en f i))

theorem kidsS_bad {g : Nat → Res} {s m : Nat} {a : Int} (h : kidsR g s m = .bad a) : ∀ n, m ≤ n → kidsR g s n = .bad a := by
  intro n
  induction n with
  | zero => intro hm; rw [show m = 0 by omega] at h; exact h
  | succ n ih =>
    intro hm
    by_cases e : m = n + 1
    · subst e; exact h
    · rw [kidsR, ih (by omega)]

theorem kidsS_step {g : Nat → Res} {s m : Nat} {cs : List CN} {j : Nat} {c : CN} {j' : Nat} (h : kidsR g s m = .ok cs j) (k : g j = .ok c j') : kidsR g s (m + 1) = .ok (cs ++ [c]) j' := by
  rw [kidsR, h]; simp only; rw [k]

theorem kidsS_fell {g : Nat → Res} {s m : Nat} {cs : List CN} {j : Nat} {a : Int} (h : kidsR g s m = .ok cs j) (k : g j = .bad a) : kidsR g s (m + 1) = .bad a := by
  rw [kidsR, h]; simp only; rw [k]

theorem kidsS_len {g : Nat → Res} {s : Nat} : ∀ {m : Nat} {cs : List CN} {j : Nat}, kidsR g s m = .ok cs j → cs.length = m := by
  intro m
  induction m with
  | zero => intro cs j h; simp only [kidsR, ResL.ok.injEq] at h; rw [← h.1]; rfl
  | succ m ih =>
    intro cs j h
    simp only [kidsR] at h
    cases h1 : kidsR g s m with
    | bad a => rw [h1] at h; simp at h
    | ok cs1 j1 =>
      rw [h1] at h
      simp only at h
      cases h2 : g j1 with
      | bad a => rw [h2] at h; simp at h
      | ok c2 j2 =>
        rw [h2] at h
        simp only [ResL.ok.injEq] at h
        rw [← h.1, List.length_append, ih h1]
        rfl

theorem conS_kids {ts : List Tok} {en : Int} {f i : Nat} (h1 : isI ts 1 i = true) (h2 : kindI ts i ≠ 2) (h3 : kidN (kindI ts i) ≠ 0) (h4 : isI ts 3 (i + 1) = true) (h5 : roleB (kindI ts i) = false ∨ isI ts 2 (i + 2) = true) :
    conR ts en (f + 1) i = closeR ts en (kindI ts i) (roleI ts (kindI ts i) i) (kidsR (conR ts en f) (startI (kindI ts i) i) (kidN (kindI ts i)).toNat) := by
  rw [conR, if_neg (by simp [h1]), if_neg h2, if_neg h3, if_neg (by simp [h4]), if_neg]
  rintro ⟨a, b⟩
  rcases h5 with h | h
  · rw [h] at a; cases a
  · rw [h] at b; cases b

theorem kidS_kind {k : Int} (h : k = 0 ∨ k = 1 ∨ k = 2 ∨ k = 3 ∨ k = 4 ∨ k = 5 ∨ k = 6 ∨ k = 7) : 0 ≤ kidN k ∧ kidN k ≤ 2 := by
  rcases h with rfl | rfl | rfl | rfl | rfl | rfl | rfl | rfl <;> decide
theorem roleS_no {k : Int} (h : k = 0 ∨ k = 1 ∨ k = 2 ∨ k = 3 ∨ k = 4 ∨ k = 5 ∨ k = 6 ∨ k = 7) (hr : roleB k = false) : ¬ 6 ≤ k := by
  rcases h with rfl | rfl | rfl | rfl | rfl | rfl | rfl | rfl <;> first | omega | (exfalso; revert hr; decide)
theorem roleS_yes {k : Int} (hr : roleB k = true) : 6 ≤ k := by
  simp only [roleB, Bool.or_eq_true, decide_eq_true_eq] at hr; omega
end

section
open Go.RowKit

set_option maxRecDepth 100000 in
set_option maxHeartbeats 2000000 in
theorem con_open0 (f : Nat) (dp : Int) (hd0 : 1 ≤ dp) (hd6 : dp ≤ 6) (base pb g i : Nat) (ts : List Tok) (gs : List (Nat × Nat)) (en : Int) (w : World) (hK : Tks ts en) (hP : PsAt w pb g i ts en (-1)) (hT : TkM base pb w g ts gs) (h1 : isI ts 1 i = true) (h2 : kindI ts i ≠ 2) (h3 : kidN (kindI ts i) ≠ 0) (h4 : isI ts 3 (i + 1) = false) (h5 : roleB (kindI ts i) = false) :
    Calls Tryz.prog 98 #[.pointer (some ⟨pb, 0, none⟩), .int .i64 dp] w (SP ts gs en g pb i w (f + 1) (conR ts en (f + 1) i)) := by
  have HCb : Hid (conR ts en (f + 1) i = .bad (hereI ts en (i + 1))) := by unfold Hid; rw [conR, if_neg (by simp [h1]), if_neg h2, if_neg h3, if_pos h4]
  have H5 : Hid (roleB (kindI ts i) = false) := h5
  clear h5
  have H2 : Hid (kindI ts i ≠ 2) := h2
  have H3 : Hid (kidN (kindI ts i) ≠ 0) := h3
  clear h2 h3
  have hpl := hP.lt
  have hb0 : Below w.heap.size w (w.alloc (.cells #[.int .i64 0, .slice none 0 0, .slice none 0 0, .slice none 0 0] 37)) := (Below.refl _ _).alloc (Nat.le_refl _) _
  have HB0 : Hid (Below w.heap.size w (w.alloc (.cells #[.int .i64 0, .slice none 0 0, .slice none 0 0, .slice none 0 0] 37))) := hb0
  have HP0 : Hid (PsAt (w.alloc (.cells #[.int .i64 0, .slice none 0 0, .slice none 0 0, .slice none 0 0] 37)) pb g i ts en (-1)) := hP.below hb0
  have HT0 : Hid (TkM base pb (w.alloc (.cells #[.int .i64 0, .slice none 0 0, .slice none 0 0, .slice none 0 0] 37)) g ts gs) := hT.below (hb0.mono (Nat.le_of_lt hpl))
  have HZ0 : Hid (BoxC (w.alloc (.cells #[.int .i64 0, .slice none 0 0, .slice none 0 0, .slice none 0 0] 37)) w.heap.size (.int .i64 0) (.slice none 0 0) (.slice none 0 0) (.slice none 0 0)) := BoxC.new w _ _ _ _
  have HK : Hid (Tks ts en) := hK
  clear hb0 hP hT hK
  have hlt := isI_lt h1
  have hw1 : 1 ≤ (wordI ts i).length := HK.out.wd i (.inl h1)
  have hw6 : (wordI ts i).length ≤ 6 := HK.out.sh i
  obtain ⟨ta0, tc, hx, _, _, _⟩ := HT0.out.word hlt
  obtain ⟨tg, htg⟩ : ∃ tg, tg = (gs.getD i (0, 0)).1 := ⟨_, rfl⟩
  have hne0 : (ts.getD i Tok.zero).text ≠ [] := fun e => by rw [show wordI ts i = [] from e] at hw1; simp at hw1
  have hxc := txv_cons (t := ts.getD i Tok.zero) (gs.getD i (0, 0)) hne0
  rw [hx] at hxc
  simp only [Value.slice.injEq] at hxc
  obtain ⟨hxa, hxb, hxd⟩ := hxc
  clear hxb hxd
  obtain ⟨tn, htn⟩ : ∃ tn, tn = (wordI ts i).length := ⟨_, rfl⟩
  rw [hxa, ← htg] at hx
  have HX : Hid (txv (ts.getD i Tok.zero) (gs.getD i (0, 0)) = .slice (some ⟨tg, 0, none⟩) (wordI ts i).length tc) := hx
  have HTN : Hid (tn = (wordI ts i).length) := htn
  rw [← htn] at hw1 hw6
  obtain ⟨kd, hkd⟩ : ∃ kd, kd = kindI ts i := ⟨_, rfl⟩
  have HKD : Hid (kd = kindI ts i) := hkd
  clear hx htn hkd hxa hne0 htg
  go_enter Tryz.func98, Tryz.ntmps98
  go_wp2_with fail
  refine (takeS_ok base pb g i ts gs en 1 _ HP0.out HT0.out HK.out.len h1).mono ?_
  rintro e w1 ⟨rfl, hP1, hb1⟩
  rw [HX.out, ← HTN.out]
  have HP1 : Hid (PsAt w1 pb g (i + 1) ts en (-1)) := hP1
  have HT1 : Hid (TkM base pb w1 g ts gs) := HT0.out.bt hb1 (by simp; omega)
  have HZ1 : Hid (BoxC w1 w.heap.size (.int .i64 0) (.slice none 0 0) (.slice none 0 0) (.slice none 0 0)) := (hb1.block _ HZ0.out.lt (by omega)).trans HZ0.out
  have HBt1 : Hid (Bt pb w.heap.size w w1) := (Bt.of_below HB0.out).trans (hb1.mono HB0.out.size)
  have hs1 : w.heap.size < w1.heap.size := HZ1.out.lt
  have HRd1 : Hid (Rd 0 pb w1 (some ⟨tg, 0, none⟩) tn tc (wordI ts i)) := by
    obtain ⟨a', c', hx', _, hr, _⟩ := HT1.out.word hlt
    rw [HX.out] at hx'
    simp only [Value.slice.injEq, true_and] at hx'
    obtain ⟨rfl, rfl⟩ := hx'
    unfold Hid; rw [HTN.out]; exact hr
  obtain ⟨qa, qc, hq, _, _, _⟩ := hP1
  obtain ⟨q0, q1, q2, q3⟩ := hq.cells
  clear hb1 hq
  go_wp2_with fail
  refine (l2kind_any (some ⟨tg, 0, none⟩) tn tc (wordI ts i) w1 HRd1.out (by omega) hw1).mono ?_
  rintro e w2 ⟨rfl, hb2⟩
  rw [show kindW (strOfNums (wordI ts i)).toList = kd from HKD.out.symm]
  obtain ⟨W3, HW3⟩ : ∃ W3, Hid (W3 = w2.alloc (.cells #[.int .i64 kd, .slice none 0 0, .slice none 0 0, .slice none 0 0] 37)) := ⟨_, rfl⟩
  have hb3' : Below w2.heap.size w2 W3 := by rw [HW3.out]; exact (Below.refl _ _).alloc (Nat.le_refl _) _
  have hb3 : Below w1.heap.size w1 W3 := hb2.trans (hb3'.mono hb2.size)
  have HO3 : Hid (BoxC W3 w2.heap.size (.int .i64 kd) (.slice none 0 0) (.slice none 0 0) (.slice none 0 0)) := by unfold Hid; rw [HW3.out]; exact BoxC.new w2 _ _ _ _
  have hs2 : w1.heap.size ≤ w2.heap.size := hb2.size
  have hs3 : w2.heap.size < W3.heap.size := HO3.out.lt
  have HP3 : Hid (PsAt W3 pb g (i + 1) ts en (-1)) := HP1.out.below hb3
  have HT3 : Hid (TkM base pb W3 g ts gs) := HT1.out.below (hb3.mono (by omega))
  have HZ3 : Hid (BoxC W3 w.heap.size (.int .i64 0) (.slice none 0 0) (.slice none 0 0) (.slice none 0 0)) := HZ1.out.below hb3 hs1
  have HBt3 : Hid (Bt pb w.heap.size w W3) := HBt1.out.trans (Bt.of_below (hb3.mono (by omega)))
  have HRd3 : Hid (Rd 0 pb W3 (some ⟨tg, 0, none⟩) tn tc (wordI ts i)) := HRd1.out.below hb3 (by omega)
  clear hb2 hb3 hb3' q0 q1 q2 q3 HRd1
  go_upto_region 7 with fail
  try dsimp only
  rw [← HW3.out]
  obtain ⟨o0, o1, o2, o3⟩ := HO3.out.cells
  have hk2 : (kd == 2) = false := by rw [HKD.out]; simpa using H2.out
  obtain ⟨n, hn⟩ : ∃ n : Nat, kidN kd = (n : Int) := ⟨(kidN kd).toNat, by have h := H3.out; rw [← HKD.out] at h; have := kidS_kind (HKD.out ▸ kindS_range ts i); omega⟩
  have HN : Hid (kidN kd = (n : Int)) := hn
  have hn1 : 1 ≤ n := by have h := H3.out; rw [← HKD.out, hn] at h; omega
  have hn2 : n ≤ 2 := by have h := kidS_kind (HKD.out ▸ kindS_range ts i); rw [hn] at h; omega
  have hn0 : ((n : Int) == 0) = false := by simp; omega
  have HKS : Hid (kidS kd = (n : Int)) := by unfold Hid; rw [HKD.out, kidS_rng (kindS_range ts i), ← HKD.out]; exact hn
  clear hn
  go_wp2_with fail
  refine (l2kids_any kd W3).mono ?_
  rintro e wk ⟨rfl, hwk⟩
  rw [hwk, HKS.out]; clear hwk
  go_wp2_with fail
  refine (takeS_bad base pb g (i + 1) ts gs en 3 W3 HP3.out HT3.out hlt h4).mono ?_
  rintro e w4 ⟨rfl, hP4, hb4⟩
  obtain ⟨p, hp⟩ : ∃ p, p = hereI ts en (i + 1) := ⟨_, rfl⟩
  have hp0 : 0 ≤ p := by rw [hp]; exact HK.out.pos _
  rw [← hp] at hP4 HCb
  have HP4 : Hid (PsBad w4 pb p) := hP4
  have HO4 : Hid (BoxC w4 w2.heap.size (.int .i64 kd) (.slice none 0 0) (.slice none 0 0) (.slice none 0 0)) := (hb4.block _ hs3 (by omega)).trans HO3.out
  have HZ4 : Hid (BoxC w4 w.heap.size (.int .i64 0) (.slice none 0 0) (.slice none 0 0) (.slice none 0 0)) := (hb4.block _ (by omega) (by omega)).trans HZ3.out
  have HBt4 : Hid (Bt pb w.heap.size w w4) := HBt3.out.trans (hb4.mono (by omega))
  have hs4 : w2.heap.size < w4.heap.size := HO4.out.lt
  clear hP4 hb4 hp o0 o1 o2 o3
  have hk6 : ¬ (6 : Int) ≤ kd := by rw [HKD.out]; exact roleS_no (kindS_range ts i) H5.out
  obtain ⟨o0, o1, o2, o3⟩ := HO4.out.cells
  obtain ⟨ra, rn, rc, hrv⟩ : ∃ ra rn rc, Value.slice ra rn rc = .slice none 0 0 := ⟨_, _, _, rfl⟩
  obtain ⟨Wc, hWc⟩ : ∃ W, W = w4 := ⟨_, rfl⟩
  have HOc : Hid (BoxC Wc w2.heap.size (.int .i64 kd) (.slice none 0 0) (.slice ra rn rc) (.slice none 0 0)) := by unfold Hid; rw [hWc, hrv]; exact HO4.out
  have HPc : Hid (PsBad Wc pb p) := by unfold Hid; rw [hWc]; exact HP4.out
  have HZc : Hid (BoxC Wc w.heap.size (.int .i64 0) (.slice none 0 0) (.slice none 0 0) (.slice none 0 0)) := by unfold Hid; rw [hWc]; exact HZ4.out
  have HBtc : Hid (Bt pb w.heap.size w Wc) := by unfold Hid; rw [hWc]; exact HBt4.out
  have HJ0 : Hid (JunkR pb w Wc.heap.size w2.heap.size kd (.slice ra rn rc) Wc (.slice none 0 0) 0) := ⟨⟨[], World.ownsRow_nil _ _ _ _⟩, HOc.out, HBtc.out, Nat.le_refl _⟩
  have hobc : w2.heap.size < Wc.heap.size := HOc.out.lt
  have hpob : pb < w2.heap.size := by omega
  have hwob : w.heap.size ≤ w2.heap.size := by omega
  have hpWc : pb < Wc.heap.size := by omega
  have hwWc : w.heap.size < Wc.heap.size := by omega
  rw [← hWc] at o0 o1 o2 o3 ⊢
  clear hrv hWc HP4 HO4 HZ4 HBt4
  obtain ⟨i0, hi0, hz0, hz1, hz2⟩ := info_parts Tryz.infoCon4
  have hdw : IntKind.i64.wrap (dp + 1) = dp + 1 := wrap64_id (by omega)
  go_wp2_with fail
  go_loopw [8] (fun q wr => ∃ (m : Nat) (kv : Value), m ≤ n ∧ q = .int .i64 m ∧ JunkR pb w Wc.heap.size w2.heap.size kd (.slice ra rn rc) wr kv m ∧ PsBad wr pb p ∧ BoxC wr w.heap.size (.int .i64 0) (.slice none 0 0) (.slice none 0 0) (.slice none 0 0)) (fun q _ => n - (intOf q).toNat)
  case atStart => exact ⟨0, .slice none 0 0, Nat.zero_le _, rfl, HJ0.out, HPc.out, HZc.out⟩
  case round =>
    obtain ⟨m, kv, hm, rfl, hj, hPr, hZr⟩ := hrel
    have HJ : Hid (JunkR pb w Wc.heap.size w2.heap.size kd (.slice ra rn rc) wr kv m) := hj
    have HPr : Hid (PsBad wr pb p) := hPr
    have HZr : Hid (BoxC wr w.heap.size (.int .i64 0) (.slice none 0 0) (.slice none 0 0) (.slice none 0 0)) := hZr
    clear hj hPr hZr
    by_cases hlt' : m < n
    · have hmi : (m : Int) < (n : Int) := by omega
      have hmn : m < n := hlt'
      obtain ⟨o0, o1, o2, o3⟩ := HJ.out.box.cells
      obtain ⟨xs, hxs⟩ := HJ.out.row
      have HXs : Hid (wr.ownsRow Wc.heap.size 37 4 kv m xs) := hxs
      have hobr : w2.heap.size < wr.heap.size := HJ.out.box.lt
      have hszr : Wc.heap.size ≤ wr.heap.size := HJ.out.sz
      clear hxs
      go_wp2_with fail
      first | go_region_law
        (first
        | (refine step_append_lies _ rfl (.tmp 65) (.tmp 70) 35 rfl Wc.heap.size 37 i0 (.agg #[.int .i64 0, .slice none 0 0, .slice none 0 0, .slice none 0 0]) 4 80 Tryz.underlying35 hi0 hz0 hz1 hz2 rfl (by decide) kv m xs (by simp [Act.eval]) HRow5.out ⟨w5.heap.size, 0, none⟩ 1 1 [.int .i64 0, .slice none 0 0, .slice none 0 0, .slice none 0 0] (by simp [Act.eval]) rfl (new4 _ _ _ _ _ _ _ rfl) (one4 _ _ _ _ _ _ _ _ _ _) (by decide) (by unfold maxLen; omega) (by omega) hsz5 _ rfl ?_; intro g1 cap1 w6 hown hgrow hat hlt6; have HA : Hid (BoxC w6 w2.heap.size (.int .i64 kd) (.slice none 0 0) (.slice ra rn rc) kv ∧ JunkR pb w Wc.heap.size w2.heap.size kd (.slice ra rn rc) (w6.setCell ⟨w2.heap.size, 3, none⟩ (.slice (some ⟨g1, 0, none⟩) (m + 1) cap1)) (.slice (some ⟨g1, 0, none⟩) (m + 1) cap1) (m + 1)) := JunkR.app HJ5.out hobc hwob HRow5.out hown hgrow; have HQ6 : Hid (w6.heap[pb]? = w5.heap[pb]? ∧ w6.heap[w.heap.size]? = w5.heap[w.heap.size]?) := ⟨(hgrow.block pb (Nat.lt_of_lt_of_le hpl5 HB5b.out.size) (fun e => HkN.out pb hpWc e.symm)).trans (HB5b.out.block pb hpl5), (hgrow.block w.heap.size (Nat.lt_of_lt_of_le hwl5 HB5b.out.size) (fun e => HkN.out w.heap.size hwWc e.symm)).trans (HB5b.out.block w.heap.size hwl5)⟩; obtain ⟨_, _, _, o36⟩ := HA.out.1.cells; have f36 := HA.out.1.frz 3; clear hown hgrow hat)
        | (go_simp; refine (con_stuckA pb p wr.drew (dp + 1) (by omega) hp0 (HPr.out.of rfl)).mono ?_; rintro e w5 ⟨rfl, hP5, hb5⟩; have HB5 : Hid (Bt pb wr.heap.size wr w5) := (Bt.refl _ _ _).drew.trans (Bt.of_below hb5); have HJ5a : Hid (JunkR pb w Wc.heap.size w2.heap.size kd (.slice ra rn rc) w5 kv m) := HJ.out.keep HB5.out hpob hobc; have HB5b : Hid (Below w5.heap.size w5 (w5.alloc (.cells #[.int .i64 0, .slice none 0 0, .slice none 0 0, .slice none 0 0] 37))) := (Below.refl _ _).alloc (Nat.le_refl _) _; have HJ5 : Hid (JunkR pb w Wc.heap.size w2.heap.size kd (.slice ra rn rc) (w5.alloc (.cells #[.int .i64 0, .slice none 0 0, .slice none 0 0, .slice none 0 0] 37)) kv m) := HJ5a.out.keep (Bt.of_below HB5b.out) hpob hobc; have HRow5 : Hid ((w5.alloc (.cells #[.int .i64 0, .slice none 0 0, .slice none 0 0, .slice none 0 0] 37)).ownsRow Wc.heap.size 37 4 kv m xs) := ownsRow_bt (ownsRow_bt HXs.out HB5.out hpWc) (Bt.of_below HB5b.out) hpWc; have HkN : Hid (∀ b, b < Wc.heap.size → kv.ownBlock ≠ some b) := (fun b hb e => absurd (HXs.out.lt _ e).1 (by omega)); have hsz5 : Wc.heap.size ≤ (w5.alloc (.cells #[.int .i64 0, .slice none 0 0, .slice none 0 0, .slice none 0 0] 37)).heap.size := HJ5.out.sz; have HZ5 : Hid (BoxC w5 w.heap.size (.int .i64 0) (.slice none 0 0) (.slice none 0 0) (.slice none 0 0)) := (HB5.out.block _ HZr.out.lt (by omega)).trans HZr.out; have HP5 : Hid (PsBad w5 pb p) := hP5; have hpl5 : pb < w5.heap.size := hP5.lt; have hwl5 : w.heap.size < w5.heap.size := HZ5.out.lt; obtain ⟨_, _, _, o35⟩ := HJ5a.out.box.cells; have hlo5 : w2.heap.size < w5.heap.size := HJ5a.out.box.lt; clear hb5 hP5)) | fail
      all_goals
        have HZ7 : Hid (BoxC (w6.setCell ⟨w2.heap.size, 3, none⟩ (.slice (some ⟨g1, 0, none⟩) (m + 1) cap1)) w.heap.size (.int .i64 0) (.slice none 0 0) (.slice none 0 0) (.slice none 0 0)) := (Below.heap_setCell w6 ⟨w2.heap.size, 3, none⟩ _ w.heap.size (by show w.heap.size ≠ w2.heap.size; omega)).trans (HQ6.out.2.trans HZ5.out)
        have HP7 : Hid (PsBad (w6.setCell ⟨w2.heap.size, 3, none⟩ (.slice (some ⟨g1, 0, none⟩) (m + 1) cap1)) pb p) := HP5.out.of ((Below.heap_setCell w6 ⟨w2.heap.size, 3, none⟩ _ pb (by show pb ≠ w2.heap.size; omega)).trans HQ6.out.1)
        go_wp2_with fail
        go_roundw
        case rel => exact ⟨m + 1, _, by omega, by go_num, HA.out.2, HP7.out, HZ7.out⟩
        case measure => simp [intOf]; omega
    · have hmi : ¬ (m : Int) < (n : Int) := by omega
      go_wp2_with fail
      refine (takeS_stuck pb p 4 wr hp0 HPr.out).mono ?_
      rintro e w5 ⟨rfl, nd, hw5⟩
      obtain ⟨xs, hxs⟩ := HJ.out.row
      obtain ⟨kka, kkn, kkc, hkv⟩ : ∃ a n c, kv = .slice a n c := by
        rcases hxs.2 with ⟨rfl, _⟩ | ⟨g, cap, cur, rfl, _⟩
        · exact ⟨_, _, _, rfl⟩
        · exact ⟨_, _, _, rfl⟩
      have HO5 : Hid (BoxC w5 w2.heap.size (.int .i64 kd) (.slice none 0 0) (.slice ra rn rc) (.slice kka kkn kkc)) := by unfold Hid; rw [hw5, ← hkv]; exact HJ.out.box
      have HZ5 : Hid (BoxC w5 w.heap.size (.int .i64 0) (.slice none 0 0) (.slice none 0 0) (.slice none 0 0)) := by unfold Hid; rw [hw5]; exact HZr.out
      have HP5 : Hid (PsBad w5 pb p) := by unfold Hid; rw [hw5]; exact HPr.out.of rfl
      have HBt5 : Hid (Bt pb w.heap.size w w5) := by unfold Hid; rw [hw5]; exact bt_drewN HJ.out.bt nd
      obtain ⟨o0, o1, o2, o3⟩ := HO5.out.cells
      obtain ⟨z0, z1, z2, z3⟩ := HZ5.out.cells
      have zf0 := HZ5.out.frz 0
      have zf1 := HZ5.out.frz 1
      have zf2 := HZ5.out.frz 2
      have zf3 := HZ5.out.frz 3
      clear hw5 hkv hxs
      go_wp2
      obtain ⟨hVs, hBs⟩ := set4_mem HZ5.out (.int .i64 kd) (.slice none 0 0) (.slice ra rn rc) (.slice kka kkn kkc) HBt5.out (Nat.le_refl _)
      obtain ⟨s0, s1, s2, s3⟩ := hVs.cells
      refine bodyPost_ret (v := .agg #[.int .i64 kd, .slice none 0 0, .slice ra rn rc, .slice kka kkn kkc]) (by simp [results, Tryz.results98, go_sem, s0, s1, s2, s3]) rfl ?_
      exact SP.fell hBs HCb.out (HP5.out.of (heap_set4 _ _ _ _ _ (by omega)))
end

end Go.Proofs.YtckhjoancfbkfaaGreat
