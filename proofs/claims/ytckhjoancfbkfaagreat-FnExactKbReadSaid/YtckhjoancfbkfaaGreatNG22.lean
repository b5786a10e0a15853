/- Several texts in one: KrI6, KrK2. -/
import Derived.Test.YtckhjoancfbkfaaGreatKrI5
import Derived.Test.YtckhjoancfbkfaaGreatKbOkFn
import Derived.Test.YtckhjoancfbkfaaGreatKrK
namespace Go.Proofs.YtckhjoancfbkfaaGreat

section
open Go.RowKit
set_option linter.unusedVariables false

/-- How large what is read is. -/
theorem axsR_bulk {ts : List Tok} {en : Int} (hw : ∀ i, (wordI ts i).length ≤ 6) (hn : ts.length ≤ 1500) : ∀ {f i : Nat} {acc xs : List AX}, (∀ x ∈ acc, x.bulkR ≤ 10500) → axsR ts en f i acc = .ok xs → ∀ x ∈ xs, x.bulkR ≤ 10500 := by
  intro f
  induction f with
  | zero => intro i acc xs ha h; simp only [axsR, ResK.ok.injEq] at h; rw [← h]; exact ha
  | succ f ih =>
    intro i acc xs ha h
    rw [axsR] at h
    split at h
    · cases h1 : axR ts en i with
      | bad p => rw [h1] at h; simp at h
      | ok x j =>
        rw [h1] at h
        refine ih (fun y hy => ?_) h
        rcases List.mem_append.1 hy with hy | hy
        · exact ha y hy
        · simp only [List.mem_singleton] at hy
          subst hy
          have := (axR_bulk hw h1).1
          have := (axR_end h1).2
          omega
    · simp only [ResK.ok.injEq] at h; rw [← h]; exact ha
theorem wholeK_bulk (zs : List Int) : ∀ x ∈ (wholeK zs).1, x.bulkR ≤ 10500 := by
  unfold wholeK
  split
  · intro x hx; simp at hx
  · cases h : axsR (toks zs).1 (zs.length : Nat) ((toks zs).1.length + 1) 0 [] with
    | bad p => intro x hx; simp at hx
    | ok xs => exact axsR_bulk (toks_short zs) (toks_bound zs).1 (fun x hx => by simp at hx) h
theorem kbRead_eight (zs : List Int) : (kbRead zs).1.length ≤ 8 := by
  unfold kbRead
  split
  · simp
  · rename_i h
    by_cases hp : (wholeK zs).2 = -1
    · have hk : kbB (wholeK zs).1 = true := by
        cases hb : kbB (wholeK zs).1
        · exact absurd ⟨hp, hb⟩ h
        · rfl
      unfold kbB at hk
      simp only [Bool.and_eq_true, decide_eq_true_eq] at hk
      exact hk.1
    · have : (wholeK zs).1 = [] := by
        unfold wholeK at hp ⊢
        split
        · rfl
        · rename_i h1
          rw [if_neg h1] at hp
          cases hx : axsR (toks zs).1 (zs.length : Nat) ((toks zs).1.length + 1) 0 [] with
          | bad p => rfl
          | ok xs => rw [hx] at hp; exact absurd rfl hp
      rw [this]; simp
theorem kbRead_len (zs : List Int) : (kbRead zs).1.length ≤ 1500 := by have := kbRead_eight zs; omega
theorem kbRead_bulk (zs : List Int) : ∀ x ∈ (kbRead zs).1, x.bulkR ≤ 10500 := by
  unfold kbRead
  split
  · intro x hx; simp at hx
  · exact wholeK_bulk zs

set_option maxRecDepth 100000 in
set_option maxHeartbeats 2000000 in
theorem implKbRead_any (b off n cap : Nat) (zs : List Int) (w : World) (h : Rd 0 w.heap.size w (some ⟨b, off, none⟩) n cap zs) (hb : b < w.heap.size) :
    Calls Tryz.prog 10 #[.slice (some ⟨b, off, none⟩) n cap] w (AnsK w (kbRead zs)) := by
  have HL : Hid (zs.length = n) := h.len
  obtain ⟨xs, p, hcp⟩ : ∃ c p, wholeK zs = (c, p) := ⟨_, _, rfl⟩
  have HW : Hid (wholeK zs = (xs, p)) := hcp
  have HBk : Hid (∀ x ∈ xs, x.c.bulk ≤ 1048576 ∧ x.d.bulk ≤ 1048576) := by
    have := wholeK_bulk zs
    rw [hcp] at this
    intro x hx
    have := this x hx
    unfold AX.bulkR at this
    omega
  obtain ⟨W0, HW0⟩ : ∃ W0, Hid (W0 = w.alloc (.cells #[.slice none 0 0] 25)) := ⟨_, rfl⟩
  have hb0 : Below w.heap.size w W0 := by rw [HW0.out]; exact (Below.refl _ _).alloc (Nat.le_refl _) _
  have HB0 : Hid (Below w.heap.size w W0) := hb0
  have HV0 : Hid (BoxKv W0 w.heap.size (.slice none 0 0)) := by unfold Hid; rw [HW0.out]; exact BoxKv.new w _
  have HS0 : Hid (w.heap.size < W0.heap.size) := HV0.out.lt
  have HR0 : Hid (Rd 0 W0.heap.size W0 (some ⟨b, off, none⟩) n cap zs) := (h.below hb0 (Nat.le_refl _)).mono (Nat.le_refl _) hb0.size
  have hbl : b < W0.heap.size := Nat.lt_of_lt_of_le hb hb0.size
  clear h hb0 hcp
  go_enter Tryz.func10, Tryz.ntmps10
  go_wp2_with fail
  rw [← HW0.out]
  refine (readWholeK_any b off n cap zs W0 HR0.out hbl).mono ?_
  rintro e w1 hA
  obtain ⟨v, vs, Vs, LL, he, hO, hb1⟩ := hA
  subst he
  rw [HW.out] at hO ⊢
  obtain ⟨va, vc, hv⟩ := hO.form
  subst hv
  obtain ⟨m, hm⟩ : ∃ m, m = xs.length := ⟨_, rfl⟩
  have HM : Hid (m = xs.length) := hm
  have HO1 : Hid (OwnKb W0.heap.size w1 (.slice va m vc) vs xs Vs LL) := by unfold Hid; rw [hm]; exact hO
  have HV1 : Hid (BoxKv w1 w.heap.size (.slice none 0 0)) := HV0.out.of (hb1.block _ HV0.out.lt)
  have HB1 : Hid (Below w.heap.size w w1) := HB0.out.trans (hb1.mono HB0.out.size)
  have hs0 := HS0.out
  have hs1 : W0.heap.size ≤ w1.heap.size := hb1.size
  obtain ⟨W3, HW3⟩ : ∃ W, Hid (W = w1.alloc (.cells #[.slice va m vc] 25)) := ⟨_, rfl⟩
  have hb3 : Below w1.heap.size w1 W3 := by rw [HW3.out]; exact (Below.refl _ _).alloc (Nat.le_refl _) _
  have HO3 : Hid (OwnKb W0.heap.size W3 (.slice va m vc) vs xs Vs LL) := HO1.out.below hb3
  have HV3 : Hid (BoxKv W3 w.heap.size (.slice none 0 0)) := HV1.out.of (hb3.block _ (by omega))
  have HC3 : Hid (BoxKv W3 w1.heap.size (.slice va m vc)) := by unfold Hid; rw [HW3.out]; exact BoxKv.new w1 _
  have HB3 : Hid (Below w.heap.size w W3) := HB1.out.trans (hb3.mono (by omega))
  have HRd : Hid (RdK W0.heap.size W3.heap.size W3 6 va m vc xs) := by
    obtain ⟨a', c', e1, e2⟩ := HO3.out.rd
    simp only [Value.slice.injEq] at e1
    obtain ⟨rfl, _, rfl⟩ := e1
    unfold Hid; rw [HM.out]; exact e2
  rw [show ((xs, p) : List AX × Int).1.length = m from hm.symm]
  clear hO hb1 hb3 hm
  go_upto_region 2 with fail
  try dsimp only
  rw [← HW3.out]
  have c0 := HC3.out.cell
  have v0 := HV3.out.cell
  have vf0 := HV3.out.frz 0
  by_cases hp : p = -1
  · subst hp
    cases hok : kbB xs
    · have HCr : Hid (kbRead zs = ([], ((n : Nat) : Int))) := kbRead_no HL.out HW.out hok
      go_wp2_with fail
      refine (implKbOk_any HRd.out (Nat.le_refl _) HBk.out).mono ?_
      rintro e w4 ⟨rfl, hb4⟩
      rw [hok]
      have HV4 : Hid (BoxKv w4 w.heap.size (.slice none 0 0)) := HV3.out.of (hb4.block _ HV3.out.lt)
      have HB4 : Hid (Below w.heap.size w w4) := HB3.out.trans (hb4.mono HB3.out.size)
      clear hb4 c0 v0 vf0
      have v0 := HV4.out.cell
      have vf0 := HV4.out.frz 0
      go_wp2
      have s0 := (HV4.out.set (.slice none 0 0)).cell
      refine bodyPost_ret (v := .tuple #[.agg #[.slice none 0 0], .int .i64 n]) (by simp [results, Tryz.results10, go_sem, s0]) rfl ?_
      exact AnsK.mk HCr.out (ownKb_nil _ _) (HB4.out.setCell (Nat.le_refl _) _)
    · have HCr : Hid (kbRead zs = (xs, -1)) := kbRead_ok HW.out hok
      go_wp2_with fail
      refine (implKbOk_any HRd.out (Nat.le_refl _) HBk.out).mono ?_
      rintro e w4 ⟨rfl, hb4⟩
      rw [hok]
      have HV4 : Hid (BoxKv w4 w.heap.size (.slice none 0 0)) := HV3.out.of (hb4.block _ HV3.out.lt)
      have HC4 : Hid (BoxKv w4 w1.heap.size (.slice va m vc)) := HC3.out.of (hb4.block _ HC3.out.lt)
      have HB4 : Hid (Below w.heap.size w w4) := HB3.out.trans (hb4.mono HB3.out.size)
      have HO4 : Hid (OwnKb W0.heap.size w4 (.slice va m vc) vs xs Vs LL) := HO3.out.below hb4
      clear hb4 c0 v0 vf0
      have c0 := HC4.out.cell
      have v0 := HV4.out.cell
      have vf0 := HV4.out.frz 0
      go_wp2
      have s0 := (HV4.out.set (.slice va m vc)).cell
      refine bodyPost_ret (v := .tuple #[.agg #[.slice va m vc], .int .i64 (-1)]) (by simp [results, Tryz.results10, go_sem, s0]) rfl ?_
      exact AnsK.mk HCr.out ((HO4.out.keep (fun q hq _ => heap_set1 _ _ _ _ (by omega)) (by simp)).mono (by omega)) (HB4.out.setCell (Nat.le_refl _) _)
  · have hpn : (p == -1) = false := by simpa using hp
    have HCr : Hid (kbRead zs = (xs, p)) := by unfold Hid kbRead; rw [HW.out]; rw [if_neg (fun e => hp e.1)]
    go_wp2
    have s0 := (HV3.out.set (.slice va m vc)).cell
    refine bodyPost_ret (v := .tuple #[.agg #[.slice va m vc], .int .i64 p]) (by simp [results, Tryz.results10, go_sem, s0]) rfl ?_
    exact AnsK.mk HCr.out ((HO3.out.keep (fun q hq _ => heap_set1 _ _ _ _ (by omega)) (by simp)).mono (by omega)) (HB3.out.setCell (Nat.le_refl _) _)
end

section
open Go.RowKit
set_option linter.unusedVariables false

set_option maxRecDepth 100000 in
set_option maxHeartbeats 8000000 in
theorem heldAxs_ex {d : Nat} {a : Option Addr} {n cap b off : Nat} {SS : Nat → Nat → List (Addr × IntKind)} {k : Int} {w : World} (h : LvXs w d a n b off SS) (hL : Held w (leafXs b off SS n) k) (hn : n ≤ 1048576) (hlen : (leafXs b off SS n).length ≤ 1048576) (hk0 : 0 ≤ k) (hk1 : k ≤ 536870912) :
    Calls Tryz.prog 66 #[.slice a n cap, .int .i64 k] w fun e w' => e = .returned (.int .i64 (k + (leafXs b off SS n).length)) ∧ w' = w := by
  have HR : Hid (LvXs w d a n b off SS) := h
  have HL : Hid (Held w (leafXs b off SS n) k) := hL
  obtain ⟨N, hN⟩ : ∃ N, N = (leafXs b off SS n).length := ⟨_, rfl⟩
  have HLen : Hid (N = (leafXs b off SS n).length) := hN
  rw [← hN] at hlen
  clear h hL hN
  go_enter Tryz.func66, Tryz.ntmps66
  go_wp2_with fail
  go_loop [1, 5] (fun q i => ∃ (j : Nat) (t : Nat), j ≤ n ∧ i = .int .i64 j ∧ t = (leafXs b off SS j).length ∧ q = .int .i64 (k + t)) (fun _ i => n - (intOf i).toNat)
  case atStart => exact ⟨0, 0, Nat.zero_le _, rfl, by simp [leafXs], by simp⟩
  case round =>
    obtain ⟨j, t, hj, rfl, ht, hqe⟩ := hrel
    obtain ⟨q, hq⟩ : ∃ q, q = k + (t : Int) := ⟨_, rfl⟩
    rw [← hq] at hqe
    subst hqe
    have HQ : Hid (q = k + (t : Int)) := hq
    have HT : Hid (t = (leafXs b off SS j).length) := ht
    have htl : t ≤ N := by
      obtain ⟨R, hR⟩ := leafXs_le b off SS n j hj
      have := HLen.out
      rw [hR, List.length_append] at this
      omega
    have hq0 : 0 ≤ q := by omega
    by_cases hlt : j < n
    · have hji : (j : Int) < (n : Int) := by omega
      rcases HR.out with h0 | ⟨e1, hc⟩
      · omega
      · subst e1
        have hx := hc j hlt
        obtain ⟨a0, m0, c0, bb0, oo0, e0, hb0, hS0⟩ := hx.s0
        obtain ⟨a1, m1, c1, bb1, oo1, e1, hb1, hS1⟩ := hx.s1
        obtain ⟨a2, m2, c2, bb2, oo2, Ms2, e2, hb2, hS2⟩ := hx.s2
        obtain ⟨u2, hu2⟩ : ∃ u, u = (leafK bb2 oo2 Ms2 m2).length := ⟨_, rfl⟩
        have HU2 : Hid (u2 = (leafK bb2 oo2 Ms2 m2).length) := hu2
        have hkn2 : m2 ≤ u2 := by rw [hu2]; exact leafK_ge _ _ _ _
        obtain ⟨a3, m3, c3, bb3, oo3, e3, hb3, hS3⟩ := hx.s3
        obtain ⟨a4, m4, c4, bb4, oo4, e4, hb4, hS4⟩ := hx.s4
        obtain ⟨a5, m5, c5, bb5, oo5, Ms5, e5, hb5, hS5⟩ := hx.s5
        obtain ⟨u5, hu5⟩ : ∃ u, u = (leafK bb5 oo5 Ms5 m5).length := ⟨_, rfl⟩
        have HU5 : Hid (u5 = (leafK bb5 oo5 Ms5 m5).length) := hu5
        have hkn5 : m5 ≤ u5 := by rw [hu5]; exact leafK_ge _ _ _ _
        obtain ⟨a6, m6, c6, bb6, oo6, e6, hb6, hS6⟩ := hx.s6
        obtain ⟨a7, m7, c7, bb7, oo7, e7, hb7, hS7⟩ := hx.s7
        obtain ⟨a8, m8, c8, bb8, oo8, e8, hb8, hS8⟩ := hx.s8
        obtain ⟨a9, m9, c9, bb9, oo9, e9, hb9, hS9⟩ := hx.s9
        have hSx : leafX b (off + j * 13) (SS j) = [(⟨b, off + j * 13, none⟩, IntKind.i64), (⟨b, off + j * 13 + 1, none⟩, IntKind.i64)] ++ (leafB bb0 oo0 m0 ++ (leafB bb1 oo1 m1 ++ (leafK bb2 oo2 Ms2 m2 ++ ([(⟨b, off + j * 13 + 5, none⟩, IntKind.i64)] ++ (leafB bb3 oo3 m3 ++ (leafB bb4 oo4 m4 ++ (leafK bb5 oo5 Ms5 m5 ++ (leafB bb6 oo6 m6 ++ (leafB bb7 oo7 m7 ++ (leafB bb8 oo8 m8 ++ (leafB bb9 oo9 m9))))))))))) := by unfold leafX; rw [hS0, hS1, hS2, hS3, hS4, hS5, hS6, hS7, hS8, hS9]
        have HSx : Hid (leafXs b off SS (j + 1) = leafXs b off SS j ++ leafX b (off + j * 13) (SS j)) := rfl
        have hbnd : t + 3 + m0 + m1 + u2 + m3 + m4 + u5 + m6 + m7 + m8 + m9 ≤ N := by
          obtain ⟨R, hR⟩ := leafXs_le b off SS n (j + 1) (by omega)
          have h1 := HLen.out
          rw [hR, HSx.out, hSx] at h1
          simp only [List.length_append, List.length_cons, List.length_nil, leafB_length] at h1
          rw [← hu2, ← hu5, ← ht] at h1
          omega
        have hqb : q + 3 + (m0 + m1 + u2 + m3 + m4 + u5 + m6 + m7 + m8 + m9 : Nat) ≤ 1073741824 := by omega
        have HT4 : Hid (t + 3 + m0 + m1 + u2 + m3 + m4 + u5 + m6 + m7 + m8 + m9 = (leafXs b off SS (j + 1)).length) := by
          unfold Hid
          rw [HSx.out, hSx]
          simp only [List.length_append, List.length_cons, List.length_nil, leafB_length]
          rw [← hu2, ← hu5, ← ht]
          omega
        have hh : Held w (leafX b (off + j * 13) (SS j)) q := by
          obtain ⟨R, hR⟩ := leafXs_le b off SS n (j + 1) (by omega)
          have h2 := HL.out
          rw [hR, held_append, HSx.out, held_append, ← ht, ← hq] at h2
          exact h2.1.2
        rw [hSx] at hh
        rw [held_append, show (q) + (((([(⟨b, off + j * 13, none⟩, IntKind.i64), (⟨b, off + j * 13 + 1, none⟩, IntKind.i64)] : List (Addr × IntKind))).length : Nat) : Int) = q + 1 + 1 from by simp; omega] at hh
        obtain ⟨x0, hh⟩ := hh
        have cc0 : w.cell? ⟨b, off + j * 13, none⟩ = some (.int .i64 q) := by rw [x0.1, wrap64_id (by omega)]
        have cc1 : w.cell? ⟨b, off + j * 13 + 1, none⟩ = some (.int .i64 (q + 1)) := by rw [x0.2.1, wrap64_id (by omega)]
        rw [held_append, show (q + 1 + 1) + (((leafB bb0 oo0 m0).length : Nat) : Int) = q + 1 + 1 + m0 from by rw [leafB_length]] at hh
        obtain ⟨x1, hh⟩ := hh
        have HC0 : Hid (∀ i, i < m0 → w.cell? ⟨bb0, oo0 + i, none⟩ = some (.int .u8 (IntKind.u8.wrap (q + 1 + 1 + i)))) := held_leafB x1
        rw [held_append, show (q + 1 + 1 + m0) + (((leafB bb1 oo1 m1).length : Nat) : Int) = q + 1 + 1 + m0 + m1 from by rw [leafB_length]] at hh
        obtain ⟨x2, hh⟩ := hh
        have HC1 : Hid (∀ i, i < m1 → w.cell? ⟨bb1, oo1 + i, none⟩ = some (.int .u8 (IntKind.u8.wrap (q + 1 + 1 + m0 + i)))) := held_leafB x2
        rw [held_append, show (q + 1 + 1 + m0 + m1) + (((leafK bb2 oo2 Ms2 m2).length : Nat) : Int) = q + 1 + 1 + m0 + m1 + u2 from by rw [← HU2.out]] at hh
        obtain ⟨x3, hh⟩ := hh
        have HC2 : Hid (Held w (leafK bb2 oo2 Ms2 m2) (q + 1 + 1 + m0 + m1)) := x3
        rw [held_append, show (q + 1 + 1 + m0 + m1 + u2) + (((([(⟨b, off + j * 13 + 5, none⟩, IntKind.i64)] : List (Addr × IntKind))).length : Nat) : Int) = q + 1 + 1 + m0 + m1 + u2 + 1 from rfl] at hh
        obtain ⟨x4, hh⟩ := hh
        have cc5 : w.cell? ⟨b, off + j * 13 + 5, none⟩ = some (.int .i64 (q + 1 + 1 + m0 + m1 + u2)) := by rw [x4.1, wrap64_id (by omega)]
        rw [held_append, show (q + 1 + 1 + m0 + m1 + u2 + 1) + (((leafB bb3 oo3 m3).length : Nat) : Int) = q + 1 + 1 + m0 + m1 + u2 + 1 + m3 from by rw [leafB_length]] at hh
        obtain ⟨x5, hh⟩ := hh
        have HC3 : Hid (∀ i, i < m3 → w.cell? ⟨bb3, oo3 + i, none⟩ = some (.int .u8 (IntKind.u8.wrap (q + 1 + 1 + m0 + m1 + u2 + 1 + i)))) := held_leafB x5
        rw [held_append, show (q + 1 + 1 + m0 + m1 + u2 + 1 + m3) + (((leafB bb4 oo4 m4).length : Nat) : Int) = q + 1 + 1 + m0 + m1 + u2 + 1 + m3 + m4 from by rw [leafB_length]] at hh
        obtain ⟨x6, hh⟩ := hh
        have HC4 : Hid (∀ i, i < m4 → w.cell? ⟨bb4, oo4 + i, none⟩ = some (.int .u8 (IntKind.u8.wrap (q + 1 + 1 + m0 + m1 + u2 + 1 + m3 + i)))) := held_leafB x6
        rw [held_append, show (q + 1 + 1 + m0 + m1 + u2 + 1 + m3 + m4) + (((leafK bb5 oo5 Ms5 m5).length : Nat) : Int) = q + 1 + 1 + m0 + m1 + u2 + 1 + m3 + m4 + u5 from by rw [← HU5.out]] at hh
        obtain ⟨x7, hh⟩ := hh
        have HC5 : Hid (Held w (leafK bb5 oo5 Ms5 m5) (q + 1 + 1 + m0 + m1 + u2 + 1 + m3 + m4)) := x7
        rw [held_append, show (q + 1 + 1 + m0 + m1 + u2 + 1 + m3 + m4 + u5) + (((leafB bb6 oo6 m6).length : Nat) : Int) = q + 1 + 1 + m0 + m1 + u2 + 1 + m3 + m4 + u5 + m6 from by rw [leafB_length]] at hh
        obtain ⟨x8, hh⟩ := hh
        have HC6 : Hid (∀ i, i < m6 → w.cell? ⟨bb6, oo6 + i, none⟩ = some (.int .u8 (IntKind.u8.wrap (q + 1 + 1 + m0 + m1 + u2 + 1 + m3 + m4 + u5 + i)))) := held_leafB x8
        rw [held_append, show (q + 1 + 1 + m0 + m1 + u2 + 1 + m3 + m4 + u5 + m6) + (((leafB bb7 oo7 m7).length : Nat) : Int) = q + 1 + 1 + m0 + m1 + u2 + 1 + m3 + m4 + u5 + m6 + m7 from by rw [leafB_length]] at hh
        obtain ⟨x9, hh⟩ := hh
        have HC7 : Hid (∀ i, i < m7 → w.cell? ⟨bb7, oo7 + i, none⟩ = some (.int .u8 (IntKind.u8.wrap (q + 1 + 1 + m0 + m1 + u2 + 1 + m3 + m4 + u5 + m6 + i)))) := held_leafB x9
        rw [held_append, show (q + 1 + 1 + m0 + m1 + u2 + 1 + m3 + m4 + u5 + m6 + m7) + (((leafB bb8 oo8 m8).length : Nat) : Int) = q + 1 + 1 + m0 + m1 + u2 + 1 + m3 + m4 + u5 + m6 + m7 + m8 from by rw [leafB_length]] at hh
        obtain ⟨x10, hh⟩ := hh
        have HC8 : Hid (∀ i, i < m8 → w.cell? ⟨bb8, oo8 + i, none⟩ = some (.int .u8 (IntKind.u8.wrap (q + 1 + 1 + m0 + m1 + u2 + 1 + m3 + m4 + u5 + m6 + m7 + i)))) := held_leafB x10
        have x11 := hh
        have HC9 : Hid (∀ i, i < m9 → w.cell? ⟨bb9, oo9 + i, none⟩ = some (.int .u8 (IntKind.u8.wrap (q + 1 + 1 + m0 + m1 + u2 + 1 + m3 + m4 + u5 + m6 + m7 + m8 + i)))) := held_leafB x11
        clear hc hx ht hq hSx hu2 hu5 hS0 hS1 hS2 hS3 hS4 hS5 hS6 hS7 hS8 hS9 x0 x1 x2 x3 x4 x5 x6 x7 x8 x9 x10 x11
        go_wp2_with fail
        refine (heldByteS_any a0 m0 c0 (q + 1 + 1) w bb0 oo0 hb0 HC0.out (by omega) (by omega)).mono ?_
        rintro e W0 ⟨rfl, hw0⟩
        rw [hw0]; clear hw0
        have hneg0 : ¬ (q + 1 + 1 + (m0 : Nat) < 0) := by omega
        go_wp2_with fail
        refine (heldByteS_any a1 m1 c1 (q + 1 + 1 + m0) w bb1 oo1 hb1 HC1.out (by omega) (by omega)).mono ?_
        rintro e W1 ⟨rfl, hw1⟩
        rw [hw1]; clear hw1
        have hneg1 : ¬ (q + 1 + 1 + m0 + (m1 : Nat) < 0) := by omega
        go_wp2_with fail
        refine (hxL_any d a2 m2 c2 bb2 oo2 Ms2 (q + 1 + 1 + m0 + m1) w hb2 HC2.out (by omega) (by rw [← HU2.out]; omega) (by omega) (by rw [← HU2.out]; omega)).mono ?_
        rintro e W2 ⟨rfl, hw2⟩
        rw [hw2, ← HU2.out]; clear hw2
        have hneg2 : ¬ (q + 1 + 1 + m0 + m1 + (u2 : Nat) < 0) := by omega
        go_wp2_with fail
        refine (heldByteS_any a3 m3 c3 (q + 1 + 1 + m0 + m1 + u2 + 1) w bb3 oo3 hb3 HC3.out (by omega) (by omega)).mono ?_
        rintro e W3 ⟨rfl, hw3⟩
        rw [hw3]; clear hw3
        have hneg3 : ¬ (q + 1 + 1 + m0 + m1 + u2 + 1 + (m3 : Nat) < 0) := by omega
        go_wp2_with fail
        refine (heldByteS_any a4 m4 c4 (q + 1 + 1 + m0 + m1 + u2 + 1 + m3) w bb4 oo4 hb4 HC4.out (by omega) (by omega)).mono ?_
        rintro e W4 ⟨rfl, hw4⟩
        rw [hw4]; clear hw4
        have hneg4 : ¬ (q + 1 + 1 + m0 + m1 + u2 + 1 + m3 + (m4 : Nat) < 0) := by omega
        go_wp2_with fail
        refine (hxL_any d a5 m5 c5 bb5 oo5 Ms5 (q + 1 + 1 + m0 + m1 + u2 + 1 + m3 + m4) w hb5 HC5.out (by omega) (by rw [← HU5.out]; omega) (by omega) (by rw [← HU5.out]; omega)).mono ?_
        rintro e W5 ⟨rfl, hw5⟩
        rw [hw5, ← HU5.out]; clear hw5
        have hneg5 : ¬ (q + 1 + 1 + m0 + m1 + u2 + 1 + m3 + m4 + (u5 : Nat) < 0) := by omega
        go_wp2_with fail
        refine (heldByteS_any a6 m6 c6 (q + 1 + 1 + m0 + m1 + u2 + 1 + m3 + m4 + u5) w bb6 oo6 hb6 HC6.out (by omega) (by omega)).mono ?_
        rintro e W6 ⟨rfl, hw6⟩
        rw [hw6]; clear hw6
        have hneg6 : ¬ (q + 1 + 1 + m0 + m1 + u2 + 1 + m3 + m4 + u5 + (m6 : Nat) < 0) := by omega
        go_wp2_with fail
        refine (heldByteS_any a7 m7 c7 (q + 1 + 1 + m0 + m1 + u2 + 1 + m3 + m4 + u5 + m6) w bb7 oo7 hb7 HC7.out (by omega) (by omega)).mono ?_
        rintro e W7 ⟨rfl, hw7⟩
        rw [hw7]; clear hw7
        have hneg7 : ¬ (q + 1 + 1 + m0 + m1 + u2 + 1 + m3 + m4 + u5 + m6 + (m7 : Nat) < 0) := by omega
        go_wp2_with fail
        refine (heldByteS_any a8 m8 c8 (q + 1 + 1 + m0 + m1 + u2 + 1 + m3 + m4 + u5 + m6 + m7) w bb8 oo8 hb8 HC8.out (by omega) (by omega)).mono ?_
        rintro e W8 ⟨rfl, hw8⟩
        rw [hw8]; clear hw8
        have hneg8 : ¬ (q + 1 + 1 + m0 + m1 + u2 + 1 + m3 + m4 + u5 + m6 + m7 + (m8 : Nat) < 0) := by omega
        go_wp2_with fail
        refine (heldByteS_any a9 m9 c9 (q + 1 + 1 + m0 + m1 + u2 + 1 + m3 + m4 + u5 + m6 + m7 + m8) w bb9 oo9 hb9 HC9.out (by omega) (by omega)).mono ?_
        rintro e W9 ⟨rfl, hw9⟩
        rw [hw9]; clear hw9
        have hneg9 : ¬ (q + 1 + 1 + m0 + m1 + u2 + 1 + m3 + m4 + u5 + m6 + m7 + m8 + (m9 : Nat) < 0) := by omega
        go_wp2_with fail
        go_round
        case rel => exact ⟨j + 1, t + 3 + m0 + m1 + u2 + m3 + m4 + u5 + m6 + m7 + m8 + m9, by omega, by go_num, HT4.out, by have := HQ.out; congr 1; push_cast; omega⟩
        case measure => simp [intOf]; omega
    · have hjn : j = n := by omega
      have HE : Hid (q = k + (leafXs b off SS n).length) := by unfold Hid; rw [HQ.out, HT.out, hjn]
      clear ht hjn hq
      go_wp2_with fail
      go_ret
      exact ⟨ri HE.out, rfl⟩

set_option maxRecDepth 100000 in
set_option maxHeartbeats 1000000 in
theorem markKb_ex {d : Nat} {a : Option Addr} {n cap b off : Nat} {SS : Nat → Nat → List (Addr × IntKind)} {k : Int} {w : World} (h : LvXs w d a n b off SS) (hL : LeafOk w (leafXs b off SS n)) (hn : n ≤ 1048576) (hlen : (leafXs b off SS n).length ≤ 1048576) (hk0 : 0 ≤ k) (hk1 : k ≤ 536870912) :
    Calls Tryz.prog 30 #[.agg #[.slice a n cap], .int .i64 k] w fun e w' => e = .returned (.int .i64 (k + (leafXs b off SS n).length)) ∧ ∃ V, Below w.heap.size w V ∧ w' = marks V (leafXs b off SS n) k := by
  obtain ⟨W0, HW0⟩ : ∃ W, Hid (W = w.alloc (.cells #[.slice a n cap] 25)) := ⟨_, rfl⟩
  have hb0 : Below w.heap.size w W0 := by rw [HW0.out]; exact (Below.refl _ _).alloc (Nat.le_refl _) _
  have HB0 : Hid (Below w.heap.size w W0) := hb0
  have HL0 : Hid (LvXs W0 d a n b off SS) := h.keep (KeepS.of_below hb0)
  have HO0 : Hid (LeafOk W0 (leafXs b off SS n)) := hL.below hb0
  clear h hL hb0
  go_enter Tryz.func30, Tryz.ntmps30
  go_wp2_with fail
  rw [← HW0.out]
  refine (markAxs_ex HL0.out HO0.out hn hlen hk0 hk1).mono ?_
  rintro e w1 ⟨rfl, hw1⟩
  have HF : Hid (∃ V, Below w.heap.size w V ∧ w1 = marks V (leafXs b off SS n) k) := ⟨W0, HB0.out, hw1⟩
  clear hw1
  go_wp2
  go_ret
  exact ⟨rfl, HF.out⟩

set_option maxRecDepth 100000 in
set_option maxHeartbeats 1000000 in
theorem heldKb_ex {d : Nat} {a : Option Addr} {n cap b off : Nat} {SS : Nat → Nat → List (Addr × IntKind)} {k : Int} {w : World} (h : LvXs w d a n b off SS) (hL : Held w (leafXs b off SS n) k) (hn : n ≤ 1048576) (hlen : (leafXs b off SS n).length ≤ 1048576) (hk0 : 0 ≤ k) (hk1 : k ≤ 536870912) :
    Calls Tryz.prog 31 #[.agg #[.slice a n cap], .int .i64 k] w fun e w' => e = .returned (.int .i64 (k + (leafXs b off SS n).length)) ∧ Below w.heap.size w w' := by
  obtain ⟨W0, HW0⟩ : ∃ W, Hid (W = w.alloc (.cells #[.slice a n cap] 25)) := ⟨_, rfl⟩
  have hb0 : Below w.heap.size w W0 := by rw [HW0.out]; exact (Below.refl _ _).alloc (Nat.le_refl _) _
  have HB0 : Hid (Below w.heap.size w W0) := hb0
  have HL0 : Hid (LvXs W0 d a n b off SS) := h.keep (KeepS.of_below hb0)
  have HO0 : Hid (Held W0 (leafXs b off SS n) k) := Held.below hb0 hL
  clear h hL hb0
  go_enter Tryz.func31, Tryz.ntmps31
  go_wp2_with fail
  rw [← HW0.out]
  refine (heldAxs_ex HL0.out HO0.out hn hlen hk0 hk1).mono ?_
  rintro e w1 ⟨rfl, hw1⟩
  rw [hw1]; clear hw1
  have hneg : ¬ (k + ((leafXs b off SS n).length : Int) < 0) := by omega
  go_wp2
  go_ret
  exact ⟨rfl, HB0.out⟩
end

end Go.Proofs.YtckhjoancfbkfaaGreat
