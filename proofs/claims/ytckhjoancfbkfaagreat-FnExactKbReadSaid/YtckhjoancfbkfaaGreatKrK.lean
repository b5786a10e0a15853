/- The laws' marking of an answer of things told, as one exact world; their look at the marks. -/
import Derived.Test.YtckhjoancfbkfaaGreatConFin
import Derived.Test.YtckhjoancfbkfaaGreatNG21
namespace Go.Proofs.YtckhjoancfbkfaaGreat
open Go.RowKit
set_option linter.unusedVariables false

def leafX (b o : Nat) (S : Nat → List (Addr × IntKind)) : List (Addr × IntKind) :=
  [(⟨b, o, none⟩, .i64), (⟨b, o + 1, none⟩, .i64)] ++ (S 0 ++ (S 1 ++ (S 2 ++ ([(⟨b, o + 5, none⟩, .i64)] ++ (S 3 ++ (S 4 ++ (S 5 ++ (S 6 ++ (S 7 ++ (S 8 ++ S 9))))))))))
def leafXs (b off : Nat) (SS : Nat → Nat → List (Addr × IntKind)) : Nat → List (Addr × IntKind)
  | 0 => []
  | n + 1 => leafXs b off SS n ++ leafX b (off + n * 13) (SS n)
theorem leafXs_le (b off : Nat) (SS : Nat → Nat → List (Addr × IntKind)) (n : Nat) : ∀ m, m ≤ n → ∃ R, leafXs b off SS n = leafXs b off SS m ++ R := by
  intro m hm
  induction n with
  | zero => obtain rfl : m = 0 := by omega
            exact ⟨[], by simp⟩
  | succ n ih =>
    by_cases e : m = n + 1
    · subst e; exact ⟨[], by simp⟩
    · obtain ⟨R, hR⟩ := ih (by omega)
      exact ⟨R ++ leafX b (off + n * 13) (SS n), by rw [leafXs, hR, List.append_assoc]⟩

def BsL (w : World) (p : Addr) (L : List (Addr × IntKind)) : Prop := ∃ a n c bb oo, w.cell? p = some (.slice a n c) ∧ (n = 0 ∨ a = some ⟨bb, oo, none⟩) ∧ L = leafB bb oo n
def KsL (w : World) (d : Nat) (p : Addr) (L : List (Addr × IntKind)) : Prop := ∃ a n c bb oo Ms, w.cell? p = some (.slice a n c) ∧ LvL (LvC w d) w a n bb oo Ms ∧ L = leafK bb oo Ms n
theorem BsL.keep {w w' : World} (hk : KeepS w w') {p : Addr} {L : List (Addr × IntKind)} (h : BsL w p L) : BsL w' p L := by
  obtain ⟨a, n, c, bb, oo, h1, h2, h3⟩ := h
  exact ⟨a, n, c, bb, oo, hk _ _ _ _ h1, h2, h3⟩
theorem KsL.keep {w w' : World} (hk : KeepS w w') {d : Nat} {p : Addr} {L : List (Addr × IntKind)} (h : KsL w d p L) : KsL w' d p L := by
  obtain ⟨a, n, c, bb, oo, Ms, h1, h2, h3⟩ := h
  exact ⟨a, n, c, bb, oo, Ms, hk _ _ _ _ h1, h2.keep hk, h3⟩
structure LvX (w : World) (d b o : Nat) (S : Nat → List (Addr × IntKind)) : Prop where
  s0 : BsL w ⟨b, o + 2, none⟩ (S 0)
  s1 : BsL w ⟨b, o + 3, none⟩ (S 1)
  s2 : KsL w d ⟨b, o + 4, none⟩ (S 2)
  s3 : BsL w ⟨b, o + 6, none⟩ (S 3)
  s4 : BsL w ⟨b, o + 7, none⟩ (S 4)
  s5 : KsL w d ⟨b, o + 8, none⟩ (S 5)
  s6 : BsL w ⟨b, o + 9, none⟩ (S 6)
  s7 : BsL w ⟨b, o + 10, none⟩ (S 7)
  s8 : BsL w ⟨b, o + 11, none⟩ (S 8)
  s9 : BsL w ⟨b, o + 12, none⟩ (S 9)
theorem LvX.keep {w w' : World} (hk : KeepS w w') {d b o : Nat} {S : Nat → List (Addr × IntKind)} (h : LvX w d b o S) : LvX w' d b o S :=
  ⟨h.s0.keep hk, h.s1.keep hk, h.s2.keep hk, h.s3.keep hk, h.s4.keep hk, h.s5.keep hk, h.s6.keep hk, h.s7.keep hk, h.s8.keep hk, h.s9.keep hk⟩
def LvXs (w : World) (d : Nat) (a : Option Addr) (n b off : Nat) (SS : Nat → Nat → List (Addr × IntKind)) : Prop := n = 0 ∨ (a = some ⟨b, off, none⟩ ∧ ∀ i, i < n → LvX w d b (off + i * 13) (SS i))
theorem LvXs.keep {w w' : World} (hk : KeepS w w') {d : Nat} {a : Option Addr} {n b off : Nat} {SS : Nat → Nat → List (Addr × IntKind)} (h : LvXs w d a n b off SS) : LvXs w' d a n b off SS := by
  rcases h with h | ⟨h1, h2⟩
  · exact .inl h
  · exact .inr ⟨h1, fun i hi => (h2 i hi).keep hk⟩
theorem leafK_ge (b off : Nat) (Ms : Nat → List (Addr × IntKind)) : ∀ m, m ≤ (leafK b off Ms m).length := by
  intro m
  induction m with
  | zero => simp
  | succ m ih => rw [leafK_succ, List.length_append, List.length_cons]; omega

/-- A stage of the marking: the lists' own cells as they were, all numbers there. -/
structure StM (w : World) (A : List (Addr × IntKind)) (W : World) : Prop where
  k : KeepS w W
  l : LeafOk W A
theorem StM.step {w : World} {A S : List (Addr × IntKind)} {W : World} (h : StM w A W) (hs : ∀ x ∈ S, x ∈ A) (q : Int) : StM w A (marks W S q) :=
  have hS := h.l.sub hs
  ⟨h.k.trans (keepS_marks hS q), (hS.marks h.l q).1⟩

set_option maxRecDepth 100000 in
set_option maxHeartbeats 8000000 in
theorem markAxs_ex {d : Nat} {a : Option Addr} {n cap b off : Nat} {SS : Nat → Nat → List (Addr × IntKind)} {k : Int} {w : World} (h : LvXs w d a n b off SS) (hL : LeafOk w (leafXs b off SS n)) (hn : n ≤ 1048576) (hlen : (leafXs b off SS n).length ≤ 1048576) (hk0 : 0 ≤ k) (hk1 : k ≤ 536870912) :
    Calls Tryz.prog 65 #[.slice a n cap, .int .i64 k] w fun e w' => e = .returned (.int .i64 (k + (leafXs b off SS n).length)) ∧ w' = marks w (leafXs b off SS n) k := by
  have HR : Hid (LvXs w d a n b off SS) := h
  have HL : Hid (LeafOk w (leafXs b off SS n)) := hL
  obtain ⟨N, hN⟩ : ∃ N, N = (leafXs b off SS n).length := ⟨_, rfl⟩
  have HLen : Hid (N = (leafXs b off SS n).length) := hN
  rw [← hN] at hlen
  clear h hL hN
  go_enter Tryz.func65, Tryz.ntmps65
  go_wp2_with fail
  go_loopw [1, 5] (fun q i wr => ∃ (j : Nat) (t : Nat), j ≤ n ∧ i = .int .i64 j ∧ t = (leafXs b off SS j).length ∧ q = .int .i64 (k + t) ∧ wr = marks w (leafXs b off SS j) k) (fun _ i _ => n - (intOf i).toNat)
  case atStart => exact ⟨0, 0, Nat.zero_le _, rfl, by simp [leafXs], by simp, rfl⟩
  case round =>
    obtain ⟨j, t, hj, rfl, ht, hqe, hwr⟩ := hrel
    obtain ⟨q, hq⟩ : ∃ q, q = k + (t : Int) := ⟨_, rfl⟩
    rw [← hq] at hqe
    subst hqe
    have HQ : Hid (q = k + (t : Int)) := hq
    have HT : Hid (t = (leafXs b off SS j).length) := ht
    have HWr : Hid (wr = marks w (leafXs b off SS j) k) := hwr
    have htl : t ≤ N := by
      obtain ⟨R, hR⟩ := leafXs_le b off SS n j hj
      have := HLen.out
      rw [hR, List.length_append] at this
      omega
    have hq0 : 0 ≤ q := by omega
    by_cases hlt : j < n
    · have hji : (j : Int) < (n : Int) := by omega
      have hLj : ∀ x ∈ leafXs b off SS j, x ∈ leafXs b off SS n := by intro x hx; obtain ⟨R, hR⟩ := leafXs_le b off SS n j hj; rw [hR]; simp [hx]
      have hs0 : StM w (leafXs b off SS n) wr := by rw [hwr]; exact StM.step ⟨KeepS.refl w, HL.out⟩ hLj k
      have HS0 : Hid (StM w (leafXs b off SS n) wr) := hs0
      rcases HR.out with h0 | ⟨e1, hc⟩
      · omega
      · subst e1
        have hx := hc j hlt
        obtain ⟨a0, m0, c0, bb0, oo0, e0, hb0, hS0⟩ := hx.s0
        obtain ⟨a1, m1, c1, bb1, oo1, e1, hb1, hS1⟩ := hx.s1
        obtain ⟨a2, m2, c2, bb2, oo2, Ms2, e2, hb2, hS2⟩ := hx.s2
        obtain ⟨u2, hu2⟩ : ∃ u, u = (leafK bb2 oo2 Ms2 m2).length := ⟨_, rfl⟩
        have HU2 : Hid (u2 = (leafK bb2 oo2 Ms2 m2).length) := hu2
        have hkn2 : m2 ≤ u2 := by rw [hu2]; exact leafK_ge _ _ _ _
        obtain ⟨a3, m3, c3, bb3, oo3, e3, hb3, hS3⟩ := hx.s3
        obtain ⟨a4, m4, c4, bb4, oo4, e4, hb4, hS4⟩ := hx.s4
        obtain ⟨a5, m5, c5, bb5, oo5, Ms5, e5, hb5, hS5⟩ := hx.s5
        obtain ⟨u5, hu5⟩ : ∃ u, u = (leafK bb5 oo5 Ms5 m5).length := ⟨_, rfl⟩
        have HU5 : Hid (u5 = (leafK bb5 oo5 Ms5 m5).length) := hu5
        have hkn5 : m5 ≤ u5 := by rw [hu5]; exact leafK_ge _ _ _ _
        obtain ⟨a6, m6, c6, bb6, oo6, e6, hb6, hS6⟩ := hx.s6
        obtain ⟨a7, m7, c7, bb7, oo7, e7, hb7, hS7⟩ := hx.s7
        obtain ⟨a8, m8, c8, bb8, oo8, e8, hb8, hS8⟩ := hx.s8
        obtain ⟨a9, m9, c9, bb9, oo9, e9, hb9, hS9⟩ := hx.s9
        have hsub : ∀ x ∈ leafX b (off + j * 13) (SS j), x ∈ leafXs b off SS n := by
          intro x hx
          obtain ⟨R, hR⟩ := leafXs_le b off SS n (j + 1) (by omega)
          rw [hR, leafXs]
          simp [hx]
        have hSx : leafX b (off + j * 13) (SS j) = [(⟨b, off + j * 13, none⟩, IntKind.i64), (⟨b, off + j * 13 + 1, none⟩, IntKind.i64)] ++ (leafB bb0 oo0 m0 ++ (leafB bb1 oo1 m1 ++ (leafK bb2 oo2 Ms2 m2 ++ ([(⟨b, off + j * 13 + 5, none⟩, IntKind.i64)] ++ (leafB bb3 oo3 m3 ++ (leafB bb4 oo4 m4 ++ (leafK bb5 oo5 Ms5 m5 ++ (leafB bb6 oo6 m6 ++ (leafB bb7 oo7 m7 ++ (leafB bb8 oo8 m8 ++ (leafB bb9 oo9 m9))))))))))) := by unfold leafX; rw [hS0, hS1, hS2, hS3, hS4, hS5, hS6, hS7, hS8, hS9]
        have HSx : Hid (leafXs b off SS (j + 1) = leafXs b off SS j ++ leafX b (off + j * 13) (SS j)) := rfl
        rw [hSx] at hsub
        have HSub : Hid _ := hsub
        have HSx2 : Hid _ := hSx
        have hbnd : t + 3 + m0 + m1 + u2 + m3 + m4 + u5 + m6 + m7 + m8 + m9 ≤ N := by
          obtain ⟨R, hR⟩ := leafXs_le b off SS n (j + 1) (by omega)
          have h1 := HLen.out
          rw [hR, HSx.out, hSx] at h1
          simp only [List.length_append, List.length_cons, List.length_nil, leafB_length] at h1
          rw [← hu2, ← hu5, ← ht] at h1
          omega
        have HT4 : Hid (t + 3 + m0 + m1 + u2 + m3 + m4 + u5 + m6 + m7 + m8 + m9 = (leafXs b off SS (j + 1)).length) := by
          unfold Hid
          rw [HSx.out, hSx]
          simp only [List.length_append, List.length_cons, List.length_nil, leafB_length]
          rw [← hu2, ← hu5, ← ht]
          omega
        have hqb : q + 3 + (m0 + m1 + u2 + m3 + m4 + u5 + m6 + m7 + m8 + m9 : Nat) ≤ 1073741824 := by omega
        obtain ⟨⟨z0, f0⟩, g0⟩ := hs0.l (⟨b, off + j * 13, none⟩, .i64) (hsub _ (by simp))
        obtain ⟨⟨z1, f1⟩, g1⟩ := hs0.l (⟨b, off + j * 13 + 1, none⟩, .i64) (hsub _ (by simp))
        obtain ⟨W1, hW1⟩ : ∃ W1, W1 = (wr.setCell ⟨b, off + j * 13, none⟩ (.int .i64 q)).setCell ⟨b, off + j * 13 + 1, none⟩ (.int .i64 (q + 1)) := ⟨_, rfl⟩
        have HW1 : Hid (W1 = (wr.setCell ⟨b, off + j * 13, none⟩ (.int .i64 q)).setCell ⟨b, off + j * 13 + 1, none⟩ (.int .i64 (q + 1))) := hW1
        have hm1 : W1 = marks wr [(⟨b, off + j * 13, none⟩, IntKind.i64), (⟨b, off + j * 13 + 1, none⟩, IntKind.i64)] q := by
          rw [hW1]; simp only [marks]; rw [wrap64_id (by omega), wrap64_id (by omega)]
        have HM1 : Hid (W1 = marks wr [(⟨b, off + j * 13, none⟩, IntKind.i64), (⟨b, off + j * 13 + 1, none⟩, IntKind.i64)] q) := hm1
        have HS1 : Hid (StM w (leafXs b off SS n) W1) := by unfold Hid; rw [hm1]; exact hs0.step (fun x hx => hsub x (by simp only [List.mem_append]; exact .inl hx)) q
        clear hc hx hwr ht hq hm1 hW1 hs0 hsub hSx hLj hu2 hu5 hS0 hS1 hS2 hS3 hS4 hS5 hS6 hS7 hS8 hS9
        have HE : Hid (w.cell? ⟨b, off + j * 13 + 2, none⟩ = some (.slice a0 m0 c0) ∧ w.cell? ⟨b, off + j * 13 + 3, none⟩ = some (.slice a1 m1 c1) ∧ w.cell? ⟨b, off + j * 13 + 4, none⟩ = some (.slice a2 m2 c2) ∧ w.cell? ⟨b, off + j * 13 + 6, none⟩ = some (.slice a3 m3 c3) ∧ w.cell? ⟨b, off + j * 13 + 7, none⟩ = some (.slice a4 m4 c4) ∧ w.cell? ⟨b, off + j * 13 + 8, none⟩ = some (.slice a5 m5 c5) ∧ w.cell? ⟨b, off + j * 13 + 9, none⟩ = some (.slice a6 m6 c6) ∧ w.cell? ⟨b, off + j * 13 + 10, none⟩ = some (.slice a7 m7 c7) ∧ w.cell? ⟨b, off + j * 13 + 11, none⟩ = some (.slice a8 m8 c8) ∧ w.cell? ⟨b, off + j * 13 + 12, none⟩ = some (.slice a9 m9 c9)) := ⟨e0, e1, e2, e3, e4, e5, e6, e7, e8, e9⟩
        clear e0 e1 e2 e3 e4 e5 e6 e7 e8 e9
        have HEs : Hid (∀ W, StM w (leafXs b off SS n) W → W.cell? ⟨b, off + j * 13 + 2, none⟩ = some (.slice a0 m0 c0) ∧ W.cell? ⟨b, off + j * 13 + 3, none⟩ = some (.slice a1 m1 c1) ∧ W.cell? ⟨b, off + j * 13 + 4, none⟩ = some (.slice a2 m2 c2) ∧ W.cell? ⟨b, off + j * 13 + 6, none⟩ = some (.slice a3 m3 c3) ∧ W.cell? ⟨b, off + j * 13 + 7, none⟩ = some (.slice a4 m4 c4) ∧ W.cell? ⟨b, off + j * 13 + 8, none⟩ = some (.slice a5 m5 c5) ∧ W.cell? ⟨b, off + j * 13 + 9, none⟩ = some (.slice a6 m6 c6) ∧ W.cell? ⟨b, off + j * 13 + 10, none⟩ = some (.slice a7 m7 c7) ∧ W.cell? ⟨b, off + j * 13 + 11, none⟩ = some (.slice a8 m8 c8) ∧ W.cell? ⟨b, off + j * 13 + 12, none⟩ = some (.slice a9 m9 c9)) := fun W hW => by
          obtain ⟨e0, e1, e2, e3, e4, e5, e6, e7, e8, e9⟩ := HE.out
          exact ⟨hW.k _ _ _ _ e0, hW.k _ _ _ _ e1, hW.k _ _ _ _ e2, hW.k _ _ _ _ e3, hW.k _ _ _ _ e4, hW.k _ _ _ _ e5, hW.k _ _ _ _ e6, hW.k _ _ _ _ e7, hW.k _ _ _ _ e8, hW.k _ _ _ _ e9⟩
        obtain ⟨e0, e1, e2, e3, e4, e5, e6, e7, e8, e9⟩ := HEs.out wr HS0.out
        go_wp2_with fail
        rw [← HW1.out]
        clear f0 f1 g0 g1 e0 e1 e2 e3 e4 e5 e6 e7 e8 e9
        have hl0 : LeafOk W1 (leafB bb0 oo0 m0) := HS1.out.l.sub (fun x hx => HSub.out x (by simp only [List.mem_append]; simp [hx]))
        refine (markByteS_any a0 m0 c0 (q + 1 + 1) W1 bb0 oo0 hb0 hl0 (by omega) (by omega)).mono ?_
        rintro e W2 ⟨rfl, hw2⟩
        have HM2 : Hid (W2 = marks W1 (leafB bb0 oo0 m0) (q + 1 + 1)) := hw2
        have HS2 : Hid (StM w (leafXs b off SS n) W2) := by unfold Hid; rw [hw2]; exact HS1.out.step (fun x hx => HSub.out x (by simp only [List.mem_append]; simp [hx])) _
        clear hw2 hl0
        obtain ⟨e0, e1, e2, e3, e4, e5, e6, e7, e8, e9⟩ := HEs.out W2 HS2.out
        go_wp2_with fail
        clear e0 e1 e2 e3 e4 e5 e6 e7 e8 e9
        have hl1 : LeafOk W2 (leafB bb1 oo1 m1) := HS2.out.l.sub (fun x hx => HSub.out x (by simp only [List.mem_append]; simp [hx]))
        refine (markByteS_any a1 m1 c1 (q + 1 + 1 + m0) W2 bb1 oo1 hb1 hl1 (by omega) (by omega)).mono ?_
        rintro e W3 ⟨rfl, hw3⟩
        have HM3 : Hid (W3 = marks W2 (leafB bb1 oo1 m1) (q + 1 + 1 + m0)) := hw3
        have HS3 : Hid (StM w (leafXs b off SS n) W3) := by unfold Hid; rw [hw3]; exact HS2.out.step (fun x hx => HSub.out x (by simp only [List.mem_append]; simp [hx])) _
        clear hw3 hl1
        obtain ⟨e0, e1, e2, e3, e4, e5, e6, e7, e8, e9⟩ := HEs.out W3 HS3.out
        go_wp2_with fail
        clear e0 e1 e2 e3 e4 e5 e6 e7 e8 e9
        have hl2 : LeafOk W3 (leafK bb2 oo2 Ms2 m2) := HS3.out.l.sub (fun x hx => HSub.out x (by simp only [List.mem_append]; simp [hx]))
        refine (mxL_any d a2 m2 c2 bb2 oo2 Ms2 (q + 1 + 1 + m0 + m1) W3 (hb2.keep HS3.out.k) hl2 (by omega) (by rw [← HU2.out]; omega) (by omega) (by rw [← HU2.out]; omega)).mono ?_
        rintro e W4 ⟨rfl, hw4⟩
        rw [← HU2.out]
        have HM4 : Hid (W4 = marks W3 (leafK bb2 oo2 Ms2 m2) (q + 1 + 1 + m0 + m1)) := hw4
        have HS4 : Hid (StM w (leafXs b off SS n) W4) := by unfold Hid; rw [hw4]; exact HS3.out.step (fun x hx => HSub.out x (by simp only [List.mem_append]; simp [hx])) _
        clear hw4 hl2
        obtain ⟨e0, e1, e2, e3, e4, e5, e6, e7, e8, e9⟩ := HEs.out W4 HS4.out
        obtain ⟨⟨z5, f5⟩, g5⟩ := HS4.out.l (⟨b, off + j * 13 + 5, none⟩, .i64) (HSub.out _ (by simp))
        obtain ⟨W5, hW5⟩ : ∃ W, W = W4.setCell ⟨b, off + j * 13 + 5, none⟩ (.int .i64 (q + 1 + 1 + m0 + m1 + u2)) := ⟨_, rfl⟩
        have HW5 : Hid (W5 = W4.setCell ⟨b, off + j * 13 + 5, none⟩ (.int .i64 (q + 1 + 1 + m0 + m1 + u2))) := hW5
        have hm5 : W5 = marks W4 [(⟨b, off + j * 13 + 5, none⟩, IntKind.i64)] (q + 1 + 1 + m0 + m1 + u2) := by
          rw [hW5]; simp only [marks]; rw [wrap64_id (by omega)]
        have HM5 : Hid (W5 = marks W4 [(⟨b, off + j * 13 + 5, none⟩, IntKind.i64)] (q + 1 + 1 + m0 + m1 + u2)) := hm5
        have HS5 : Hid (StM w (leafXs b off SS n) W5) := by unfold Hid; rw [hm5]; exact HS4.out.step (fun x hx => HSub.out x (by simp only [List.mem_append]; simp only [List.mem_singleton] at hx; simp [hx])) _
        clear hW5 hm5
        go_wp2_with fail
        rw [← HW5.out]
        clear f5 g5 e0 e1 e2 e3 e4 e5 e6 e7 e8 e9
        have hl3 : LeafOk W5 (leafB bb3 oo3 m3) := HS5.out.l.sub (fun x hx => HSub.out x (by simp only [List.mem_append]; simp [hx]))
        refine (markByteS_any a3 m3 c3 (q + 1 + 1 + m0 + m1 + u2 + 1) W5 bb3 oo3 hb3 hl3 (by omega) (by omega)).mono ?_
        rintro e W6 ⟨rfl, hw6⟩
        have HM6 : Hid (W6 = marks W5 (leafB bb3 oo3 m3) (q + 1 + 1 + m0 + m1 + u2 + 1)) := hw6
        have HS6 : Hid (StM w (leafXs b off SS n) W6) := by unfold Hid; rw [hw6]; exact HS5.out.step (fun x hx => HSub.out x (by simp only [List.mem_append]; simp [hx])) _
        clear hw6 hl3
        obtain ⟨e0, e1, e2, e3, e4, e5, e6, e7, e8, e9⟩ := HEs.out W6 HS6.out
        go_wp2_with fail
        clear e0 e1 e2 e3 e4 e5 e6 e7 e8 e9
        have hl4 : LeafOk W6 (leafB bb4 oo4 m4) := HS6.out.l.sub (fun x hx => HSub.out x (by simp only [List.mem_append]; simp [hx]))
        refine (markByteS_any a4 m4 c4 (q + 1 + 1 + m0 + m1 + u2 + 1 + m3) W6 bb4 oo4 hb4 hl4 (by omega) (by omega)).mono ?_
        rintro e W7 ⟨rfl, hw7⟩
        have HM7 : Hid (W7 = marks W6 (leafB bb4 oo4 m4) (q + 1 + 1 + m0 + m1 + u2 + 1 + m3)) := hw7
        have HS7 : Hid (StM w (leafXs b off SS n) W7) := by unfold Hid; rw [hw7]; exact HS6.out.step (fun x hx => HSub.out x (by simp only [List.mem_append]; simp [hx])) _
        clear hw7 hl4
        obtain ⟨e0, e1, e2, e3, e4, e5, e6, e7, e8, e9⟩ := HEs.out W7 HS7.out
        go_wp2_with fail
        clear e0 e1 e2 e3 e4 e5 e6 e7 e8 e9
        have hl5 : LeafOk W7 (leafK bb5 oo5 Ms5 m5) := HS7.out.l.sub (fun x hx => HSub.out x (by simp only [List.mem_append]; simp [hx]))
        refine (mxL_any d a5 m5 c5 bb5 oo5 Ms5 (q + 1 + 1 + m0 + m1 + u2 + 1 + m3 + m4) W7 (hb5.keep HS7.out.k) hl5 (by omega) (by rw [← HU5.out]; omega) (by omega) (by rw [← HU5.out]; omega)).mono ?_
        rintro e W8 ⟨rfl, hw8⟩
        rw [← HU5.out]
        have HM8 : Hid (W8 = marks W7 (leafK bb5 oo5 Ms5 m5) (q + 1 + 1 + m0 + m1 + u2 + 1 + m3 + m4)) := hw8
        have HS8 : Hid (StM w (leafXs b off SS n) W8) := by unfold Hid; rw [hw8]; exact HS7.out.step (fun x hx => HSub.out x (by simp only [List.mem_append]; simp [hx])) _
        clear hw8 hl5
        obtain ⟨e0, e1, e2, e3, e4, e5, e6, e7, e8, e9⟩ := HEs.out W8 HS8.out
        go_wp2_with fail
        clear e0 e1 e2 e3 e4 e5 e6 e7 e8 e9
        have hl6 : LeafOk W8 (leafB bb6 oo6 m6) := HS8.out.l.sub (fun x hx => HSub.out x (by simp only [List.mem_append]; simp [hx]))
        refine (markByteS_any a6 m6 c6 (q + 1 + 1 + m0 + m1 + u2 + 1 + m3 + m4 + u5) W8 bb6 oo6 hb6 hl6 (by omega) (by omega)).mono ?_
        rintro e W9 ⟨rfl, hw9⟩
        have HM9 : Hid (W9 = marks W8 (leafB bb6 oo6 m6) (q + 1 + 1 + m0 + m1 + u2 + 1 + m3 + m4 + u5)) := hw9
        have HS9 : Hid (StM w (leafXs b off SS n) W9) := by unfold Hid; rw [hw9]; exact HS8.out.step (fun x hx => HSub.out x (by simp only [List.mem_append]; simp [hx])) _
        clear hw9 hl6
        obtain ⟨e0, e1, e2, e3, e4, e5, e6, e7, e8, e9⟩ := HEs.out W9 HS9.out
        go_wp2_with fail
        clear e0 e1 e2 e3 e4 e5 e6 e7 e8 e9
        have hl7 : LeafOk W9 (leafB bb7 oo7 m7) := HS9.out.l.sub (fun x hx => HSub.out x (by simp only [List.mem_append]; simp [hx]))
        refine (markByteS_any a7 m7 c7 (q + 1 + 1 + m0 + m1 + u2 + 1 + m3 + m4 + u5 + m6) W9 bb7 oo7 hb7 hl7 (by omega) (by omega)).mono ?_
        rintro e W10 ⟨rfl, hw10⟩
        have HM10 : Hid (W10 = marks W9 (leafB bb7 oo7 m7) (q + 1 + 1 + m0 + m1 + u2 + 1 + m3 + m4 + u5 + m6)) := hw10
        have HS10 : Hid (StM w (leafXs b off SS n) W10) := by unfold Hid; rw [hw10]; exact HS9.out.step (fun x hx => HSub.out x (by simp only [List.mem_append]; simp [hx])) _
        clear hw10 hl7
        obtain ⟨e0, e1, e2, e3, e4, e5, e6, e7, e8, e9⟩ := HEs.out W10 HS10.out
        go_wp2_with fail
        clear e0 e1 e2 e3 e4 e5 e6 e7 e8 e9
        have hl8 : LeafOk W10 (leafB bb8 oo8 m8) := HS10.out.l.sub (fun x hx => HSub.out x (by simp only [List.mem_append]; simp [hx]))
        refine (markByteS_any a8 m8 c8 (q + 1 + 1 + m0 + m1 + u2 + 1 + m3 + m4 + u5 + m6 + m7) W10 bb8 oo8 hb8 hl8 (by omega) (by omega)).mono ?_
        rintro e W11 ⟨rfl, hw11⟩
        have HM11 : Hid (W11 = marks W10 (leafB bb8 oo8 m8) (q + 1 + 1 + m0 + m1 + u2 + 1 + m3 + m4 + u5 + m6 + m7)) := hw11
        have HS11 : Hid (StM w (leafXs b off SS n) W11) := by unfold Hid; rw [hw11]; exact HS10.out.step (fun x hx => HSub.out x (by simp only [List.mem_append]; simp [hx])) _
        clear hw11 hl8
        obtain ⟨e0, e1, e2, e3, e4, e5, e6, e7, e8, e9⟩ := HEs.out W11 HS11.out
        go_wp2_with fail
        clear e0 e1 e2 e3 e4 e5 e6 e7 e8 e9
        have hl9 : LeafOk W11 (leafB bb9 oo9 m9) := HS11.out.l.sub (fun x hx => HSub.out x (by simp only [List.mem_append]; simp [hx]))
        refine (markByteS_any a9 m9 c9 (q + 1 + 1 + m0 + m1 + u2 + 1 + m3 + m4 + u5 + m6 + m7 + m8) W11 bb9 oo9 hb9 hl9 (by omega) (by omega)).mono ?_
        rintro e W12 ⟨rfl, hw12⟩
        have HM12 : Hid (W12 = marks W11 (leafB bb9 oo9 m9) (q + 1 + 1 + m0 + m1 + u2 + 1 + m3 + m4 + u5 + m6 + m7 + m8)) := hw12
        have HS12 : Hid (StM w (leafXs b off SS n) W12) := by unfold Hid; rw [hw12]; exact HS11.out.step (fun x hx => HSub.out x (by simp only [List.mem_append]; simp [hx])) _
        clear hw12 hl9
        obtain ⟨e0, e1, e2, e3, e4, e5, e6, e7, e8, e9⟩ := HEs.out W12 HS12.out
        have HMf : Hid (W12 = marks w (leafXs b off SS (j + 1)) k) := by
          unfold Hid
          rw [HSx.out, marks_append, ← HWr.out, ← HT.out, ← HQ.out, HSx2.out]
          rw [marks_append, ← HM1.out, show q + ((([(⟨b, off + j * 13, none⟩, IntKind.i64), (⟨b, off + j * 13 + 1, none⟩, IntKind.i64)] : List (Addr × IntKind)).length : Nat) : Int) = q + 1 + 1 from by simp; omega]
          rw [marks_append, ← HM2.out, show (q + 1 + 1) + (((leafB bb0 oo0 m0 : List (Addr × IntKind)).length : Nat) : Int) = q + 1 + 1 + m0 from by rw [leafB_length]]
          rw [marks_append, ← HM3.out, show (q + 1 + 1 + m0) + (((leafB bb1 oo1 m1 : List (Addr × IntKind)).length : Nat) : Int) = q + 1 + 1 + m0 + m1 from by rw [leafB_length]]
          rw [marks_append, ← HM4.out, show (q + 1 + 1 + m0 + m1) + (((leafK bb2 oo2 Ms2 m2 : List (Addr × IntKind)).length : Nat) : Int) = q + 1 + 1 + m0 + m1 + u2 from by rw [← HU2.out]]
          rw [marks_append, ← HM5.out, show (q + 1 + 1 + m0 + m1 + u2) + ((([(⟨b, off + j * 13 + 5, none⟩, IntKind.i64)] : List (Addr × IntKind)).length : Nat) : Int) = q + 1 + 1 + m0 + m1 + u2 + 1 from rfl]
          rw [marks_append, ← HM6.out, show (q + 1 + 1 + m0 + m1 + u2 + 1) + (((leafB bb3 oo3 m3 : List (Addr × IntKind)).length : Nat) : Int) = q + 1 + 1 + m0 + m1 + u2 + 1 + m3 from by rw [leafB_length]]
          rw [marks_append, ← HM7.out, show (q + 1 + 1 + m0 + m1 + u2 + 1 + m3) + (((leafB bb4 oo4 m4 : List (Addr × IntKind)).length : Nat) : Int) = q + 1 + 1 + m0 + m1 + u2 + 1 + m3 + m4 from by rw [leafB_length]]
          rw [marks_append, ← HM8.out, show (q + 1 + 1 + m0 + m1 + u2 + 1 + m3 + m4) + (((leafK bb5 oo5 Ms5 m5 : List (Addr × IntKind)).length : Nat) : Int) = q + 1 + 1 + m0 + m1 + u2 + 1 + m3 + m4 + u5 from by rw [← HU5.out]]
          rw [marks_append, ← HM9.out, show (q + 1 + 1 + m0 + m1 + u2 + 1 + m3 + m4 + u5) + (((leafB bb6 oo6 m6 : List (Addr × IntKind)).length : Nat) : Int) = q + 1 + 1 + m0 + m1 + u2 + 1 + m3 + m4 + u5 + m6 from by rw [leafB_length]]
          rw [marks_append, ← HM10.out, show (q + 1 + 1 + m0 + m1 + u2 + 1 + m3 + m4 + u5 + m6) + (((leafB bb7 oo7 m7 : List (Addr × IntKind)).length : Nat) : Int) = q + 1 + 1 + m0 + m1 + u2 + 1 + m3 + m4 + u5 + m6 + m7 from by rw [leafB_length]]
          rw [marks_append, ← HM11.out, show (q + 1 + 1 + m0 + m1 + u2 + 1 + m3 + m4 + u5 + m6 + m7) + (((leafB bb8 oo8 m8 : List (Addr × IntKind)).length : Nat) : Int) = q + 1 + 1 + m0 + m1 + u2 + 1 + m3 + m4 + u5 + m6 + m7 + m8 from by rw [leafB_length]]
          rw [← HM12.out]
        go_wp2_with fail
        go_roundw
        case rel => exact ⟨j + 1, t + 3 + m0 + m1 + u2 + m3 + m4 + u5 + m6 + m7 + m8 + m9, by omega, by go_num, HT4.out, by have := HQ.out; congr 1; push_cast; omega, HMf.out⟩
        case measure => simp [intOf]; omega
    · have hjn : j = n := by omega
      have HE : Hid (q = k + (leafXs b off SS n).length) := by unfold Hid; rw [HQ.out, HT.out, hjn]
      have HW : Hid (wr = marks w (leafXs b off SS n) k) := by rw [← hjn]; exact HWr.out
      clear hwr ht hjn hq
      go_wp2_with fail
      go_ret
      exact ⟨ri HE.out, HW.out⟩

end Go.Proofs.YtckhjoancfbkfaaGreat
