/- The laws' marking of an answer that is a concept, as one exact world; their look at the marks. -/
import Derived.Test.YtckhjoancfbkfaaGreatConOwn
namespace Go.Proofs.YtckhjoancfbkfaaGreat
open Go.RowKit

def LvL (R : Value → Value → Value → List (Addr × IntKind) → Prop) (w : World) (a : Option Addr) (n b off : Nat) (Ls : Nat → List (Addr × IntKind)) : Prop :=
  n = 0 ∨ (a = some ⟨b, off, none⟩ ∧ ∀ i, i < n → ∃ v1 v2 v3, w.cell? ⟨b, off + i * 4 + 1, none⟩ = some v1 ∧ w.cell? ⟨b, off + i * 4 + 2, none⟩ = some v2 ∧ w.cell? ⟨b, off + i * 4 + 3, none⟩ = some v3 ∧ R v1 v2 v3 (Ls i))

/-- The three lists of a concept and their footprint, whatever the numbers are. -/
def LvC (w : World) : Nat → Value → Value → Value → List (Addr × IntKind) → Prop
  | 0, _, _, _, _ => False
  | d + 1, v1, v2, v3, L => ∃ na nn nc ra rn rc ka kn kc bn on br or bk ok Ls, v1 = .slice na nn nc ∧ v2 = .slice ra rn rc ∧ v3 = .slice ka kn kc ∧
      (nn = 0 ∨ na = some ⟨bn, on, none⟩) ∧ (rn = 0 ∨ ra = some ⟨br, or, none⟩) ∧ LvL (LvC w d) w ka kn bk ok Ls ∧ L = leafB bn on nn ++ (leafB br or rn ++ leafK bk ok Ls kn)

theorem OwC.lv {w : World} : ∀ {d : Nat} {v0 v1 v2 v3 : Value} {c : CN} {L : List (Addr × IntKind)}, OwC w d (.agg #[v0, v1, v2, v3]) c L → LvC w d v1 v2 v3 L := by
  intro d
  induction d with
  | zero => intro v0 v1 v2 v3 c L h; exact h
  | succ d ih =>
    intro v0 v1 v2 v3 c L h
    obtain ⟨na, nn, nc, ra, rn, rc, ka, kn, kc, bn, on, br, or, bk, ok, Ls, hv, h1, h2, ⟨g1, g2, g3⟩, rfl⟩ := h
    simp only [Value.agg.injEq, Array.mk.injEq, List.cons.injEq, and_true] at hv
    obtain ⟨_, rfl, rfl, rfl⟩ := hv
    refine ⟨na, nn, nc, ra, rn, rc, ka, kn, kc, bn, on, br, or, bk, ok, Ls, rfl, rfl, rfl, ?_, ?_, ?_, rfl⟩
    · rcases h1.cells with h | ⟨h, _⟩
      · exact .inl h
      · exact .inr h
    · rcases h2.cells with h | ⟨h, _⟩
      · exact .inl h
      · exact .inr h
    · rcases g3 with h | ⟨e, h⟩
      · exact .inl h
      · refine .inr ⟨e, fun i hi => ?_⟩
        obtain ⟨v0, v1, v2, v3, c0, c1, c2, c3, hr⟩ := h i hi
        exact ⟨v1, v2, v3, c1, c2, c3, ih hr⟩

theorem LvC.form {w : World} {d : Nat} {v1 v2 v3 : Value} {L : List (Addr × IntKind)} (h : LvC w d v1 v2 v3 L) : (∃ na nn nc, v1 = .slice na nn nc) ∧ (∃ na nn nc, v2 = .slice na nn nc) ∧ ∃ na nn nc, v3 = .slice na nn nc := by
  cases d with
  | zero => exact h.elim
  | succ d =>
    obtain ⟨na, nn, nc, ra, rn, rc, ka, kn, kc, bn, on, br, or, bk, ok, Ls, h1, h2, h3, _⟩ := h
    exact ⟨⟨_, _, _, h1⟩, ⟨_, _, _, h2⟩, ⟨_, _, _, h3⟩⟩

/-- Where the lists' own cells are as they were. -/
def KeepS (w w' : World) : Prop := ∀ (p : Addr) (a : Option Addr) (n c : Nat), w.cell? p = some (.slice a n c) → w'.cell? p = some (.slice a n c)

theorem KeepS.of_mark {lo hi : Nat} {w w' : World} (h : MarkRel lo hi w w') : KeepS w w' := fun _ _ _ _ hp => h.keep hp (by intros; simp)
theorem KeepS.of_below {w w' : World} (h : Below w.heap.size w w') : KeepS w w' := fun p _ _ _ hp => (h.cell (p := p) (block_lt_of_cell hp)).trans hp
theorem KeepS.refl (w : World) : KeepS w w := fun _ _ _ _ h => h
theorem KeepS.trans {a b c : World} (h : KeepS a b) (k : KeepS b c) : KeepS a c := fun p x n y hp => k p x n y (h p x n y hp)

theorem LvC.keep {w w' : World} (hk : KeepS w w') : ∀ {d : Nat} {v1 v2 v3 : Value} {L : List (Addr × IntKind)}, LvC w d v1 v2 v3 L → LvC w' d v1 v2 v3 L := by
  intro d
  induction d with
  | zero => intro v1 v2 v3 L h; exact h
  | succ d ih =>
    intro v1 v2 v3 L h
    obtain ⟨na, nn, nc, ra, rn, rc, ka, kn, kc, bn, on, br, or, bk, ok, Ls, h1, h2, h3, h4, h5, h6, rfl⟩ := h
    refine ⟨na, nn, nc, ra, rn, rc, ka, kn, kc, bn, on, br, or, bk, ok, Ls, h1, h2, h3, h4, h5, ?_, rfl⟩
    rcases h6 with h | ⟨e, h⟩
    · exact .inl h
    · refine .inr ⟨e, fun i hi => ?_⟩
      obtain ⟨v1, v2, v3, c1, c2, c3, hr⟩ := h i hi
      obtain ⟨⟨_, _, _, rfl⟩, ⟨_, _, _, rfl⟩, ⟨_, _, _, rfl⟩⟩ := hr.form
      exact ⟨_, _, _, hk _ _ _ _ c1, hk _ _ _ _ c2, hk _ _ _ _ c3, ih hr⟩

theorem LvL.keep {w w' : World} (hk : KeepS w w') {d : Nat} {a : Option Addr} {n b off : Nat} {Ls : Nat → List (Addr × IntKind)} (h : LvL (LvC w d) w a n b off Ls) : LvL (LvC w' d) w' a n b off Ls := by
  rcases h with h | ⟨e, h⟩
  · exact .inl h
  · refine .inr ⟨e, fun i hi => ?_⟩
    obtain ⟨v1, v2, v3, c1, c2, c3, hr⟩ := h i hi
    obtain ⟨⟨_, _, _, rfl⟩, ⟨_, _, _, rfl⟩, ⟨_, _, _, rfl⟩⟩ := hr.form
    exact ⟨_, _, _, hk _ _ _ _ c1, hk _ _ _ _ c2, hk _ _ _ _ c3, hr.keep hk⟩

theorem keepS_marks {w : World} {L : List (Addr × IntKind)} (h : LeafOk w L) (k : Int) : KeepS w (marks w L k) :=
  KeepS.of_mark (markRel_marks (lo := 0) (hi := w.heap.size) h (fun x hx => ⟨Nat.zero_le _, by obtain ⟨⟨n, hn⟩, _⟩ := h x hx; exact block_lt_of_cell hn⟩) k)

theorem LeafOk.sub {w : World} {L M : List (Addr × IntKind)} (h : LeafOk w L) (hs : ∀ x ∈ M, x ∈ L) : LeafOk w M := fun x hx => h x (hs x hx)

theorem leafK_le (b off : Nat) (Ls : Nat → List (Addr × IntKind)) (n : Nat) : ∀ m, m ≤ n → ∃ R, leafK b off Ls n = leafK b off Ls m ++ R := by
  intro m hm
  induction n with
  | zero => obtain rfl : m = 0 := by omega
            exact ⟨[], by simp⟩
  | succ n ih =>
    by_cases e : m = n + 1
    · subst e; exact ⟨[], by simp⟩
    · obtain ⟨R, hR⟩ := ih (by omega)
      exact ⟨R ++ ((⟨b, off + n * 4, none⟩, .i64) :: Ls n), by rw [leafK_succ, hR, List.append_assoc]⟩

def MxL (d : Nat) : Prop := ∀ (a : Option Addr) (n cap b off : Nat) (Ls : Nat → List (Addr × IntKind)) (k : Int) (w : World), LvL (LvC w d) w a n b off Ls → LeafOk w (leafK b off Ls n) → n ≤ 1048576 → (leafK b off Ls n).length ≤ 1048576 → 0 ≤ k → k + (leafK b off Ls n).length ≤ 1073741824 →
  Calls Tryz.prog 113 #[.slice a n cap, .int .i64 k] w fun e w' => e = .returned (.int .i64 (k + (leafK b off Ls n).length)) ∧ w' = marks w (leafK b off Ls n) k

set_option maxRecDepth 100000 in
set_option maxHeartbeats 1000000 in
theorem mxL_of {d : Nat} (H : ∀ d', d = d' + 1 → MxL d') : MxL d := by
  intro a n cap b off Ls k w h hL hn hlen hk0 hk1
  have HR : Hid (LvL (LvC w d) w a n b off Ls) := h
  have HL : Hid (LeafOk w (leafK b off Ls n)) := hL
  obtain ⟨N, hN⟩ : ∃ N, N = (leafK b off Ls n).length := ⟨_, rfl⟩
  have HLen : Hid (N = (leafK b off Ls n).length) := hN
  rw [← hN] at hlen hk1
  clear h hL hN
  go_enter Tryz.func113, Tryz.ntmps113
  go_wp2_with fail
  go_loopw [1, 5] (fun q i wr => ∃ (j : Nat) (t : Nat), j ≤ n ∧ i = .int .i64 j ∧ t = (leafK b off Ls j).length ∧ q = .int .i64 (k + t) ∧ wr = marks w (leafK b off Ls j) k) (fun _ i _ => n - (intOf i).toNat)
  case atStart => exact ⟨0, 0, Nat.zero_le _, rfl, by simp [leafK], by simp, rfl⟩
  case round =>
    obtain ⟨j, t, hj, rfl, ht, rfl, hwr⟩ := hrel
    have HT : Hid (t = (leafK b off Ls j).length) := ht
    have HWr : Hid (wr = marks w (leafK b off Ls j) k) := hwr
    have htl : t ≤ N := by
      obtain ⟨R, hR⟩ := leafK_le b off Ls n j hj
      have := HLen.out
      rw [hR, List.length_append] at this
      omega
    by_cases hlt : j < n
    · have hji : (j : Int) < (n : Int) := by omega
      have hLj : LeafOk w (leafK b off Ls j) := HL.out.sub (by intro x hx; obtain ⟨R, hR⟩ := leafK_le b off Ls n j hj; rw [hR]; simp [hx])
      have hOk : LeafOk wr (leafK b off Ls n) := by rw [hwr]; exact (hLj.marks HL.out k).1
      have hR : LvL (LvC wr d) wr a n b off Ls := by rw [hwr]; exact HR.out.keep (keepS_marks hLj k)
      rcases hR with h0 | ⟨e1, hc⟩
      · omega
      · subst e1
        obtain ⟨v1, v2, v3, c1, c2, c3, hs⟩ := hc j hlt
        cases d with
        | zero => exact hs.elim
        | succ d' =>
          have HH : Hid (MxL d') := H d' rfl
          obtain ⟨na, nn, nc, ra, rn, rc, ka, kn, kc, bn, on, br, or, bk, ok, Ms, rfl, rfl, rfl, hnb, hrb, hkd, hLs⟩ := hs
          have HSuc : Hid (leafK b off Ls (j + 1) = leafK b off Ls j ++ ((⟨b, off + j * 4, none⟩, .i64) :: (leafB bn on nn ++ (leafB br or rn ++ leafK bk ok Ms kn)))) := by unfold Hid; rw [leafK_succ, hLs]
          obtain ⟨u, hu⟩ : ∃ u, u = (leafK bk ok Ms kn).length := ⟨_, rfl⟩
          have HU : Hid (u = (leafK bk ok Ms kn).length) := hu
          have hbnd : t + 1 + nn + rn + u ≤ N := by
            obtain ⟨R, hR⟩ := leafK_le b off Ls n (j + 1) (by omega)
            have h1 := HLen.out
            rw [hR, HSuc.out] at h1
            simp only [List.length_append, List.length_cons, leafB_length] at h1
            omega
          have hknl : kn ≤ u := by
            rw [hu]
            have : ∀ m, m ≤ (leafK bk ok Ms m).length := by
              intro m
              induction m with
              | zero => simp
              | succ m ih => rw [leafK_succ, List.length_append, List.length_cons]; omega
            exact this kn
          have hmem : ∀ x ∈ (((⟨b, off + j * 4, none⟩ : Addr), IntKind.i64) :: (leafB bn on nn ++ (leafB br or rn ++ leafK bk ok Ms kn))), x ∈ leafK b off Ls n := by
            intro x hx
            obtain ⟨R, hR⟩ := leafK_le b off Ls n (j + 1) (by omega)
            rw [hR, HSuc.out]
            simp only [List.mem_append]
            exact .inl (.inr hx)
          have hAll : LeafOk wr (((⟨b, off + j * 4, none⟩ : Addr), IntKind.i64) :: (leafB bn on nn ++ (leafB br or rn ++ leafK bk ok Ms kn))) := hOk.sub hmem
          have hA0 : LeafOk wr [((⟨b, off + j * 4, none⟩ : Addr), IntKind.i64)] := hAll.sub (by intro x hx; simp at hx; simp [hx])
          obtain ⟨⟨m0, c0⟩, f0⟩ := hAll (⟨b, off + j * 4, none⟩, .i64) (by simp)
          obtain ⟨W1, hW1⟩ : ∃ W1, W1 = wr.setCell ⟨b, off + j * 4, none⟩ (.int .i64 (k + t)) := ⟨_, rfl⟩
          have hW1m : W1 = marks wr [((⟨b, off + j * 4, none⟩ : Addr), IntKind.i64)] (k + t) := by
            rw [hW1]; simp only [marks]; rw [wrap64_id (by omega)]
          have HW1 : Hid (W1 = wr.setCell ⟨b, off + j * 4, none⟩ (.int .i64 (k + t))) := hW1
          have hk1 : KeepS wr W1 := by rw [hW1m]; exact keepS_marks hA0 _
          have hOk1 : LeafOk W1 (((⟨b, off + j * 4, none⟩ : Addr), IntKind.i64) :: (leafB bn on nn ++ (leafB br or rn ++ leafK bk ok Ms kn))) := by rw [hW1m]; exact (hA0.marks hAll _).1
          have d1 := hk1 _ _ _ _ c1
          have d2 := hk1 _ _ _ _ c2
          have d3 := hk1 _ _ _ _ c3
          have hN1 : LeafOk W1 (leafB bn on nn) := hOk1.sub (by intro x hx; simp [hx])
          have HN1 : Hid (LeafOk W1 (leafB bn on nn)) := hN1
          have HOk1 : Hid (LeafOk W1 (((⟨b, off + j * 4, none⟩ : Addr), IntKind.i64) :: (leafB bn on nn ++ (leafB br or rn ++ leafK bk ok Ms kn)))) := hOk1
          have HKD : Hid (LvL (LvC W1 d') W1 ka kn bk ok Ms) := hkd.keep hk1
          have HW1m : Hid (W1 = marks wr [((⟨b, off + j * 4, none⟩ : Addr), IntKind.i64)] (k + t)) := hW1m
          have HNB : Hid (nn = 0 ∨ na = some ⟨bn, on, none⟩) := hnb
          have HRB : Hid (rn = 0 ∨ ra = some ⟨br, or, none⟩) := hrb
          clear hc hkd hW1 hW1m hk1 hOk1 hN1 hAll hA0 hmem hOk hLj hwr ht hLs hu H hnb hrb
          go_wp2_with fail
          rw [← HW1.out]
          refine (markByteS_any na nn nc (k + t + 1) W1 bn on HNB.out HN1.out (by omega) (by omega)).mono ?_
          rintro e W2 ⟨rfl, hw2⟩
          have HW2 : Hid (W2 = marks W1 (leafB bn on nn) (k + t + 1)) := hw2
          have hk2 : KeepS W1 W2 := by rw [hw2]; exact keepS_marks HN1.out _
          have e2 := hk2 _ _ _ _ d2
          have e3 := hk2 _ _ _ _ d3
          have hOk2 : LeafOk W2 (((⟨b, off + j * 4, none⟩ : Addr), IntKind.i64) :: (leafB bn on nn ++ (leafB br or rn ++ leafK bk ok Ms kn))) := by rw [hw2]; exact (HN1.out.marks HOk1.out _).1
          have HN2 : Hid (LeafOk W2 (leafB br or rn)) := hOk2.sub (by intro x hx; simp [hx])
          have HOk2 : Hid (LeafOk W2 (((⟨b, off + j * 4, none⟩ : Addr), IntKind.i64) :: (leafB bn on nn ++ (leafB br or rn ++ leafK bk ok Ms kn)))) := hOk2
          have HKD2 : Hid (LvL (LvC W2 d') W2 ka kn bk ok Ms) := HKD.out.keep hk2
          clear hw2 hk2 hOk2 d1 d2 d3
          go_wp2_with fail
          refine (markByteS_any ra rn rc (k + t + 1 + nn) W2 br or HRB.out HN2.out (by omega) (by omega)).mono ?_
          rintro e W3 ⟨rfl, hw3⟩
          have HW3 : Hid (W3 = marks W2 (leafB br or rn) (k + t + 1 + nn)) := hw3
          have hk3 : KeepS W2 W3 := by rw [hw3]; exact keepS_marks HN2.out _
          have g3 := hk3 _ _ _ _ e3
          have hOk3 : LeafOk W3 (((⟨b, off + j * 4, none⟩ : Addr), IntKind.i64) :: (leafB bn on nn ++ (leafB br or rn ++ leafK bk ok Ms kn))) := by rw [hw3]; exact (HN2.out.marks HOk2.out _).1
          have HN3 : Hid (LeafOk W3 (leafK bk ok Ms kn)) := hOk3.sub (by intro x hx; simp [hx])
          have HKD3 : Hid (LvL (LvC W3 d') W3 ka kn bk ok Ms) := HKD2.out.keep hk3
          clear hw3 hk3 hOk3 e2 e3
          go_wp2_with fail
          refine (HH.out ka kn kc bk ok Ms (k + t + 1 + nn + rn) W3 HKD3.out HN3.out (by omega) (by rw [← HU.out]; omega) (by omega) (by rw [← HU.out]; omega)).mono ?_
          rintro e W4 ⟨rfl, hw4⟩
          rw [← HU.out]
          have HM4 : Hid (W4 = marks w (leafK b off Ls (j + 1)) k) := by
            unfold Hid
            rw [HSuc.out, marks_append, ← HWr.out, ← HT.out, hw4, HW3.out, HW2.out, HW1m.out]
            rw [show (((⟨b, off + j * 4, none⟩ : Addr), IntKind.i64) :: (leafB bn on nn ++ (leafB br or rn ++ leafK bk ok Ms kn))) = [((⟨b, off + j * 4, none⟩ : Addr), IntKind.i64)] ++ (leafB bn on nn ++ (leafB br or rn ++ leafK bk ok Ms kn)) from rfl]
            rw [marks_append, marks_append, marks_append, leafB_length, leafB_length]
            rfl
          have HT4 : Hid (t + 1 + nn + rn + u = (leafK b off Ls (j + 1)).length) := by
            unfold Hid
            rw [HSuc.out]
            simp only [List.length_append, List.length_cons, leafB_length]
            rw [← HT.out, ← HU.out]; omega
          clear hw4 g3
          go_wp2_with fail
          go_roundw
          case rel => exact ⟨j + 1, t + 1 + nn + rn + u, by omega, by go_num, HT4.out, by congr 1; push_cast; omega, HM4.out⟩
          case measure => simp [intOf]; omega
    · have hjn : j = n := by omega
      have HE : Hid (k + (t : Int) = k + (leafK b off Ls n).length) := by unfold Hid; rw [HT.out, hjn]
      have HW : Hid (wr = marks w (leafK b off Ls n) k) := by rw [← hjn]; exact HWr.out
      clear hwr ht hjn
      go_wp2_with fail
      go_ret
      exact ⟨ri HE.out, HW.out⟩

theorem mxL_any : ∀ d, MxL d
  | 0 => mxL_of (fun d' h => by omega)
  | d + 1 => mxL_of (fun d' h => by obtain rfl : d = d' := (by omega); exact mxL_any d)

theorem held_leafK {w : World} {b off : Nat} {Ls : Nat → List (Addr × IntKind)} {k : Int} {n : Nat} (h : Held w (leafK b off Ls n) k) {j : Nat} (hj : j < n) : Held w ((⟨b, off + j * 4, none⟩, .i64) :: Ls j) (k + (leafK b off Ls j).length) := by
  obtain ⟨R, hR⟩ := leafK_le b off Ls n (j + 1) hj
  rw [hR, held_append, leafK_succ, held_append] at h
  exact h.1.2

def HxL (d : Nat) : Prop := ∀ (a : Option Addr) (n cap b off : Nat) (Ls : Nat → List (Addr × IntKind)) (k : Int) (w : World), LvL (LvC w d) w a n b off Ls → Held w (leafK b off Ls n) k → n ≤ 1048576 → (leafK b off Ls n).length ≤ 1048576 → 0 ≤ k → k + (leafK b off Ls n).length ≤ 1073741824 →
  Calls Tryz.prog 115 #[.slice a n cap, .int .i64 k] w fun e w' => e = .returned (.int .i64 (k + (leafK b off Ls n).length)) ∧ w' = w

set_option maxRecDepth 100000 in
set_option maxHeartbeats 1000000 in
theorem hxL_of {d : Nat} (H : ∀ d', d = d' + 1 → HxL d') : HxL d := by
  intro a n cap b off Ls k w h hL hn hlen hk0 hk1
  have HR : Hid (LvL (LvC w d) w a n b off Ls) := h
  have HL : Hid (Held w (leafK b off Ls n) k) := hL
  obtain ⟨N, hN⟩ : ∃ N, N = (leafK b off Ls n).length := ⟨_, rfl⟩
  have HLen : Hid (N = (leafK b off Ls n).length) := hN
  rw [← hN] at hlen hk1
  clear h hL hN
  go_enter Tryz.func115, Tryz.ntmps115
  go_wp2_with fail
  go_loop [1, 5] (fun q i => ∃ (j : Nat) (t : Nat), j ≤ n ∧ i = .int .i64 j ∧ t = (leafK b off Ls j).length ∧ q = .int .i64 (k + t)) (fun _ i => n - (intOf i).toNat)
  case atStart => exact ⟨0, 0, Nat.zero_le _, rfl, by simp [leafK], by simp⟩
  case round =>
    obtain ⟨j, t, hj, rfl, ht, rfl⟩ := hrel
    have HT : Hid (t = (leafK b off Ls j).length) := ht
    have htl : t ≤ N := by
      obtain ⟨R, hR⟩ := leafK_le b off Ls n j hj
      have := HLen.out
      rw [hR, List.length_append] at this
      omega
    by_cases hlt : j < n
    · have hji : (j : Int) < (n : Int) := by omega
      rcases HR.out with h0 | ⟨e1, hc⟩
      · omega
      · subst e1
        obtain ⟨v1, v2, v3, c1, c2, c3, hs⟩ := hc j hlt
        cases d with
        | zero => exact hs.elim
        | succ d' =>
          have HH : Hid (HxL d') := H d' rfl
          obtain ⟨na, nn, nc, ra, rn, rc, ka, kn, kc, bn, on, br, or, bk, ok, Ms, rfl, rfl, rfl, hnb, hrb, hkd, hLs⟩ := hs
          have HSuc : Hid (leafK b off Ls (j + 1) = leafK b off Ls j ++ ((⟨b, off + j * 4, none⟩, .i64) :: (leafB bn on nn ++ (leafB br or rn ++ leafK bk ok Ms kn)))) := by unfold Hid; rw [leafK_succ, hLs]
          obtain ⟨u, hu⟩ : ∃ u, u = (leafK bk ok Ms kn).length := ⟨_, rfl⟩
          have HU : Hid (u = (leafK bk ok Ms kn).length) := hu
          have hbnd : t + 1 + nn + rn + u ≤ N := by
            obtain ⟨R, hR⟩ := leafK_le b off Ls n (j + 1) (by omega)
            have h1 := HLen.out
            rw [hR, HSuc.out] at h1
            simp only [List.length_append, List.length_cons, leafB_length] at h1
            omega
          have hknl : kn ≤ u := by
            rw [hu]
            have : ∀ m, m ≤ (leafK bk ok Ms m).length := by
              intro m
              induction m with
              | zero => simp
              | succ m ih => rw [leafK_succ, List.length_append, List.length_cons]; omega
            exact this kn
          have hh := held_leafK HL.out hlt
          rw [hLs, ← ht] at hh
          obtain ⟨hh0, hh1⟩ := hh
          have c0 : w.cell? ⟨b, off + j * 4, none⟩ = some (.int .i64 (k + t)) := by rw [hh0, wrap64_id (by omega)]
          rw [held_append, leafB_length] at hh1
          obtain ⟨hh1, hh2⟩ := hh1
          rw [held_append, leafB_length] at hh2
          obtain ⟨hh2, hh3⟩ := hh2
          have HC1 : Hid (∀ i, i < nn → w.cell? ⟨bn, on + i, none⟩ = some (.int .u8 (IntKind.u8.wrap (k + t + 1 + i)))) := held_leafB hh1
          have HC2 : Hid (∀ i, i < rn → w.cell? ⟨br, or + i, none⟩ = some (.int .u8 (IntKind.u8.wrap (k + t + 1 + nn + i)))) := held_leafB hh2
          have HC3 : Hid (Held w (leafK bk ok Ms kn) (k + t + 1 + nn + rn)) := hh3
          have HKD : Hid (LvL (LvC w d') w ka kn bk ok Ms) := hkd
          have HNB : Hid (nn = 0 ∨ na = some ⟨bn, on, none⟩) := hnb
          have HRB : Hid (rn = 0 ∨ ra = some ⟨br, or, none⟩) := hrb
          have HT4 : Hid (t + 1 + nn + rn + u = (leafK b off Ls (j + 1)).length) := by
            unfold Hid
            rw [HSuc.out]
            simp only [List.length_append, List.length_cons, leafB_length]
            rw [← HT.out, ← HU.out]; omega
          clear hc hkd hh0 hh1 hh2 hh3 ht hLs hu H hnb hrb
          go_wp2_with fail
          refine (heldByteS_any na nn nc (k + t + 1) w bn on HNB.out HC1.out (by omega) (by omega)).mono ?_
          rintro e W2 ⟨rfl, hw2⟩
          rw [hw2]; clear hw2
          have hq1 : ¬ (k + (t : Int) + 1 + (nn : Int) < 0) := by omega
          go_wp2_with fail
          refine (heldByteS_any ra rn rc (k + t + 1 + nn) w br or HRB.out HC2.out (by omega) (by omega)).mono ?_
          rintro e W3 ⟨rfl, hw3⟩
          rw [hw3]; clear hw3
          have hq2 : ¬ (k + (t : Int) + 1 + (nn : Int) + (rn : Int) < 0) := by omega
          go_wp2_with fail
          refine (HH.out ka kn kc bk ok Ms (k + t + 1 + nn + rn) w HKD.out HC3.out (by omega) (by rw [← HU.out]; omega) (by omega) (by rw [← HU.out]; omega)).mono ?_
          rintro e W4 ⟨rfl, hw4⟩
          rw [hw4, ← HU.out]; clear hw4
          have hq3 : ¬ (k + (t : Int) + 1 + (nn : Int) + (rn : Int) + (u : Int) < 0) := by omega
          go_wp2_with fail
          go_round
          case rel => exact ⟨j + 1, t + 1 + nn + rn + u, by omega, by go_num, HT4.out, by congr 1; push_cast; omega⟩
          case measure => simp [intOf]; omega
    · have hjn : j = n := by omega
      have HE : Hid (k + (t : Int) = k + (leafK b off Ls n).length) := by unfold Hid; rw [HT.out, hjn]
      clear ht hjn
      go_wp2_with fail
      go_ret
      exact ⟨ri HE.out, rfl⟩

theorem hxL_any : ∀ d, HxL d
  | 0 => hxL_of (fun d' h => by omega)
  | d + 1 => hxL_of (fun d' h => by obtain rfl : d = d' := (by omega); exact hxL_any d)

theorem LeafOk.below {w w' : World} {L : List (Addr × IntKind)} (h : LeafOk w L) (hb : Below w.heap.size w w') : LeafOk w' L := by
  intro x hx
  obtain ⟨⟨n, hn⟩, hf⟩ := h x hx
  have hlt := block_lt_of_cell hn
  exact ⟨⟨n, (hb.cell hlt).trans hn⟩, (World.frozen?_of_block (w := w) (hb.block _ hlt)).trans hf⟩

theorem Held.below {w w' : World} {L : List (Addr × IntKind)} (hb : Below w.heap.size w w') : ∀ {k : Int}, Held w L k → Held w' L k := by
  induction L with
  | nil => intro k _; trivial
  | cons x L ih =>
    intro k h
    obtain ⟨a, kd⟩ := x
    exact ⟨(hb.cell (block_lt_of_cell h.1)).trans h.1, ih h.2⟩

end Go.Proofs.YtckhjoancfbkfaaGreat
