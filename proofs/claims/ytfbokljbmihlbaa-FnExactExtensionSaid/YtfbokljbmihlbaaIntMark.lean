/- Marking a list of numbers, and looking for the marks. -/
import Derived.Test.YtfbokljbmihlbaaOwnI
namespace Go.Proofs.Ytfbokljbmihlbaa
open Go.RowKit

theorem wrapI {z : Int} (h0 : 0 ≤ z) (h1 : z ≤ 2147483648) : IntKind.i64.wrap z = z := by
  simp [IntKind.wrap, IntKind.bits, IntKind.signed] <;> omega

theorem leafI_succ (b off n : Nat) : leafI b off (n + 1) = leafI b off n ++ [(⟨b, off + n, none⟩, .i64)] := by simp [leafI, List.range_succ]
theorem leafI_length (b off n : Nat) : (leafI b off n).length = n := by simp [leafI]

set_option maxHeartbeats 400000 in
theorem markIntS_any (a : Option Addr) (n cap : Nat) (k : Int) (w : World) (b off : Nat) (ha : n = 0 ∨ a = some ⟨b, off, none⟩) (hL : LeafOk w (leafI b off n)) (hn : n ≤ 1048576) (hk : 0 ≤ k ∧ k ≤ 1073741824) :
    Calls Try.prog 16 #[.slice a n cap, .int .i64 k] w fun e w' => e = .returned (.int .i64 (k + n)) ∧ w' = marks w (leafI b off n) k := by
  obtain ⟨hk0, hk1⟩ := hk
  rcases ha with h0 | rfl
  · subst h0
    clear hL
    go_enter Try.func16, Try.ntmps16
    go_wp2
    refine wp_loop_rounds 1 ?_
    rw [rounds_succ]
    go_wp2
    go_ret
    exact ⟨ri (by simp), rfl⟩
  · have HL : Hid (LeafOk w (leafI b off n)) := hL
    clear hL
    go_enter Try.func16, Try.ntmps16
    go_wp2
    go_loopw [1, 5] (fun q i wr => ∃ j : Nat, j ≤ n ∧ i = .int .i64 j ∧ q = .int .i64 (k + j) ∧ wr = marks w (leafI b off j) k) (fun _ i _ => n - (intOf i).toNat)
    case atStart => exact ⟨0, Nat.zero_le _, rfl, by simp, rfl⟩
    case round =>
      obtain ⟨j, hj, rfl, rfl, hwr⟩ := hrel
      by_cases hlt : j < n
      · have hsub : ∀ x ∈ leafI b off j, x ∈ leafI b off n := by
          intro x hx; simp only [leafI, List.mem_map, List.mem_range] at hx ⊢; obtain ⟨i, hi, e⟩ := hx; exact ⟨i, by omega, e⟩
        have hLj : LeafOk w (leafI b off j) := fun x hx => HL.out x (hsub x hx)
        have hmem : ((⟨b, off + j, none⟩ : Addr), IntKind.i64) ∈ leafI b off n := by simp only [leafI, List.mem_map, List.mem_range]; exact ⟨j, hlt, rfl⟩
        have hOk := (hLj.marks HL.out k).1 _ hmem
        rw [← hwr] at hOk
        obtain ⟨⟨m, hm⟩, hf⟩ := hOk
        have HW : Hid (wr.setCell ⟨b, off + j, none⟩ (.int .i64 (k + j)) = marks w (leafI b off (j + 1)) k) := by
          unfold Hid; rw [leafI_succ, marks_append, ← hwr, leafI_length]; simp only [marks]; rw [wrapI (by omega) (by omega)]
        clear hsub hLj hmem hwr
        go_wp2
        go_roundw
        case rel => exact ⟨j + 1, by omega, by go_num, by go_num, HW.out⟩
        case measure => simp [intOf]; omega
      · have hjn : j = n := by omega
        have HW : Hid (wr = marks w (leafI b off n) k) := by rw [← hjn]; exact hwr
        have HE : Hid (k + (j : Int) = k + n) := by unfold Hid; omega
        clear hwr hjn
        go_wp2
        go_ret
        exact ⟨ri HE.out, HW.out⟩

set_option maxHeartbeats 400000 in
theorem heldIntS_any (a : Option Addr) (n cap : Nat) (k : Int) (w : World) (b off : Nat) (ha : n = 0 ∨ a = some ⟨b, off, none⟩) (hc : ∀ j, j < n → w.cell? ⟨b, off + j, none⟩ = some (.int .i64 (k + j))) (hn : n ≤ 1048576) (hk : 0 ≤ k ∧ k ≤ 1073741824) :
    Calls Try.prog 17 #[.slice a n cap, .int .i64 k] w fun e w' => e = .returned (.int .i64 (k + n)) ∧ w' = w := by
  obtain ⟨hk0, hk1⟩ := hk
  rcases ha with h0 | rfl
  · subst h0
    clear hc
    go_enter Try.func17, Try.ntmps17
    go_wp2
    refine wp_loop_rounds 1 ?_
    rw [rounds_succ]
    go_wp2
    go_ret
    exact ⟨ri (by simp), rfl⟩
  · have HC : Hid (∀ j, j < n → w.cell? ⟨b, off + j, none⟩ = some (.int .i64 (k + j))) := hc
    clear hc
    go_enter Try.func17, Try.ntmps17
    go_wp2
    go_loop [1, 5] (fun q i => ∃ j : Nat, j ≤ n ∧ i = .int .i64 j ∧ q = .int .i64 (k + j)) (fun _ i => n - (intOf i).toNat)
    case atStart => exact ⟨0, Nat.zero_le _, rfl, by simp⟩
    case round =>
      obtain ⟨j, hj, rfl, rfl⟩ := hrel
      by_cases hlt : j < n
      · have hm := HC.out j hlt
        go_wp2
        go_round
        case rel => exact ⟨j + 1, by omega, by go_num, by go_num⟩
        case measure => simp [intOf]; omega
      · have HE : Hid (k + (j : Int) = k + n) := by unfold Hid; omega
        go_wp2
        go_ret
        exact ⟨ri HE.out, rfl⟩

theorem held_leafI {w : World} {b off : Nat} {k : Int} : ∀ {n : Nat}, Held w (leafI b off n) k → ∀ j, j < n → w.cell? ⟨b, off + j, none⟩ = some (.int .i64 (IntKind.i64.wrap (k + j))) := by
  intro n
  induction n with
  | zero => intro _ j hj; omega
  | succ n ih =>
    intro h j hj
    rw [leafI_succ, held_append, leafI_length] at h
    by_cases e : j = n
    · subst e; exact h.2.1
    · exact ih h.1 j (by omega)

end Go.Proofs.Ytfbokljbmihlbaa
