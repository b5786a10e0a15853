/- Which words are the language's own: the program's switch and the model's list, a contract each, for every list of bytes. -/
import Derived.Test.YthojlfcahhjfaaaConv
namespace Go.Proofs.Ythojlfcahhjfaaa
open Go.RowKit

/-- Top, Bot, Not, And, Or, Some, All, Sub, Eq, Dis, Role, Is, Rel, by their bytes. -/
def keptWords : List (List UInt8) := [[84, 111, 112], [66, 111, 116], [78, 111, 116], [65, 110, 100], [79, 114], [83, 111, 109, 101], [65, 108, 108], [83, 117, 98], [69, 113], [68, 105, 115], [82, 111, 108, 101], [73, 115], [82, 101, 108]]
def keptB (l : List UInt8) : Bool := (l == [84, 111, 112]) || ((l == [66, 111, 116]) || ((l == [78, 111, 116]) || ((l == [65, 110, 100]) || ((l == [79, 114]) || ((l == [83, 111, 109, 101]) || ((l == [65, 108, 108]) || ((l == [83, 117, 98]) || ((l == [69, 113]) || ((l == [68, 105, 115]) || ((l == [82, 111, 108, 101]) || ((l == [73, 115]) || (l == [82, 101, 108]))))))))))))

set_option maxRecDepth 100000 in
set_option maxHeartbeats 1000000 in
theorem implKept_any (a : Option Addr) (n cap : Nat) (zs : List Int) (w : World) {lo hi : Nat} (h : Rd lo hi w a n cap zs) :
    Calls Try.prog 17 #[.slice a n cap] w fun e w' => e = .returned (.bool (keptB (strOfNums zs).toList)) ∧ w' = w := by
  have hcv := conv_any h
  obtain ⟨s, hs⟩ : ∃ s, s = strOfNums zs := ⟨_, rfl⟩
  rw [← hs] at hcv ⊢
  clear hs h
  go_enter Try.func17, Try.ntmps17
  go_wp2
  all_goals
    go_ret
    refine ⟨rb ?_, rfl⟩
    clear hcv
    first | (simp only [keptB, *, Bool.true_or, Bool.false_or]; done) | (exfalso; simp_all; done)

theorem keptB_eq (l : List UInt8) : keptB l = keptWords.any (fun x => x == l) := by
  simp only [keptB, keptWords, List.any_cons, List.any_nil, Bool.or_false, Bool.beq_comm (a := l)]

def wordVal (j : Nat) : Value := .string ⟨(keptWords.getD j []).toArray⟩

theorem toList_mk (l : List UInt8) : (ByteArray.mk l.toArray).toList = l := by
  rw [ByteArray.toList_eq]

theorem any_take_succ (k : Nat) (hk : k < 13) (l : List UInt8) : (keptWords.take (k + 1)).any (fun x => x == l) = ((keptWords.take k).any (fun x => x == l) || (keptWords.getD k [] == l)) := by
  have : k < keptWords.length := by simp [keptWords]; omega
  rw [List.take_succ_eq_append_getElem this, List.any_append]; simp [List.getD, this]

theorem any_true_of (k : Nat) (hk : k < 13) (l : List UInt8) (h : (keptWords.getD k [] == l) = true) : keptB l = true := by
  have hk' : k < keptWords.length := by simp [keptWords]; omega
  rw [keptB_eq, List.any_eq_true]
  exact ⟨keptWords[k], List.getElem_mem hk', by simpa [List.getD, hk'] using h⟩

set_option maxRecDepth 100000 in
set_option maxHeartbeats 1000000 in
theorem specKept_any (a : Option Addr) (n cap : Nat) (zs : List Int) (w : World) {lo hi : Nat} (h : Rd lo hi w a n cap zs) (hhi : hi ≤ w.heap.size) :
    Calls Try.prog 95 #[.slice a n cap] w fun e w' => e = .returned (.bool (keptB (strOfNums zs).toList)) ∧ Below w.heap.size w w' := by
  have H : Hid (Rd lo hi w a n cap zs) := h
  clear h
  obtain ⟨s, HS⟩ : ∃ s, Hid (s = strOfNums zs) := ⟨_, rfl⟩
  rw [← HS.out]
  go_enter Try.func95, Try.ntmps95
  go_wp2
  go_loopw [4] (fun i wr => ∃ k : Nat, k ≤ 13 ∧ i = .int .i64 k ∧ wr.rowIs w.heap.size 9 13 wordVal ∧ Below w.heap.size w wr ∧ (keptWords.take k).any (fun x => x == s.toList) = false) (fun i _ => 13 - (intOf i).toNat)
  case atStart =>
    refine ⟨0, Nat.zero_le _, rfl, ?_, (Below.refl _ _).alloc (Nat.le_refl _) _, by simp⟩
    refine World.rowIs_alloc w _ 9 wordVal (fun i hi => ?_)
    simp at hi
    match i, hi with
    | 0, _ | 1, _ | 2, _ | 3, _ | 4, _ | 5, _ | 6, _ | 7, _ | 8, _ | 9, _ | 10, _ | 11, _ | 12, _ => rfl
  case round =>
    obtain ⟨k, hk, rfl, hrow, hbel, hany⟩ := hrel
    have HN : Hid ((keptWords.take k).any (fun x => x == s.toList) = false) := hany
    clear hany
    by_cases hlt : k < 13
    · have hki : (k : Int) < 13 := by omega
      obtain ⟨t, HT⟩ : ∃ t, Hid (t = ByteArray.mk (keptWords.getD k []).toArray) := ⟨_, rfl⟩
      have hcell : wr.cell? ⟨w.heap.size, k, none⟩ = some (.string t) := by rw [HT.out]; exact hrow.cell hlt
      have hcv : ∀ m, (convert 22 9 (.slice a n cap)).run Try.prog (wr.drewN m) = .ok (.string s) (wr.drewN m) := by
        intro m; rw [HS.out]; exact conv_any (H.out.below (below_drewN hbel m) hhi)
      have HR : Hid (wr.rowIs w.heap.size 9 13 wordVal) := hrow
      have HB : Hid (Below w.heap.size w wr) := hbel
      clear hrow hbel
      cases hb : (t.toList == s.toList)
      · have HF : Hid ((keptWords.take (k + 1)).any (fun x => x == s.toList) = false) := by
          unfold Hid; rw [any_take_succ k hlt, HN.out, Bool.false_or]; rw [HT.out, toList_mk] at hb; exact hb
        go_wp2
        go_quiet (fail)
        go_wp2
        go_roundw
        case rel => exact ⟨k + 1, by omega, by go_num, World.rowIs.of_block HR.out rfl, below_drewN HB.out _, HF.out⟩
        case measure => simp [intOf]; omega
      · have HF : Hid (keptB s.toList = true) := any_true_of k hlt _ (by rw [HT.out, toList_mk] at hb; exact hb)
        go_wp2
        go_quiet (fail)
        go_wp2
        go_ret
        exact ⟨rb HF.out.symm, below_drewN HB.out _⟩
    · have HF : Hid (keptB s.toList = false) := by
        have e : keptWords.take k = keptWords := List.take_of_length_le (by simp [keptWords]; omega)
        unfold Hid; rw [keptB_eq, ← e]; exact HN.out
      have HB : Hid (Below w.heap.size w wr) := hbel
      clear hrow hbel
      go_wp2
      go_ret
      exact ⟨rb HF.out.symm, HB.out⟩

end Go.Proofs.Ythojlfcahhjfaaa
