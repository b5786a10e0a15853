/- Where a word is among words: as mathematics; spec.l4find, l4element, l4in, InSet. -/
import Derived.Test.YtpedjcabapldgaaDoorWdImpl3
namespace Go.Proofs.YtpedjcabapldgaaDoor
open Go.RowKit

def keyL (zs : List Int) : List UInt8 := (strOfNums zs).toList
def hit (l : List (List Int)) (wd : List Int) (i : Nat) : Bool := keyL (l.getD i []) == keyL wd
def idxO (l : List (List Int)) (wd : List Int) : Option Nat := (List.range l.length).find? (hit l wd)
def idxZ (l : List (List Int)) (wd : List Int) : Int := match idxO l wd with | some i => (i : Int) | none => -1
def flagO (l : List (List Int)) (s : List (List Bool)) (wd : List Int) (q : Nat) : Bool := match idxO l wd with | some i => (s.getD i []).getD q false | none => false
def inSetB (x : WD) (wd : List Int) (z : Int) : Bool := worldB x && (hasB x.n z && flagO x.names x.sets wd z.toNat)

theorem idx_some {l : List (List Int)} {wd : List Int} {i : Nat} (hi : i < l.length) (he : hit l wd i = true) (hm : ∀ j, j < i → hit l wd j = false) : idxO l wd = some i := by
  unfold idxO
  rw [List.find?_range_eq_some]
  exact ⟨he, by simpa using hi, fun j hj => by simp [hm j hj]⟩

theorem idx_none {l : List (List Int)} {wd : List Int} (h : ∀ i, i < l.length → hit l wd i = false) : idxO l wd = none := by
  unfold idxO
  rw [List.find?_range_eq_none]
  exact fun i hi => by simp [h i hi]

theorem idx_of {l : List (List Int)} {wd : List Int} {i : Nat} (h : idxO l wd = some i) : i < l.length := by
  unfold idxO at h
  rw [List.find?_range_eq_some] at h
  simpa using h.2.1

set_option maxRecDepth 100000 in
set_option maxHeartbeats 8000000 in
theorem l4find_any (a : Option Addr) (n cap : Nat) (xs : List (List Int)) (wa : Option Addr) (wn wc : Nat) (wd : List Int) (w : World) {lo hi lo' hi' : Nat} (h : RSS lo hi w a n cap xs) (h' : Rd lo' hi' w wa wn wc wd) :
    Calls Tryd.prog 27 #[.slice a n cap, .slice wa wn wc] w fun e w' => e = .returned (.int .i64 (idxZ xs wd)) ∧ ∃ nd, w' = w.drewN nd := by
  have HR : Hid (RSS lo hi w a n cap xs) := h
  have HW : Hid (Rd lo' hi' w wa wn wc wd) := h'
  have HL : Hid (xs.length = n) := h.len
  have hf := h.fits
  clear h h'
  go_enter Tryd.func27, Tryd.ntmps27
  go_wp2_with fail
  go_loopw [5] (fun i wr => ∃ k : Nat, k ≤ n ∧ i = .int .i64 k ∧ (∀ j, j < k → hit xs wd j = false) ∧ ∃ nd, wr = w.drewN nd) (fun i _ => n - (intOf i).toNat)
  case atStart => exact ⟨0, Nat.zero_le _, rfl, fun j hj => by omega, 0, rfl⟩
  case round =>
    obtain ⟨k, hk, rfl, hall, nd, hwr⟩ := hrel
    have HD : Hid (wr = w.drewN nd) := hwr
    have HR1 : Hid (RSS lo hi wr a n cap xs) := by unfold Hid; rw [hwr]; exact HR.out.same (fun _ _ _ => rfl)
    have HW1 : Hid (Rd lo' hi' wr wa wn wc wd) := by unfold Hid; rw [hwr]; exact HW.out.same (fun _ _ _ => rfl)
    have HAll : Hid (∀ j, j < k → hit xs wd j = false) := hall
    clear hall hwr
    by_cases hlt : k < n
    · rcases HR1.out.cells with hz | ⟨b, off, e1, _, _, hc⟩
      · omega
      · subst e1
        obtain ⟨v, c0, ea, en, ec, rfl, hr⟩ := hc k hlt
        have HE : Hid (Rd lo hi wr ea en ec (xs.getD k [])) := hr
        have hki : (k : Int) < (n : Int) := by omega
        have hcv0 : ∀ m, (convert 27 9 (.slice ea en ec)).run Tryd.prog (wr.drewN m) = .ok (.string (strOfNums (xs.getD k []))) (wr.drewN m) := fun m => conv_any (HE.out.same (fun _ _ _ => rfl))
        have hcv1 : ∀ m, (convert 27 9 (.slice wa wn wc)).run Tryd.prog (wr.drewN m) = .ok (.string (strOfNums wd)) (wr.drewN m) := fun m => conv_any (HW1.out.same (fun _ _ _ => rfl))
        obtain ⟨eq, heq⟩ : ∃ eq, eq = hit xs wd k := ⟨_, rfl⟩
        have HEq : Hid (eq = hit xs wd k) := heq
        obtain ⟨sx, hsx⟩ : ∃ s, s = strOfNums (xs.getD k []) := ⟨_, rfl⟩
        obtain ⟨sy, hsy⟩ : ∃ s, s = strOfNums wd := ⟨_, rfl⟩
        have hbl : (sx.toList == sy.toList) = eq := by rw [hsx, hsy, heq]; rfl
        rw [← hsx] at hcv0
        rw [← hsy] at hcv1
        clear hc hr heq hsx hsy
        cases eq with
        | true =>
          have HG : Hid (idxZ xs wd = (k : Int)) := by unfold Hid idxZ; rw [idx_some (by rw [HL.out]; exact hlt) HEq.out.symm HAll.out]
          go_wp2_with fail
          go_quiet (fail)
          go_wp2_with fail
          go_ret
          exact ⟨ri HG.out.symm, nd + nq, by rw [HD.out]; first | rfl | exact drew_add _ _ _⟩
        | false =>
          have HS : Hid (∀ j, j < k + 1 → hit xs wd j = false) := fun j hj => by
            by_cases hjk : j = k
            · subst hjk; exact HEq.out.symm
            · exact HAll.out j (by omega)
          go_wp2_with fail
          go_quiet (fail)
          go_wp2_with fail
          go_roundw
          case rel => exact ⟨k + 1, by omega, by go_num, HS.out, nd + nq, by rw [HD.out]; first | rfl | exact drew_add _ _ _⟩
          case measure => simp [intOf]; omega
    · have HG : Hid (idxZ xs wd = -1) := by unfold Hid idxZ; rw [idx_none (fun i hi => HAll.out i (by rw [HL.out] at hi; omega))]
      go_wp2_with fail
      go_ret
      exact ⟨ri HG.out.symm, nd, HD.out⟩

/-- A flag of a list of flags: its cell. -/
theorem flag_cell {lo hi : Nat} {w : World} {a : Option Addr} {n cap : Nat} {s : List (List Bool)} (h : RFF lo hi w a n cap s) {i q : Nat} (hi' : i < n) (hq : q < (s.getD i []).length) :
    ∃ b off, a = some ⟨b, off, none⟩ ∧ ∃ b2 o2 m c, w.cell? ⟨b, off + i, none⟩ = some (.slice (some ⟨b2, o2, none⟩) m c) ∧ q < m ∧ w.cell? ⟨b2, o2 + q, none⟩ = some (.bool ((s.getD i []).getD q false)) := by
  rcases h.cells with hz | ⟨b, off, e, _, _, hc⟩
  · omega
  · obtain ⟨v, c0, ea, en, ec, rfl, hr⟩ := hc i hi'
    have hl := hr.len
    rcases hr.cells with hz | ⟨b2, o2, e2, _, _, hc2⟩
    · omega
    · obtain ⟨v2, c2, rfl⟩ := hc2 q (by omega)
      subst e2
      exact ⟨b, off, e, b2, o2, en, ec, c0, by omega, c2⟩

theorem flags_long {s : List (List Bool)} {m : Int} (h : flagsB s m = true) {i : Nat} (hi : i < s.length) : ((s.getD i []).length : Int) = m := by
  unfold flagsB at h
  rw [List.all_eq_true] at h
  simpa using h i (by simpa using hi)

end Go.Proofs.YtpedjcabapldgaaDoor
