/- slices.CompactFunc over a row of words: of neighbours that are alike the first one stays. -/
import Derived.Test.YtedihcjhfkdkjaaNG17
import Derived.Test.YtedihcjhfkdkjaaNG6
import Derived.Lib.SlicesCompact
import Derived.Lib.SliceRun
import Derived.Deep.LoopGhost
import Derived.Deep.RegionWith
namespace Go.Proofs.Ytedihcjhfkdkjaa
open Go.RowKit Go.Sort Go.Lib

abbrev OW := Option (List Int × (Nat × Nat))
def encW : OW → Value
  | none => .slice none 0 0
  | some x => wv x.1 x.2
def wdO : OW → List Int
  | none => []
  | some x => x.1

def kpW (d : Array OW) (j : Nat) : Bool := decide (j = 0) || !decide (wdO d[j]! = wdO d[j - 1]!)
def cpW (d : Array OW) : Nat → List OW
  | 0 => []
  | m + 1 => cpW d m ++ (if kpW d m = true then [d[m]!] else [])

theorem kpW_pos {d : Array OW} {m : Nat} (h : wdO d[m]! ≠ wdO d[m - 1]!) : kpW d m = true := by simp [kpW, h]
theorem kpW_neg {d : Array OW} {m : Nat} (hm : 0 < m) (h : wdO d[m]! = wdO d[m - 1]!) : kpW d m = false := by
  have : m ≠ 0 := by omega
  simp [kpW, h, this]
theorem kpW_one (d : Array OW) : ∀ j, j < 1 → kpW d j = true := by
  intro j hj
  have : j = 0 := by omega
  simp [kpW, this]
theorem cpW_all (d : Array OW) : ∀ m, (∀ j, j < m → kpW d j = true) → (cpW d m).length = m ∧ ∀ i, i < m → (cpW d m).getD i none = d[i]!
  | 0, _ => ⟨rfl, fun i hi => by omega⟩
  | m + 1, h => by
    obtain ⟨h1, h2⟩ := cpW_all d m (fun j hj => h j (by omega))
    rw [cpW, if_pos (h m (by omega))]
    refine ⟨by simp [h1], fun i hi => ?_⟩
    by_cases e : i < m
    · rw [getDw_lt _ _ _ _ (by rw [h1]; exact e)]; exact h2 i e
    · have e' : i = (cpW d m).length := by omega
      rw [e', getDw_eq, h1]
theorem cpW_le (d : Array OW) : ∀ m, (cpW d m).length ≤ m
  | 0 => Nat.le_refl _
  | m + 1 => by
    have := cpW_le d m
    rw [cpW, List.length_append]
    split <;> simp <;> omega

structure CInv (d : Array OW) (m kk : Nat) (dk : Array OW) : Prop where
  len : (cpW d m).length = kk
  size : dk.size = d.size
  lt : kk < m
  low : ∀ i, i < kk → dk[i]! = (cpW d m).getD i none
  high : ∀ i, kk ≤ i → dk[i]! = d[i]!

theorem CInv.start {d : Array OW} {k : Nat} (h : ∀ j, j < k → kpW d j = true) (hk : kpW d k = false) : CInv d (k + 1) k d := by
  obtain ⟨h1, h2⟩ := cpW_all d k h
  have e : cpW d (k + 1) = cpW d k := by rw [cpW, hk]; simp
  exact ⟨by rw [e, h1], rfl, by omega, fun i hi => by rw [e]; exact (h2 i hi).symm, fun _ _ => rfl⟩
theorem CInv.skip {d dk : Array OW} {m kk : Nat} (h : CInv d m kk dk) (hk : kpW d m = false) : CInv d (m + 1) kk dk := by
  have e : cpW d (m + 1) = cpW d m := by rw [cpW, hk]; simp
  exact ⟨by rw [e]; exact h.len, h.size, by have := h.lt; omega, fun i hi => by rw [e]; exact h.low i hi, h.high⟩
theorem CInv.keep {d dk : Array OW} {m kk : Nat} (h : CInv d m kk dk) (hm : m < d.size) (hk : kpW d m = true) : CInv d (m + 1) (kk + 1) (dk.setIfInBounds kk d[m]!) := by
  have e : cpW d (m + 1) = cpW d m ++ [d[m]!] := by rw [cpW, hk]; simp
  have h1 := h.len
  have h2 := h.lt
  have h3 := h.size
  refine ⟨by rw [e]; simp [h1], by simp [h3], by omega, fun i hi => ?_, fun i hi => ?_⟩
  · rw [e]
    by_cases c : i < kk
    · rw [getDw_lt _ _ _ _ (by omega), getElem!_set_other dk kk i _ (by omega)]; exact h.low i c
    · have c' : i = kk := by omega
      subst c'
      rw [getElem!_set_same dk i _ (by omega)]
      have := getDw_eq (cpW d m) d[m]! none
      rw [h1] at this
      exact this.symm
  · rw [getElem!_set_other dk kk i _ (by omega)]; exact h.high i (by omega)

theorem putRowW_other (w : World) (q blk : Nat) (dk : Array OW) {k : Nat} (h : k ≠ blk) : (putRow encW (Sort.ahead w q) blk 0 dk).heap[k]? = w.heap[k]? := by
  have : blk ≠ k := fun e => h e.symm
  simp [putRow, mapBlock, Sort.ahead, Array.getElem?_modify, this]

theorem storeW {w wr : World} {n blk : Nat} {dk : Array OW} {i : Nat} (hi : i < dk.size) (hwr : wr = putRow encW (Sort.ahead w n) blk 0 dk) (x : OW) (q : Nat) :
    ((wr.drewN q).setCell ⟨blk, i, none⟩ (encW x)) = putRow encW (Sort.ahead w (n + q)) blk 0 (dk.setIfInBounds i x) := by
  subst hwr
  have e : (putRow encW (Sort.ahead w n) blk 0 dk).drewN q = putRow encW (Sort.ahead w (n + q)) blk 0 dk := by
    show Sort.ahead (putRow encW (Sort.ahead w n) blk 0 dk) q = _
    rw [putRow_ahead encW w n, ahead_ahead, ← putRow_ahead]
  have := putRow_set encW (Sort.ahead w (n + q)) blk 0 dk i x hi
  rw [Nat.zero_add] at this
  rw [← this, e]

theorem wrap_nat {p : Nat} (h : p ≤ 1000000) : IntKind.i64.wrap (p : Int) = (p : Int) := wrap64_id (by omega)

theorem lay_size : ∀ (xs : List OW) (d : Array OW) (k : Nat), (Lib.lay d k xs).size = d.size
  | [], _, _ => rfl
  | x :: r, d, k => by rw [Lib.lay, lay_size r]; simp
theorem lay_low (xs : List OW) (d : Array OW) (k i : Nat) (h : i < k) (hk : k + xs.length ≤ d.size) : (Lib.lay d k xs)[i]! = d[i]! := by
  have := Lib.lay_get? xs d k i hk
  rw [if_neg (by omega)] at this
  simp only [getElem!_def, this]

/-- Where the words lie. -/
def RowsO (w : World) (blk : Nat) (d : Array OW) : Prop := ∀ j, j < d.size → ∃ z g c, d[j]! = some (z, (g, c)) ∧ RowG w g c z ∧ Byt z ∧ g ≠ blk ∧ c ≤ 9223372036854775807

theorem RowsO.rd {w : World} {blk : Nat} {d : Array OW} (h : RowsO w blk d) {j : Nat} (hj : j < d.size) : ∃ g c zl, encW d[j]! = .slice (some ⟨g, 0, none⟩) zl c ∧ ∀ W : World, (∀ k, k ≠ blk → k < w.heap.size → W.heap[k]? = w.heap[k]?) → Rd 0 w.heap.size W (some ⟨g, 0, none⟩) zl c (wdO d[j]!) := by
  obtain ⟨z, g, c, e, hr, hb, hne, hc⟩ := h j hj
  refine ⟨g, c, z.length, by rw [e]; rfl, fun W hW => ?_⟩
  rw [e]
  exact (hr.of_block (hW g hne hr.lt)).rd hb hc (Nat.zero_le _) hr.lt

set_option maxRecDepth 100000 in
set_option maxHeartbeats 4000000 in
theorem compact_any {d : Array OW} {blk cap : Nat} {w : World} (hH : Holds encW w blk 0 d) (hR : RowsO w blk d) (hn : d.size ≤ 1000) (hcap : d.size ≤ cap) :
    Calls Try.prog 30 #[.slice (some ⟨blk, 0, none⟩) d.size cap, .func (.func 31) #[] #[]] w fun e w' =>
      e = .returned (.slice (some ⟨blk, 0, none⟩) (cpW d d.size).length cap) ∧ ∃ q dk, w' = putRow encW (Sort.ahead w q) blk 0 dk ∧ dk.size = d.size ∧ ∀ i, i < (cpW d d.size).length → dk[i]! = (cpW d d.size).getD i none := by
  have HH : Hid (Holds encW w blk 0 d) := hH
  have HR : Hid (RowsO w blk d) := hR
  have HAll : Hid (∀ q, (∀ j, j < d.size → kpW d j = true) → (cpW d d.size).length = d.size ∧ w.drewN q = putRow encW (Sort.ahead w q) blk 0 d ∧ ∀ i, i < (cpW d d.size).length → d[i]! = (cpW d d.size).getD i none) := by
    intro q hall
    obtain ⟨h1, h2⟩ := cpW_all d d.size hall
    exact ⟨h1, (putRow_self encW (Sort.ahead w q) blk 0 d (holds_ahead encW w q blk 0 d hH)).symm, fun i hi => (h2 i (by omega)).symm⟩
  obtain ⟨n, hnn⟩ : ∃ n, n = d.size := ⟨_, rfl⟩
  have HN : Hid (n = d.size) := hnn
  rw [← hnn] at hn hcap ⊢
  clear hH hR hnn
  by_cases h2 : n < 2
  · have hi2 : (n : Int) < 2 := by omega
    go_enter Try.func30, Try.ntmps30
    go_wp2_with fail
    go_ret
    obtain ⟨e1, e2, e3⟩ := HAll.out 0 (fun j hj => kpW_one d j (by rw [← HN.out] at hj; omega))
    rw [← HN.out] at e1 e3
    exact ⟨by rw [e1]; rfl, 0, d, e2, HN.out.symm, e3⟩
  · have hi2 : ¬ (n : Int) < 2 := by omega
    go_enter Try.func30, Try.ntmps30
    go_wp2_with fail
    go_loopg [5] n (fun g s3 wr => ∃ k q : Nat, 1 ≤ k ∧ k ≤ n ∧ n - k ≤ g ∧ s3 = .int .i64 k ∧ wr = w.drewN q ∧ ∀ j, j < k → kpW d j = true)
    case atStart => exact ⟨1, 0, Nat.le_refl _, by omega, by omega, rfl, rfl, kpW_one d⟩
    case round =>
      obtain ⟨k, q, hk1, hk, hg, rfl, rfl, hall⟩ := hrel
      have A : Hid (∀ j, j < k → kpW d j = true) := hall
      clear hall
      by_cases hlt : k < n
      · obtain ⟨p, hp⟩ : ∃ p, p + 1 = k := ⟨k - 1, by omega⟩
        have HP : Hid (p + 1 = k) := hp
        have hki : (k : Int) < (n : Int) := by omega
        have hpi : (p : Int) < (n : Int) := by omega
        have hpn : p < n := by omega
        have hwk : IntKind.i64.wrap ((k : Int) - 1) = (p : Int) := by rw [show (k : Int) - 1 = (p : Int) by omega]; exact wrap_nat (by omega)
        obtain ⟨c1, f1⟩ := HH.out k (by rw [← HN.out]; exact hlt)
        obtain ⟨c0, f0⟩ := HH.out p (by rw [← HN.out]; omega)
        rw [Nat.zero_add] at c1 c0
        obtain ⟨g1, cc1, z1, e1, r1⟩ := HR.out.rd (j := k) (by rw [← HN.out]; exact hlt)
        obtain ⟨g0, cc0, z0, e0, r0⟩ := HR.out.rd (j := p) (by rw [← HN.out]; omega)
        rw [e1] at c1
        rw [e0] at c0
        obtain ⟨b, hb⟩ : ∃ b, b = decide (wdO d[k]! = wdO d[p]!) := ⟨_, rfl⟩
        have HBq : Hid (b = decide (wdO d[k]! = wdO d[p]!)) := hb
        have HU : Hid (∀ V : World, (∀ i : Nat, V.heap[i]? = w.heap[i]?) → Calls Try.prog 31 #[.slice (some ⟨g1, 0, none⟩) z1 cc1, .slice (some ⟨g0, 0, none⟩) z0 cc0] V fun e w' => e = .returned (.bool b) ∧ w' = V) := by
          intro V hV
          rw [hb]
          exact bytesEqual_any (r1 V (fun k _ _ => hV k)) (r0 V (fun k _ _ => hV k))
        clear e1 e0 r1 r0 f1 f0 hb hp
        cases b with
        | true =>
          go_wp2_with fail
          go_region_with (go_at_call 31; refine (HU.out (w.drewN (q + 1)) (fun _ => rfl)).mono ?_; rintro e w' ⟨rfl, rfl⟩)
          all_goals
            clear c1 c0
            go_wp2_with fail
            go_loopg [5, 7] n (fun g s5 s7 wr => ∃ (kk k2 q2 : Nat) (dk : Array OW), s5 = .int .i64 kk ∧ s7 = .int .i64 k2 ∧ 1 ≤ k2 ∧ k + k2 ≤ n ∧ n - (k + k2) ≤ g ∧ wr = putRow encW (Sort.ahead w q2) blk 0 dk ∧ CInv d (k + k2) kk dk)
            case atStart => exact ⟨k, 1, q + 1, d, rfl, rfl, Nat.le_refl _, by omega, by omega, (putRow_self encW (Sort.ahead w (q + 1)) blk 0 d (holds_ahead encW w (q + 1) blk 0 d HH.out)).symm, CInv.start A.out (kpW_neg (by omega) (by rw [show k - 1 = p by have := HP.out; omega]; exact of_decide_eq_true HBq.out.symm))⟩
            case round =>
              obtain ⟨kk, k2, q2, dk, rfl, rfl, h1, hle, hg2, hwr, hI⟩ := hrel
              have hkk := hI.lt
              have hds := hI.size
              have hHk : Holds encW wr blk 0 dk := by rw [hwr]; exact holds_putRow encW _ blk 0 d dk (holds_ahead encW w q2 blk 0 d HH.out) hds
              have W2 : Hid (wr = putRow encW (Sort.ahead w q2) blk 0 dk) := hwr
              have I2 : Hid (CInv d (k + k2) kk dk) := hI
              rw [← HN.out] at hds
              have hkn : kk < n := by omega
              have hknI : (kk : Int) < (n : Int) := by omega
              by_cases hlt2 : k + k2 < n
              · obtain ⟨p2, hp2⟩ : ∃ p2, p2 + 1 = k2 := ⟨k2 - 1, by omega⟩
                have HP2 : Hid (p2 + 1 = k2) := hp2
                have hwk2 : IntKind.i64.wrap ((k2 : Int) - 1) = (p2 : Int) := by rw [show (k2 : Int) - 1 = (p2 : Int) by omega]; exact wrap_nat (by omega)
                obtain ⟨m, hm⟩ : ∃ m, m = n - k := ⟨_, rfl⟩
                have hmi : (k2 : Int) < (m : Int) := by omega
                have hmn : k2 < m := by omega
                have hpm : p2 < m := by omega
                have hpmi : (p2 : Int) < (m : Int) := by omega
                obtain ⟨cm, _⟩ := hHk (k + k2) (by omega)
                obtain ⟨cp, _⟩ := hHk (k + p2) (by omega)
                obtain ⟨ck, fk⟩ := hHk kk (by omega)
                rw [hI.high (k + k2) (by omega)] at cm
                rw [hI.high (k + p2) (by omega)] at cp
                rw [Nat.zero_add] at cm cp ck fk
                obtain ⟨gm, ccm, zm, em, rm⟩ := HR.out.rd (j := k + k2) (by rw [← HN.out]; exact hlt2)
                obtain ⟨gp, ccp, zp, ep, rp⟩ := HR.out.rd (j := k + p2) (by rw [← HN.out]; omega)
                rw [em] at cm
                rw [ep] at cp
                have HEm : Hid (encW d[k + k2]! = .slice (some ⟨gm, 0, none⟩) zm ccm) := em
                obtain ⟨bb, hbb⟩ : ∃ b, b = decide (wdO d[k + k2]! = wdO d[k + p2]!) := ⟨_, rfl⟩
                have HBB : Hid (bb = decide (wdO d[k + k2]! = wdO d[k + p2]!)) := hbb
                have HU2 : Hid (∀ V : World, (∀ i : Nat, V.heap[i]? = wr.heap[i]?) → Calls Try.prog 31 #[.slice (some ⟨gm, 0, none⟩) zm ccm, .slice (some ⟨gp, 0, none⟩) zp ccp] V fun e w' => e = .returned (.bool bb) ∧ w' = V) := by
                  intro V hV
                  rw [hbb]
                  exact bytesEqual_any (rm V (fun k hk _ => by rw [hV k, W2.out]; exact putRowW_other w q2 blk dk hk)) (rp V (fun k hk _ => by rw [hV k, W2.out]; exact putRowW_other w q2 blk dk hk))
                rw [← hm]
                generalize encW dk[kk]! = old at ck
                clear em ep rm rp hbb hp2 hwr hI hHk
                cases bb with
                | true =>
                  go_wp2_with fail
                  go_region_with (go_at_call 31; refine (HU2.out wr.drew (fun _ => rfl)).mono ?_; rintro e w' ⟨rfl, rfl⟩)
                  all_goals
                   go_wp2_with fail
                   go_roundg (n - (k + (k2 + 1)))
                   case measure => omega
                   case rel => exact ⟨kk, k2 + 1, q2 + 1, dk, rfl, by go_num, by omega, by omega, by omega, by rw [W2.out]; rfl, I2.out.skip (kpW_neg (by omega) (by rw [show k + k2 - 1 = k + p2 by have := HP2.out; omega]; exact of_decide_eq_true HBB.out.symm))⟩
                | false =>
                  go_wp2_with fail
                  go_region_with (go_at_call 31; refine (HU2.out wr.drew (fun _ => rfl)).mono ?_; rintro e w' ⟨rfl, rfl⟩)
                  all_goals
                   go_wp2_with fail
                   go_roundg (n - (k + (k2 + 1)))
                   case measure => omega
                   case rel => exact ⟨kk + 1, k2 + 1, q2 + 1, dk.setIfInBounds kk d[k + k2]!, by go_num, by go_num, by omega, by omega, by omega, by rw [← HEm.out]; exact storeW (by omega) W2.out _ 1, I2.out.keep (by rw [← HN.out]; exact hlt2) (kpW_pos (by rw [show k + k2 - 1 = k + p2 by have := HP2.out; omega]; exact of_decide_eq_false HBB.out.symm))⟩
              · have hend : k + k2 = n := by omega
                obtain ⟨m, hm⟩ : ∃ m, m = n - k := ⟨_, rfl⟩
                have hmi : ¬ (k2 : Int) < (m : Int) := by omega
                have hcl : ∀ ty, (Builtin.clear_ #[33] ty #[.slice (some ⟨blk, kk, none⟩) (n - kk) (cap - kk)]).run Try.prog wr = .ok (.tuple #[]) (wr.setCells blk kk (List.replicate (n - kk) (.slice none 0 0))) :=
                  fun ty => Lib.run_clear_slice wr _ 22 ty (.slice none 0 0) Try.undBSS (fun w => by kernel_rfl) rfl rfl blk kk _ _ (by omega) (fun j hj => by have := (hHk (kk + j) (by omega)).1; rw [Nat.zero_add] at this; rw [this]; rfl) (fun j hj => by have := (hHk (kk + j) (by omega)).2; rw [Nat.zero_add] at this; exact this)
                rw [← hm]
                clear hHk hI hwr
                go_wp2_with fail
                go_ret
                have hI := I2.out
                rw [hend] at hI
                have hI' : CInv d n kk dk := hI
                refine ⟨by rw [hI'.len]; rfl, q2, Lib.lay dk kk (List.replicate (n - kk) none), ?_, by rw [lay_size]; exact hds, fun i hi => ?_⟩
                · have := putRow_setCells encW (Sort.ahead w q2) blk 0 (List.replicate (n - kk) none) dk kk (by simp; omega)
                  rw [Nat.zero_add, List.map_replicate, ← W2.out] at this
                  exact this
                · rw [hI'.len] at hi
                  rw [lay_low _ _ _ _ hi (by simp; omega)]
                  exact hI'.low i hi
        | false =>
          go_wp2_with fail
          go_region_with (go_at_call 31; refine (HU.out (w.drewN (q + 1)) (fun _ => rfl)).mono ?_; rintro e w' ⟨rfl, rfl⟩)
          all_goals
           go_wp2_with fail
           go_roundg (n - (k + 1))
           case measure => omega
           case rel =>
            refine ⟨k + 1, q + 1, by omega, by omega, Nat.le_refl _, by go_num, by first | rfl | exact drew_add _ _ _, fun j hj => ?_⟩
            by_cases e : j = k
            · subst e
              refine kpW_pos ?_
              rw [show j - 1 = p by have := HP.out; omega]
              exact of_decide_eq_false HBq.out.symm
            · exact A.out j (by omega)
      · have hkn : k = n := by omega
        subst hkn
        have hki : ¬ (k : Int) < (k : Int) := by omega
        go_wp2_with fail
        go_ret
        obtain ⟨e1, e2, e3⟩ := HAll.out q (fun j hj => A.out j (by rw [HN.out]; exact hj))
        rw [← HN.out] at e1 e3
        exact ⟨by rw [e1]; rfl, q, d, e2, HN.out.symm, e3⟩

end Go.Proofs.Ytedihcjhfkdkjaa
