/- Several texts in one: LawWords, HasA. -/
import Derived.Test.YtnmljalcndfjmaaGreatNG18
import Derived.Test.YtnmljalcndfjmaaGreatNG10
import Derived.Lib.SlBytesConst
import Derived.Test.YtnmljalcndfjmaaGreatNG17
namespace Go.Proofs.YtnmljalcndfjmaaGreat

section
open Go.RowKit

/-- A constant list of bytes in memory. -/
theorem rd_lits (w : World) (zs : List Int) (mk : Nat × Nat) (hn : zs.length ≤ 1000) (hby : ∀ i, 0 ≤ zs.getD i 0 ∧ zs.getD i 0 ≤ 255) :
    Rd w.heap.size (w.heap.size + 1) (w.alloc (.cells (zs.map (Value.int .u8)).toArray 5 mk)) (some ⟨w.heap.size, 0, none⟩) zs.length zs.length zs := by
  refine ⟨rfl, ⟨Nat.le_refl _, by omega⟩, hby, .inr ⟨_, _, rfl, Nat.le_refl _, Nat.lt_succ_self _, fun i hi => ?_⟩⟩
  have hb : (w.alloc (.cells (zs.map (Value.int .u8)).toArray 5 mk)).heap[w.heap.size]? = some (.cells (zs.map (Value.int .u8)).toArray 5 mk) := by
    show (w.heap.push _)[w.heap.size]? = _
    simp
  unfold World.cell?
  simp only []
  rw [hb]
  simp [List.getD, hi]

set_option maxHeartbeats 400000 in
theorem same_any (a a' : Option Addr) (n cap n' cap' : Nat) (zs : List Int) (w : World) {lo hi lo' hi' : Nat} (h : Rd lo hi w a n cap zs) (h' : Rd lo' hi' w a' n' cap' zs) :
    Calls Tryz.prog 38 #[.slice a n cap, .slice a' n' cap'] w fun e w' => e = .returned (.bool true) ∧ w' = w := by
  have hc := conv_any h
  have hc' := conv_any h'
  obtain ⟨s, hs⟩ : ∃ s, s = strOfNums zs := ⟨_, rfl⟩
  rw [← hs] at hc hc'
  have hq : (s.toList == s.toList) = true := by simp
  clear hs h h'
  go_enter Tryz.func38, Tryz.ntmps38
  go_wp2
  go_ret
  exact ⟨rfl, rfl⟩

theorem readLit : conRead [83, 111, 109, 101, 40, 114, 32, 32, 65, 41] = (CN.mk 6 [] [114] [CN.mk 2 [65] [] []], -1) := by kernel_rfl
theorem textLit : conText (CN.mk 6 [] [114] [CN.mk 2 [65] [] []]) = [83, 111, 109, 101, 40, 114, 32, 65, 41] := by kernel_rfl
theorem bulkLit : (CN.mk 6 [] [114] [CN.mk 2 [65] [] []]).bulk ≤ 1048576 := by simp [CN.bulk, bulks]

theorem byteLit {zs : List Int} (h : zs.all (fun x => decide (0 ≤ x) && decide (x ≤ 255)) = true) : ∀ i, 0 ≤ zs.getD i 0 ∧ zs.getD i 0 ≤ 255 := by
  intro i
  by_cases hi : i < zs.length
  · have := List.all_eq_true.1 h _ (List.getElem_mem hi)
    simp only [Bool.and_eq_true, decide_eq_true_eq] at this
    simpa [List.getD, hi] using this
  · simp [List.getD, List.getElem?_eq_none (Nat.le_of_not_lt hi)]

set_option maxRecDepth 100000 in
set_option maxHeartbeats 1000000 in
theorem words_any (w : World) : Calls Tryz.prog 11 #[] w fun e w' => e = .returned (.bool true) ∧ Below w.heap.size w w' := by
  have kc := Lib.run_convert_bytes_const (P := Tryz.prog) w 22 5 #[.int .u8 83, .int .u8 111, .int .u8 109, .int .u8 101, .int .u8 40, .int .u8 114, .int .u8 32, .int .u8 32, .int .u8 65, .int .u8 41] 10 10 Tryz.underlying22 Tryz.underlying5
  obtain ⟨W0, hW0⟩ : ∃ W, W = w.alloc (.cells #[.int .u8 83, .int .u8 111, .int .u8 109, .int .u8 101, .int .u8 40, .int .u8 114, .int .u8 32, .int .u8 32, .int .u8 65, .int .u8 41] 5 (10, 11)) := ⟨_, rfl⟩
  have HW0 : Hid (W0 = w.alloc (.cells #[.int .u8 83, .int .u8 111, .int .u8 109, .int .u8 101, .int .u8 40, .int .u8 114, .int .u8 32, .int .u8 32, .int .u8 65, .int .u8 41] 5 (10, 11))) := hW0
  have HR0 : Hid (Rd w.heap.size (w.heap.size + 1) W0 (some ⟨w.heap.size, 0, none⟩) 10 10 [83, 111, 109, 101, 40, 114, 32, 32, 65, 41]) := by
    unfold Hid; rw [hW0]; exact rd_lits w [83, 111, 109, 101, 40, 114, 32, 32, 65, 41] (10, 11) (by simp) (byteLit (by decide))
  have HB0 : Hid (Below w.heap.size w W0) := by unfold Hid; rw [hW0]; exact (Below.refl _ _).alloc (Nat.le_refl _) _
  have hs0 : w.heap.size < W0.heap.size := by rw [hW0]; simp
  clear hW0
  go_enter Tryz.func11, Tryz.ntmps11
  go_wp2_with fail
  rw [← HW0.out]
  refine (implConRead_any w.heap.size 0 10 10 _ W0 (HR0.out.mono (Nat.zero_le _) hs0) hs0).mono ?_
  rintro e w1 hA
  rw [readLit] at hA
  obtain ⟨v, L, rfl, hO, hb1⟩ := hA
  obtain ⟨c, hc⟩ : ∃ c, c = CN.mk 6 [] [114] [CN.mk 2 [65] [] []] := ⟨_, rfl⟩
  rw [show (CN.mk 6 [] [114] [CN.mk 2 [65] [] []], (-1 : Int)).1 = c from hc.symm] at hO
  have HTx : Hid (conText c = [83, 111, 109, 101, 40, 114, 32, 65, 41]) := by unfold Hid; rw [hc]; exact textLit
  have HBk : Hid (c.bulk ≤ 1048576) := by unfold Hid; rw [hc]; exact bulkLit
  obtain ⟨na, nn, nc, ra, rn, rc, ka, kn, kc', rfl⟩ := hO.ow.agg
  obtain ⟨zk, hzk⟩ : ∃ zk, zk = c.kind := ⟨_, rfl⟩
  rw [← hzk] at hO ⊢
  obtain ⟨W2, HW2⟩ : ∃ W, Hid (W = w1.alloc (.cells #[.int .i64 zk, .slice na nn nc, .slice ra rn rc, .slice ka kn kc'] 30)) := ⟨_, rfl⟩
  have hb2 : Below w1.heap.size w1 W2 := by rw [HW2.out]; exact (Below.refl _ _).alloc (Nat.le_refl _) _
  have HBx : Hid (BoxC W2 w1.heap.size (.int .i64 zk) (.slice na nn nc) (.slice ra rn rc) (.slice ka kn kc')) := by unfold Hid; rw [HW2.out]; exact BoxC.new w1 _ _ _ _
  have HRC : Hid (RdC W0.heap.size w1.heap.size W2 6 (.agg #[.int .i64 zk, .slice na nn nc, .slice ra rn rc, .slice ka kn kc']) c) := RdC.below (OwnC.rd hO) hb2 (Nat.le_refl _)
  have HB2 : Hid (Below w.heap.size w W2) := (HB0.out.trans (hb1.mono (by omega))).trans (hb2.mono (by have := hb1.size; omega))
  have hs2 : w1.heap.size < W2.heap.size := HBx.out.lt
  obtain ⟨b0, b1, b2, b3⟩ := HBx.out.cells
  clear hc hzk hO hb1 hb2 kc
  dsimp only
  go_upto_region 2 with fail
  rw [← HW2.out]
  go_wp2_with fail
  refine (implConText_any HRC.out (Nat.le_of_lt hs2) HBk.out).mono ?_
  rintro e w3 ⟨v3, rfl, hO3, hb3⟩
  rw [HTx.out] at hO3
  obtain ⟨a3, c3, b3', hv3, hw3, hf3⟩ := hO3.own (byteLit (by decide))
  have HB3 : Hid (Below w.heap.size w w3) := HB2.out.trans (hb3.mono HB2.out.size)
  rw [show ([83, 111, 109, 101, 40, 114, 32, 65, 41] : List Int).length = 9 from rfl] at hv3 hw3
  subst hv3
  have kc2 := Lib.run_convert_bytes_const (P := Tryz.prog) w3 22 5 #[.int .u8 83, .int .u8 111, .int .u8 109, .int .u8 101, .int .u8 40, .int .u8 114, .int .u8 32, .int .u8 65, .int .u8 41] 9 9 Tryz.underlying22 Tryz.underlying5
  obtain ⟨W4, HW4⟩ : ∃ W, Hid (W = w3.alloc (.cells #[.int .u8 83, .int .u8 111, .int .u8 109, .int .u8 101, .int .u8 40, .int .u8 114, .int .u8 32, .int .u8 65, .int .u8 41] 5 (9, 10))) := ⟨_, rfl⟩
  have hb4 : Below w3.heap.size w3 W4 := by rw [HW4.out]; exact (Below.refl _ _).alloc (Nat.le_refl _) _
  have HR4 : Hid (Rd w3.heap.size (w3.heap.size + 1) W4 (some ⟨w3.heap.size, 0, none⟩) 9 9 [83, 111, 109, 101, 40, 114, 32, 65, 41]) := by
    unfold Hid; rw [HW4.out]; exact rd_lits w3 [83, 111, 109, 101, 40, 114, 32, 65, 41] (9, 10) (by simp) (byteLit (by decide))
  have HR3 : Hid (Rd 0 w3.heap.size W4 a3 9 c3 [83, 111, 109, 101, 40, 114, 32, 65, 41]) := by
    have h1 : Rd 0 w3.heap.size w3 a3 9 c3 [83, 111, 109, 101, 40, 114, 32, 65, 41] := hw3.rd (fun x hx => ⟨Nat.zero_le _, by
      obtain ⟨j, hj, rfl⟩ := mem_leafB.1 hx
      rcases hf3 with e | ⟨_, _, e, _⟩
      · simp at e
      · exact e⟩)
    exact h1.below hb4 (Nat.le_refl _)
  have HB4 : Hid (Below w.heap.size w W4) := HB3.out.trans (hb4.mono HB3.out.size)
  clear hO3 hb3 hw3 hf3 hb4
  go_wp2_with fail
  rw [← HW4.out]
  refine (same_any _ _ _ _ _ _ [83, 111, 109, 101, 40, 114, 32, 65, 41] W4 HR3.out HR4.out).mono ?_
  rintro e w5 ⟨rfl, hw5⟩
  rw [hw5]; clear hw5
  go_wp2
  go_ret
  exact ⟨rfl, HB4.out⟩
end

section
open Go.RowKit

set_option maxHeartbeats 400000 in
theorem sameH_all (a a' : Option Addr) (n cap n' cap' : Nat) (xs ys : List Int) (w : World) {lo hi lo' hi' : Nat} (h : Rd lo hi w a n cap xs) (h' : Rd lo' hi' w a' n' cap' ys) :
    Calls Tryz.prog 38 #[.slice a n cap, .slice a' n' cap'] w fun e w' => e = .returned (.bool (decide (xs = ys))) ∧ w' = w := by
  have hc := conv_any h
  have hc' := conv_any h'
  have hq := str_inj h.byte h'.byte
  obtain ⟨s, hs⟩ : ∃ s, s = strOfNums xs := ⟨_, rfl⟩
  obtain ⟨t, ht⟩ : ∃ t, t = strOfNums ys := ⟨_, rfl⟩
  obtain ⟨r, hr⟩ : ∃ r, r = decide (xs = ys) := ⟨_, rfl⟩
  rw [← hs] at hc hq
  rw [← ht] at hc' hq
  rw [← hr] at hq ⊢
  clear hs ht hr h h'
  go_enter Tryz.func38, Tryz.ntmps38
  go_wp2
  go_ret
  exact ⟨rfl, rfl⟩

theorem ownW_form {w : World} {base : Nat} {v : Value} {L : List (List Int)} {gs : List (Nat × Nat)} (hW : OwnW base w v L gs) : ∃ a c, v = .slice a L.length c ∧ (0 < L.length → ∃ g, a = some ⟨g, 0, none⟩) := by
  by_cases hpos : 0 < L.length
  · obtain ⟨g, cp, rfl, _, _⟩ := hW.row.form hpos
    exact ⟨_, cp, rfl, fun _ => ⟨g, rfl⟩⟩
  · rcases hW.row.2 with ⟨rfl, h0⟩ | ⟨g, cp, _, rfl, _⟩
    · exact ⟨none, 0, by rw [h0], fun h => absurd h hpos⟩
    · exact ⟨_, cp, rfl, fun h => absurd h hpos⟩

/-- A word of the list, as it lies. -/
theorem ownW_at {w : World} {base : Nat} {g q cp : Nat} {L : List (List Int)} {gs : List (Nat × Nat)} (hW : OwnW base w (.slice (some ⟨g, 0, none⟩) q cp) L gs) (hq : q = L.length) {k : Nat} (hk : k < q) :
    ∃ gk ck mk, w.cell? ⟨g, k, none⟩ = some (.slice (some ⟨gk, 0, none⟩) mk ck) ∧ Rd 0 w.heap.size w (some ⟨gk, 0, none⟩) mk ck (L.getD k []) := by
  have hkL : k < L.length := by omega
  subst hq
  have hgk : k < gs.length := by rw [hW.len]; exact hkL
  have hcell : w.cell? ⟨g, k, none⟩ = some (wv (L.getD k []) (gs.getD k (0, 0))) := by
    rw [hW.row.cellAt k (by omega), List.getElem?_zipWith]
    simp [List.getD, hkL, hgk]
  obtain ⟨t1, t2, t3⟩ := hW.txt k hkL
  exact ⟨_, _, _, hcell, t2.rd (hW.byt k hkL) t3 (Nat.zero_le _) t2.lt⟩

set_option maxRecDepth 100000 in
set_option maxHeartbeats 1000000 in
theorem has_all {w : World} {base : Nat} {v : Value} {L : List (List Int)} {gs : List (Nat × Nat)} (hW : OwnW base w v L gs) {a : Option Addr} {n cap : Nat} {zs : List Int} {lo hi : Nat} (h : Rd lo hi w a n cap zs) (hL : L.length ≤ 1000000) :
    Calls Tryz.prog 19 #[v, .slice a n cap] w fun e w' => e = .returned (.bool (decide (zs ∈ L))) ∧ w' = w := by
  obtain ⟨va, cp, rfl, hva⟩ := ownW_form hW
  have HR : Hid (Rd lo hi w a n cap zs) := h
  obtain ⟨q, hq⟩ : ∃ q, q = L.length := ⟨_, rfl⟩
  have HQ : Hid (q = L.length) := hq
  rw [← hq] at hW hva ⊢
  have HW : Hid (OwnW base w (.slice va q cp) L gs) := hW
  have HVa : Hid (0 < q → ∃ g, va = some ⟨g, 0, none⟩) := hva
  have hqL : q ≤ 1000000 := by rw [hq]; exact hL
  obtain ⟨r, hr⟩ : ∃ r, r = decide (zs ∈ L) := ⟨_, rfl⟩
  rw [← hr]
  have HRr : Hid (r = decide (zs ∈ L)) := hr
  clear hW h hq hL hr hva
  go_enter Tryz.func19, Tryz.ntmps19
  go_wp2_with fail
  go_loopw [5] (fun i wr => ∃ k : Nat, k ≤ q ∧ i = .int .i64 k ∧ zs ∉ L.take k ∧ wr = w) (fun i _ => q - (intOf i).toNat)
  case atStart => exact ⟨0, Nat.zero_le _, rfl, by simp, rfl⟩
  case round =>
    obtain ⟨k, hk, rfl, hn, rfl⟩ := hrel
    have HN : Hid (zs ∉ L.take k) := hn
    clear hn
    by_cases hlt : k < q
    · have hki : (k : Int) < (q : Int) := by omega
      have hkL : k < L.length := by rw [← HQ.out]; exact hlt
      obtain ⟨g, hga⟩ := HVa.out (by omega)
      subst hga
      obtain ⟨gk, ck, mk, hcell, hrk⟩ := ownW_at HW.out HQ.out hlt
      obtain ⟨zk, hzk⟩ : ∃ zk, zk = L.getD k [] := ⟨_, rfl⟩
      rw [← hzk] at hrk
      have HRk : Hid (Rd 0 wr.heap.size wr (some ⟨gk, 0, none⟩) mk ck zk) := hrk
      have HZ : Hid (zk = L.getD k []) := hzk
      clear hzk hrk
      go_wp2_with fail
      refine (sameH_all _ _ _ _ _ _ _ _ _ HRk.out HR.out).mono ?_
      rintro e w8 ⟨rfl, hw8⟩
      subst hw8
      by_cases hz : zk = zs
      · rw [decide_eq_true hz]
        have hrt : r = true := by
          rw [HRr.out]
          refine decide_eq_true ?_
          rw [← hz, HZ.out]
          simp [List.getD, hkL]
        clear HRr
        subst hrt
        go_wp2
        go_ret
        exact ⟨rfl, rfl⟩
      · rw [decide_eq_false hz]
        have HNz : Hid (zs ∉ L.take (k + 1)) := by
          unfold Hid
          rw [take_succ_getD L [] k hkL, List.mem_append]
          rintro (q | q)
          · exact HN.out q
          · simp only [List.mem_singleton] at q
            exact hz (by rw [HZ.out, ← q])
        go_wp2_with fail
        go_roundw
        case rel => exact ⟨k + 1, by omega, by go_num, HNz.out, by first | rfl | trivial⟩
        case measure => simp [intOf]; omega
    · have hki : ¬ (k : Int) < (q : Int) := by omega
      have hkq : k = L.length := by have := HQ.out; omega
      have hrf : r = false := by
        rw [HRr.out]
        refine decide_eq_false ?_
        have := HN.out
        rw [hkq, List.take_length] at this
        exact this
      clear HRr
      subst hrf
      go_wp2
      go_ret
      exact ⟨rfl, rfl⟩
end

end Go.Proofs.YtnmljalcndfjmaaGreat
