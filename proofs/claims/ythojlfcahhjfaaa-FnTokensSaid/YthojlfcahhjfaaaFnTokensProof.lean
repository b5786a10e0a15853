/- For every list of bytes the law FnTokens answers true and the list reads behind the call as it did before: no condition. -/
import Derived.Test.YthojlfcahhjfaaaRows
import Derived.Test.YthojlfcahhjfaaaNLaw
import Derived.WalkKit
import Derived.ProofKit
import Derived.OpenShut
import Derived.ShutString
import Derived.ChangeOld
import Derived.Below
namespace Go.Proofs.Ythojlfcahhjfaaa.fnTokens
open Go.ChangeShapes Go.WideShapes Go.ChangeAt Go.RowKit
open Go.ChangeMaps (open_string shut_string)
set_option linter.unusedVariables false

theorem own : ownKnob Try.prog.godebug = none := by kernel_rfl
theorem laidOut : laidOutB Try.prog = true := by kernel_rfl

/-- WHAT THE WALK IS TOLD OF A SLICE OF INTEGERS THAT CAME IN: it is nil; or it leads to a row of 'cap' cells, the numbers 'zs' (the first 'len' are its elements, the rest its spare room), each fitting its kind. -/
def IsRow (k : IntKind) (w : World) (a : Option Addr) (len cap : Nat) (zs : List Int) : Prop :=
  (a = none ∧ len = 0 ∧ cap = 0 ∧ zs = []) ∨
  ∃ x, a = some x ∧ len ≤ cap ∧ cap ≤ maxLen ∧ zs.length = cap ∧ (∀ i, i < zs.length → w.cell? (x.add i) = some (.int k (zs.getD i 0))) ∧ ∀ n ∈ zs, (Lit.int k n).wf = true

theorem isRow_rd {w : World} {a : Option Addr} {len cap : Nat} {zs : List Int} (h : IsRow .u8 w a len cap zs) : Rd 0 w.heap.size w a len cap (zs.take len) := by
  rcases h with ⟨rfl, rfl, rfl, rfl⟩ | ⟨x, rfl, hl, hm, hz, hc, hwf⟩
  · exact Rd.none_of (by omega)
  · unfold maxLen at hm
    refine ⟨by simp; omega, ⟨hl, hm⟩, fun i => ?_, ?_⟩
    · have := range_u8 hwf i
      simp only [List.getD, List.getElem?_take]
      split
      · exact this
      · simp
    · by_cases h0 : len = 0
      · exact .inl h0
      · obtain ⟨b, off, spot⟩ := x
        have hc0 := hc 0 (by omega)
        have hspot : spot = none := by simpa [Addr.add] using World.cell?_spot hc0
        subst hspot
        refine .inr ⟨b, off, rfl, Nat.zero_le _, block_lt_of_cell hc0, fun i hi => ?_⟩
        have := hc i (by omega)
        simp only [List.getD, List.getElem?_take, if_pos hi]
        by_cases e : i = 0
        · subst e; simpa [Addr.add, List.getD] using this
        · simpa [Addr.add, e, List.getD] using this

/-- A list of bytes that a call has made, as a slice. -/
theorem own_rd {base : Nat} {w : World} {v : Value} {zs : List Int} (h : OwnB base w v zs) (hby : ∀ i, 0 ≤ zs.getD i 0 ∧ zs.getD i 0 ≤ 255) : ∃ a c, v = .slice a zs.length c ∧ Rd base w.heap.size w a zs.length c zs := by
  obtain ⟨a, c, b, e, h1, h2⟩ := h.own hby
  refine ⟨a, c, e, h1.rd (fun x hx => ?_)⟩
  obtain ⟨j, hj, rfl⟩ := mem_leafB.1 hx
  rcases h2 with h0 | ⟨_, h3, h4, _⟩
  · omega
  · exact ⟨h3, h4⟩

set_option maxRecDepth 100000 in
set_option maxHeartbeats 8000000 in
theorem walk (a0 : Option Addr) (len0 cap0 : Nat) (z0 : List Int) (w : World) (w0 : IsRow .u8 w a0 len0 cap0 z0) :
    Calls Try.prog 3 #[.slice a0 len0 cap0] w fun e w' => e = .returned (.bool true) ∧ Below w.heap.size w w' := by
  have HR : Hid (Rd 0 w.heap.size w a0 len0 cap0 (z0.take len0)) := isRow_rd w0
  clear w0
  go_enter Try.func3, Try.ntmps3
  go_wp2_with fail
  refine (drawTokens_any HR.out).mono ?_
  rintro e w1 ⟨v1, xs, rfl, hO1, hby, hxl, hb1⟩
  obtain ⟨a1, c1, rfl, hR1⟩ := own_rd hO1 (getD_byte hby)
  obtain ⟨n1, hn1⟩ : ∃ n1, n1 = xs.length := ⟨_, rfl⟩
  rw [← hn1] at hR1 hxl ⊢
  have HN1 : Hid (n1 = xs.length) := hn1
  have HR1 : Hid (Rd w.heap.size w1.heap.size w1 a1 n1 c1 xs) := hR1
  have HB1 : Hid (Below w.heap.size w w1) := hb1
  obtain ⟨ts, p, htp⟩ : ∃ ts p, toks xs = (ts, p) := ⟨_, _, rfl⟩
  have HT : Hid (toks xs = (ts, p)) := htp
  have hfell := toks_fell xs
  have hbd := (toks_bound xs).1
  have HGd : Hid (∀ t ∈ ts, TkGood t ∧ TkAt xs t) := by have := toks_good xs; rw [htp] at this; exact this
  rw [htp, ← hn1] at hfell
  rw [htp] at hbd
  clear hO1 hby hR1 hb1 hn1 htp
  go_wp2_with fail
  refine (implTok_all a1 n1 c1 xs w1 HR1.out (Nat.le_refl _)).mono ?_
  rintro e w2 ⟨v2, gs, rfl, hO2, hb2⟩
  rw [HT.out] at hO2 ⊢
  obtain ⟨a2, c2, rfl, hR2⟩ := hO2.rd
  have HR2 : Hid (RdT w1.heap.size w2.heap.size w2 a2 ts.length c2 ts) := hR2
  have HB2 : Hid (Below w.heap.size w w2) := HB1.out.trans (hb2.mono HB1.out.size)
  have HR12 : Hid (Rd w.heap.size w1.heap.size w2 a1 n1 c1 xs) := HR1.out.below hb2 (Nat.le_refl _)
  have s12 := hb2.size
  clear hO2 hb2 hR2
  try dsimp only at hfell
  try dsimp only at hbd
  rcases hfell with hp | ⟨hts, hp0, hp1⟩
  · subst hp
    obtain ⟨tl, htl⟩ : ∃ tl, tl = ts.length := ⟨_, rfl⟩
    have HTL : Hid (tl = ts.length) := htl
    rw [← htl] at HR2 hbd ⊢
    clear htl
    go_wp2_with fail
    refine (implTokenText_any a2 tl c2 ts w2 HR2.out (Nat.le_refl _)).mono ?_
    rintro e w3 ⟨v3, rfl, hO3, hb3⟩
    have hbyT : ∀ i j, 0 ≤ (ts.getD i Tok.zero).text.getD j 0 ∧ (ts.getD i Tok.zero).text.getD j 0 ≤ 255 := by
      intro i j
      by_cases hi : i < tl
      · rcases HR2.out.cells with h0 | ⟨b, off, _, _, _, hc⟩
        · omega
        · obtain ⟨_, _, _, _, _, _, hr⟩ := hc i hi
          exact hr.byte j
      · have hz : ts.getD i Tok.zero = Tok.zero := by simp [List.getD, List.getElem?_eq_none (by rw [← HTL.out]; omega : ts.length ≤ i)]
        rw [hz]; simp [Tok.zero]
    obtain ⟨a3, c3, rfl, hR3⟩ := own_rd hO3 (tokText_byte hbyT)
    obtain ⟨hag1, hag2⟩ := toks_again ts (fun t ht => (HGd.out t ht).1) (by rw [← HTL.out]; exact hbd)
    obtain ⟨tx, htx⟩ : ∃ tx, tx = tokText ts := ⟨_, rfl⟩
    rw [← htx] at hR3 hag1 hag2 ⊢
    obtain ⟨n3, hn3⟩ : ∃ n3, n3 = tx.length := ⟨_, rfl⟩
    rw [← hn3] at hR3 hag1 ⊢
    obtain ⟨ms, pf, hmp⟩ : ∃ ms pf, toks tx = (ms, pf) := ⟨_, _, rfl⟩
    have HM : Hid (toks tx = (ms, pf)) := hmp
    rw [hmp] at hag1 hag2
    try dsimp only at hag1
    try dsimp only at hag2
    have HA2 : Hid (∀ i, i < ms.length → i < ts.length ∧ (ms.getD i Tok.zero).kind = (ts.getD i Tok.zero).kind ∧ (ms.getD i Tok.zero).text = (ts.getD i Tok.zero).text) := hag2
    have HA1 : Hid (n3 ≤ 1500 → pf = -1 ∧ ms.length = ts.length) := hag1
    have HR3 : Hid (Rd w2.heap.size w3.heap.size w3 a3 n3 c3 tx) := hR3
    have HB3 : Hid (Below w.heap.size w w3) := HB2.out.trans (hb3.mono HB2.out.size)
    have HR23 : Hid (RdT w1.heap.size w2.heap.size w3 a2 tl c2 ts) := HR2.out.same (Same.of_below hb3 (Nat.le_refl _))
    have HR13 : Hid (Rd w.heap.size w1.heap.size w3 a1 n1 c1 xs) := HR12.out.below hb3 s12
    have s23 := hb3.size
    clear hO3 hb3 hbyT hR3 hag1 hag2 htx hn3 hmp
    go_wp2_with fail
    refine (implTok_all a3 n3 c3 tx w3 HR3.out (Nat.le_refl _)).mono ?_
    rintro e w4 ⟨v4, gm, rfl, hO4, hb4⟩
    rw [HM.out] at hO4 ⊢
    obtain ⟨a4, c4, rfl, hR4⟩ := hO4.rd
    obtain ⟨ml, hml⟩ : ∃ ml, ml = ms.length := ⟨_, rfl⟩
    have HML : Hid (ml = ms.length) := hml
    rw [← hml] at hR4 ⊢
    have HR4 : Hid (RdT w3.heap.size w4.heap.size w4 a4 ml c4 ms) := hR4
    have HB4 : Hid (Below w.heap.size w w4) := HB3.out.trans (hb4.mono HB3.out.size)
    have HR24 : Hid (RdT w1.heap.size w2.heap.size w4 a2 tl c2 ts) := HR23.out.same (Same.of_below hb4 s23)
    have HR14 : Hid (Rd w.heap.size w1.heap.size w4 a1 n1 c1 xs) := HR13.out.below hb4 (by omega)
    have s34 := hb4.size
    clear hO4 hb4 hR4 hml
    dsimp only
    by_cases h1500 : n3 ≤ 1500
    · obtain ⟨hpf, hmt0⟩ := HA1.out h1500
      have hpn : (pf != -1) = false := by rw [hpf]; simp
      have hmt : ((ml : Int) != (tl : Int)) = false := by rw [HML.out, HTL.out, hmt0]; simp
      have hn3 : (n3 : Int) ≤ 1500 := by omega
      clear hpf hmt0
      go_wp2_with fail
      go_loopw [9] (fun i wr => ∃ k nd : Nat, k ≤ ml ∧ i = .int .i64 k ∧ wr = w4.drewN nd) (fun i _ => ml - (intOf i).toNat)
      case atStart => exact ⟨0, 0, Nat.zero_le _, rfl, rfl⟩
      case round =>
        obtain ⟨k, nd, hk, rfl, hwr⟩ := hrel
        have HWr : Hid (wr = w4.drewN nd) := hwr
        have HRm : Hid (RdT w3.heap.size w4.heap.size wr a4 ml c4 ms) := by unfold Hid; rw [hwr]; exact HR4.out.same (fun _ _ _ => rfl)
        have HRl : Hid (RdT w1.heap.size w2.heap.size wr a2 tl c2 ts) := by unfold Hid; rw [hwr]; exact HR24.out.same (fun _ _ _ => rfl)
        clear hwr
        by_cases hlt : k < ml
        · have hki : (k : Int) < (ml : Int) := by omega
          obtain ⟨hkt, hkk, hkx⟩ := HA2.out k (by rw [← HML.out]; exact hlt)
          have hkt' : k < tl := by rw [HTL.out]; exact hkt
          have hkti : (k : Int) < (tl : Int) := by omega
          have hml1 : ml ≤ c4 := HRm.out.fits.1
          have htl1 : tl ≤ c2 := HRl.out.fits.1
          rcases HRm.out.cells with h0 | ⟨bm, om, ea, _, _, hcm⟩
          · omega
          · rcases HRl.out.cells with h0 | ⟨bl, ol, ea', _, _, hcl⟩
            · omega
            · obtain ⟨ma, mn, mc, m0, m1, m2, m3⟩ := hcm k hlt
              obtain ⟨la, ln, lc, l0, l1, l2, l3⟩ := hcl k hkt'
              rw [hkk] at m0
              rw [hkx] at m3
              obtain ⟨kd, hkd⟩ : ∃ kd, kd = (ts.getD k Tok.zero).kind := ⟨_, rfl⟩
              rw [← hkd] at m0 l0
              have hkd0 : (kd != kd) = false := by simp
              have HSm : Hid (∀ W : World, (∀ b : Nat, W.heap[b]? = wr.heap[b]?) → Calls Try.prog 14 #[.slice ma mn mc, .slice la ln lc] W fun e w' => e = .returned (.bool true) ∧ w' = W) := fun W hW => same_any _ _ _ _ _ _ _ W (m3.same (fun b _ _ => hW b)) (l3.same (fun b _ _ => hW b))
              subst ea
              subst ea'
              clear hcm hcl m1 m3 l1 l3 hkk hkx hkd hkt HRm HRl
              go_wp2_with fail
              go_quiet (first | (go_at_call 14; exact Calls.quiet_of_same (HSm.out _ (fun _ => rfl))))
              go_wp2_with fail
              go_roundw
              case rel => exact ⟨k + 1, nd + nq, by omega, by go_num, by rw [HWr.out, drew_add]⟩
              case measure => simp [intOf]; omega
        · have hki : ¬ (k : Int) < (ml : Int) := by omega
          clear HRm HRl
          go_wp2_with fail
          have HB5' : Hid (Below w.heap.size w wr) := by unfold Hid; rw [HWr.out]; exact below_drewN HB4.out nd
          have HR25' : Hid (RdT w1.heap.size w2.heap.size wr a2 tl c2 ts) := by unfold Hid; rw [HWr.out]; exact HR24.out.same (fun _ _ _ => rfl)
          have HR15' : Hid (Rd w.heap.size w1.heap.size wr a1 n1 c1 xs) := by unfold Hid; rw [HWr.out]; exact HR14.out.same (fun _ _ _ => rfl)
          clear HWr
          obtain ⟨w5, hw5⟩ : ∃ W, W = wr := ⟨_, rfl⟩
          subst hw5
          have HB5 := HB5'
          have HR25 := HR25'
          have HR15 := HR15'
          clear HB5' HR25' HR15'
          go_loopw [10] (fun i wr => ∃ k nd : Nat, k ≤ tl ∧ i = .int .i64 k ∧ wr = w5.drewN nd) (fun i _ => tl - (intOf i).toNat)
          case atStart => exact ⟨0, 0, Nat.zero_le _, rfl, rfl⟩
          case round =>
            obtain ⟨k, nd, hk, rfl, hwr⟩ := hrel
            have HWr : Hid (wr = w5.drewN nd) := hwr
            have HRl : Hid (RdT w1.heap.size w2.heap.size wr a2 tl c2 ts) := by unfold Hid; rw [hwr]; exact HR25.out.same (fun _ _ _ => rfl)
            have HRb : Hid (Rd w.heap.size w1.heap.size wr a1 n1 c1 xs) := by unfold Hid; rw [hwr]; exact HR15.out.same (fun _ _ _ => rfl)
            clear hwr
            by_cases hlt : k < tl
            · have hki : (k : Int) < (tl : Int) := by omega
              have htl1 : tl ≤ c2 := HRl.out.fits.1
              rcases HRl.out.cells with h0 | ⟨bl, ol, ea', _, _, hcl⟩
              · omega
              · obtain ⟨la, ln, lc, l0, l1, l2, l3⟩ := hcl k hlt
                have hin : ts.getD k Tok.zero ∈ ts := by
                  have hk2 : k < ts.length := by rw [← HTL.out]; exact hlt
                  have e : ts.getD k Tok.zero = ts[k] := by simp [List.getD, hk2]
                  rw [e]; exact List.getElem_mem hk2
                obtain ⟨hgd, hat⟩ := HGd.out _ hin
                obtain ⟨kd, hkd⟩ : ∃ kd, kd = (ts.getD k Tok.zero).kind := ⟨_, rfl⟩
                obtain ⟨tt, htt⟩ : ∃ tt, tt = (ts.getD k Tok.zero).text := ⟨_, rfl⟩
                have hu := good_up hgd
                have hl := good_low hgd
                unfold TkAt at hat
                rw [← hkd] at l0 hu hl
                rw [← htt] at l3 hu hl hat
                have hln : tt.length = ln := l3.len
                have HU : Hid (∀ W : World, (∀ b : Nat, W.heap[b]? = wr.heap[b]?) → Calls Try.prog 15 #[.slice la ln lc] W fun e w' => e = .returned (.bool (kd == 1)) ∧ w' = W) := fun W hW => by
                  have h := implUpperOk_any _ _ _ tt W (l3.same (fun b _ _ => hW b))
                  rw [← hu] at h
                  exact h
                have HLo : Hid (∀ W : World, (∀ b : Nat, W.heap[b]? = wr.heap[b]?) → Calls Try.prog 16 #[.slice la ln lc] W fun e w' => e = .returned (.bool (kd == 2)) ∧ w' = W) := fun W hW => by
                  have h := implLowerOk_any _ _ _ tt W (l3.same (fun b _ _ => hW b))
                  rw [← hl] at h
                  exact h
                subst ea'
                clear hcl hu hl hgd hin HRl hkd htt
                by_cases hz : ln = 0
                · subst hz
                  clear l1 l3 hat HRb
                  go_wp2_with fail
                  go_quiet (first | (go_at_call 15; exact Calls.quiet_of_same (HU.out _ (fun _ => rfl))) | (go_at_call 16; exact Calls.quiet_of_same (HLo.out _ (fun _ => rfl))))
                  go_wp2_with fail
                  go_roundw
                  case rel => exact ⟨k + 1, nd + nq, by omega, by go_num, by rw [HWr.out, drew_add]⟩
                  case measure => simp [intOf]; omega
                · have hz1 : 0 < ln := by omega
                  obtain ⟨i, hpi, hil, hxt⟩ := hat (fun e => by rw [e] at hln; simp at hln; omega)
                  rw [hpi] at l1
                  rw [hln] at hil hxt
                  have hin1 : i + ln ≤ n1 := by rw [HN1.out]; exact hil
                  have hnc : n1 ≤ c1 := HRb.out.fits.1
                  have hcm := HRb.out.fits.2
                  rcases HRb.out.cells with h0 | ⟨b1, o1, ea, _, _, _⟩
                  · omega
                  · subst ea
                    have hcut := HRb.out.cut hin1
                    rw [← hxt] at hcut
                    have HSm : Hid (∀ W : World, (∀ b : Nat, W.heap[b]? = wr.heap[b]?) → Calls Try.prog 14 #[.slice (some ⟨b1, o1 + i, none⟩) ln (c1 - i), .slice la ln lc] W fun e w' => e = .returned (.bool true) ∧ w' = W) := fun W hW => same_any _ _ _ _ _ _ _ W (hcut.same (fun b _ _ => hW b)) (l3.same (fun b _ _ => hW b))
                    have hwr : IntKind.i64.wrap ((i : Int) + (ln : Int)) = (i : Int) + (ln : Int) := wrap64_id (by omega)
                    clear hcut l3 hxt hpi HRb hil hat
                    go_wp2_with fail
                    go_quiet (first | (go_at_call 14; exact Calls.quiet_of_same (HSm.out _ (fun _ => rfl))) | (go_at_call 15; exact Calls.quiet_of_same (HU.out _ (fun _ => rfl))) | (go_at_call 16; exact Calls.quiet_of_same (HLo.out _ (fun _ => rfl))))
                    go_wp2_with fail
                    go_roundw
                    case rel => exact ⟨k + 1, nd + nq, by omega, by go_num, by rw [HWr.out, drew_add]⟩
                    case measure => simp [intOf]; omega
            · have hki : ¬ (k : Int) < (tl : Int) := by omega
              have HB6 : Hid (Below w.heap.size w wr) := by unfold Hid; rw [HWr.out]; exact below_drewN HB5.out nd
              clear HRl HRb
              go_wp2_with fail
              refine (words_any wr).mono ?_
              rintro e w7 ⟨rfl, hb7⟩
              have HB7 : Hid (Below w.heap.size w w7) := HB6.out.trans (hb7.mono HB6.out.size)
              clear hb7
              have kc := Lib.run_convert_bytes_const (P := Try.prog) w7 22 5 #[.int .u8 83, .int .u8 111, .int .u8 109, .int .u8 101] 4 4 Try.underlying22 Try.underlying5
              obtain ⟨W8, HW8⟩ : ∃ W, Hid (W = w7.alloc (.cells #[.int .u8 83, .int .u8 111, .int .u8 109, .int .u8 101] 5 (4, 5))) := ⟨_, rfl⟩
              have HR8 : Hid (Rd w7.heap.size (w7.heap.size + 1) W8 (some ⟨w7.heap.size, 0, none⟩) 4 4 [83, 111, 109, 101]) := by
                unfold Hid; rw [HW8.out]; exact rd_lits w7 [83, 111, 109, 101] (4, 5) (by simp) (byteLit (by decide))
              have HB8 : Hid (Below w.heap.size w W8) := by unfold Hid; rw [HW8.out]; exact HB7.out.alloc HB7.out.size _
              go_wp2_with fail
              rw [← HW8.out]
              refine (implKept_any _ _ _ [83, 111, 109, 101] W8 HR8.out).mono ?_
              rintro e w9 ⟨rfl, hw9⟩
              rw [hw9, keptSome]
              clear hw9 kc
              have kc := Lib.run_convert_bytes_const (P := Try.prog) W8 22 5 #[.int .u8 65] 1 1 Try.underlying22 Try.underlying5
              obtain ⟨W9, HW9⟩ : ∃ W, Hid (W = W8.alloc (.cells #[.int .u8 65] 5 (1, 2))) := ⟨_, rfl⟩
              have HR9 : Hid (Rd W8.heap.size (W8.heap.size + 1) W9 (some ⟨W8.heap.size, 0, none⟩) 1 1 [65]) := by
                unfold Hid; rw [HW9.out]; exact rd_lits W8 [65] (1, 2) (by simp) (byteLit (by decide))
              have HB9 : Hid (Below w.heap.size w W9) := by unfold Hid; rw [HW9.out]; exact HB8.out.alloc HB8.out.size _
              go_wp2_with fail
              rw [← HW9.out]
              refine (implKept_any _ _ _ [65] W9 HR9.out).mono ?_
              rintro e w10 ⟨rfl, hw10⟩
              rw [hw10, keptA]
              clear hw10
              go_wp2
              go_ret
              exact ⟨rfl, HB9.out⟩

    · have hn3 : ¬ (n3 : Int) ≤ 1500 := by omega
      go_wp2_with fail
      go_loopw [9] (fun i wr => ∃ k nd : Nat, k ≤ ml ∧ i = .int .i64 k ∧ wr = w4.drewN nd) (fun i _ => ml - (intOf i).toNat)
      case atStart => exact ⟨0, 0, Nat.zero_le _, rfl, rfl⟩
      case round =>
        obtain ⟨k, nd, hk, rfl, hwr⟩ := hrel
        have HWr : Hid (wr = w4.drewN nd) := hwr
        have HRm : Hid (RdT w3.heap.size w4.heap.size wr a4 ml c4 ms) := by unfold Hid; rw [hwr]; exact HR4.out.same (fun _ _ _ => rfl)
        have HRl : Hid (RdT w1.heap.size w2.heap.size wr a2 tl c2 ts) := by unfold Hid; rw [hwr]; exact HR24.out.same (fun _ _ _ => rfl)
        clear hwr
        by_cases hlt : k < ml
        · have hki : (k : Int) < (ml : Int) := by omega
          obtain ⟨hkt, hkk, hkx⟩ := HA2.out k (by rw [← HML.out]; exact hlt)
          have hkt' : k < tl := by rw [HTL.out]; exact hkt
          have hkti : (k : Int) < (tl : Int) := by omega
          have hml1 : ml ≤ c4 := HRm.out.fits.1
          have htl1 : tl ≤ c2 := HRl.out.fits.1
          rcases HRm.out.cells with h0 | ⟨bm, om, ea, _, _, hcm⟩
          · omega
          · rcases HRl.out.cells with h0 | ⟨bl, ol, ea', _, _, hcl⟩
            · omega
            · obtain ⟨ma, mn, mc, m0, m1, m2, m3⟩ := hcm k hlt
              obtain ⟨la, ln, lc, l0, l1, l2, l3⟩ := hcl k hkt'
              rw [hkk] at m0
              rw [hkx] at m3
              obtain ⟨kd, hkd⟩ : ∃ kd, kd = (ts.getD k Tok.zero).kind := ⟨_, rfl⟩
              rw [← hkd] at m0 l0
              have hkd0 : (kd != kd) = false := by simp
              have HSm : Hid (∀ W : World, (∀ b : Nat, W.heap[b]? = wr.heap[b]?) → Calls Try.prog 14 #[.slice ma mn mc, .slice la ln lc] W fun e w' => e = .returned (.bool true) ∧ w' = W) := fun W hW => same_any _ _ _ _ _ _ _ W (m3.same (fun b _ _ => hW b)) (l3.same (fun b _ _ => hW b))
              subst ea
              subst ea'
              clear hcm hcl m1 m3 l1 l3 hkk hkx hkd hkt HRm HRl
              go_wp2_with fail
              go_quiet (first | (go_at_call 14; exact Calls.quiet_of_same (HSm.out _ (fun _ => rfl))))
              go_wp2_with fail
              go_roundw
              case rel => exact ⟨k + 1, nd + nq, by omega, by go_num, by rw [HWr.out, drew_add]⟩
              case measure => simp [intOf]; omega
        · have hki : ¬ (k : Int) < (ml : Int) := by omega
          clear HRm HRl
          go_wp2_with fail
          have HB5' : Hid (Below w.heap.size w wr) := by unfold Hid; rw [HWr.out]; exact below_drewN HB4.out nd
          have HR25' : Hid (RdT w1.heap.size w2.heap.size wr a2 tl c2 ts) := by unfold Hid; rw [HWr.out]; exact HR24.out.same (fun _ _ _ => rfl)
          have HR15' : Hid (Rd w.heap.size w1.heap.size wr a1 n1 c1 xs) := by unfold Hid; rw [HWr.out]; exact HR14.out.same (fun _ _ _ => rfl)
          clear HWr
          obtain ⟨w5, hw5⟩ : ∃ W, W = wr := ⟨_, rfl⟩
          subst hw5
          have HB5 := HB5'
          have HR25 := HR25'
          have HR15 := HR15'
          clear HB5' HR25' HR15'
          go_loopw [10] (fun i wr => ∃ k nd : Nat, k ≤ tl ∧ i = .int .i64 k ∧ wr = w5.drewN nd) (fun i _ => tl - (intOf i).toNat)
          case atStart => exact ⟨0, 0, Nat.zero_le _, rfl, rfl⟩
          case round =>
            obtain ⟨k, nd, hk, rfl, hwr⟩ := hrel
            have HWr : Hid (wr = w5.drewN nd) := hwr
            have HRl : Hid (RdT w1.heap.size w2.heap.size wr a2 tl c2 ts) := by unfold Hid; rw [hwr]; exact HR25.out.same (fun _ _ _ => rfl)
            have HRb : Hid (Rd w.heap.size w1.heap.size wr a1 n1 c1 xs) := by unfold Hid; rw [hwr]; exact HR15.out.same (fun _ _ _ => rfl)
            clear hwr
            by_cases hlt : k < tl
            · have hki : (k : Int) < (tl : Int) := by omega
              have htl1 : tl ≤ c2 := HRl.out.fits.1
              rcases HRl.out.cells with h0 | ⟨bl, ol, ea', _, _, hcl⟩
              · omega
              · obtain ⟨la, ln, lc, l0, l1, l2, l3⟩ := hcl k hlt
                have hin : ts.getD k Tok.zero ∈ ts := by
                  have hk2 : k < ts.length := by rw [← HTL.out]; exact hlt
                  have e : ts.getD k Tok.zero = ts[k] := by simp [List.getD, hk2]
                  rw [e]; exact List.getElem_mem hk2
                obtain ⟨hgd, hat⟩ := HGd.out _ hin
                obtain ⟨kd, hkd⟩ : ∃ kd, kd = (ts.getD k Tok.zero).kind := ⟨_, rfl⟩
                obtain ⟨tt, htt⟩ : ∃ tt, tt = (ts.getD k Tok.zero).text := ⟨_, rfl⟩
                have hu := good_up hgd
                have hl := good_low hgd
                unfold TkAt at hat
                rw [← hkd] at l0 hu hl
                rw [← htt] at l3 hu hl hat
                have hln : tt.length = ln := l3.len
                have HU : Hid (∀ W : World, (∀ b : Nat, W.heap[b]? = wr.heap[b]?) → Calls Try.prog 15 #[.slice la ln lc] W fun e w' => e = .returned (.bool (kd == 1)) ∧ w' = W) := fun W hW => by
                  have h := implUpperOk_any _ _ _ tt W (l3.same (fun b _ _ => hW b))
                  rw [← hu] at h
                  exact h
                have HLo : Hid (∀ W : World, (∀ b : Nat, W.heap[b]? = wr.heap[b]?) → Calls Try.prog 16 #[.slice la ln lc] W fun e w' => e = .returned (.bool (kd == 2)) ∧ w' = W) := fun W hW => by
                  have h := implLowerOk_any _ _ _ tt W (l3.same (fun b _ _ => hW b))
                  rw [← hl] at h
                  exact h
                subst ea'
                clear hcl hu hl hgd hin HRl hkd htt
                by_cases hz : ln = 0
                · subst hz
                  clear l1 l3 hat HRb
                  go_wp2_with fail
                  go_quiet (first | (go_at_call 15; exact Calls.quiet_of_same (HU.out _ (fun _ => rfl))) | (go_at_call 16; exact Calls.quiet_of_same (HLo.out _ (fun _ => rfl))))
                  go_wp2_with fail
                  go_roundw
                  case rel => exact ⟨k + 1, nd + nq, by omega, by go_num, by rw [HWr.out, drew_add]⟩
                  case measure => simp [intOf]; omega
                · have hz1 : 0 < ln := by omega
                  obtain ⟨i, hpi, hil, hxt⟩ := hat (fun e => by rw [e] at hln; simp at hln; omega)
                  rw [hpi] at l1
                  rw [hln] at hil hxt
                  have hin1 : i + ln ≤ n1 := by rw [HN1.out]; exact hil
                  have hnc : n1 ≤ c1 := HRb.out.fits.1
                  have hcm := HRb.out.fits.2
                  rcases HRb.out.cells with h0 | ⟨b1, o1, ea, _, _, _⟩
                  · omega
                  · subst ea
                    have hcut := HRb.out.cut hin1
                    rw [← hxt] at hcut
                    have HSm : Hid (∀ W : World, (∀ b : Nat, W.heap[b]? = wr.heap[b]?) → Calls Try.prog 14 #[.slice (some ⟨b1, o1 + i, none⟩) ln (c1 - i), .slice la ln lc] W fun e w' => e = .returned (.bool true) ∧ w' = W) := fun W hW => same_any _ _ _ _ _ _ _ W (hcut.same (fun b _ _ => hW b)) (l3.same (fun b _ _ => hW b))
                    have hwr : IntKind.i64.wrap ((i : Int) + (ln : Int)) = (i : Int) + (ln : Int) := wrap64_id (by omega)
                    clear hcut l3 hxt hpi HRb hil hat
                    go_wp2_with fail
                    go_quiet (first | (go_at_call 14; exact Calls.quiet_of_same (HSm.out _ (fun _ => rfl))) | (go_at_call 15; exact Calls.quiet_of_same (HU.out _ (fun _ => rfl))) | (go_at_call 16; exact Calls.quiet_of_same (HLo.out _ (fun _ => rfl))))
                    go_wp2_with fail
                    go_roundw
                    case rel => exact ⟨k + 1, nd + nq, by omega, by go_num, by rw [HWr.out, drew_add]⟩
                    case measure => simp [intOf]; omega
            · have hki : ¬ (k : Int) < (tl : Int) := by omega
              have HB6 : Hid (Below w.heap.size w wr) := by unfold Hid; rw [HWr.out]; exact below_drewN HB5.out nd
              clear HRl HRb
              go_wp2_with fail
              refine (words_any wr).mono ?_
              rintro e w7 ⟨rfl, hb7⟩
              have HB7 : Hid (Below w.heap.size w w7) := HB6.out.trans (hb7.mono HB6.out.size)
              clear hb7
              have kc := Lib.run_convert_bytes_const (P := Try.prog) w7 22 5 #[.int .u8 83, .int .u8 111, .int .u8 109, .int .u8 101] 4 4 Try.underlying22 Try.underlying5
              obtain ⟨W8, HW8⟩ : ∃ W, Hid (W = w7.alloc (.cells #[.int .u8 83, .int .u8 111, .int .u8 109, .int .u8 101] 5 (4, 5))) := ⟨_, rfl⟩
              have HR8 : Hid (Rd w7.heap.size (w7.heap.size + 1) W8 (some ⟨w7.heap.size, 0, none⟩) 4 4 [83, 111, 109, 101]) := by
                unfold Hid; rw [HW8.out]; exact rd_lits w7 [83, 111, 109, 101] (4, 5) (by simp) (byteLit (by decide))
              have HB8 : Hid (Below w.heap.size w W8) := by unfold Hid; rw [HW8.out]; exact HB7.out.alloc HB7.out.size _
              go_wp2_with fail
              rw [← HW8.out]
              refine (implKept_any _ _ _ [83, 111, 109, 101] W8 HR8.out).mono ?_
              rintro e w9 ⟨rfl, hw9⟩
              rw [hw9, keptSome]
              clear hw9 kc
              have kc := Lib.run_convert_bytes_const (P := Try.prog) W8 22 5 #[.int .u8 65] 1 1 Try.underlying22 Try.underlying5
              obtain ⟨W9, HW9⟩ : ∃ W, Hid (W = W8.alloc (.cells #[.int .u8 65] 5 (1, 2))) := ⟨_, rfl⟩
              have HR9 : Hid (Rd W8.heap.size (W8.heap.size + 1) W9 (some ⟨W8.heap.size, 0, none⟩) 1 1 [65]) := by
                unfold Hid; rw [HW9.out]; exact rd_lits W8 [65] (1, 2) (by simp) (byteLit (by decide))
              have HB9 : Hid (Below w.heap.size w W9) := by unfold Hid; rw [HW9.out]; exact HB8.out.alloc HB8.out.size _
              go_wp2_with fail
              rw [← HW9.out]
              refine (implKept_any _ _ _ [65] W9 HR9.out).mono ?_
              rintro e w10 ⟨rfl, hw10⟩
              rw [hw10, keptA]
              clear hw10
              go_wp2
              go_ret
              exact ⟨rfl, HB9.out⟩

  · subst hts
    have hp2 : p ≤ (n1 : Int) := hp1
    go_wp2_with fail
    refine (words_any w2).mono ?_
    rintro e w3 ⟨rfl, hb3⟩
    have HB3 : Hid (Below w.heap.size w w3) := HB2.out.trans (hb3.mono HB2.out.size)
    clear hb3
    go_wp2
    go_ret
    exact ⟨rfl, HB3.out⟩

/-! ### THE ROW's STEP: WRITTEN OUT: LEAVE IT -/
set_option maxRecDepth 100000 in
theorem lifted (os : Os) (started : os.Started) (H : Type) (enc : TypeId × Value → H) :
    ReturnsInHanded {} Try.checked os 3 .any (Rows.fnTokensSpec.pre6 enc Try.prog Try.f3 Rows.fnTokensRow.domain false) (Rows.fnTokensSpec.post enc Try.prog Try.f3 false true false false) := by
  refine returnsInHanded_of_change (C := Try.checked) own started (by kernel_rfl) Try.func3
    (ChangeSpec.witness6 (enc := enc) (C := Try.checked) false ⟨#[], #[.slice none 0 0], []⟩ 8 (by kernel_rfl) (by kernel_rfl) (by kernel_rfl) (by kernel_rfl)) ?_
  intro W base args ds gs before hval0 hW hcnd _
  have hval : ∀ (j : Nat) t v, Try.f3.params[j]? = some t → args[j]? = some v → Value.okWide Try.prog W .any base t v := hval0
  have hW' := hW
  obtain ⟨p, q, hA0, hV, rfl, hfz, hnd⟩ := hW
  have hA : DataW.TrodAll enc Try.prog W 0 (fun _ => true) true Try.f3.params.toList args.toList ds p := hA0
  rw [Try.params3] at hA hval
  obtain ⟨v0, vs0, d0, ds0, p0, q0, hargs, rfl, rfl, h0, r0⟩ := trodAll_cons hA
  obtain ⟨rfl, rfl, rfl⟩ := trodAll_nil r0
  obtain rfl : args = #[v0] := by cases args; simp_all
  obtain ⟨rfl, rfl⟩ := trodVars_none hV
  obtain ⟨a0, len0, cap0, rfl⟩ := okWide_slice Try.underlying22 (hval 0 22 v0 rfl rfl)
  have k0 := h0
  have lt0 : ∀ x ∈ p0, x.block < W.heap.size := by obtain ⟨m, hm⟩ := k0; exact DataW.trod_lt m _ _ _ hm
  obtain ⟨z0, w0⟩ : ∃ zs, IsRow .u8 W a0 len0 cap0 zs := by
    obtain ⟨fuel, hf⟩ := h0
    rcases open_ints Try.underlying22 Try.underlying5 (by kernel_rfl) hf with ⟨hcs, _⟩ | ⟨x, l, c, zs, hcs, _, hl, hm, hz, _, hcell, hwz⟩
    · simp [Value.cells] at hcs
      obtain ⟨rfl, rfl, rfl⟩ := hcs
      exact ⟨[], .inl ⟨rfl, rfl, rfl, rfl⟩⟩
    · simp [Value.cells] at hcs
      obtain ⟨rfl, rfl, rfl⟩ := hcs
      exact ⟨zs, .inr ⟨_, rfl, hl, hm, by simpa using hz, hcell, hwz⟩⟩
  clear hA0 hval0
  refine (walk a0 len0 cap0 z0 W w0).mono fun e W' ⟨he, bel⟩ => ?_
  subst he
  exact ⟨_, rfl, _, _, _, [], _, [], hW', trodAll_mk1 (shut_bool Try.underlying4 _), (trodAll_cons_mk (Below.trod laidOut (by kernel_rfl) (of_decide_eq_true (by kernel_rfl)) k0 bel lt0) trodAll_mk0), rfl, bel.frame _, fun h => by cases h⟩

theorem over : Rows.fnTokensRow.holds Try.pinned (OpenSpec.ofChange Rows.fnTokensSpec) :=
  OpenClaim.holds_of_wide 3 Try.f3 rfl rfl rfl rfl rfl rfl rfl ⟨rfl, rfl, rfl, rfl, rfl⟩ rfl rfl rfl rfl rfl (by kernel_rfl) Try.func3 (by kernel_rfl)
    (of_decide_eq_true (by kernel_rfl)) (by unfold Func.isWrapper; first | (rw [if_pos (by decide +kernel)]; kernel_rfl) | (rw [if_neg (by decide +kernel)]; exact ⟨rfl, rfl⟩))
    (fun os started H enc _ => lifted os started H enc)

/-- ████ THE STATEMENT ████ -/
theorem proved : Rows.FnTokensSaid := over
#print axioms proved
end Go.Proofs.Ythojlfcahhjfaaa.fnTokens
namespace Go.Proofs.Ythojlfcahhjfaaa
theorem fnTokens_holds : Rows.FnTokensSaid := fnTokens.proved
end Go.Proofs.Ythojlfcahhjfaaa
