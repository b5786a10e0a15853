/- Several texts in one: ImplTok1, ImplTok2. -/
import Derived.Test.YtckhjoancfbkfaaGreatNG9
import Derived.Test.YtckhjoancfbkfaaGreatNG2
import Derived.Deep.DeepCutAuto
import Derived.RangeFuncNested
import Derived.RangeFuncBound
import Derived.RangeFuncCalls
import Derived.RangeFuncLeaves
import Derived.RangeFuncBox
import Derived.Shelf.Abstract
import Derived.Shelf.RegionOpen
import Derived.OwnWalkIn
import Derived.TacticsInMore
import Derived.LoopNIn
import Derived.LoopIn
namespace Go.Proofs.YtckhjoancfbkfaaGreat

section
open Go.RowKit

theorem isBlank_any (c : Int) (w : World) : Calls Tryz.prog 153 #[.int .u8 c] w fun e w' => e = .returned (.bool (blankB c)) ∧ w' = w := by
  cases h : (c == 32)
  · go_enter Tryz.func153, Tryz.ntmps153
    go_wp2
    go_ret
    exact ⟨by simp [blankB, h], rfl⟩
  · go_enter Tryz.func153, Tryz.ntmps153
    go_wp2
    go_ret
    exact ⟨by simp [blankB, h], rfl⟩

def brackB (c : Int) : Bool := c == 40 || c == 41

theorem isBracket_any (c : Int) (w : World) : Calls Tryz.prog 163 #[.int .u8 c] w fun e w' => e = .returned (.bool (brackB c)) ∧ w' = w := by
  cases h : (c == 40)
  · go_enter Tryz.func163, Tryz.ntmps163
    go_wp2
    go_ret
    exact ⟨by simp [brackB, h], rfl⟩
  · go_enter Tryz.func163, Tryz.ntmps163
    go_wp2
    go_ret
    exact ⟨by simp [brackB, h], rfl⟩

/-- Where the program's piece at i ends: a blank is one by itself. -/
def pendI (zs : List Int) (i : Nat) : Nat := if blankB (zs.getD i 0) then i + 1 else pend zs i

theorem pendI_short (zs : List Int) (i : Nat) (h : blankB (zs.getD i 0) = true ∨ brackB (zs.getD i 0) = true) : pendI zs i = i + 1 := by
  unfold pendI
  by_cases hb : blankB (zs.getD i 0) = true
  · rw [if_pos hb]
  · rw [if_neg hb]
    have h2 : brackB (zs.getD i 0) = true := by rcases h with h | h; exact absurd h hb; exact h
    unfold pend
    rw [if_pos]
    generalize zs.getD i 0 = c at h2
    simpa [brackB] using h2

theorem pendI_long (zs : List Int) (i : Nat) (h : blankB (zs.getD i 0) = false) (h' : brackB (zs.getD i 0) = false) : pendI zs i = i + 1 + runLow zs (i + 1) := by
  unfold pendI
  rw [h]
  simp only [Bool.false_eq_true, if_false]
  unfold pend
  rw [if_neg]
  generalize zs.getD i 0 = c at h'
  simpa [brackB] using h'

set_option maxHeartbeats 400000 in
theorem pieceEnd_any (a : Option Addr) (n cap : Nat) (zs : List Int) (i : Nat) (w : World) {lo hi : Nat} (h : Rd lo hi w a n cap zs) (hi' : i < n) :
    Calls Tryz.prog 152 #[.slice a n cap, .int .i64 i] w fun e w' => e = .returned (.int .i64 (pendI zs i)) ∧ w' = w := by
  obtain ⟨hl, ⟨hn, hm⟩, hby, hcs⟩ := h
  rcases hcs with h0 | ⟨b, off, rfl, hlo, hb, hcs⟩
  · omega
  · obtain ⟨c0, hc0⟩ : ∃ c, c = zs.getD i 0 := ⟨_, rfl⟩
    have hck : w.cell? ⟨b, off + i, none⟩ = some (.int .u8 c0) := by rw [hc0]; exact hcs i hi'
    have HCell : Hid (∀ j, j < n → w.cell? ⟨b, off + j, none⟩ = some (.int .u8 (zs.getD j 0))) := hcs
    have HC : Hid (c0 = zs.getD i 0) := hc0
    have HL : Hid (zs.length = n) := hl
    clear hcs hby hl hc0
    cases hbl : blankB c0
    · cases hbr : brackB c0
      · have HE : Hid (pendI zs i = i + 1 + runLow zs (i + 1)) := pendI_long zs i (by rw [← HC.out]; exact hbl) (by rw [← HC.out]; exact hbr)
        go_enter Tryz.func152, Tryz.ntmps152
        go_wp2_with (first | (go_at_call 153; refine (isBlank_any _ _).mono ?_; rintro e w1 ⟨rfl, hw⟩; subst hw; rw [hbl]) | (go_at_call 163; refine (isBracket_any _ _).mono ?_; rintro e w1 ⟨rfl, hw⟩; subst hw; rw [hbr]))
        go_loop [5] (fun v => ∃ k : Nat, i + 1 ≤ k ∧ k ≤ n ∧ v = .int .i64 k ∧ runLow zs (i + 1) = (k - (i + 1)) + runLow zs k) (fun v => n - (intOf v).toNat)
        case atStart => exact ⟨i + 1, by omega, by omega, by go_num, by simp⟩
        case round =>
          obtain ⟨k, hk, hkn, rfl, hrun⟩ := hrel
          have HR : Hid (runLow zs (i + 1) = (k - (i + 1)) + runLow zs k) := hrun
          clear hrun
          by_cases hkl : k < n
          · obtain ⟨c, HC'⟩ : ∃ c, Hid (c = zs.getD k 0) := ⟨_, rfl⟩
            have hck' := HCell.out k hkl
            rw [← HC'.out] at hck'
            have hkd : decide ((k : Int) < (n : Int)) = true := by simp; omega
            cases hlow : lowB c
            · have HZ : Hid (runLow zs k = 0) := runLow_stop zs k (.inr (by rw [← HC'.out]; exact hlow))
              go_wp2_with (go_at_call 161; refine (isLower_any _ _).mono ?_; rintro e w' ⟨rfl, rfl⟩; rw [hlow])
              go_ret
              exact ⟨ri (by have := HR.out; have := HZ.out; have := HE.out; omega), rfl⟩
            · have HZ : Hid (runLow zs k = runLow zs (k + 1) + 1) := runLow_go zs k (by rw [HL.out]; exact hkl) (by rw [← HC'.out]; exact hlow)
              go_wp2_with (go_at_call 161; refine (isLower_any _ _).mono ?_; rintro e w' ⟨rfl, rfl⟩; rw [hlow])
              go_round
              case rel => exact ⟨k + 1, by omega, by omega, by go_num, by have := HR.out; have := HZ.out; omega⟩
              case measure => simp [intOf]; omega
          · have hkd : decide ((k : Int) < (n : Int)) = false := by simp; omega
            have HZ : Hid (runLow zs k = 0) := runLow_stop zs k (.inl (by rw [HL.out]; omega))
            go_wp2
            go_ret
            exact ⟨ri (by have := HR.out; have := HZ.out; have := HE.out; omega), rfl⟩
      · have HE : Hid (pendI zs i = i + 1) := pendI_short zs i (.inr (by rw [← HC.out]; exact hbr))
        go_enter Tryz.func152, Tryz.ntmps152
        go_wp2_with (first | (go_at_call 153; refine (isBlank_any _ _).mono ?_; rintro e w1 ⟨rfl, hw⟩; subst hw; rw [hbl]) | (go_at_call 163; refine (isBracket_any _ _).mono ?_; rintro e w1 ⟨rfl, hw⟩; subst hw; rw [hbr]))
        go_ret
        exact ⟨ri (by have := HE.out; omega), rfl⟩
    · have HE : Hid (pendI zs i = i + 1) := pendI_short zs i (.inl (by rw [← HC.out]; exact hbl))
      go_enter Tryz.func152, Tryz.ntmps152
      go_wp2_with (go_at_call 153; refine (isBlank_any _ _).mono ?_; rintro e w1 ⟨rfl, hw⟩; subst hw; rw [hbl])
      go_ret
      exact ⟨ri (by have := HE.out; omega), rfl⟩

theorem strOf_toList (p : List Int) : (strOfNums p).toList = p.map fun n => UInt8.ofNat n.toNat := by
  rw [ByteArray.toList_eq]; rfl

theorem str_one (p : List Int) (hb : ∀ i, 0 ≤ p.getD i 0 ∧ p.getD i 0 ≤ 255) (c : Nat) (hc : c ≤ 255) : ((strOfNums p).toList == [UInt8.ofNat c]) = decide (p = [(c : Int)]) := by
  rw [strOf_toList, Bool.eq_iff_iff, beq_iff_eq, decide_eq_true_iff]
  constructor
  · intro h
    have hlen : p.length = 1 := by have := congrArg List.length h; simpa using this
    obtain ⟨x, rfl⟩ := List.length_eq_one_iff.1 hlen
    · have hx := hb 0
      simp at hx h
      have h2 := congrArg UInt8.toNat h
      simp only [UInt8.toNat_ofNat'] at h2
      rw [Nat.mod_eq_of_lt (by omega), Nat.mod_eq_of_lt (by omega)] at h2
      simp; omega
  · intro h
    rw [h]; simp

set_option maxHeartbeats 400000 in
theorem pieceKind_any (a : Option Addr) (n cap : Nat) (p : List Int) (w : World) {lo hi : Nat} (h : Rd lo hi w a n cap p) :
    Calls Tryz.prog 125 #[.slice a n cap] w fun e w' => e = .returned (.int .i64 (kindOf p)) ∧ w' = w := by
  have hcv := conv_any h
  have h40 := str_one p h.byte 40 (by omega)
  have h41 := str_one p h.byte 41 (by omega)
  have H : Hid (Rd lo hi w a n cap p) := h
  obtain ⟨s, hs⟩ : ∃ s, s = strOfNums p := ⟨_, rfl⟩
  rw [← hs] at hcv h40 h41
  clear hs h
  cases hu : upOk p
  · cases hl : lowOk p
    · by_cases e40 : p = [40]
      · have hb : (s.toList == [40]) = true := by rw [show ([40] : List UInt8) = [UInt8.ofNat 40] from rfl, h40]; simpa using e40
        have HK : Hid (kindOf p = 3) := by unfold Hid kindOf; rw [hu, hl, if_neg (by simp), if_neg (by simp), if_pos e40]
        clear h40 h41 e40
        go_enter Tryz.func125, Tryz.ntmps125
        go_wp2_with (first | (go_at_call 154; refine (implUpperOk_any _ _ _ p _ H.out).mono ?_; rintro e w1 ⟨rfl, hw⟩; subst hw; rw [hu]) | (go_at_call 91; refine (implLowerOk_any _ _ _ p _ H.out).mono ?_; rintro e w1 ⟨rfl, hw⟩; subst hw; rw [hl]))
        go_ret
        exact ⟨ri HK.out.symm, rfl⟩
      · have hb : (s.toList == [40]) = false := by rw [show ([40] : List UInt8) = [UInt8.ofNat 40] from rfl, h40]; simpa using e40
        by_cases e41 : p = [41]
        · have hb' : (s.toList == [41]) = true := by rw [show ([41] : List UInt8) = [UInt8.ofNat 41] from rfl, h41]; simpa using e41
          have HK : Hid (kindOf p = 4) := by unfold Hid kindOf; rw [hu, hl, if_neg (by simp), if_neg (by simp), if_neg e40, if_pos e41]
          clear h40 h41 e40 e41
          go_enter Tryz.func125, Tryz.ntmps125
          go_wp2_with (first | (go_at_call 154; refine (implUpperOk_any _ _ _ p _ H.out).mono ?_; rintro e w1 ⟨rfl, hw⟩; subst hw; rw [hu]) | (go_at_call 91; refine (implLowerOk_any _ _ _ p _ H.out).mono ?_; rintro e w1 ⟨rfl, hw⟩; subst hw; rw [hl]))
          go_ret
          exact ⟨ri HK.out.symm, rfl⟩
        · have hb' : (s.toList == [41]) = false := by rw [show ([41] : List UInt8) = [UInt8.ofNat 41] from rfl, h41]; simpa using e41
          have HK : Hid (kindOf p = 0) := by unfold Hid kindOf; rw [hu, hl, if_neg (by simp), if_neg (by simp), if_neg e40, if_neg e41]
          clear h40 h41 e40 e41
          go_enter Tryz.func125, Tryz.ntmps125
          go_wp2_with (first | (go_at_call 154; refine (implUpperOk_any _ _ _ p _ H.out).mono ?_; rintro e w1 ⟨rfl, hw⟩; subst hw; rw [hu]) | (go_at_call 91; refine (implLowerOk_any _ _ _ p _ H.out).mono ?_; rintro e w1 ⟨rfl, hw⟩; subst hw; rw [hl]))
          go_ret
          exact ⟨ri HK.out.symm, rfl⟩
    · have HK : Hid (kindOf p = 2) := by unfold Hid kindOf; rw [hu, hl, if_neg (by simp), if_pos rfl]
      clear h40 h41
      go_enter Tryz.func125, Tryz.ntmps125
      go_wp2_with (first | (go_at_call 154; refine (implUpperOk_any _ _ _ p _ H.out).mono ?_; rintro e w1 ⟨rfl, hw⟩; subst hw; rw [hu]) | (go_at_call 91; refine (implLowerOk_any _ _ _ p _ H.out).mono ?_; rintro e w1 ⟨rfl, hw⟩; subst hw; rw [hl]))
      go_ret
      exact ⟨ri HK.out.symm, rfl⟩
  · have HK : Hid (kindOf p = 1) := by unfold Hid kindOf; rw [hu, if_pos rfl]
    clear h40 h41
    go_enter Tryz.func125, Tryz.ntmps125
    go_wp2_with (go_at_call 154; refine (implUpperOk_any _ _ _ p _ H.out).mono ?_; rintro e w1 ⟨rfl, hw⟩; subst hw; rw [hu])
    go_ret
    exact ⟨ri HK.out.symm, rfl⟩

set_option maxHeartbeats 400000 in
/-- A copy of bytes, of one at least, in a row of its own. -/
theorem clone_any (b off n cap : Nat) (p : List Int) (w : World) {lo hi : Nat} (h : Rd lo hi w (some ⟨b, off, none⟩) n cap p) (hhi : hi ≤ w.heap.size) (hn : 0 < n) (hbig : n ≤ 1048576) :
    Calls Tryz.prog 126 #[.slice (some ⟨b, off, none⟩) n cap] w fun e w' => ∃ g c, e = .returned (.slice (some ⟨g, 0, none⟩) n c) ∧ w.heap.size ≤ g ∧ Row w' g c p ∧ c ≤ 9223372036854775807 ∧ Below w.heap.size w w' := by
  obtain ⟨hl, ⟨hle, hm⟩, hby, hcs⟩ := h
  rcases hcs with h0 | ⟨b', off', e, hlo, hb, hcs⟩
  · omega
  · simp only [Option.some.injEq, Addr.mk.injEq, and_true] at e
    obtain ⟨rfl, rfl⟩ := e
    have hnil := fun w : World => Lib.run_eql_slice_nil (P := Tryz.prog) (t := 22) (a := some ⟨b, off, none⟩) (n := n) (c := cap) (w := w)
    obtain ⟨i0, hi0, hz0, hz1, hz2⟩ := info_parts Tryz.info5
    have HN : Hid (∀ W : World, Below w.heap.size w W → ∀ j u, (p.map (Value.int .u8))[j]? = some u → W.cell? ((⟨b, off, none⟩ : Addr).add j) = some u) := by
      intro W hW j u hu
      have hj : j < p.length := by simpa using (List.getElem?_eq_some_iff.1 hu).1
      rw [Addr.add_lit, hW.cell (p := ⟨b, off + j, none⟩) (by show b < _; omega), hcs j (by omega), ← hu]
      simp [List.getD, hj]
    have HL : Hid (p.length = n) := hl
    clear hcs hby hl
    go_enter Tryz.func126, Tryz.ntmps126
    go_wp2_with (at_builtin; refine wpList_append_own _ rfl (.tmp 5) (.tmp 6) 22 rfl w.heap.size 5 i0 (.int .u8 0) 1 1 Tryz.underlying22 hi0 hz0 hz1 hz2 rfl (by decide) (.slice (some ⟨w.heap.size, 0, none⟩) 0 0) 0 [] rfl (ownsRow_empty _ _ _ rfl (Nat.le_refl _)) ⟨b, off, none⟩ n cap (p.map (Value.int .u8)) rfl (by simp [HL.out]) (HN.out _ ((Below.refl _ _).alloc (Nat.le_refl _) _)) (oneC _) (by unfold maxLen; omega) (by omega) (by simp) ?_; intro v' w1 hown' hgrow _; obtain ⟨g, c, hv, hg, hrow, hc⟩ := row_of_owns hown' (by omega); rw [Nat.zero_add] at hv; subst hv; have hb1 := ((Below.refl w.heap.size w).alloc (Nat.le_refl _) _).grown hgrow (by simp) (fun k e => by simp [Value.ownBlock] at e; omega); have HR : Hid (Row w1 g c p) := hrow; have HB : Hid (Below w.heap.size w w1) := hb1; clear hown' hgrow hrow hb1)
    go_ret
    exact ⟨g, c, rfl, hg, HR.out, hc, HB.out⟩
end

section
open Go.RowKit Go.Shelf

attribute [local go_sem] Oper.semAt_some

/-- A place at which a piece begins. -/
abbrev PosOf (zs : List Int) := { i : Nat // i < zs.length ∧ blankB (zs.getD i 0) = false }

def posFrom (zs : List Int) : Nat → Nat → List (PosOf zs)
  | 0, _ => []
  | f + 1, i => if h : i < zs.length then (if hb : blankB (zs.getD i 0) = false then ⟨i, h, hb⟩ :: posFrom zs f (pend zs i) else posFrom zs f (i + 1)) else []

theorem posFrom_stop (zs : List Int) (f i : Nat) (h : zs.length ≤ i) : posFrom zs f i = [] := by
  cases f with
  | zero => rfl
  | succ f => rw [posFrom, dif_neg (by omega)]
theorem posFrom_blank (zs : List Int) (f i : Nat) (h : i < zs.length) (hb : blankB (zs.getD i 0) = true) : posFrom zs (f + 1) i = posFrom zs f (i + 1) := by
  rw [posFrom, dif_pos h, dif_neg (by rw [hb]; simp)]
theorem posFrom_piece (zs : List Int) (f i : Nat) (h : i < zs.length) (hb : blankB (zs.getD i 0) = false) : posFrom zs (f + 1) i = ⟨i, h, hb⟩ :: posFrom zs f (pend zs i) := by
  rw [posFrom, dif_pos h, dif_pos hb]

def encP (zs : List Int) (b off cap : Nat) (x : PosOf zs) : Array Value := #[.int .i64 (x.1 : Nat), .slice (some ⟨b, off + x.1, none⟩) (pend zs x.1 - x.1) (cap - x.1)]

/-- What a round keeps: all that lay below B, and the block Bs. -/
def KpT (B Bs : Nat) (W W' : World) : Prop := Below B W W' ∧ W'.heap[Bs]? = W.heap[Bs]?
theorem KpT.refl (B Bs : Nat) (W : World) : KpT B Bs W W := ⟨Below.refl _ _, rfl⟩
theorem KpT.trans {B Bs : Nat} {A C D : World} (h : KpT B Bs A C) (k : KpT B Bs C D) : KpT B Bs A D := ⟨h.1.trans k.1, k.2.trans h.2⟩

set_option maxRecDepth 100000 in
set_option maxHeartbeats 2000000 in
theorem pieces1_in (n l Bs B b off len cap : Nat) (hn1 : 1 ≤ n) (zs : List Int) (hl : zs.length = len) (hle : len ≤ cap) (_hcap : cap ≤ 9223372036854775807) (_hb : b < B) (_hbig : len ≤ 1500) (J Jx : List (PosOf zs) → World → Prop)
    (hY : ∀ pre x W, J pre W → pre.length < len + 1 → YieldAt Fence.wide (n - 1) Tryz.prog l (encP zs b off cap x) W fun e W' =>
      (e = .returned (.bool true) ∧ J (pre ++ [x]) W' ∧ KpT B Bs W W') ∨ (e = .returned (.bool false) ∧ Jx (pre ++ [x]) W'))
    (W : World) (hBs : W.cell? ⟨Bs, 0, none⟩ = some (.slice (some ⟨b, off, none⟩) len cap)) (hR : Rd 0 B W (some ⟨b, off, none⟩) len cap zs) (h0 : J [] W) :
    CallsIn Fence.wide n Tryz.prog 151 #[.func (.yield l) #[] #[], .pointer (some ⟨Bs, 0, none⟩)] W fun e W' => (∃ v, e = .returned v) ∧
      ((∃ ys, ys = posFrom zs (len + 1) 0 ∧ J ys W') ∨ (∃ pre, pre <+: posFrom zs (len + 1) 0 ∧ Jx pre W')) := by
  have HR : Hid (Rd 0 B W (some ⟨b, off, none⟩) len cap zs) := hR
  have HL : Hid (zs.length = len) := hl
  clear hR hl
  refine callsIn_of_wp Tryz.func151 rfl trivial ?_ rfl
  simp only [Tryz.ntmps151, List.size_toArray, List.length_cons, List.length_nil, Nat.reduceAdd, Nat.reduceSub, Array.replicate_succ, Array.replicate_zero, List.push_toArray, List.append_toArray, List.nil_append, List.cons_append]
  gi_wp2
  gi_loopw [3] (fun i wr => ∃ (k f : Nat) (pre : List (PosOf zs)), k ≤ len ∧ len + 1 ≤ f + k ∧ i = .int .i64 k ∧ pre.length ≤ k ∧ posFrom zs (len + 1) 0 = pre ++ posFrom zs f k ∧ J pre wr ∧ KpT B Bs W wr) (fun i _ => len - (intOf i).toNat)
  case atStart => exact ⟨0, len + 1, [], Nat.zero_le _, by omega, rfl, by simp, rfl, h0, KpT.refl _ _ _⟩
  case round =>
    obtain ⟨k, f, pre, hk, hf, rfl, hpl, hpos, hJ, hK⟩ := hrel
    have HP : Hid (posFrom zs (len + 1) 0 = pre ++ posFrom zs f k) := hpos
    have hbox : wr.cell? ⟨Bs, 0, none⟩ = some (.slice (some ⟨b, off, none⟩) len cap) := (World.cell?_of_block (w := W) hK.2).trans hBs
    by_cases hlt : k < len
    · have hzl : k < zs.length := by rw [HL.out]; exact hlt
      have hRw := HR.out.same (Same.of_below hK.1 (Nat.le_refl _))
      have HRw : Hid (Rd 0 B wr (some ⟨b, off, none⟩) len cap zs) := hRw
      obtain ⟨c, HC⟩ : ∃ c, Hid (c = zs.getD k 0) := ⟨_, rfl⟩
      have hck : wr.cell? ⟨b, off + k, none⟩ = some (.int .u8 c) := by
        rcases hRw.cells with h0 | ⟨b', off', e, _, _, hcs⟩
        · omega
        · simp only [Option.some.injEq, Addr.mk.injEq, and_true] at e
          obtain ⟨rfl, rfl⟩ := e
          rw [HC.out]; exact hcs k hlt
      obtain ⟨st, HST⟩ : ∃ st, Hid (st = pendI zs k) := ⟨_, rfl⟩
      obtain ⟨f', rfl⟩ : ∃ f', f = f' + 1 := ⟨f - 1, by omega⟩
      have HK : Hid (KpT B Bs W wr) := hK
      clear hpos hRw hK
      cases hbl : blankB c
      · have hnb : blankB (zs.getD k 0) = false := by rw [← HC.out]; exact hbl
        have HSP : Hid (st = pend zs k) := by unfold Hid; rw [HST.out, pendI, hnb]; simp
        have hst1 : k < st := by rw [HSP.out]; exact pend_gt zs k
        have hst2 : st ≤ len := by rw [HSP.out, ← HL.out]; exact pend_le zs k hzl
        have hcne : ¬ cap = k := by omega
        have hyy := hY pre ⟨k, hzl, hnb⟩ wr hJ (by omega)
        unfold encP at hyy
        rw [show pend zs (⟨k, hzl, hnb⟩ : PosOf zs).1 = st from HSP.out.symm] at hyy
        obtain ⟨fn, tmps, assign, body, hy, hRr⟩ := hyy
        dsimp only at hy
        gi_wp2_with (first | (refine ⟨trivial, ?_⟩; gi_at_call 152; refine (callsIn_wide.2 (pieceEnd_any _ _ _ zs k _ HRw.out hlt)).mono ?_; rintro e w1 ⟨rfl, hw⟩; subst hw; rw [← HST.out]) | (refine ⟨trivial, ?_⟩; gi_at_call 153; refine (callsIn_wide.2 (isBlank_any _ _)).mono ?_; rintro e w1 ⟨rfl, hw⟩; subst hw; rw [hbl]))
        refine hRr.mono ?_
        rintro e W3 (⟨rfl, hJ3, hk3⟩ | ⟨rfl, hJx3⟩)
        · have HN : Hid (posFrom zs (len + 1) 0 = (pre ++ [⟨k, hzl, hnb⟩]) ++ posFrom zs f' st) := by
            unfold Hid; rw [HP.out, posFrom_piece zs f' k hzl hnb, HSP.out]; simp
          have HK3 := HK.out.trans hk3
          gi_wp2
          go_roundw
          case rel => exact ⟨st, f', pre ++ [⟨k, hzl, hnb⟩], hst2, by omega, rfl, by simp; omega, HN.out, hJ3, HK3⟩
          case measure => simp [intOf]; omega
        · have HN : Hid (pre ++ [⟨k, hzl, hnb⟩] <+: posFrom zs (len + 1) 0) := by
            unfold Hid; rw [HP.out, posFrom_piece zs f' k hzl hnb]; exact ⟨posFrom zs f' (pend zs k), by simp⟩
          gi_wp2
          refine bodyPost_ret (results_none rfl _ _ _) rfl ?_
          exact ⟨⟨_, rfl⟩, .inr ⟨_, HN.out, hJx3⟩⟩
      · have HSP : Hid (st = k + 1) := by unfold Hid; rw [HST.out]; exact pendI_short zs k (.inl (by rw [← HC.out]; exact hbl))
        have HN : Hid (posFrom zs (len + 1) 0 = pre ++ posFrom zs f' st) := by
          unfold Hid; rw [HP.out, posFrom_blank zs f' k hzl (by rw [← HC.out]; exact hbl), HSP.out]
        have hst2 : st ≤ len := by rw [HSP.out]; omega
        have hst1 : k < st := by rw [HSP.out]; omega
        gi_wp2_with (first | (refine ⟨trivial, ?_⟩; gi_at_call 152; refine (callsIn_wide.2 (pieceEnd_any _ _ _ zs k _ HRw.out hlt)).mono ?_; rintro e w1 ⟨rfl, hw⟩; subst hw; rw [← HST.out]) | (refine ⟨trivial, ?_⟩; gi_at_call 153; refine (callsIn_wide.2 (isBlank_any _ _)).mono ?_; rintro e w1 ⟨rfl, hw⟩; subst hw; rw [hbl]))
        refine ⟨fun _ h => (by cases h), ?_⟩
        gi_wp2
        go_roundw
        case rel => exact ⟨st, f', pre, hst2, by omega, rfl, by omega, HN.out, hJ, HK.out⟩
        case measure => simp [intOf]; omega
    · have HE : Hid (posFrom zs (len + 1) 0 = pre) := by unfold Hid; rw [HP.out, posFrom_stop zs f k (by rw [HL.out]; omega), List.append_nil]
      clear hpos
      gi_wp2
      go_end0
      exact ⟨⟨_, rfl⟩, .inl ⟨_, HE.out.symm, hJ⟩⟩

set_option maxHeartbeats 1000000 in
theorem pieces_in (n : Nat) (a : Option Addr) (len cap : Nat) (w : World) :
    CallsIn Fence.wide n Tryz.prog 124 #[.slice a len cap] w fun e w' => e = .returned (.func (.func 151) #[] #[.pointer (some ⟨w.heap.size, 0, none⟩)]) ∧ w' = w.alloc (.cells #[.slice a len cap] 22) := by
  refine callsIn_of_wp Tryz.func124 rfl trivial ?_ rfl
  simp only [Tryz.ntmps124, List.size_toArray, List.length_cons, List.length_nil, Nat.reduceAdd, Nat.reduceSub, Array.replicate_succ, Array.replicate_zero, List.push_toArray, List.append_toArray, List.nil_append, List.cons_append]
  gi_wp2
  go_ret
  exact ⟨rfl, rfl⟩

/-- The pieces of a text, one by one. -/
theorem pieces_stops (n Bs B b off len cap : Nat) (hn1 : 1 ≤ n) (zs : List Int) (hb : b < B) (hbig : len ≤ 1500) (w : World) (hBs : Bs < w.heap.size) (hB : B ≤ w.heap.size)
    (hc : w.cell? ⟨Bs, 0, none⟩ = some (.slice (some ⟨b, off, none⟩) len cap)) (hR : Rd 0 B w (some ⟨b, off, none⟩) len cap zs) :
    SeqStopsK Fence.wide n Tryz.prog 151 #[.pointer (some ⟨Bs, 0, none⟩)] (encP zs b off cap) (KpT B Bs) (fun ys => ys = posFrom zs (len + 1) 0) (fun pre => pre <+: posFrom zs (len + 1) 0) (len + 1) w := fun l J Jx W hW _ _ hY h0 => by
  refine pieces1_in n l Bs B b off len cap hn1 zs hR.len hR.fits.1 hR.fits.2 hb hbig J Jx hY W ((hW.cell (p := ⟨Bs, 0, none⟩) hBs).trans hc) (hR.below hW hB) h0
end

end Go.Proofs.YtckhjoancfbkfaaGreat
