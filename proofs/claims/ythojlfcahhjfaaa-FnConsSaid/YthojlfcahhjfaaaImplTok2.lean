/- The program's iterator over the pieces of a text: all pieces in order, or a first part of them where the loop says 'no more'. -/
import Derived.Test.YthojlfcahhjfaaaImplTok1
import Derived.RangeFuncNested
import Derived.RangeFuncBound
import Derived.RangeFuncCalls
import Derived.RangeFuncLeaves
import Derived.RangeFuncBox
import Derived.Shelf.Abstract
import Derived.Shelf.RegionOpen
import Derived.OwnWalkIn
import Derived.TacticsInMore
import Derived.LoopNIn
import Derived.LoopIn
namespace Go.Proofs.Ythojlfcahhjfaaa
open Go.RowKit Go.Shelf

attribute [local go_sem] Oper.semAt_some

/-- A place at which a piece begins. -/
abbrev PosOf (zs : List Int) := { i : Nat // i < zs.length ∧ blankB (zs.getD i 0) = false }

def posFrom (zs : List Int) : Nat → Nat → List (PosOf zs)
  | 0, _ => []
  | f + 1, i => if h : i < zs.length then (if hb : blankB (zs.getD i 0) = false then ⟨i, h, hb⟩ :: posFrom zs f (pend zs i) else posFrom zs f (i + 1)) else []

theorem posFrom_stop (zs : List Int) (f i : Nat) (h : zs.length ≤ i) : posFrom zs f i = [] := by
  cases f with
  | zero => rfl
  | succ f => rw [posFrom, dif_neg (by omega)]
theorem posFrom_blank (zs : List Int) (f i : Nat) (h : i < zs.length) (hb : blankB (zs.getD i 0) = true) : posFrom zs (f + 1) i = posFrom zs f (i + 1) := by
  rw [posFrom, dif_pos h, dif_neg (by rw [hb]; simp)]
theorem posFrom_piece (zs : List Int) (f i : Nat) (h : i < zs.length) (hb : blankB (zs.getD i 0) = false) : posFrom zs (f + 1) i = ⟨i, h, hb⟩ :: posFrom zs f (pend zs i) := by
  rw [posFrom, dif_pos h, dif_pos hb]

def encP (zs : List Int) (b off cap : Nat) (x : PosOf zs) : Array Value := #[.int .i64 (x.1 : Nat), .slice (some ⟨b, off + x.1, none⟩) (pend zs x.1 - x.1) (cap - x.1)]

/-- What a round keeps: all that lay below B, and the block Bs. -/
def KpT (B Bs : Nat) (W W' : World) : Prop := Below B W W' ∧ W'.heap[Bs]? = W.heap[Bs]?
theorem KpT.refl (B Bs : Nat) (W : World) : KpT B Bs W W := ⟨Below.refl _ _, rfl⟩
theorem KpT.trans {B Bs : Nat} {A C D : World} (h : KpT B Bs A C) (k : KpT B Bs C D) : KpT B Bs A D := ⟨h.1.trans k.1, k.2.trans h.2⟩

set_option maxRecDepth 100000 in
set_option maxHeartbeats 2000000 in
theorem pieces1_in (n l Bs B b off len cap : Nat) (hn1 : 1 ≤ n) (zs : List Int) (hl : zs.length = len) (hle : len ≤ cap) (_hcap : cap ≤ 9223372036854775807) (_hb : b < B) (_hbig : len ≤ 1500) (J Jx : List (PosOf zs) → World → Prop)
    (hY : ∀ pre x W, J pre W → pre.length < len + 1 → YieldAt Fence.wide (n - 1) Try.prog l (encP zs b off cap x) W fun e W' =>
      (e = .returned (.bool true) ∧ J (pre ++ [x]) W' ∧ KpT B Bs W W') ∨ (e = .returned (.bool false) ∧ Jx (pre ++ [x]) W'))
    (W : World) (hBs : W.cell? ⟨Bs, 0, none⟩ = some (.slice (some ⟨b, off, none⟩) len cap)) (hR : Rd 0 B W (some ⟨b, off, none⟩) len cap zs) (h0 : J [] W) :
    CallsIn Fence.wide n Try.prog 87 #[.func (.yield l) #[] #[], .pointer (some ⟨Bs, 0, none⟩)] W fun e W' => (∃ v, e = .returned v) ∧
      ((∃ ys, ys = posFrom zs (len + 1) 0 ∧ J ys W') ∨ (∃ pre, pre <+: posFrom zs (len + 1) 0 ∧ Jx pre W')) := by
  have HR : Hid (Rd 0 B W (some ⟨b, off, none⟩) len cap zs) := hR
  have HL : Hid (zs.length = len) := hl
  clear hR hl
  refine callsIn_of_wp Try.func87 rfl trivial ?_ rfl
  simp only [Try.ntmps87, List.size_toArray, List.length_cons, List.length_nil, Nat.reduceAdd, Nat.reduceSub, Array.replicate_succ, Array.replicate_zero, List.push_toArray, List.append_toArray, List.nil_append, List.cons_append]
  gi_wp2
  gi_loopw [3] (fun i wr => ∃ (k f : Nat) (pre : List (PosOf zs)), k ≤ len ∧ len + 1 ≤ f + k ∧ i = .int .i64 k ∧ pre.length ≤ k ∧ posFrom zs (len + 1) 0 = pre ++ posFrom zs f k ∧ J pre wr ∧ KpT B Bs W wr) (fun i _ => len - (intOf i).toNat)
  case atStart => exact ⟨0, len + 1, [], Nat.zero_le _, by omega, rfl, by simp, rfl, h0, KpT.refl _ _ _⟩
  case round =>
    obtain ⟨k, f, pre, hk, hf, rfl, hpl, hpos, hJ, hK⟩ := hrel
    have HP : Hid (posFrom zs (len + 1) 0 = pre ++ posFrom zs f k) := hpos
    have hbox : wr.cell? ⟨Bs, 0, none⟩ = some (.slice (some ⟨b, off, none⟩) len cap) := (World.cell?_of_block (w := W) hK.2).trans hBs
    by_cases hlt : k < len
    · have hzl : k < zs.length := by rw [HL.out]; exact hlt
      have hRw := HR.out.same (Same.of_below hK.1 (Nat.le_refl _))
      have HRw : Hid (Rd 0 B wr (some ⟨b, off, none⟩) len cap zs) := hRw
      obtain ⟨c, HC⟩ : ∃ c, Hid (c = zs.getD k 0) := ⟨_, rfl⟩
      have hck : wr.cell? ⟨b, off + k, none⟩ = some (.int .u8 c) := by
        rcases hRw.cells with h0 | ⟨b', off', e, _, _, hcs⟩
        · omega
        · simp only [Option.some.injEq, Addr.mk.injEq, and_true] at e
          obtain ⟨rfl, rfl⟩ := e
          rw [HC.out]; exact hcs k hlt
      obtain ⟨st, HST⟩ : ∃ st, Hid (st = pendI zs k) := ⟨_, rfl⟩
      obtain ⟨f', rfl⟩ : ∃ f', f = f' + 1 := ⟨f - 1, by omega⟩
      have HK : Hid (KpT B Bs W wr) := hK
      clear hpos hRw hK
      cases hbl : blankB c
      · have hnb : blankB (zs.getD k 0) = false := by rw [← HC.out]; exact hbl
        have HSP : Hid (st = pend zs k) := by unfold Hid; rw [HST.out, pendI, hnb]; simp
        have hst1 : k < st := by rw [HSP.out]; exact pend_gt zs k
        have hst2 : st ≤ len := by rw [HSP.out, ← HL.out]; exact pend_le zs k hzl
        have hcne : ¬ cap = k := by omega
        have hyy := hY pre ⟨k, hzl, hnb⟩ wr hJ (by omega)
        unfold encP at hyy
        rw [show pend zs (⟨k, hzl, hnb⟩ : PosOf zs).1 = st from HSP.out.symm] at hyy
        obtain ⟨fn, tmps, assign, body, hy, hRr⟩ := hyy
        dsimp only at hy
        gi_wp2_with (first | (refine ⟨trivial, ?_⟩; gi_at_call 88; refine (callsIn_wide.2 (pieceEnd_any _ _ _ zs k _ HRw.out hlt)).mono ?_; rintro e w1 ⟨rfl, hw⟩; subst hw; rw [← HST.out]) | (refine ⟨trivial, ?_⟩; gi_at_call 89; refine (callsIn_wide.2 (isBlank_any _ _)).mono ?_; rintro e w1 ⟨rfl, hw⟩; subst hw; rw [hbl]))
        refine hRr.mono ?_
        rintro e W3 (⟨rfl, hJ3, hk3⟩ | ⟨rfl, hJx3⟩)
        · have HN : Hid (posFrom zs (len + 1) 0 = (pre ++ [⟨k, hzl, hnb⟩]) ++ posFrom zs f' st) := by
            unfold Hid; rw [HP.out, posFrom_piece zs f' k hzl hnb, HSP.out]; simp
          have HK3 := HK.out.trans hk3
          gi_wp2
          go_roundw
          case rel => exact ⟨st, f', pre ++ [⟨k, hzl, hnb⟩], hst2, by omega, rfl, by simp; omega, HN.out, hJ3, HK3⟩
          case measure => simp [intOf]; omega
        · have HN : Hid (pre ++ [⟨k, hzl, hnb⟩] <+: posFrom zs (len + 1) 0) := by
            unfold Hid; rw [HP.out, posFrom_piece zs f' k hzl hnb]; exact ⟨posFrom zs f' (pend zs k), by simp⟩
          gi_wp2
          refine bodyPost_ret (results_none rfl _ _ _) rfl ?_
          exact ⟨⟨_, rfl⟩, .inr ⟨_, HN.out, hJx3⟩⟩
      · have HSP : Hid (st = k + 1) := by unfold Hid; rw [HST.out]; exact pendI_short zs k (.inl (by rw [← HC.out]; exact hbl))
        have HN : Hid (posFrom zs (len + 1) 0 = pre ++ posFrom zs f' st) := by
          unfold Hid; rw [HP.out, posFrom_blank zs f' k hzl (by rw [← HC.out]; exact hbl), HSP.out]
        have hst2 : st ≤ len := by rw [HSP.out]; omega
        have hst1 : k < st := by rw [HSP.out]; omega
        gi_wp2_with (first | (refine ⟨trivial, ?_⟩; gi_at_call 88; refine (callsIn_wide.2 (pieceEnd_any _ _ _ zs k _ HRw.out hlt)).mono ?_; rintro e w1 ⟨rfl, hw⟩; subst hw; rw [← HST.out]) | (refine ⟨trivial, ?_⟩; gi_at_call 89; refine (callsIn_wide.2 (isBlank_any _ _)).mono ?_; rintro e w1 ⟨rfl, hw⟩; subst hw; rw [hbl]))
        refine ⟨fun _ h => (by cases h), ?_⟩
        gi_wp2
        go_roundw
        case rel => exact ⟨st, f', pre, hst2, by omega, rfl, by omega, HN.out, hJ, HK.out⟩
        case measure => simp [intOf]; omega
    · have HE : Hid (posFrom zs (len + 1) 0 = pre) := by unfold Hid; rw [HP.out, posFrom_stop zs f k (by rw [HL.out]; omega), List.append_nil]
      clear hpos
      gi_wp2
      go_end0
      exact ⟨⟨_, rfl⟩, .inl ⟨_, HE.out.symm, hJ⟩⟩

set_option maxHeartbeats 1000000 in
theorem pieces_in (n : Nat) (a : Option Addr) (len cap : Nat) (w : World) :
    CallsIn Fence.wide n Try.prog 47 #[.slice a len cap] w fun e w' => e = .returned (.func (.func 87) #[] #[.pointer (some ⟨w.heap.size, 0, none⟩)]) ∧ w' = w.alloc (.cells #[.slice a len cap] 22) := by
  refine callsIn_of_wp Try.func47 rfl trivial ?_ rfl
  simp only [Try.ntmps47, List.size_toArray, List.length_cons, List.length_nil, Nat.reduceAdd, Nat.reduceSub, Array.replicate_succ, Array.replicate_zero, List.push_toArray, List.append_toArray, List.nil_append, List.cons_append]
  gi_wp2
  go_ret
  exact ⟨rfl, rfl⟩

/-- The pieces of a text, one by one. -/
theorem pieces_stops (n Bs B b off len cap : Nat) (hn1 : 1 ≤ n) (zs : List Int) (hb : b < B) (hbig : len ≤ 1500) (w : World) (hBs : Bs < w.heap.size) (hB : B ≤ w.heap.size)
    (hc : w.cell? ⟨Bs, 0, none⟩ = some (.slice (some ⟨b, off, none⟩) len cap)) (hR : Rd 0 B w (some ⟨b, off, none⟩) len cap zs) :
    SeqStopsK Fence.wide n Try.prog 87 #[.pointer (some ⟨Bs, 0, none⟩)] (encP zs b off cap) (KpT B Bs) (fun ys => ys = posFrom zs (len + 1) 0) (fun pre => pre <+: posFrom zs (len + 1) 0) (len + 1) w := fun l J Jx W hW _ _ hY h0 => by
  refine pieces1_in n l Bs B b off len cap hn1 zs hR.len hR.fits.1 hR.fits.2 hb hbig J Jx hY W ((hW.cell (p := ⟨Bs, 0, none⟩) hBs).trans hc) (hR.below hW hB) h0

end Go.Proofs.Ythojlfcahhjfaaa
