/- Several texts in one: WdMem, WdLaw1, WdLaw2, WdLaw3. -/
import Derived.Test.YtknainelonaigaaGreatDoorNBase
import Derived.RangeFuncRecord
import Derived.Test.YtknainelonaigaaGreatDoorNSz
import Derived.Test.YtknainelonaigaaGreatDoorConTo
import Derived.Deep.RegionWith
import Derived.Deep.DeepCutAuto
namespace Go.Proofs.YtknainelonaigaaGreatDoor

section
open Go.RowKit

/-- A slice's value reads as this list, each member of one cell, 'R' saying what a cell's value reads as. -/
structure RdN {α : Type} (d : α) (R : Value → α → Prop) (lo hi : Nat) (w : World) (a : Option Addr) (n cap : Nat) (xs : List α) : Prop where
  len : xs.length = n
  fits : n ≤ cap ∧ cap ≤ 9223372036854775807
  cells : n = 0 ∨ ∃ b off, a = some ⟨b, off, none⟩ ∧ lo ≤ b ∧ b < hi ∧ ∀ i, i < n → ∃ v, w.cell? ⟨b, off + i, none⟩ = some v ∧ R v (xs.getD i d)

theorem RdN.imp {α : Type} {d : α} {R S : Value → α → Prop} {lo hi lo' hi' : Nat} {w w' : World} {a : Option Addr} {n cap : Nat} {xs : List α} (h : RdN d R lo hi w a n cap xs)
    (hRS : ∀ v c, R v c → S v c) (hs : Same lo hi w w') (h1 : lo' ≤ lo) (h2 : hi ≤ hi') : RdN d S lo' hi' w' a n cap xs := by
  obtain ⟨hl, hm, hc⟩ := h
  refine ⟨hl, hm, ?_⟩
  rcases hc with h0 | ⟨b, off, e, q1, q2, hc⟩
  · exact .inl h0
  · refine .inr ⟨b, off, e, by omega, by omega, fun i hi => ?_⟩
    obtain ⟨v, c0, hr⟩ := hc i hi
    exact ⟨v, (hs.cell (p := ⟨b, _, none⟩) q1 q2).trans c0, hRS _ _ hr⟩

/-- Flags; numbers. -/
def RB (lo hi : Nat) (w : World) (a : Option Addr) (n cap : Nat) (xs : List Bool) : Prop := RdN false (fun v b => v = .bool b) lo hi w a n cap xs
def RI (lo hi : Nat) (w : World) (a : Option Addr) (n cap : Nat) (xs : List Int) : Prop := RdN 0 (fun v z => v = .int .i64 z) lo hi w a n cap xs
def SlB (lo hi : Nat) (w : World) (v : Value) (zs : List Int) : Prop := ∃ a n c, v = .slice a n c ∧ Rd lo hi w a n c zs
def SlF (lo hi : Nat) (w : World) (v : Value) (zs : List Bool) : Prop := ∃ a n c, v = .slice a n c ∧ RB lo hi w a n c zs
/-- Texts; lists of flags. -/
def RSS (lo hi : Nat) (w : World) (a : Option Addr) (n cap : Nat) (xs : List (List Int)) : Prop := RdN [] (SlB lo hi w) lo hi w a n cap xs
def RFF (lo hi : Nat) (w : World) (a : Option Addr) (n cap : Nat) (xs : List (List Bool)) : Prop := RdN [] (SlF lo hi w) lo hi w a n cap xs

theorem RB.same {lo hi : Nat} {w w' : World} {a : Option Addr} {n cap : Nat} {xs : List Bool} (h : RB lo hi w a n cap xs) (hs : Same lo hi w w') : RB lo hi w' a n cap xs := RdN.imp h (fun _ _ q => q) hs (Nat.le_refl _) (Nat.le_refl _)
theorem RI.same {lo hi : Nat} {w w' : World} {a : Option Addr} {n cap : Nat} {xs : List Int} (h : RI lo hi w a n cap xs) (hs : Same lo hi w w') : RI lo hi w' a n cap xs := RdN.imp h (fun _ _ q => q) hs (Nat.le_refl _) (Nat.le_refl _)
theorem RB.mono {lo hi lo' hi' : Nat} {w : World} {a : Option Addr} {n cap : Nat} {xs : List Bool} (h : RB lo hi w a n cap xs) (h1 : lo' ≤ lo) (h2 : hi ≤ hi') : RB lo' hi' w a n cap xs := RdN.imp h (fun _ _ q => q) (Same.refl _ _ _) h1 h2
theorem RI.mono {lo hi lo' hi' : Nat} {w : World} {a : Option Addr} {n cap : Nat} {xs : List Int} (h : RI lo hi w a n cap xs) (h1 : lo' ≤ lo) (h2 : hi ≤ hi') : RI lo' hi' w a n cap xs := RdN.imp h (fun _ _ q => q) (Same.refl _ _ _) h1 h2
theorem SlB.same {lo hi : Nat} {w w' : World} {v : Value} {zs : List Int} (h : SlB lo hi w v zs) (hs : Same lo hi w w') : SlB lo hi w' v zs := by obtain ⟨a, n, c, e, h⟩ := h; exact ⟨a, n, c, e, h.same hs⟩
theorem SlF.same {lo hi : Nat} {w w' : World} {v : Value} {zs : List Bool} (h : SlF lo hi w v zs) (hs : Same lo hi w w') : SlF lo hi w' v zs := by obtain ⟨a, n, c, e, h⟩ := h; exact ⟨a, n, c, e, h.same hs⟩
theorem SlB.mono {lo hi lo' hi' : Nat} {w : World} {v : Value} {zs : List Int} (h : SlB lo hi w v zs) (h1 : lo' ≤ lo) (h2 : hi ≤ hi') : SlB lo' hi' w v zs := by obtain ⟨a, n, c, e, h⟩ := h; exact ⟨a, n, c, e, h.mono h1 h2⟩
theorem SlF.mono {lo hi lo' hi' : Nat} {w : World} {v : Value} {zs : List Bool} (h : SlF lo hi w v zs) (h1 : lo' ≤ lo) (h2 : hi ≤ hi') : SlF lo' hi' w v zs := by obtain ⟨a, n, c, e, h⟩ := h; exact ⟨a, n, c, e, h.mono h1 h2⟩
theorem RSS.same {lo hi : Nat} {w w' : World} {a : Option Addr} {n cap : Nat} {xs : List (List Int)} (h : RSS lo hi w a n cap xs) (hs : Same lo hi w w') : RSS lo hi w' a n cap xs := RdN.imp h (fun _ _ q => q.same hs) hs (Nat.le_refl _) (Nat.le_refl _)
theorem RFF.same {lo hi : Nat} {w w' : World} {a : Option Addr} {n cap : Nat} {xs : List (List Bool)} (h : RFF lo hi w a n cap xs) (hs : Same lo hi w w') : RFF lo hi w' a n cap xs := RdN.imp h (fun _ _ q => q.same hs) hs (Nat.le_refl _) (Nat.le_refl _)
theorem RSS.mono {lo hi lo' hi' : Nat} {w : World} {a : Option Addr} {n cap : Nat} {xs : List (List Int)} (h : RSS lo hi w a n cap xs) (h1 : lo' ≤ lo) (h2 : hi ≤ hi') : RSS lo' hi' w a n cap xs := RdN.imp h (fun _ _ q => q.mono h1 h2) (Same.refl _ _ _) h1 h2
theorem RFF.mono {lo hi lo' hi' : Nat} {w : World} {a : Option Addr} {n cap : Nat} {xs : List (List Bool)} (h : RFF lo hi w a n cap xs) (h1 : lo' ≤ lo) (h2 : hi ≤ hi') : RFF lo' hi' w a n cap xs := RdN.imp h (fun _ _ q => q.mono h1 h2) (Same.refl _ _ _) h1 h2
theorem RI.below {lo hi B : Nat} {w w' : World} {a : Option Addr} {n cap : Nat} {xs : List Int} (h : RI lo hi w a n cap xs) (hb : Below B w w') (hB : hi ≤ B) : RI lo hi w' a n cap xs := h.same (Same.of_below hb hB)
theorem RSS.below {lo hi B : Nat} {w w' : World} {a : Option Addr} {n cap : Nat} {xs : List (List Int)} (h : RSS lo hi w a n cap xs) (hb : Below B w w') (hB : hi ≤ B) : RSS lo hi w' a n cap xs := h.same (Same.of_below hb hB)
theorem RFF.below {lo hi B : Nat} {w w' : World} {a : Option Addr} {n cap : Nat} {xs : List (List Bool)} (h : RFF lo hi w a n cap xs) (hb : Below B w w') (hB : hi ≤ B) : RFF lo hi w' a n cap xs := h.same (Same.of_below hb hB)

/-- A world. -/
structure WD where
  n : Int
  names : List (List Int)
  sets : List (List Bool)
  roles : List (List Int)
  rels : List (List Bool)
  inds : List (List Int)
  at' : List Int

structure RdW (lo hi : Nat) (w : World) (na : Option Addr) (nn nc : Nat) (sa : Option Addr) (sn sc : Nat) (ra : Option Addr) (rn rc : Nat) (la : Option Addr) (ln lc : Nat) (ia : Option Addr) (im ic : Nat) (ta : Option Addr) (tn tc : Nat) (x : WD) : Prop where
  names : RSS lo hi w na nn nc x.names
  sets : RFF lo hi w sa sn sc x.sets
  roles : RSS lo hi w ra rn rc x.roles
  rels : RFF lo hi w la ln lc x.rels
  inds : RSS lo hi w ia im ic x.inds
  at' : RI lo hi w ta tn tc x.at'

theorem RdW.below {lo hi B : Nat} {w w' : World} {na : Option Addr} {nn nc : Nat} {sa : Option Addr} {sn sc : Nat} {ra : Option Addr} {rn rc : Nat} {la : Option Addr} {ln lc : Nat} {ia : Option Addr} {im ic : Nat} {ta : Option Addr} {tn tc : Nat} {x : WD}
    (h : RdW lo hi w na nn nc sa sn sc ra rn rc la ln lc ia im ic ta tn tc x) (hb : Below B w w') (hB : hi ≤ B) : RdW lo hi w' na nn nc sa sn sc ra rn rc la ln lc ia im ic ta tn tc x :=
  ⟨h.names.below hb hB, h.sets.below hb hB, h.roles.below hb hB, h.rels.below hb hB, h.inds.below hb hB, h.at'.below hb hB⟩

def BoxW (t : Nat) (W : World) (p : Nat) (n : Int) (v1 v2 v3 v4 v5 v6 : Value) : Prop := W.heap[p]? = some (.cells #[.int .i64 n, v1, v2, v3, v4, v5, v6] t (0, 0))
theorem BoxW.new (t : Nat) (W : World) (n : Int) (v1 v2 v3 v4 v5 v6 : Value) : BoxW t (W.alloc (.cells #[.int .i64 n, v1, v2, v3, v4, v5, v6] t)) W.heap.size n v1 v2 v3 v4 v5 v6 := World.alloc_heap_new W _
theorem BoxW.below {t : Nat} {W W' : World} {p B : Nat} {n : Int} {v1 v2 v3 v4 v5 v6 : Value} (h : BoxW t W p n v1 v2 v3 v4 v5 v6) (hb : Below B W W') (hB : p < B) : BoxW t W' p n v1 v2 v3 v4 v5 v6 := (hb.block p hB).trans h
theorem BoxW.lt {t : Nat} {W : World} {p : Nat} {n : Int} {v1 v2 v3 v4 v5 v6 : Value} (h : BoxW t W p n v1 v2 v3 v4 v5 v6) : p < W.heap.size := (Array.getElem?_eq_some_iff.1 h).1
theorem BoxW.cells {t : Nat} {W : World} {p : Nat} {n : Int} {v1 v2 v3 v4 v5 v6 : Value} (h : BoxW t W p n v1 v2 v3 v4 v5 v6) :
    W.cell? ⟨p, 0, none⟩ = some (.int .i64 n) ∧ W.cell? ⟨p, 1, none⟩ = some v1 ∧ W.cell? ⟨p, 2, none⟩ = some v2 ∧ W.cell? ⟨p, 3, none⟩ = some v3 ∧ W.cell? ⟨p, 4, none⟩ = some v4 ∧ W.cell? ⟨p, 5, none⟩ = some v5 ∧ W.cell? ⟨p, 6, none⟩ = some v6 := by
  unfold BoxW at h
  refine ⟨?_, ?_, ?_, ?_, ?_, ?_, ?_⟩ <;> simp [World.cell?, h]
theorem BoxW.frz {t : Nat} {W : World} {p : Nat} {n : Int} {v1 v2 v3 v4 v5 v6 : Value} (h : BoxW t W p n v1 v2 v3 v4 v5 v6) (o : Nat) : W.frozen? ⟨p, o, none⟩ = false := by
  unfold BoxW at h
  simp [World.frozen?, h]
theorem BoxW.at {t : Nat} {W : World} {p : Nat} {n : Int} {v1 v2 v3 v4 v5 v6 : Value} (h : BoxW t W p n v1 v2 v3 v4 v5 v6) (i : Nat) (v : Value) : (W.setCell ⟨p, i, none⟩ v).heap[p]? = some (.cells (#[.int .i64 n, v1, v2, v3, v4, v5, v6].setIfInBounds i v) t (0, 0)) := heap_setCell_same W p i _ _ v h
end

section
open Go.RowKit

set_option maxHeartbeats 800000 in
theorem szByteSS_any (a : Option Addr) (n cap : Nat) (xs : List (List Int)) (left : Int) (w : World) {lo hi : Nat} (h : RSS lo hi w a n cap xs) (h0 : 0 ≤ left) (h1 : left ≤ 1048576) :
    Calls Tryz.prog 14 #[.slice a n cap, .int .i64 left] w fun e w' => ∃ r : Int, e = .returned (.int .i64 r) ∧ r ≤ left ∧ (¬ r < 0 → n ≤ 1048576 ∧ ∀ i, i < n → (xs.getD i []).length ≤ 1048576) ∧ w' = w := by
  have HR : Hid (RSS lo hi w a n cap xs) := h
  obtain ⟨hl, ⟨hm, hM⟩, hcs⟩ := h
  clear hcs hl
  by_cases hbig : left < n
  · go_enter Tryz.func14, Tryz.ntmps14
    go_wp2_with fail
    go_ret
    exact ⟨-1, rfl, by omega, fun hh => by omega, rfl⟩
  · go_enter Tryz.func14, Tryz.ntmps14
    go_wp2_with fail
    go_loopw [1, 5] (fun l i wr => ∃ (k : Nat) (L : Int), k ≤ n ∧ i = .int .i64 k ∧ l = .int .i64 L ∧ 0 ≤ L ∧ L ≤ left ∧ (∀ i, i < k → (xs.getD i []).length ≤ 1048576) ∧ wr = w) (fun _ i _ => n - (intOf i).toNat)
    case atStart => exact ⟨0, left - n, Nat.zero_le _, rfl, by go_num, by omega, by omega, fun i hi => by omega, rfl⟩
    case round =>
      obtain ⟨k, L, hk, rfl, rfl, hL0, hL1, hall, rfl⟩ := hrel
      have HAll : Hid (∀ i, i < k → (xs.getD i []).length ≤ 1048576) := hall
      clear hall
      by_cases hlt : k < n
      · rcases HR.out.cells with hz | ⟨b, off, e1, _, _, hc⟩
        · omega
        · subst e1
          obtain ⟨v, c0, ea, en, ec, rfl, hr⟩ := hc k hlt
          have hki : (k : Int) < (n : Int) := by omega
          have hen : (xs.getD k []).length = en := hr.len
          have hef := hr.fits
          obtain ⟨r, hrr⟩ : ∃ r, r = szRes L en := ⟨_, rfl⟩
          have HRR : Hid (r = szRes L en) := hrr
          have HEn : Hid ((xs.getD k []).length = en) := hen
          clear hc hr hrr hen
          go_wp2_with fail
          refine (szByteS_any ea en ec L wr ⟨hL0, by omega⟩ (by omega)).mono ?_
          rintro e w' ⟨rfl, hw'⟩
          rw [← HRR.out, hw']
          clear hw'
          by_cases hneg : r < 0
          · go_wp2_with fail
            go_ret
            exact ⟨-1, rfl, by omega, fun hh => by omega, rfl⟩
          · have HLe : Hid (r = L - en ∧ (en : Int) ≤ L) := by
              have e := HRR.out
              unfold szRes at e
              split at e
              · omega
              · exact ⟨e, by omega⟩
            go_wp2_with fail
            go_roundw
            case rel => exact ⟨k + 1, r, by omega, by go_num, rfl, by omega, by have := HLe.out; omega, fun i hi => by
              by_cases hik : i < k
              · exact HAll.out i hik
              · obtain rfl : i = k := by omega
                have := HEn.out; have := HLe.out; omega, by first | rfl | trivial⟩
            case measure => simp [intOf]; omega
      · have hkn : k = n := by omega
        subst hkn
        go_wp2_with fail
        go_ret
        exact ⟨L, rfl, hL1, fun _ => ⟨by omega, HAll.out⟩, rfl⟩

set_option maxHeartbeats 800000 in
theorem eqByteSS_any (a a' : Option Addr) (n cap cap' : Nat) (xs : List (List Int)) (w : World) {lo hi lo' hi' : Nat} (h : RSS lo hi w a n cap xs) (h' : RSS lo' hi' w a' n cap' xs) (hh : hi ≤ w.heap.size) (hh' : hi' ≤ w.heap.size) :
    Calls Tryz.prog 28 #[.slice a n cap, .slice a' n cap'] w fun e w' => e = .returned (.bool true) ∧ Below w.heap.size w w' := by
  have HR : Hid (RSS lo hi w a n cap xs) := h
  have HR' : Hid (RSS lo' hi' w a' n cap' xs) := h'
  obtain ⟨hl, ⟨hm, hM⟩, hcs⟩ := h
  obtain ⟨hl', ⟨hm', hM'⟩, hcs'⟩ := h'
  have hb0 : ((n : Int) != (n : Int)) = false := by simp
  clear hcs hcs' hl hl'
  go_enter Tryz.func28, Tryz.ntmps28
  go_wp2_with fail
  go_loopw [5] (fun i wr => ∃ k : Nat, k ≤ n ∧ i = .int .i64 k ∧ Below w.heap.size w wr) (fun i _ => n - (intOf i).toNat)
  case atStart => exact ⟨0, Nat.zero_le _, rfl, Below.refl _ _⟩
  case round =>
    obtain ⟨k, hk, rfl, hbel⟩ := hrel
    have HB : Hid (Below w.heap.size w wr) := hbel
    by_cases hlt : k < n
    · have h1 := HR.out.below hbel hh
      have h2 := HR'.out.below hbel hh'
      rcases h1.cells with h0 | ⟨b1, off1, e1, _, _, hc1⟩
      · omega
      · rcases h2.cells with h0 | ⟨b2, off2, e2, _, _, hc2⟩
        · omega
        · subst e1 e2
          obtain ⟨v, c0, ea, en, ec, rfl, hr⟩ := hc1 k hlt
          obtain ⟨v', c0', xa, xn, xc, rfl, hr'⟩ := hc2 k hlt
          have HK := hr.same (w' := wr.drew) (fun _ _ _ => rfl)
          have HK' := hr'.same (w' := wr.drew) (fun _ _ _ => rfl)
          have HK1 : Hid _ := HK
          have HK1' : Hid _ := HK'
          have hki : (k : Int) < (n : Int) := by omega
          clear h1 h2 hc1 hc2 hr hr' hbel HK HK'
          go_wp2_with fail
          go_region_with (go_at_call 8; refine (eqByteS_any ea xa en ec xn xc (xs.getD k []) (xs.getD k []) _ (lo := lo) (hi := hi) (lo' := lo') (hi' := hi') ?_ ?_).mono ?_; exact HK1.out; exact HK1'.out; rintro e w' ⟨rfl, nd, hwn⟩; rw [show decide (xs.getD k [] = xs.getD k []) = true from by simp]; have hbe : Below wr.heap.size wr w' := (by rw [hwn]; exact below_drewN ((Below.refl _ _).drew) nd); clear hwn)
          all_goals
            go_wp2_with fail
            go_roundw
            case rel => exact ⟨k + 1, by omega, by go_num, HB.out.trans (hbe.mono HB.out.size)⟩
            case measure => simp [intOf]; omega
    · clear hbel
      go_wp2_with fail
      go_ret
      exact ⟨rfl, HB.out⟩
end

section
open Go.RowKit

def partV (z : Value) (f : Nat → Value) (k i : Nat) : Value := if i < k then f i else z

theorem partV_step {w : World} {g t n : Nat} {z : Value} {f : Nat → Value} {k : Nat} (v : Value) (h : w.rowIs g t n (partV z f k)) : (w.setCell ⟨g, k, none⟩ v).rowIs g t n (partV z (fun i => if i = k then v else f i) (k + 1)) := by
  refine (h.set k _).congr fun i _ => ?_
  unfold partV
  by_cases e : i = k
  · subst e; simp
  · rw [if_neg e]
    by_cases h1 : i < k
    · rw [if_pos h1, if_pos (by omega)]; show f i = if i = k then v else f i; rw [if_neg e]
    · rw [if_neg h1, if_neg (by omega)]

theorem rowIs_block {w w' : World} {g t n : Nat} {f : Nat → Value} (h : w.rowIs g t n f) (e : w'.heap[g]? = w.heap[g]?) : w'.rowIs g t n f := by
  obtain ⟨c, h1, h2⟩ := h
  exact ⟨c, e.trans h1, h2⟩

theorem rowIs_lt {w : World} {g t n : Nat} {f : Nat → Value} (h : w.rowIs g t n f) : g < w.heap.size := by
  obtain ⟨c, h1, _⟩ := h
  exact (Array.getElem?_eq_some_iff.1 h1).1

theorem Tryz.infotoByteSS : (Tryz.prog.info? 28).map (fun i => (i.zero, i.size, i.bytes)) = some (some (.slice none 0 0), 1, 24) := by kernel_rfl
end

section
open Go.RowKit
end

end Go.Proofs.YtknainelonaigaaGreatDoor
