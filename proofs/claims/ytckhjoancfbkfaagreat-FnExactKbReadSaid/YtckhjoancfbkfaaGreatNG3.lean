/- Several texts in one: Kept, Toks, WdMem, CmpB. -/
import Derived.Test.YtckhjoancfbkfaaGreatNG2
import Derived.Deep.RegionWith
import Derived.Test.YtckhjoancfbkfaaGreatNG1
import Derived.RangeFuncRecord
import Derived.Lib.BytesEntry
namespace Go.Proofs.YtckhjoancfbkfaaGreat

section
open Go.RowKit

/-- Top, Bot, Not, And, Or, Some, All, Sub, Eq, Dis, Role, Is, Rel, by their bytes. -/
def keptWords : List (List UInt8) := [[84, 111, 112], [66, 111, 116], [78, 111, 116], [65, 110, 100], [79, 114], [83, 111, 109, 101], [65, 108, 108], [83, 117, 98], [69, 113], [68, 105, 115], [82, 111, 108, 101], [73, 115], [82, 101, 108]]
def keptB (l : List UInt8) : Bool := (l == [84, 111, 112]) || ((l == [66, 111, 116]) || ((l == [78, 111, 116]) || ((l == [65, 110, 100]) || ((l == [79, 114]) || ((l == [83, 111, 109, 101]) || ((l == [65, 108, 108]) || ((l == [83, 117, 98]) || ((l == [69, 113]) || ((l == [68, 105, 115]) || ((l == [82, 111, 108, 101]) || ((l == [73, 115]) || (l == [82, 101, 108]))))))))))))

set_option maxRecDepth 100000 in
set_option maxHeartbeats 1000000 in
theorem implKept_any (a : Option Addr) (n cap : Nat) (zs : List Int) (w : World) {lo hi : Nat} (h : Rd lo hi w a n cap zs) :
    Calls Tryz.prog 132 #[.slice a n cap] w fun e w' => e = .returned (.bool (keptB (strOfNums zs).toList)) ∧ w' = w := by
  have hcv := conv_any h
  obtain ⟨s, hs⟩ : ∃ s, s = strOfNums zs := ⟨_, rfl⟩
  rw [← hs] at hcv ⊢
  clear hs h
  go_enter Tryz.func132, Tryz.ntmps132
  go_wp2
  all_goals
    go_ret
    refine ⟨rb ?_, rfl⟩
    clear hcv
    first | (simp only [keptB, *, Bool.true_or, Bool.false_or]; done) | (exfalso; simp_all; done)

theorem keptB_eq (l : List UInt8) : keptB l = keptWords.any (fun x => x == l) := by
  simp only [keptB, keptWords, List.any_cons, List.any_nil, Bool.or_false, Bool.beq_comm (a := l)]

def wordVal (j : Nat) : Value := .string ⟨(keptWords.getD j []).toArray⟩

theorem toList_mk (l : List UInt8) : (ByteArray.mk l.toArray).toList = l := by
  rw [ByteArray.toList_eq]

theorem any_take_succ (k : Nat) (hk : k < 13) (l : List UInt8) : (keptWords.take (k + 1)).any (fun x => x == l) = ((keptWords.take k).any (fun x => x == l) || (keptWords.getD k [] == l)) := by
  have : k < keptWords.length := by simp [keptWords]; omega
  rw [List.take_succ_eq_append_getElem this, List.any_append]; simp [List.getD, this]

theorem any_true_of (k : Nat) (hk : k < 13) (l : List UInt8) (h : (keptWords.getD k [] == l) = true) : keptB l = true := by
  have hk' : k < keptWords.length := by simp [keptWords]; omega
  rw [keptB_eq, List.any_eq_true]
  exact ⟨keptWords[k], List.getElem_mem hk', by simpa [List.getD, hk'] using h⟩

set_option maxRecDepth 100000 in
set_option maxHeartbeats 1000000 in
theorem specKept_any (a : Option Addr) (n cap : Nat) (zs : List Int) (w : World) {lo hi : Nat} (h : Rd lo hi w a n cap zs) (hhi : hi ≤ w.heap.size) :
    Calls Tryz.prog 106 #[.slice a n cap] w fun e w' => e = .returned (.bool (keptB (strOfNums zs).toList)) ∧ Below w.heap.size w w' := by
  have H : Hid (Rd lo hi w a n cap zs) := h
  clear h
  obtain ⟨s, HS⟩ : ∃ s, Hid (s = strOfNums zs) := ⟨_, rfl⟩
  rw [← HS.out]
  go_enter Tryz.func106, Tryz.ntmps106
  go_wp2
  go_loopw [4] (fun i wr => ∃ k : Nat, k ≤ 13 ∧ i = .int .i64 k ∧ wr.rowIs w.heap.size 9 13 wordVal ∧ Below w.heap.size w wr ∧ (keptWords.take k).any (fun x => x == s.toList) = false) (fun i _ => 13 - (intOf i).toNat)
  case atStart =>
    refine ⟨0, Nat.zero_le _, rfl, ?_, (Below.refl _ _).alloc (Nat.le_refl _) _, by simp⟩
    refine World.rowIs_alloc w _ 9 wordVal (fun i hi => ?_)
    simp at hi
    match i, hi with
    | 0, _ | 1, _ | 2, _ | 3, _ | 4, _ | 5, _ | 6, _ | 7, _ | 8, _ | 9, _ | 10, _ | 11, _ | 12, _ => rfl
  case round =>
    obtain ⟨k, hk, rfl, hrow, hbel, hany⟩ := hrel
    have HN : Hid ((keptWords.take k).any (fun x => x == s.toList) = false) := hany
    clear hany
    by_cases hlt : k < 13
    · have hki : (k : Int) < 13 := by omega
      obtain ⟨t, HT⟩ : ∃ t, Hid (t = ByteArray.mk (keptWords.getD k []).toArray) := ⟨_, rfl⟩
      have hcell : wr.cell? ⟨w.heap.size, k, none⟩ = some (.string t) := by rw [HT.out]; exact hrow.cell hlt
      have hcv : ∀ m, (convert 22 9 (.slice a n cap)).run Tryz.prog (wr.drewN m) = .ok (.string s) (wr.drewN m) := by
        intro m; rw [HS.out]; exact conv_any (H.out.below (below_drewN hbel m) hhi)
      have HR : Hid (wr.rowIs w.heap.size 9 13 wordVal) := hrow
      have HB : Hid (Below w.heap.size w wr) := hbel
      clear hrow hbel
      cases hb : (t.toList == s.toList)
      · have HF : Hid ((keptWords.take (k + 1)).any (fun x => x == s.toList) = false) := by
          unfold Hid; rw [any_take_succ k hlt, HN.out, Bool.false_or]; rw [HT.out, toList_mk] at hb; exact hb
        go_wp2
        go_quiet (fail)
        go_wp2
        go_roundw
        case rel => exact ⟨k + 1, by omega, by go_num, World.rowIs.of_block HR.out rfl, below_drewN HB.out _, HF.out⟩
        case measure => simp [intOf]; omega
      · have HF : Hid (keptB s.toList = true) := any_true_of k hlt _ (by rw [HT.out, toList_mk] at hb; exact hb)
        go_wp2
        go_quiet (fail)
        go_wp2
        go_ret
        exact ⟨rb HF.out.symm, below_drewN HB.out _⟩
    · have HF : Hid (keptB s.toList = false) := by
        have e : keptWords.take k = keptWords := List.take_of_length_le (by simp [keptWords]; omega)
        unfold Hid; rw [keptB_eq, ← e]; exact HN.out
      have HB : Hid (Below w.heap.size w wr) := hbel
      clear hrow hbel
      go_wp2
      go_ret
      exact ⟨rb HF.out.symm, HB.out⟩
end

section
open Go.RowKit

/-- A token: its kind, its place, the bytes of its text. -/
structure Tok where
  kind : Int
  place : Int
  text : List Int

def Tok.zero : Tok := ⟨0, 0, []⟩

/-- A slice's value reads as these tokens. -/
structure RdT (lo hi : Nat) (w : World) (a : Option Addr) (n cap : Nat) (ts : List Tok) : Prop where
  len : ts.length = n
  fits : n ≤ cap ∧ cap ≤ 9223372036854775807
  cells : n = 0 ∨ ∃ b off, a = some ⟨b, off, none⟩ ∧ lo ≤ b ∧ b < hi ∧ ∀ i, i < n → ∃ ta tn tc,
    w.cell? ⟨b, off + i * 3, none⟩ = some (.int .i64 (ts.getD i Tok.zero).kind) ∧ w.cell? ⟨b, off + i * 3 + 1, none⟩ = some (.int .i64 (ts.getD i Tok.zero).place) ∧
    w.cell? ⟨b, off + i * 3 + 2, none⟩ = some (.slice ta tn tc) ∧ Rd lo hi w ta tn tc (ts.getD i Tok.zero).text

theorem RdT.same {lo hi : Nat} {w w' : World} {a : Option Addr} {n cap : Nat} {ts : List Tok} (h : RdT lo hi w a n cap ts) (hs : Same lo hi w w') : RdT lo hi w' a n cap ts := by
  obtain ⟨hl, hm, hc⟩ := h
  refine ⟨hl, hm, ?_⟩
  rcases hc with h0 | ⟨b, off, e, h1, h2, hc⟩
  · exact .inl h0
  · refine .inr ⟨b, off, e, h1, h2, fun i hi => ?_⟩
    obtain ⟨ta, tn, tc, c1, c2, c3, c4⟩ := hc i hi
    exact ⟨ta, tn, tc, (hs.cell (p := ⟨b, _, none⟩) h1 h2).trans c1, (hs.cell (p := ⟨b, _, none⟩) h1 h2).trans c2, (hs.cell (p := ⟨b, _, none⟩) h1 h2).trans c3, c4.same hs⟩

/-! ### marking -/

/-- Where a slice of tokens has its numbers and its bytes: block and place of each text, and how long it is. -/
def leafT (b off : Nat) (tx : Nat → Nat × Nat × Nat) (n : Nat) : List (Addr × IntKind) :=
  (List.range n).flatMap (fun i => (⟨b, off + i * 3, none⟩, .i64) :: (⟨b, off + i * 3 + 1, none⟩, .i64) :: leafB (tx i).1 (tx i).2.1 (tx i).2.2)

theorem leafT_succ (b off : Nat) (tx : Nat → Nat × Nat × Nat) (n : Nat) :
    leafT b off tx (n + 1) = leafT b off tx n ++ ((⟨b, off + n * 3, none⟩, .i64) :: (⟨b, off + n * 3 + 1, none⟩, .i64) :: leafB (tx n).1 (tx n).2.1 (tx n).2.2) := by
  simp [leafT, List.range_succ]

/-- The text of each token is a slice that leads where 'tx' says. -/
def HeadT (w : World) (b off : Nat) (tx : Nat → Nat × Nat × Nat) (n : Nat) : Prop :=
  ∀ i, i < n → ∃ ta tc, w.cell? ⟨b, off + i * 3 + 2, none⟩ = some (.slice ta (tx i).2.2 tc) ∧ ((tx i).2.2 = 0 ∨ ta = some ⟨(tx i).1, (tx i).2.1, none⟩) ∧ (tx i).2.2 ≤ 1048576

theorem HeadT.marks {b off n : Nat} {tx : Nat → Nat × Nat × Nat} {L : List (Addr × IntKind)} : ∀ {w : World}, HeadT w b off tx n → LeafOk w L → ∀ k, HeadT (marks w L k) b off tx n := by
  induction L with
  | nil => intro w h _ k; exact h
  | cons x L ih =>
    intro w h hL k
    obtain ⟨a, kd⟩ := x
    obtain ⟨⟨m, hm⟩, hf⟩ := hL (a, kd) (by simp)
    have h1' := hL.set hm (kd.wrap k)
    refine ih (fun i hi => ?_) (fun x hx => h1' x (by simp [hx])) (k + 1)
    obtain ⟨ta, tc, hc, r⟩ := h i hi
    refine ⟨ta, tc, ?_, r⟩
    rw [World.cell?_setCell_other _ _ _ _ (fun e => by rw [e] at hm; rw [hm] at hc; simp at hc)]
    exact hc
end

section
open Go.RowKit

/-- A slice's value reads as this list, each member of one cell, 'R' saying what a cell's value reads as. -/
structure RdN {α : Type} (d : α) (R : Value → α → Prop) (lo hi : Nat) (w : World) (a : Option Addr) (n cap : Nat) (xs : List α) : Prop where
  len : xs.length = n
  fits : n ≤ cap ∧ cap ≤ 9223372036854775807
  cells : n = 0 ∨ ∃ b off, a = some ⟨b, off, none⟩ ∧ lo ≤ b ∧ b < hi ∧ ∀ i, i < n → ∃ v, w.cell? ⟨b, off + i, none⟩ = some v ∧ R v (xs.getD i d)

theorem RdN.imp {α : Type} {d : α} {R S : Value → α → Prop} {lo hi lo' hi' : Nat} {w w' : World} {a : Option Addr} {n cap : Nat} {xs : List α} (h : RdN d R lo hi w a n cap xs)
    (hRS : ∀ v c, R v c → S v c) (hs : Same lo hi w w') (h1 : lo' ≤ lo) (h2 : hi ≤ hi') : RdN d S lo' hi' w' a n cap xs := by
  obtain ⟨hl, hm, hc⟩ := h
  refine ⟨hl, hm, ?_⟩
  rcases hc with h0 | ⟨b, off, e, q1, q2, hc⟩
  · exact .inl h0
  · refine .inr ⟨b, off, e, by omega, by omega, fun i hi => ?_⟩
    obtain ⟨v, c0, hr⟩ := hc i hi
    exact ⟨v, (hs.cell (p := ⟨b, _, none⟩) q1 q2).trans c0, hRS _ _ hr⟩

/-- Flags; numbers. -/
def RB (lo hi : Nat) (w : World) (a : Option Addr) (n cap : Nat) (xs : List Bool) : Prop := RdN false (fun v b => v = .bool b) lo hi w a n cap xs
def RI (lo hi : Nat) (w : World) (a : Option Addr) (n cap : Nat) (xs : List Int) : Prop := RdN 0 (fun v z => v = .int .i64 z) lo hi w a n cap xs
def SlB (lo hi : Nat) (w : World) (v : Value) (zs : List Int) : Prop := ∃ a n c, v = .slice a n c ∧ Rd lo hi w a n c zs
def SlF (lo hi : Nat) (w : World) (v : Value) (zs : List Bool) : Prop := ∃ a n c, v = .slice a n c ∧ RB lo hi w a n c zs
/-- Texts; lists of flags. -/
def RSS (lo hi : Nat) (w : World) (a : Option Addr) (n cap : Nat) (xs : List (List Int)) : Prop := RdN [] (SlB lo hi w) lo hi w a n cap xs
def RFF (lo hi : Nat) (w : World) (a : Option Addr) (n cap : Nat) (xs : List (List Bool)) : Prop := RdN [] (SlF lo hi w) lo hi w a n cap xs

theorem RB.same {lo hi : Nat} {w w' : World} {a : Option Addr} {n cap : Nat} {xs : List Bool} (h : RB lo hi w a n cap xs) (hs : Same lo hi w w') : RB lo hi w' a n cap xs := RdN.imp h (fun _ _ q => q) hs (Nat.le_refl _) (Nat.le_refl _)
theorem RI.same {lo hi : Nat} {w w' : World} {a : Option Addr} {n cap : Nat} {xs : List Int} (h : RI lo hi w a n cap xs) (hs : Same lo hi w w') : RI lo hi w' a n cap xs := RdN.imp h (fun _ _ q => q) hs (Nat.le_refl _) (Nat.le_refl _)
theorem RB.mono {lo hi lo' hi' : Nat} {w : World} {a : Option Addr} {n cap : Nat} {xs : List Bool} (h : RB lo hi w a n cap xs) (h1 : lo' ≤ lo) (h2 : hi ≤ hi') : RB lo' hi' w a n cap xs := RdN.imp h (fun _ _ q => q) (Same.refl _ _ _) h1 h2
theorem RI.mono {lo hi lo' hi' : Nat} {w : World} {a : Option Addr} {n cap : Nat} {xs : List Int} (h : RI lo hi w a n cap xs) (h1 : lo' ≤ lo) (h2 : hi ≤ hi') : RI lo' hi' w a n cap xs := RdN.imp h (fun _ _ q => q) (Same.refl _ _ _) h1 h2
theorem SlB.same {lo hi : Nat} {w w' : World} {v : Value} {zs : List Int} (h : SlB lo hi w v zs) (hs : Same lo hi w w') : SlB lo hi w' v zs := by obtain ⟨a, n, c, e, h⟩ := h; exact ⟨a, n, c, e, h.same hs⟩
theorem SlF.same {lo hi : Nat} {w w' : World} {v : Value} {zs : List Bool} (h : SlF lo hi w v zs) (hs : Same lo hi w w') : SlF lo hi w' v zs := by obtain ⟨a, n, c, e, h⟩ := h; exact ⟨a, n, c, e, h.same hs⟩
theorem SlB.mono {lo hi lo' hi' : Nat} {w : World} {v : Value} {zs : List Int} (h : SlB lo hi w v zs) (h1 : lo' ≤ lo) (h2 : hi ≤ hi') : SlB lo' hi' w v zs := by obtain ⟨a, n, c, e, h⟩ := h; exact ⟨a, n, c, e, h.mono h1 h2⟩
theorem SlF.mono {lo hi lo' hi' : Nat} {w : World} {v : Value} {zs : List Bool} (h : SlF lo hi w v zs) (h1 : lo' ≤ lo) (h2 : hi ≤ hi') : SlF lo' hi' w v zs := by obtain ⟨a, n, c, e, h⟩ := h; exact ⟨a, n, c, e, h.mono h1 h2⟩
theorem RSS.same {lo hi : Nat} {w w' : World} {a : Option Addr} {n cap : Nat} {xs : List (List Int)} (h : RSS lo hi w a n cap xs) (hs : Same lo hi w w') : RSS lo hi w' a n cap xs := RdN.imp h (fun _ _ q => q.same hs) hs (Nat.le_refl _) (Nat.le_refl _)
theorem RFF.same {lo hi : Nat} {w w' : World} {a : Option Addr} {n cap : Nat} {xs : List (List Bool)} (h : RFF lo hi w a n cap xs) (hs : Same lo hi w w') : RFF lo hi w' a n cap xs := RdN.imp h (fun _ _ q => q.same hs) hs (Nat.le_refl _) (Nat.le_refl _)
theorem RSS.mono {lo hi lo' hi' : Nat} {w : World} {a : Option Addr} {n cap : Nat} {xs : List (List Int)} (h : RSS lo hi w a n cap xs) (h1 : lo' ≤ lo) (h2 : hi ≤ hi') : RSS lo' hi' w a n cap xs := RdN.imp h (fun _ _ q => q.mono h1 h2) (Same.refl _ _ _) h1 h2
theorem RFF.mono {lo hi lo' hi' : Nat} {w : World} {a : Option Addr} {n cap : Nat} {xs : List (List Bool)} (h : RFF lo hi w a n cap xs) (h1 : lo' ≤ lo) (h2 : hi ≤ hi') : RFF lo' hi' w a n cap xs := RdN.imp h (fun _ _ q => q.mono h1 h2) (Same.refl _ _ _) h1 h2
theorem RI.below {lo hi B : Nat} {w w' : World} {a : Option Addr} {n cap : Nat} {xs : List Int} (h : RI lo hi w a n cap xs) (hb : Below B w w') (hB : hi ≤ B) : RI lo hi w' a n cap xs := h.same (Same.of_below hb hB)
theorem RSS.below {lo hi B : Nat} {w w' : World} {a : Option Addr} {n cap : Nat} {xs : List (List Int)} (h : RSS lo hi w a n cap xs) (hb : Below B w w') (hB : hi ≤ B) : RSS lo hi w' a n cap xs := h.same (Same.of_below hb hB)
theorem RFF.below {lo hi B : Nat} {w w' : World} {a : Option Addr} {n cap : Nat} {xs : List (List Bool)} (h : RFF lo hi w a n cap xs) (hb : Below B w w') (hB : hi ≤ B) : RFF lo hi w' a n cap xs := h.same (Same.of_below hb hB)

/-- A world. -/
structure WD where
  n : Int
  names : List (List Int)
  sets : List (List Bool)
  roles : List (List Int)
  rels : List (List Bool)
  inds : List (List Int)
  at' : List Int

structure RdW (lo hi : Nat) (w : World) (na : Option Addr) (nn nc : Nat) (sa : Option Addr) (sn sc : Nat) (ra : Option Addr) (rn rc : Nat) (la : Option Addr) (ln lc : Nat) (ia : Option Addr) (im ic : Nat) (ta : Option Addr) (tn tc : Nat) (x : WD) : Prop where
  names : RSS lo hi w na nn nc x.names
  sets : RFF lo hi w sa sn sc x.sets
  roles : RSS lo hi w ra rn rc x.roles
  rels : RFF lo hi w la ln lc x.rels
  inds : RSS lo hi w ia im ic x.inds
  at' : RI lo hi w ta tn tc x.at'

theorem RdW.below {lo hi B : Nat} {w w' : World} {na : Option Addr} {nn nc : Nat} {sa : Option Addr} {sn sc : Nat} {ra : Option Addr} {rn rc : Nat} {la : Option Addr} {ln lc : Nat} {ia : Option Addr} {im ic : Nat} {ta : Option Addr} {tn tc : Nat} {x : WD}
    (h : RdW lo hi w na nn nc sa sn sc ra rn rc la ln lc ia im ic ta tn tc x) (hb : Below B w w') (hB : hi ≤ B) : RdW lo hi w' na nn nc sa sn sc ra rn rc la ln lc ia im ic ta tn tc x :=
  ⟨h.names.below hb hB, h.sets.below hb hB, h.roles.below hb hB, h.rels.below hb hB, h.inds.below hb hB, h.at'.below hb hB⟩

def BoxW (t : Nat) (W : World) (p : Nat) (n : Int) (v1 v2 v3 v4 v5 v6 : Value) : Prop := W.heap[p]? = some (.cells #[.int .i64 n, v1, v2, v3, v4, v5, v6] t (0, 0))
theorem BoxW.new (t : Nat) (W : World) (n : Int) (v1 v2 v3 v4 v5 v6 : Value) : BoxW t (W.alloc (.cells #[.int .i64 n, v1, v2, v3, v4, v5, v6] t)) W.heap.size n v1 v2 v3 v4 v5 v6 := World.alloc_heap_new W _
theorem BoxW.below {t : Nat} {W W' : World} {p B : Nat} {n : Int} {v1 v2 v3 v4 v5 v6 : Value} (h : BoxW t W p n v1 v2 v3 v4 v5 v6) (hb : Below B W W') (hB : p < B) : BoxW t W' p n v1 v2 v3 v4 v5 v6 := (hb.block p hB).trans h
theorem BoxW.lt {t : Nat} {W : World} {p : Nat} {n : Int} {v1 v2 v3 v4 v5 v6 : Value} (h : BoxW t W p n v1 v2 v3 v4 v5 v6) : p < W.heap.size := (Array.getElem?_eq_some_iff.1 h).1
theorem BoxW.cells {t : Nat} {W : World} {p : Nat} {n : Int} {v1 v2 v3 v4 v5 v6 : Value} (h : BoxW t W p n v1 v2 v3 v4 v5 v6) :
    W.cell? ⟨p, 0, none⟩ = some (.int .i64 n) ∧ W.cell? ⟨p, 1, none⟩ = some v1 ∧ W.cell? ⟨p, 2, none⟩ = some v2 ∧ W.cell? ⟨p, 3, none⟩ = some v3 ∧ W.cell? ⟨p, 4, none⟩ = some v4 ∧ W.cell? ⟨p, 5, none⟩ = some v5 ∧ W.cell? ⟨p, 6, none⟩ = some v6 := by
  unfold BoxW at h
  refine ⟨?_, ?_, ?_, ?_, ?_, ?_, ?_⟩ <;> simp [World.cell?, h]
theorem BoxW.frz {t : Nat} {W : World} {p : Nat} {n : Int} {v1 v2 v3 v4 v5 v6 : Value} (h : BoxW t W p n v1 v2 v3 v4 v5 v6) (o : Nat) : W.frozen? ⟨p, o, none⟩ = false := by
  unfold BoxW at h
  simp [World.frozen?, h]
theorem BoxW.at {t : Nat} {W : World} {p : Nat} {n : Int} {v1 v2 v3 v4 v5 v6 : Value} (h : BoxW t W p n v1 v2 v3 v4 v5 v6) (i : Nat) (v : Value) : (W.setCell ⟨p, i, none⟩ v).heap[p]? = some (.cells (#[.int .i64 n, v1, v2, v3, v4, v5, v6].setIfInBounds i v) t (0, 0)) := heap_setCell_same W p i _ _ v h
end

section
open Go.RowKit

/-- -1, 0, 1: by their bytes. -/
def cmpZ (xs ys : List Int) : Int := Lib.compareBytes (strOfNums xs).toList (strOfNums ys).toList

theorem less_cmp : ∀ (a b : List UInt8), (if Op.bytesLess a b = true then (-1 : Int) else if Op.bytesLess b a = true then 1 else 0) = Lib.compareBytes a b
  | [], [] => by simp [Op.bytesLess, Lib.compareBytes]
  | [], b :: ys => by simp [Op.bytesLess, Lib.compareBytes]
  | a :: xs, [] => by simp [Op.bytesLess, Lib.compareBytes]
  | a :: xs, b :: ys => by
    have ih := less_cmp xs ys
    rw [Lib.compareBytes, ← ih]
    by_cases h1 : a < b
    · simp [Op.bytesLess, h1]
    · by_cases h2 : b < a
      · have hne : ¬ a = b := fun e => by subst e; exact h1 h2
        simp [Op.bytesLess, h1, h2, hne]
      · have he : a = b := UInt8.le_antisymm (UInt8.not_lt.1 h2) (UInt8.not_lt.1 h1)
        subst he
        simp [Op.bytesLess]

theorem less_self : ∀ a : List UInt8, Op.bytesLess a a = false
  | [] => rfl
  | a :: xs => by simp [Op.bytesLess, less_self xs, UInt8.lt_irrefl]

theorem less_tri : ∀ a b : List UInt8, Op.bytesLess a b = false → (a == b) = false → Op.bytesLess b a = true
  | [], [], _, h => by simp at h
  | [], b :: ys, h, _ => by simp [Op.bytesLess] at h
  | a :: xs, [], _, _ => by simp [Op.bytesLess]
  | a :: xs, b :: ys, h1, h2 => by
    have ih := less_tri xs ys
    by_cases h3 : a < b
    · simp [Op.bytesLess, h3] at h1
    · by_cases h4 : b < a
      · simp [Op.bytesLess, h4]
      · have he : a = b := UInt8.le_antisymm (UInt8.not_lt.1 h4) (UInt8.not_lt.1 h3)
        subst he
        simp [Op.bytesLess] at h1 h2 ⊢
        exact ih h1 (by simpa using h2)

set_option maxRecDepth 100000 in
set_option maxHeartbeats 1000000 in
theorem l2bytes_any {a a' : Option Addr} {n cap n' cap' : Nat} {xs ys : List Int} {w : World} {lo hi lo' hi' : Nat} (h : Rd lo hi w a n cap xs) (h' : Rd lo' hi' w a' n' cap' ys) :
    Calls Tryz.prog 120 #[.slice a n cap, .slice a' n' cap'] w fun e w' => e = .returned (.int .i64 (cmpZ xs ys)) ∧ w' = w := by
  have hc := conv_any h
  have hc' := conv_any h'
  have HZ : Hid (cmpZ xs ys = (if Op.bytesLess (strOfNums xs).toList (strOfNums ys).toList = true then (-1 : Int) else if Op.bytesLess (strOfNums ys).toList (strOfNums xs).toList = true then 1 else 0)) := (less_cmp _ _).symm
  obtain ⟨s, hs⟩ : ∃ s, s = strOfNums xs := ⟨_, rfl⟩
  obtain ⟨t, ht⟩ : ∃ t, t = strOfNums ys := ⟨_, rfl⟩
  rw [← hs] at hc HZ
  rw [← ht] at hc' HZ
  clear h h' hs ht
  cases h1 : Op.bytesLess s.toList t.toList
  · cases h2 : (s.toList == t.toList)
    · have h3 := less_tri _ _ h1 h2
      go_enter Tryz.func120, Tryz.ntmps120
      go_wp2
      go_ret
      exact ⟨ri (by rw [HZ.out, h1, h3]; rfl), rfl⟩
    · have h4 : s.toList = t.toList := by simpa using h2
      have HZ0 : Hid (cmpZ xs ys = 0) := by unfold Hid; rw [HZ.out, h4, less_self]; rfl
      clear h4
      go_enter Tryz.func120, Tryz.ntmps120
      go_wp2
      go_ret
      exact ⟨ri HZ0.out.symm, rfl⟩
  · go_enter Tryz.func120, Tryz.ntmps120
    go_wp2
    go_ret
    exact ⟨ri (by rw [HZ.out, h1]; rfl), rfl⟩
end

end Go.Proofs.YtckhjoancfbkfaaGreat
