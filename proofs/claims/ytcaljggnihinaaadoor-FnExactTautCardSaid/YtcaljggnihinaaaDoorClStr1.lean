/- What is within what: parts, rows of parts; the head of a clause: a contract of each function. -/
import Derived.Test.YtcaljggnihinaaaDoorClImpl3
import Derived.Test.YtcaljggnihinaaaDoorClParts
import Derived.Test.YtcaljggnihinaaaDoorClEq
namespace Go.Proofs.YtcaljggnihinaaaDoor
open Go.RowKit

def wiB (m n : Int) : Bool := bits .andNot .i64 m n == 0
/-- All literals of the one part are in the other. -/
def inB (p q : Int × Int) : Bool := wiB p.1 q.1 && wiB p.2 q.2

theorem wiB_zero (n : Int) : wiB 0 n = true := by
  have e : ((BitVec.ofInt 64 0) &&& ~~~(BitVec.ofInt 64 n)).toNat = 0 := by simp
  have e2 : bits .andNot .i64 0 n = 0 := by
    show IntKind.i64.wrap (((BitVec.ofInt 64 0) &&& ~~~(BitVec.ofInt 64 n)).toNat : Int) = 0
    rw [e]; rfl
  unfold wiB
  rw [e2]
  rfl

theorem wiB_none {m : Int} (h : 0 ≤ m ∧ m < 16777216) : wiB m 0 = (m == 0) := by
  obtain ⟨a, rfl⟩ : ∃ a : Nat, m = (a : Int) := ⟨m.toNat, by omega⟩
  have e : ((BitVec.ofInt 64 (a : Int)) &&& ~~~(BitVec.ofInt 64 0)).toNat = a := by
    have : ~~~(BitVec.ofInt 64 0) = BitVec.allOnes 64 := by decide
    rw [this, BitVec.and_allOnes, BitVec.ofInt_natCast, BitVec.toNat_ofNat]
    exact Nat.mod_eq_of_lt (by omega)
  have e2 : bits .andNot .i64 (a : Int) 0 = (a : Int) := by
    show IntKind.i64.wrap (((BitVec.ofInt 64 (a : Int)) &&& ~~~(BitVec.ofInt 64 0)).toNat : Int) = (a : Int)
    rw [e, wrap_id a (by omega)]
  unfold wiB
  rw [e2]

theorem inB_zero (q : Int × Int) : inB (0, 0) q = true := by simp [inB, wiB_zero]
theorem inB_none {p n : Int} (h : partB p n = true) : inB (p, n) (0, 0) = noneB p n := by
  have := partB_iff.1 h
  rw [Bool.eq_iff_iff, noneB_iff]
  simp [inB, wiB_none this.1, wiB_none this.2]
theorem inB_some {p n : Int} (h : partB p n = true) (h0 : inB (p, n) (0, 0) = true) (q : Int × Int) : inB (p, n) q = true := by
  rw [inB_none h, noneB_iff] at h0
  rw [h0.1, h0.2]
  exact inB_zero q

theorem headOf_any {k f r u xp xn yp yn : Int} {s : Value} {a b : Int} {ia : Option Addr} {im ic : Nat} (hs : s = .slice ia im ic) (w : World) :
    Calls Tryd.prog 41 #[.agg #[.int .i64 k, .int .i64 f, .int .i64 r, .int .i64 u, .int .i64 xp, .int .i64 xn, .int .i64 yp, .int .i64 yn, s, .int .i64 a, .int .i64 b]] w fun e w' => e = .returned (.agg #[.int .i64 k, .int .i64 f, .int .i64 r, .int .i64 u, .int .i64 a, .int .i64 b]) ∧ Below w.heap.size w w' := by
  subst hs
  have hbuild : ∀ V : World, (Instr.build 74 #[(0, .int .i64 k), (1, .int .i64 f), (2, .int .i64 r), (3, .int .i64 u), (4, .int .i64 a), (5, .int .i64 b)]).run Tryd.prog V = .ok (.agg #[.int .i64 k, .int .i64 f, .int .i64 r, .int .i64 u, .int .i64 a, .int .i64 b]) V := fun V => run_build V _ _ _ (by kernel_rfl)
  go_enter Tryd.func41, Tryd.ntmps41
  go_wp2_with fail
  refine bodyPost_ret (v := .agg #[.int .i64 k, .int .i64 f, .int .i64 r, .int .i64 u, .int .i64 a, .int .i64 b]) (by simp [results, Tryd.results41, go_sem]) rfl ⟨rfl, ?_⟩
  exact ((Below.refl _ _).alloc (Nat.le_refl _) _).alloc (by simp) _

/-! ### Rows of six parts -/

/-- A clause's six parts. -/
def six (xp xn yp yn : Int) (xs : List (Int × Int)) : List (Int × Int) := [(xp, xn), (yp, yn), xs.getD 0 (0, 0), xs.getD 1 (0, 0), xs.getD 2 (0, 0), xs.getD 3 (0, 0)]

/-- Their twelve cells. -/
def cells12 (l : List (Int × Int)) : Array Value := #[.int .i64 (l.getD 0 (0, 0)).1, .int .i64 (l.getD 0 (0, 0)).2, .int .i64 (l.getD 1 (0, 0)).1, .int .i64 (l.getD 1 (0, 0)).2, .int .i64 (l.getD 2 (0, 0)).1, .int .i64 (l.getD 2 (0, 0)).2, .int .i64 (l.getD 3 (0, 0)).1, .int .i64 (l.getD 3 (0, 0)).2, .int .i64 (l.getD 4 (0, 0)).1, .int .i64 (l.getD 4 (0, 0)).2, .int .i64 (l.getD 5 (0, 0)).1, .int .i64 (l.getD 5 (0, 0)).2]

theorem partsOf_any {k f r u xp xn yp yn : Int} {ia : Option Addr} {im ic : Nat} {a b : Int} {xs : List (Int × Int)} {w : World} {lo hi : Nat} (h : RP lo hi w ia im ic xs) (hhi : hi ≤ w.heap.size) (him : im = 0 ∨ im = 4) :
    Calls Tryd.prog 38 #[.agg #[.int .i64 k, .int .i64 f, .int .i64 r, .int .i64 u, .int .i64 xp, .int .i64 xn, .int .i64 yp, .int .i64 yn, .slice ia im ic, .int .i64 a, .int .i64 b]] w fun e w' => e = .returned (.agg (cells12 (six xp xn yp yn xs))) ∧ Below w.heap.size w w' := by
  rcases him with rfl | rfl
  · have hx : xs = [] := List.eq_nil_of_length_eq_zero h.len
    subst hx
    exact partsOf_0
  · match xs, h.len with
    | [(p0, q0), (p1, q1), (p2, q2), (p3, q3)], _ =>
      obtain ⟨bb, off, rfl⟩ : ∃ bb off, ia = some ⟨bb, off, none⟩ := by
        rcases h.cells with h0 | ⟨bb, off, e1, _⟩
        · omega
        · exact ⟨bb, off, e1⟩
      exact partsOf_4 (h.mono (Nat.zero_le _) (Nat.le_refl _)) hhi

end Go.Proofs.YtcaljggnihinaaaDoor
