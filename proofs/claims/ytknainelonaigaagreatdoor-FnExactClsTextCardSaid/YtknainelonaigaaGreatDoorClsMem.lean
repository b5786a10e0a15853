/- The clauses of what is told, and what is told as clauses, in memory: what they read as; what stays so. -/
import Derived.Test.YtknainelonaigaaGreatDoorNCl
import Derived.Test.YtknainelonaigaaGreatDoorNBase
import Derived.Test.YtknainelonaigaaGreatDoorNWd
namespace Go.Proofs.YtknainelonaigaaGreatDoor
open Go.RowKit

def CL.zero : CL := ⟨0, 0, 0, 0, 0, 0, 0, 0, [], 0, 0⟩

/-- Eleven cells from here on read as this clause. -/
def Cl11 (lo hi : Nat) (w : World) (b o : Nat) (x : CL) : Prop := ∃ (ia : Option Addr) (im ic : Nat), w.cell? ⟨b, o, none⟩ = some (.int .i64 x.kind) ∧ w.cell? ⟨b, o + 1, none⟩ = some (.int .i64 x.fn) ∧ w.cell? ⟨b, o + 2, none⟩ = some (.int .i64 x.role) ∧ w.cell? ⟨b, o + 3, none⟩ = some (.int .i64 x.above) ∧ w.cell? ⟨b, o + 4, none⟩ = some (.int .i64 x.xp) ∧ w.cell? ⟨b, o + 5, none⟩ = some (.int .i64 x.xn) ∧ w.cell? ⟨b, o + 6, none⟩ = some (.int .i64 x.yp) ∧ w.cell? ⟨b, o + 7, none⟩ = some (.int .i64 x.yn) ∧ w.cell? ⟨b, o + 8, none⟩ = some (.slice ia im ic) ∧ w.cell? ⟨b, o + 9, none⟩ = some (.int .i64 x.a) ∧ w.cell? ⟨b, o + 10, none⟩ = some (.int .i64 x.b) ∧ RP lo hi w ia im ic x.inds

/-- A slice's value reads as these clauses. -/
structure RdG (lo hi : Nat) (w : World) (a : Option Addr) (n cap : Nat) (xs : List CL) : Prop where
  len : xs.length = n
  fits : n ≤ cap ∧ cap ≤ 9223372036854775807
  cells : n = 0 ∨ ∃ b off, a = some ⟨b, off, none⟩ ∧ lo ≤ b ∧ b < hi ∧ ∀ i, i < n → Cl11 lo hi w b (off + i * 11) (xs.getD i CL.zero)

theorem Cl11.same {lo hi : Nat} {w w' : World} {b o : Nat} {x : CL} (h : Cl11 lo hi w b o x) (hs : Same lo hi w w') (h1 : lo ≤ b) (h2 : b < hi) : Cl11 lo hi w' b o x := by
  obtain ⟨ia, im, ic, q0, q1, q2, q3, q4, q5, q6, q7, q8, q9, q10, hr⟩ := h
  exact ⟨ia, im, ic, (hs.cell (p := ⟨b, o, none⟩) h1 h2).trans q0, (hs.cell (p := ⟨b, o + 1, none⟩) h1 h2).trans q1, (hs.cell (p := ⟨b, o + 2, none⟩) h1 h2).trans q2, (hs.cell (p := ⟨b, o + 3, none⟩) h1 h2).trans q3, (hs.cell (p := ⟨b, o + 4, none⟩) h1 h2).trans q4, (hs.cell (p := ⟨b, o + 5, none⟩) h1 h2).trans q5, (hs.cell (p := ⟨b, o + 6, none⟩) h1 h2).trans q6, (hs.cell (p := ⟨b, o + 7, none⟩) h1 h2).trans q7, (hs.cell (p := ⟨b, o + 8, none⟩) h1 h2).trans q8, (hs.cell (p := ⟨b, o + 9, none⟩) h1 h2).trans q9, (hs.cell (p := ⟨b, o + 10, none⟩) h1 h2).trans q10, hr.same hs⟩
theorem Cl11.mono {lo hi lo' hi' : Nat} {w : World} {b o : Nat} {x : CL} (h : Cl11 lo hi w b o x) (h1 : lo' ≤ lo) (h2 : hi ≤ hi') : Cl11 lo' hi' w b o x := by
  obtain ⟨ia, im, ic, q0, q1, q2, q3, q4, q5, q6, q7, q8, q9, q10, hr⟩ := h
  exact ⟨ia, im, ic, q0, q1, q2, q3, q4, q5, q6, q7, q8, q9, q10, hr.mono h1 h2⟩
theorem RdG.same {lo hi : Nat} {w w' : World} {a : Option Addr} {n cap : Nat} {xs : List CL} (h : RdG lo hi w a n cap xs) (hs : Same lo hi w w') : RdG lo hi w' a n cap xs := by
  obtain ⟨hl, hm, hc⟩ := h
  refine ⟨hl, hm, ?_⟩
  rcases hc with h0 | ⟨b, off, e, h1, h2, hc⟩
  · exact .inl h0
  · exact .inr ⟨b, off, e, h1, h2, fun i hi => (hc i hi).same hs h1 h2⟩
theorem RdG.below {lo hi B : Nat} {w w' : World} {a : Option Addr} {n cap : Nat} {xs : List CL} (h : RdG lo hi w a n cap xs) (hb : Below B w w') (hB : hi ≤ B) : RdG lo hi w' a n cap xs := h.same (Same.of_below hb hB)
theorem RdG.mono {lo hi lo' hi' : Nat} {w : World} {a : Option Addr} {n cap : Nat} {xs : List CL} (h : RdG lo hi w a n cap xs) (h1 : lo' ≤ lo) (h2 : hi ≤ hi') : RdG lo' hi' w a n cap xs := by
  obtain ⟨hl, hm, hc⟩ := h
  refine ⟨hl, hm, ?_⟩
  rcases hc with h0 | ⟨b, off, e, q1, q2, hc⟩
  · exact .inl h0
  · exact .inr ⟨b, off, e, by omega, by omega, fun i hi => (hc i hi).mono h1 h2⟩

/-- What is told as clauses. -/
structure CS where
  atoms : List CN
  roles : List (List Int)
  who : List (List Int)
  l : List CL

/-- Four slices read as what is told as clauses. -/
structure RdS (lo hi : Nat) (w : World) (d : Nat) (aa : Option Addr) (an ac : Nat) (ra : Option Addr) (rn rc : Nat) (wa : Option Addr) (wn wc : Nat) (la : Option Addr) (ln lc : Nat) (s : CS) : Prop where
  atoms : RdL (RdC lo hi w d) lo hi w aa an ac s.atoms
  roles : RSS lo hi w ra rn rc s.roles
  who : RSS lo hi w wa wn wc s.who
  l : RdG lo hi w la ln lc s.l

theorem RdS.same {lo hi : Nat} {w w' : World} {d : Nat} {aa : Option Addr} {an ac : Nat} {ra : Option Addr} {rn rc : Nat} {wa : Option Addr} {wn wc : Nat} {la : Option Addr} {ln lc : Nat} {s : CS} (h : RdS lo hi w d aa an ac ra rn rc wa wn wc la ln lc s) (hs : Same lo hi w w') : RdS lo hi w' d aa an ac ra rn rc wa wn wc la ln lc s :=
  ⟨h.atoms.same hs, h.roles.same hs, h.who.same hs, h.l.same hs⟩
theorem RdS.below {lo hi B : Nat} {w w' : World} {d : Nat} {aa : Option Addr} {an ac : Nat} {ra : Option Addr} {rn rc : Nat} {wa : Option Addr} {wn wc : Nat} {la : Option Addr} {ln lc : Nat} {s : CS} (h : RdS lo hi w d aa an ac ra rn rc wa wn wc la ln lc s) (hb : Below B w w') (hB : hi ≤ B) : RdS lo hi w' d aa an ac ra rn rc wa wn wc la ln lc s := h.same (Same.of_below hb hB)

end Go.Proofs.YtknainelonaigaaGreatDoor
