/- What a concept in memory reads as; what stays so. Plain facts on worlds, without the program. -/
import Derived.Test.YthojlfcahhjfaaaMem
namespace Go.Proofs.Ythojlfcahhjfaaa
open Go.RowKit

/-- A concept: its kind, its name, its role, its kids. -/
inductive CN where
  | mk (kind : Int) (name role : List Int) (kids : List CN)

def CN.kind : CN → Int | .mk k _ _ _ => k
def CN.name : CN → List Int | .mk _ n _ _ => n
def CN.role : CN → List Int | .mk _ _ r _ => r
def CN.kids : CN → List CN | .mk _ _ _ ks => ks
def CN.zero : CN := .mk 0 [] [] []
instance : Inhabited CN := ⟨CN.zero⟩

mutual
/-- How much it holds beyond itself. -/
def CN.bulk : CN → Nat
  | .mk _ n r ks => n.length + r.length + bulks ks
def bulks : List CN → Nat
  | [] => 0
  | c :: cs => 1 + c.bulk + bulks cs
end

theorem CN.bulk_eq (c : CN) : c.bulk = c.name.length + c.role.length + bulks c.kids := by
  cases c; rw [CN.bulk]; rfl

theorem bulks_append (xs ys : List CN) : bulks (xs ++ ys) = bulks xs + bulks ys := by
  induction xs with
  | nil => simp [bulks]
  | cons x xs ih => simp only [List.cons_append, bulks, ih]; omega

theorem take_succ_getD {α : Type} (l : List α) (d : α) (k : Nat) (h : k < l.length) : l.take (k + 1) = l.take k ++ [l.getD k d] := by
  rw [List.take_succ_eq_append_getElem h]
  simp [List.getD, h]

theorem bulks_take_succ (cs : List CN) (k : Nat) (h : k < cs.length) : bulks (cs.take (k + 1)) = bulks (cs.take k) + 1 + (cs.getD k CN.zero).bulk := by
  rw [take_succ_getD cs CN.zero k h, bulks_append]
  simp only [bulks]
  omega

theorem bulks_take_le (cs : List CN) (k : Nat) : bulks (cs.take k) ≤ bulks cs := by
  have := bulks_append (cs.take k) (cs.drop k)
  rw [List.take_append_drop] at this
  omega

theorem length_le_bulks (cs : List CN) : cs.length ≤ bulks cs := by
  induction cs with
  | nil => simp
  | cons c cs ih => simp only [List.length_cons, bulks]; omega

theorem getD_bulk_le (cs : List CN) (k : Nat) (h : k < cs.length) : (cs.getD k CN.zero).bulk + 1 ≤ bulks cs := by
  have := bulks_take_succ cs k h
  have := bulks_take_le cs (k + 1)
  omega

/-- A slice's value reads as these, each of four cells, 'R' saying what four cells read as. -/
structure RdL (R : Value → CN → Prop) (lo hi : Nat) (w : World) (a : Option Addr) (n cap : Nat) (cs : List CN) : Prop where
  len : cs.length = n
  fits : n ≤ cap ∧ cap ≤ 9223372036854775807
  cells : n = 0 ∨ ∃ b off, a = some ⟨b, off, none⟩ ∧ lo ≤ b ∧ b < hi ∧ ∀ i, i < n → ∃ v0 v1 v2 v3,
    w.cell? ⟨b, off + i * 4, none⟩ = some v0 ∧ w.cell? ⟨b, off + i * 4 + 1, none⟩ = some v1 ∧ w.cell? ⟨b, off + i * 4 + 2, none⟩ = some v2 ∧ w.cell? ⟨b, off + i * 4 + 3, none⟩ = some v3 ∧
    R (.agg #[v0, v1, v2, v3]) (cs.getD i CN.zero)

/-- A value reads as this concept, in at most d steps. -/
def RdC (lo hi : Nat) (w : World) : Nat → Value → CN → Prop
  | 0, _, _ => False
  | d + 1, v, c => ∃ na nn nc ra rn rc ka kn kc, v = .agg #[.int .i64 c.kind, .slice na nn nc, .slice ra rn rc, .slice ka kn kc] ∧
      Rd lo hi w na nn nc c.name ∧ Rd lo hi w ra rn rc c.role ∧ RdL (RdC lo hi w d) lo hi w ka kn kc c.kids

theorem RdL.imp {R S : Value → CN → Prop} {lo hi lo' hi' : Nat} {w w' : World} {a : Option Addr} {n cap : Nat} {cs : List CN} (h : RdL R lo hi w a n cap cs)
    (hRS : ∀ v c, R v c → S v c) (hs : Same lo hi w w') (h1 : lo' ≤ lo) (h2 : hi ≤ hi') : RdL S lo' hi' w' a n cap cs := by
  obtain ⟨hl, hm, hc⟩ := h
  refine ⟨hl, hm, ?_⟩
  rcases hc with h0 | ⟨b, off, e, q1, q2, hc⟩
  · exact .inl h0
  · refine .inr ⟨b, off, e, by omega, by omega, fun i hi => ?_⟩
    obtain ⟨v0, v1, v2, v3, c0, c1, c2, c3, hr⟩ := hc i hi
    exact ⟨v0, v1, v2, v3, (hs.cell (p := ⟨b, _, none⟩) q1 q2).trans c0, (hs.cell (p := ⟨b, _, none⟩) q1 q2).trans c1, (hs.cell (p := ⟨b, _, none⟩) q1 q2).trans c2, (hs.cell (p := ⟨b, _, none⟩) q1 q2).trans c3, hRS _ _ hr⟩

theorem RdC.same {lo hi : Nat} {w w' : World} (hs : Same lo hi w w') : ∀ {d : Nat} {v : Value} {c : CN}, RdC lo hi w d v c → RdC lo hi w' d v c := by
  intro d
  induction d with
  | zero => intro v c h; exact h
  | succ d ih =>
    intro v c h
    obtain ⟨na, nn, nc, ra, rn, rc, ka, kn, kc, hv, h1, h2, h3⟩ := h
    exact ⟨na, nn, nc, ra, rn, rc, ka, kn, kc, hv, h1.same hs, h2.same hs, h3.imp (fun v c h => ih h) hs (Nat.le_refl _) (Nat.le_refl _)⟩

theorem RdC.mono {lo hi lo' hi' : Nat} {w : World} (q1 : lo' ≤ lo) (q2 : hi ≤ hi') : ∀ {d : Nat} {v : Value} {c : CN}, RdC lo hi w d v c → RdC lo' hi' w d v c := by
  intro d
  induction d with
  | zero => intro v c h; exact h
  | succ d ih =>
    intro v c h
    obtain ⟨na, nn, nc, ra, rn, rc, ka, kn, kc, hv, h1, h2, h3⟩ := h
    exact ⟨na, nn, nc, ra, rn, rc, ka, kn, kc, hv, h1.mono q1 q2, h2.mono q1 q2, h3.imp (fun v c h => ih h) (Same.refl _ _ _) q1 q2⟩

theorem RdC.below {lo hi B : Nat} {w w' : World} {d : Nat} {v : Value} {c : CN} (h : RdC lo hi w d v c) (hb : Below B w w') (hB : hi ≤ B) : RdC lo hi w' d v c := h.same (Same.of_below hb hB)

theorem RdL.same {lo hi d : Nat} {w w' : World} {a : Option Addr} {n cap : Nat} {cs : List CN} (h : RdL (RdC lo hi w d) lo hi w a n cap cs) (hs : Same lo hi w w') : RdL (RdC lo hi w' d) lo hi w' a n cap cs :=
  h.imp (fun _ _ h => h.same hs) hs (Nat.le_refl _) (Nat.le_refl _)

theorem RdL.below {lo hi d B : Nat} {w w' : World} {a : Option Addr} {n cap : Nat} {cs : List CN} (h : RdL (RdC lo hi w d) lo hi w a n cap cs) (hb : Below B w w') (hB : hi ≤ B) : RdL (RdC lo hi w' d) lo hi w' a n cap cs := h.same (Same.of_below hb hB)

/-- No cell of these blocks is frozen. -/
def Free (lo hi : Nat) (w : World) : Prop := ∀ b, lo ≤ b → b < hi → ∀ o, w.frozen? ⟨b, o, none⟩ = false

theorem Free.same {lo hi : Nat} {w w' : World} (h : Free lo hi w) (hs : Same lo hi w w') : Free lo hi w' := by
  intro b h1 h2 o
  exact (World.frozen?_of_block (w := w) (hs b h1 h2)).trans (h b h1 h2 o)

theorem Free.mono {lo hi lo' hi' : Nat} {w : World} (h : Free lo hi w) (q1 : lo ≤ lo') (q2 : hi' ≤ hi) : Free lo' hi' w := fun b h1 h2 o => h b (by omega) (by omega) o

theorem Free.join {lo mid hi : Nat} {w : World} (h : Free lo mid w) (k : Free mid hi w) : Free lo hi w := by
  intro b h1 h2 o
  by_cases e : b < mid
  · exact h b h1 e o
  · exact k b (by omega) h2 o

theorem Free.set {lo hi : Nat} {w : World} (h : Free lo hi w) (a : Addr) (v : Value) : Free lo hi (w.setCell a v) := by
  intro b h1 h2 o
  have := h b h1 h2 o
  simpa using this

theorem Free.one (w : World) (c : Array Value) (t : TypeId) : Free w.heap.size (w.heap.size + 1) (w.alloc (.cells c t)) := by
  intro b h1 h2 o
  have e : b = w.heap.size := by omega
  subst e
  have hb : (w.alloc (.cells c t)).heap[w.heap.size]? = some (.cells c t) := by
    show (w.heap.push _)[w.heap.size]? = _
    simp
  unfold World.frozen?
  simp only []
  rw [hb]
  simp

theorem Free.alloc {lo : Nat} {w : World} (h : Free lo w.heap.size w) (c : Array Value) (t : TypeId) : Free lo (w.heap.size + 1) (w.alloc (.cells c t)) :=
  (h.same (Same.of_below ((Below.refl w.heap.size w).alloc (Nat.le_refl _) _) (Nat.le_refl _))).join (Free.one w c t)

theorem Free.nil (w : World) (lo : Nat) : Free lo lo w := fun b h1 h2 => absurd h2 (by omega)

/-- What is free up to the heap's end stays so behind a call that turned nothing below, and whose own blocks are free. -/
theorem Free.next {lo : Nat} {w w' : World} (h : Free lo w.heap.size w) (hb : Below w.heap.size w w') (k : Free w.heap.size w'.heap.size w') : Free lo w'.heap.size w' :=
  (h.same (Same.of_below hb (Nat.le_refl _))).join k

end Go.Proofs.Ythojlfcahhjfaaa
