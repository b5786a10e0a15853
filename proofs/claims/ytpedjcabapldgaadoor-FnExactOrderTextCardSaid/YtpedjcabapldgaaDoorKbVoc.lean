/- The words of a concept and of what is told, as mathematics; what is told in memory. -/
import Derived.Test.YtpedjcabapldgaaDoorAxMem
import Derived.Test.YtpedjcabapldgaaDoorKbWords
namespace Go.Proofs.YtpedjcabapldgaaDoor
open Go.RowKit

mutual
/-- The names of a concept, put to others. -/
def namesC : CN → List (List Int) → List (List Int)
  | .mk k n _ ks, l => namesL ks (if k = 2 then insW l n else l)
def namesL : List CN → List (List Int) → List (List Int)
  | [], l => l
  | c :: cs, l => namesL cs (namesC c l)
end

mutual
/-- The roles of a concept, put to others. -/
def rolesC : CN → List (List Int) → List (List Int)
  | .mk _ _ r ks, l => rolesL ks (addW l r)
def rolesL : List CN → List (List Int) → List (List Int)
  | [], l => l
  | c :: cs, l => rolesL cs (rolesC c l)
end

theorem namesC_eq (c : CN) (l : List (List Int)) : namesC c l = namesL c.kids (if c.kind = 2 then insW l c.name else l) := by cases c; rw [namesC]; rfl
theorem rolesC_eq (c : CN) (l : List (List Int)) : rolesC c l = rolesL c.kids (addW l c.role) := by cases c; rw [rolesC]; rfl
theorem namesL_append (xs ys : List CN) : ∀ l, namesL (xs ++ ys) l = namesL ys (namesL xs l) := by
  induction xs with
  | nil => intro l; simp [namesL]
  | cons x xs ih => intro l; simp only [List.cons_append, namesL, ih]
theorem rolesL_append (xs ys : List CN) : ∀ l, rolesL (xs ++ ys) l = rolesL ys (rolesL xs l) := by
  induction xs with
  | nil => intro l; simp [rolesL]
  | cons x xs ih => intro l; simp only [List.cons_append, rolesL, ih]
theorem namesL_take (cs : List CN) (k : Nat) (l : List (List Int)) (h : k < cs.length) : namesL (cs.take (k + 1)) l = namesC (cs.getD k CN.zero) (namesL (cs.take k) l) := by
  rw [take_succ_getD cs CN.zero k h, namesL_append]; simp only [namesL]
theorem rolesL_take (cs : List CN) (k : Nat) (l : List (List Int)) (h : k < cs.length) : rolesL (cs.take (k + 1)) l = rolesC (cs.getD k CN.zero) (rolesL (cs.take k) l) := by
  rw [take_succ_getD cs CN.zero k h, rolesL_append]; simp only [rolesL]

def nmP (l : List (List Int)) (p : Nat × CN) : List (List Int) := if p.2.kind = 2 then insW l p.2.name else l
def naP (l : List (List Int)) (p : Nat × CN) : List (List Int) := addW l p.2.name
def rlP (l : List (List Int)) (p : Nat × CN) : List (List Int) := addW l p.2.role

mutual
theorem namesC_parts : ∀ (c : CN) (deep : Nat) (l : List (List Int)), namesC c l = (parts c deep).foldl nmP l
  | .mk k n r ks, deep, l => by rw [namesC, parts, List.foldl_cons, namesL_parts ks (deep + 1)]; rfl
theorem namesL_parts : ∀ (cs : List CN) (deep : Nat) (l : List (List Int)), namesL cs l = (partsL cs deep).foldl nmP l
  | [], _, l => by rw [namesL, partsL]; rfl
  | c :: cs, deep, l => by rw [namesL, partsL, List.foldl_append, ← namesC_parts c deep l, namesL_parts cs deep]
end
mutual
theorem rolesC_parts : ∀ (c : CN) (deep : Nat) (l : List (List Int)), rolesC c l = (parts c deep).foldl rlP l
  | .mk k n r ks, deep, l => by rw [rolesC, parts, List.foldl_cons, rolesL_parts ks (deep + 1)]; rfl
theorem rolesL_parts : ∀ (cs : List CN) (deep : Nat) (l : List (List Int)), rolesL cs l = (partsL cs deep).foldl rlP l
  | [], _, l => by rw [rolesL, partsL]; rfl
  | c :: cs, deep, l => by rw [rolesL, partsL, List.foldl_append, ← rolesC_parts c deep l, rolesL_parts cs deep]
end

theorem foldl_same {α β : Type} (f g : β → α → β) : ∀ (xs : List α) (l : β), (∀ x ∈ xs, ∀ l, f l x = g l x) → xs.foldl f l = xs.foldl g l
  | [], _, _ => rfl
  | x :: xs, l, h => by rw [List.foldl_cons, List.foldl_cons, h x (by simp) l]; exact foldl_same f g xs _ (fun y hy => h y (by simp [hy]))

theorem len_of_upper {zs : List Int} (h : upOk zs = true) : zs.length ≠ 0 := by
  intro e
  have := List.eq_nil_of_length_eq_zero e
  subst this
  revert h
  decide

theorem nmP_ok {p : Nat × CN} (h : shapeB p.2 = true) (l : List (List Int)) : nmP l p = naP l p := by
  unfold shapeB at h
  simp only [Bool.and_eq_true] at h
  have h1 := h.1
  unfold nameFit at h1
  unfold nmP naP addW
  by_cases hk : p.2.kind = 2
  · rw [if_pos hk] at h1 ⊢
    simp only [Bool.and_eq_true] at h1
    rw [if_neg (len_of_upper h1.1)]
  · rw [if_neg hk] at h1 ⊢
    rw [if_pos (of_decide_eq_true h1)]

theorem namesC_ok {c : CN} (h : conOk c = true) (l : List (List Int)) : namesC c l = (parts c 1).foldl naP l := by
  rw [namesC_parts c 1]
  refine foldl_same _ _ _ _ (fun p hp l => nmP_ok ?_ l)
  unfold conOk at h
  rw [Bool.and_eq_true, List.all_eq_true] at h
  have := h.2 p hp
  unfold okOne at this
  rw [Bool.and_eq_true] at this
  exact this.2

/-- In order, each once, of bytes. -/
structure Good (l : List (List Int)) : Prop where
  srt : Srt l
  byt : Byts l

theorem Good.nil : Good [] := ⟨Srt.nil, Byts.nil⟩
theorem Good.ins {l : List (List Int)} (h : Good l) {wd : List Int} (hw : Byt wd) : Good (insW l wd) := ⟨insW_Srt hw h.srt h.byt, insW_Byts hw h.srt h.byt⟩
theorem Good.add {l : List (List Int)} (h : Good l) {wd : List Int} (hw : Byt wd) : Good (addW l wd) := ⟨addW_Srt hw h.srt h.byt, addW_Byts hw h.srt h.byt⟩

def BytP (ps : List (Nat × CN)) : Prop := ∀ p ∈ ps, Byt p.2.name ∧ Byt p.2.role

theorem Good.na {ps : List (Nat × CN)} : ∀ {l : List (List Int)}, Good l → BytP ps → Good (ps.foldl naP l) ∧ (ps.foldl naP l).length ≤ l.length + ps.length := by
  induction ps with
  | nil => intro l h _; exact ⟨h, Nat.le_refl _⟩
  | cons p ps ih =>
    intro l h hb
    have h1 := hb p (by simp)
    obtain ⟨h2, h3⟩ := ih (l := naP l p) (h.add h1.1) (fun q hq => hb q (by simp [hq]))
    have h4 : (naP l p).length ≤ l.length + 1 := addW_len h1.1 h.srt h.byt
    refine ⟨h2, ?_⟩
    rw [List.foldl_cons, List.length_cons]
    omega
theorem Good.rl {ps : List (Nat × CN)} : ∀ {l : List (List Int)}, Good l → BytP ps → Good (ps.foldl rlP l) ∧ (ps.foldl rlP l).length ≤ l.length + ps.length := by
  induction ps with
  | nil => intro l h _; exact ⟨h, Nat.le_refl _⟩
  | cons p ps ih =>
    intro l h hb
    have h1 := hb p (by simp)
    obtain ⟨h2, h3⟩ := ih (l := rlP l p) (h.add h1.2) (fun q hq => hb q (by simp [hq]))
    have h4 : (rlP l p).length ≤ l.length + 1 := addW_len h1.2 h.srt h.byt
    refine ⟨h2, ?_⟩
    rw [List.foldl_cons, List.length_cons]
    omega
theorem Good.nm {ps : List (Nat × CN)} : ∀ {l : List (List Int)}, Good l → BytP ps → Good (ps.foldl nmP l) ∧ (ps.foldl nmP l).length ≤ l.length + ps.length := by
  induction ps with
  | nil => intro l h _; exact ⟨h, Nat.le_refl _⟩
  | cons p ps ih =>
    intro l h hb
    have h1 := hb p (by simp)
    have hg : Good (nmP l p) := by unfold nmP; split; exact h.ins h1.1; exact h
    obtain ⟨h2, h3⟩ := ih (l := nmP l p) hg (fun q hq => hb q (by simp [hq]))
    have h4 : (nmP l p).length ≤ l.length + 1 := by unfold nmP; split; exact (insW_len h1.1 h.srt h.byt).2; omega
    refine ⟨h2, ?_⟩
    rw [List.foldl_cons, List.length_cons]
    omega

theorem byt_of_rd {lo hi : Nat} {w : World} {a : Option Addr} {n cap : Nat} {zs : List Int} (h : Rd lo hi w a n cap zs) : Byt zs := h.byte

theorem partsL_mem {cs : List CN} {deep : Nat} {p : Nat × CN} (h : p ∈ partsL cs deep) : ∃ i, i < cs.length ∧ p ∈ parts (cs.getD i CN.zero) deep := by
  induction cs with
  | nil => rw [partsL] at h; simp at h
  | cons c cs ih =>
    rw [partsL] at h
    rcases List.mem_append.1 h with h | h
    · exact ⟨0, by simp, by simpa using h⟩
    · obtain ⟨i, hi, hp⟩ := ih h
      exact ⟨i + 1, by simp; omega, by simpa using hp⟩

theorem RdC.byts {lo hi : Nat} {w : World} : ∀ {d : Nat} {v : Value} {c : CN}, RdC lo hi w d v c → ∀ deep, BytP (parts c deep) := by
  intro d
  induction d with
  | zero => intro v c h; exact h.elim
  | succ d ih =>
    intro v c h deep p hp
    obtain ⟨na, nn, nc, ra, rn, rc, ka, kn, kc, hv, h1, h2, h3⟩ := h
    rw [parts_eq] at hp
    rcases List.mem_cons.1 hp with rfl | hp
    · exact ⟨h1.byte, h2.byte⟩
    · obtain ⟨i, hi, hpi⟩ := partsL_mem hp
      rcases h3.cells with h0 | ⟨b, off, e, _, _, hc⟩
      · have := h3.len; omega
      · obtain ⟨v0, v1, v2, v3, _, _, _, _, hr⟩ := hc i (by have := h3.len; omega)
        exact ih hr (deep + 1) p hpi

/-! ### What is told -/

def AX.zero : AX := ⟨0, CN.zero, CN.zero, [], [], [], []⟩
def stN (l : List (List Int)) (x : AX) : List (List Int) := namesC x.d (namesC x.c l)
def stR (l : List (List Int)) (x : AX) : List (List Int) := addW (addW (rolesC x.d (rolesC x.c l)) x.r) x.s
def stI (l : List (List Int)) (x : AX) : List (List Int) := addW (addW l x.a) x.b
def kbN (xs : List AX) : List (List Int) := xs.foldl stN []
def kbR (xs : List AX) : List (List Int) := xs.foldl stR []
def kbI (xs : List AX) : List (List Int) := xs.foldl stI []

theorem foldl_take {α β : Type} (f : β → α → β) (b : β) (xs : List α) (d : α) (k : Nat) (h : k < xs.length) : (xs.take (k + 1)).foldl f b = f ((xs.take k).foldl f b) (xs.getD k d) := by
  rw [take_succ_getD xs d k h, List.foldl_append]; rfl
theorem kbN_take (xs : List AX) (k : Nat) (h : k < xs.length) : kbN (xs.take (k + 1)) = stN (kbN (xs.take k)) (xs.getD k AX.zero) := foldl_take _ _ _ _ _ h
theorem kbR_take (xs : List AX) (k : Nat) (h : k < xs.length) : kbR (xs.take (k + 1)) = stR (kbR (xs.take k)) (xs.getD k AX.zero) := foldl_take _ _ _ _ _ h
theorem kbI_take (xs : List AX) (k : Nat) (h : k < xs.length) : kbI (xs.take (k + 1)) = stI (kbI (xs.take k)) (xs.getD k AX.zero) := foldl_take _ _ _ _ _ h

/-- It may be told. -/
def kbB (xs : List AX) : Bool := decide (xs.length ≤ 8) && (xs.all axOk && (decide ((kbN xs).length ≤ 5) && (decide ((kbR xs).length ≤ 3) && decide ((kbI xs).length ≤ 3))))

/-- Thirteen cells from here on read as this axiom. -/
def Ax13 (lo hi : Nat) (w : World) (dp b o : Nat) (x : AX) : Prop := ∃ (c0 c1 c2 c3 d0 d1 d2 d3 : Value) (ra : Option Addr) (rn rc : Nat) (sa : Option Addr) (sn sc : Nat) (aa : Option Addr) (an ac : Nat) (ba : Option Addr) (bn bc : Nat),
  w.cell? ⟨b, o, none⟩ = some (.int .i64 x.kind) ∧ w.cell? ⟨b, o + 1, none⟩ = some c0 ∧ w.cell? ⟨b, o + 2, none⟩ = some c1 ∧ w.cell? ⟨b, o + 3, none⟩ = some c2 ∧ w.cell? ⟨b, o + 4, none⟩ = some c3 ∧
  w.cell? ⟨b, o + 5, none⟩ = some d0 ∧ w.cell? ⟨b, o + 6, none⟩ = some d1 ∧ w.cell? ⟨b, o + 7, none⟩ = some d2 ∧ w.cell? ⟨b, o + 8, none⟩ = some d3 ∧
  w.cell? ⟨b, o + 9, none⟩ = some (.slice ra rn rc) ∧ w.cell? ⟨b, o + 10, none⟩ = some (.slice sa sn sc) ∧ w.cell? ⟨b, o + 11, none⟩ = some (.slice aa an ac) ∧ w.cell? ⟨b, o + 12, none⟩ = some (.slice ba bn bc) ∧
  RdA lo hi w dp c0 c1 c2 c3 d0 d1 d2 d3 ra rn rc sa sn sc aa an ac ba bn bc x

/-- A slice's value reads as these axioms. -/
structure RdK (lo hi : Nat) (w : World) (dp : Nat) (a : Option Addr) (n cap : Nat) (xs : List AX) : Prop where
  len : xs.length = n
  fits : n ≤ cap ∧ cap ≤ 9223372036854775807
  cells : n = 0 ∨ ∃ b off, a = some ⟨b, off, none⟩ ∧ lo ≤ b ∧ b < hi ∧ ∀ i, i < n → Ax13 lo hi w dp b (off + i * 13) (xs.getD i AX.zero)

theorem RdA.same {lo hi : Nat} {w w' : World} {dp : Nat} {c0 c1 c2 c3 d0 d1 d2 d3 : Value} {ra : Option Addr} {rn rc : Nat} {sa : Option Addr} {sn sc : Nat} {aa : Option Addr} {an ac : Nat} {ba : Option Addr} {bn bc : Nat} {x : AX}
    (h : RdA lo hi w dp c0 c1 c2 c3 d0 d1 d2 d3 ra rn rc sa sn sc aa an ac ba bn bc x) (hs : Same lo hi w w') : RdA lo hi w' dp c0 c1 c2 c3 d0 d1 d2 d3 ra rn rc sa sn sc aa an ac ba bn bc x :=
  ⟨h.c.same hs, h.d.same hs, h.r.same hs, h.s.same hs, h.a.same hs, h.b.same hs⟩

theorem Ax13.same {lo hi : Nat} {w w' : World} {dp b o : Nat} {x : AX} (h : Ax13 lo hi w dp b o x) (hs : Same lo hi w w') (h1 : lo ≤ b) (h2 : b < hi) : Ax13 lo hi w' dp b o x := by
  obtain ⟨c0, c1, c2, c3, d0, d1, d2, d3, ra, rn, rc, sa, sn, sc, aa, an, ac, ba, bn, bc, q0, q1, q2, q3, q4, q5, q6, q7, q8, q9, q10, q11, q12, hr⟩ := h
  have t : ∀ (k : Nat) (v : Value), w.cell? ⟨b, k, none⟩ = some v → w'.cell? ⟨b, k, none⟩ = some v := fun k v q => (hs.cell (p := ⟨b, k, none⟩) h1 h2).trans q
  exact ⟨c0, c1, c2, c3, d0, d1, d2, d3, ra, rn, rc, sa, sn, sc, aa, an, ac, ba, bn, bc, t _ _ q0, t _ _ q1, t _ _ q2, t _ _ q3, t _ _ q4, t _ _ q5, t _ _ q6, t _ _ q7, t _ _ q8, t _ _ q9, t _ _ q10, t _ _ q11, t _ _ q12, hr.same hs⟩

theorem RdK.same {lo hi dp : Nat} {w w' : World} {a : Option Addr} {n cap : Nat} {xs : List AX} (h : RdK lo hi w dp a n cap xs) (hs : Same lo hi w w') : RdK lo hi w' dp a n cap xs := by
  obtain ⟨hl, hm, hc⟩ := h
  refine ⟨hl, hm, ?_⟩
  rcases hc with h0 | ⟨b, off, e, q1, q2, hc⟩
  · exact .inl h0
  · exact .inr ⟨b, off, e, q1, q2, fun i hi => (hc i hi).same hs q1 q2⟩
theorem RdK.below {lo hi dp B : Nat} {w w' : World} {a : Option Addr} {n cap : Nat} {xs : List AX} (h : RdK lo hi w dp a n cap xs) (hb : Below B w w') (hB : hi ≤ B) : RdK lo hi w' dp a n cap xs := h.same (Same.of_below hb hB)

/-- What an axiom holds, and what the words of it are. -/
def AX.bulk (x : AX) : Nat := x.c.bulk + x.d.bulk + x.r.length + x.s.length + x.a.length + x.b.length
def bulkK : List AX → Nat
  | [] => 0
  | x :: xs => 1 + x.bulk + bulkK xs
theorem bulkK_append (xs ys : List AX) : bulkK (xs ++ ys) = bulkK xs + bulkK ys := by
  induction xs with
  | nil => simp [bulkK]
  | cons x xs ih => simp only [List.cons_append, bulkK, ih]; omega
theorem bulkK_take (xs : List AX) (k : Nat) (h : k < xs.length) : bulkK (xs.take (k + 1)) = bulkK (xs.take k) + 1 + (xs.getD k AX.zero).bulk := by
  rw [take_succ_getD xs AX.zero k h, bulkK_append]; simp only [bulkK]; omega
theorem bulkK_take_le (xs : List AX) (k : Nat) : bulkK (xs.take k) ≤ bulkK xs := by
  have := bulkK_append (xs.take k) (xs.drop k); rw [List.take_append_drop] at this; omega
theorem bulkK_getD (xs : List AX) (k : Nat) (h : k < xs.length) : (xs.getD k AX.zero).bulk + 1 ≤ bulkK xs := by
  have := bulkK_take xs k h; have := bulkK_take_le xs (k + 1); omega
theorem length_le_bulkK (xs : List AX) : xs.length ≤ bulkK xs := by
  induction xs with
  | nil => simp
  | cons c cs ih => simp only [List.length_cons, bulkK]; omega

end Go.Proofs.YtpedjcabapldgaaDoor
