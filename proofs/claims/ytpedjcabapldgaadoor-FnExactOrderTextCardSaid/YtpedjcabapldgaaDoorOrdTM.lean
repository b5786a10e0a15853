/- The text of an order, as mathematics; appends to bytes of the call's own. -/
import Derived.Test.YtpedjcabapldgaaDoorDigT
import Derived.Test.YtpedjcabapldgaaDoorOrdM
namespace Go.Proofs.YtpedjcabapldgaaDoor
open Go.RowKit

def wordsT : List (List Int) → List Int
  | [] => []
  | z :: zs => 32 :: z ++ wordsT zs
def clsW : List Int := [99, 108, 97, 115, 115, 32]
def edgW : List Int := [101, 100, 103, 101, 32]
def clsS : ByteArray := { data := #[99, 108, 97, 115, 115, 32] }
def edgS : ByteArray := { data := #[101, 100, 103, 101, 32] }
def gapS : ByteArray := { data := #[32] }
theorem clsS_cells : Lib.strCells clsS = clsW.map (Value.int .u8) := rfl
theorem edgS_cells : Lib.strCells edgS = edgW.map (Value.int .u8) := rfl
theorem gapS_cells : Lib.strCells gapS = [(32 : Int)].map (Value.int .u8) := rfl

def clsLine (k : Nat) (c : List (List Int)) : List Int := clsW ++ digT k ++ wordsT c ++ [10]
def clsLines (xs : List (List (List Int))) : Nat → List Int
  | 0 => []
  | k + 1 => clsLines xs k ++ clsLine k (xs.getD k [])
def edgLine (e : Int × Int) : List Int := edgW ++ digT e.1.toNat ++ [32] ++ digT e.2.toNat ++ [10]
def edgLines (xs : List (Int × Int)) : Nat → List Int
  | 0 => []
  | k + 1 => edgLines xs k ++ edgLine (xs.getD k (0, 0))
def ordT (x : OD) : List Int := if orderB x = true then clsLines x.cls x.cls.length ++ edgLines x.edg x.edg.length else []
theorem ordT_no {x : OD} (h : orderB x = false) : ordT x = [] := by unfold ordT; rw [h]; rfl
theorem ordT_yes {x : OD} {n m : Nat} (h : orderB x = true) (hn : x.cls.length = n) (hm : x.edg.length = m) : ordT x = clsLines x.cls n ++ edgLines x.edg m := by unfold ordT; rw [h, hn, hm]; rfl

theorem wordsT_append (xs ys : List (List Int)) : wordsT (xs ++ ys) = wordsT xs ++ wordsT ys := by
  induction xs with
  | nil => rfl
  | cons x xs ih => simp [wordsT, ih]
theorem wordsT_take {c : List (List Int)} {j : Nat} (h : j < c.length) : wordsT (c.take (j + 1)) = wordsT (c.take j) ++ [32] ++ c.getD j [] := by
  rw [take_one (d := []) h, wordsT_append]
  simp [wordsT]
theorem wordsT_len {c : List (List Int)} (h : ∀ z ∈ c, z.length ≤ 6) : (wordsT c).length ≤ 7 * c.length := by
  induction c with
  | nil => simp [wordsT]
  | cons z c ih =>
    have h1 := h z (by simp)
    have h2 := ih (fun y hy => h y (by simp [hy]))
    simp only [wordsT, List.length_cons, List.length_append]
    omega

/-- What an order that may be has: small numbers, short words. -/
structure OrdFit (x : OD) (cn en : Nat) : Prop where
  c7 : cn ≤ 7
  e50 : en ≤ 50
  up : ∀ k, k < cn → ∀ z ∈ x.cls.getD k [], upOk z = true
  ed : ∀ k, k < en → 0 ≤ (x.edg.getD k (0, 0)).1 ∧ (x.edg.getD k (0, 0)).1 < 7 ∧ 0 ≤ (x.edg.getD k (0, 0)).2 ∧ (x.edg.getD k (0, 0)).2 < 7
  sz : ∀ k, k < cn → (x.cls.getD k []).length ≤ 1048576

theorem fit_of {x : OD} {cn en : Nat} (h : orderB x = true) (hc : x.cls.length = cn) (he : x.edg.length = en) (hbd : BdO x cn en) : OrdFit x cn en := by
  unfold orderB at h
  rw [hc, he] at h
  simp only [Bool.and_eq_true, decide_eq_true_eq] at h
  obtain ⟨h1, h2, _, _, h5, h6⟩ := h
  refine ⟨h1, h2, fun k hk z hz => ?_, fun k hk => ?_, fun k hk => (hbd.c.2 k hk).1⟩
  · unfold clsB at h5
    have := (of_decide_eq_true h5).2.1
    refine this z ?_
    rw [List.mem_flatten]
    exact ⟨x.cls.getD k [], by rw [getD_at (by omega)]; exact List.getElem_mem _, hz⟩
  · unfold edgB at h6
    rw [List.all_eq_true] at h6
    have := h6 k (by simp; omega)
    unfold edgeAt edgeIn numB at this
    simp only [if_true, Bool.and_eq_true, decide_eq_true_eq] at this
    obtain ⟨⟨⟨a1, a2⟩, ⟨a3, a4⟩, _⟩, _⟩ := this
    have : (cn : Int) ≤ 7 := by omega
    exact ⟨a1, by omega, a3, by omega⟩

theorem up_short {z : List Int} (h : upOk z = true) : z.length ≤ 6 := (longB_of_up h).2

theorem clsLine_len {x : OD} {cn en : Nat} (h : OrdFit x cn en) {k : Nat} (hk : k < cn) : (clsLine k (x.cls.getD k [])).length ≤ 7340050 := by
  have h1 := wordsT_len (c := x.cls.getD k []) (fun z hz => up_short (h.up k hk z hz))
  have h2 := h.sz k hk
  have h3 := digT_len k
  unfold clsLine clsW
  simp only [List.length_append, List.length_cons, List.length_nil]
  omega
theorem clsLines_len {x : OD} {cn en : Nat} (h : OrdFit x cn en) : ∀ k, k ≤ cn → (clsLines x.cls k).length ≤ k * 7340050
  | 0, _ => by simp [clsLines]
  | k + 1, hk => by
    have h1 := clsLines_len h k (by omega)
    have h2 := clsLine_len h (k := k) (by omega)
    simp only [clsLines, List.length_append]
    omega
theorem edgLine_len (e : Int × Int) : (edgLine e).length ≤ 11 := by
  have h1 := digT_len e.1.toNat
  have h2 := digT_len e.2.toNat
  unfold edgLine edgW
  simp only [List.length_append, List.length_cons, List.length_nil]
  omega
theorem edgLines_len (xs : List (Int × Int)) : ∀ k, (edgLines xs k).length ≤ k * 11
  | 0 => by simp [edgLines]
  | k + 1 => by
    have h1 := edgLines_len xs k
    have h2 := edgLine_len (xs.getD k (0, 0))
    simp only [edgLines, List.length_append]
    omega

/-! ### Appends -/

theorem own_alloc {base : Nat} {W : World} {v : Value} {xs : List Int} (h : OwnB base W v xs) (o : Obj) : (W.alloc o).ownsRow base 5 1 v xs.length (xs.map (Value.int .u8)) := OwnB.below h ((Below.refl W.heap.size W).alloc (Nat.le_refl _) _) (Nat.le_refl _)
theorem own_byte {base : Nat} {W w2 : World} {v v' : Value} {xs : List Int} {c : Int} (hO : OwnB base W v xs) (hb : base ≤ W.heap.size)
    (hown : w2.ownsRow base 5 1 v' (xs.length + 1) (xs.map (Value.int .u8) ++ [.int .u8 c])) (hgrow : (W.alloc (.cells #[.int .u8 c] 5)).grownBy w2 v.ownBlock) : OwnB base w2 v' (xs ++ [c]) ∧ Keep5 base W w2 := by
  have h1 : OwnB base (W.alloc (.cells #[.int .u8 c] 5)) v xs := own_alloc hO _
  obtain ⟨a, b⟩ := ownB_app (ys := [c]) h1 (by simp; omega) hown hgrow
  exact ⟨a, (Keep5.of_below ((Below.refl W.heap.size W).alloc (Nat.le_refl _) _) hb).trans b⟩
theorem own_word {base : Nat} {W w2 : World} {v v' : Value} {xs zs : List Int} {zn : Nat} (hz : zs.length = zn) (hO : OwnB base W v xs) (hb : base ≤ W.heap.size)
    (hown : w2.ownsRow base 5 1 v' (xs.length + zn) (xs.map (Value.int .u8) ++ zs.map (Value.int .u8))) (hgrow : W.grownBy w2 v.ownBlock) : OwnB base w2 v' (xs ++ zs) ∧ Keep5 base W w2 := by
  subst hz
  exact ownB_app hO hb hown hgrow

end Go.Proofs.YtpedjcabapldgaaDoor
