/- Several texts in one: ClTxM, ClTxK. -/
import Derived.Test.YtknainelonaigaaGreatDoorNDig
import Derived.Test.YtknainelonaigaaGreatDoorNI2
namespace Go.Proofs.YtknainelonaigaaGreatDoor

section
open Go.RowKit

def litAtT (p n : Nat) (os : List Int) (a : Nat) : List Int := (if p.testBit a = true then [32] ++ digT a ++ os else []) ++ (if n.testBit a = true then [32, 45] ++ digT a ++ os else [])
def litsW (p n : Nat) (os : List Int) : Nat → List Int
  | 0 => []
  | k + 1 => litsW p n os k ++ litAtT p n os k
theorem litAtT_len (p n : Nat) (os : List Int) (a : Nat) : (litAtT p n os a).length ≤ 7 + 2 * os.length := by
  have := (digT_len a).2
  unfold litAtT
  split <;> split <;> simp <;> omega
theorem litsW_len (p n : Nat) (os : List Int) : ∀ k, (litsW p n os k).length ≤ k * (7 + 2 * os.length)
  | 0 => by simp [litsW]
  | k + 1 => by
    have h1 := litsW_len p n os k
    have h2 := litAtT_len p n os k
    simp only [litsW, List.length_append]
    rw [Nat.add_mul]
    omega
theorem litsW_yes {p n : Nat} {os : List Int} {k : Nat} (h : p.testBit k = true) : ∀ X, X ++ litsW p n os (k + 1) = X ++ litsW p n os k ++ [32] ++ digT k ++ os ++ (if n.testBit k = true then [32, 45] ++ digT k ++ os else []) := by
  intro X; simp [litsW, litAtT, h]
theorem litsW_no {p n : Nat} {os : List Int} {k : Nat} (h : p.testBit k = false) : ∀ X, X ++ litsW p n os (k + 1) = X ++ litsW p n os k ++ (if n.testBit k = true then [32, 45] ++ digT k ++ os else []) := by
  intro X; simp [litsW, litAtT, h]

def markS : ByteArray := { data := #[120, 121, 97, 98, 99, 100] }
def markT : List Int := [120, 121, 97, 98, 99, 100]
def litT (x : LT) : List Int := (if x.no = true then [32, 45] else [32]) ++ digT x.atom ++ [markT.getD x.place 0]
def litsT : List LT → List Int
  | [] => []
  | x :: xs => litT x ++ litsT xs
theorem litsT_append (xs ys : List LT) : litsT (xs ++ ys) = litsT xs ++ litsT ys := by
  induction xs with
  | nil => rfl
  | cons x xs ih => simp [litsT, ih]
theorem litsT_to (i p n : Nat) : ∀ k, litsT (litsTo i p n k) = litsW p n [markT.getD i 0] k
  | 0 => rfl
  | k + 1 => by
    rw [litsTo, litsT_append, litsT_to i p n k, litsW, litAt, litsT_append, litAtT]
    congr 1
    split <;> split <;> simp [litsT, litT]
end

section
open Go.RowKit

def wdK (k : Int) : List Int := if k = 0 then [111, 110, 101] else if k = 1 then [110, 101, 120, 116] else if k = 2 then [101, 100, 103, 101] else if k = 3 then [97, 108, 108] else if k = 4 then [114, 111, 108, 101] else if k = 5 then [102, 97, 99, 116] else [112, 97, 105, 114]
def fW : List Int := [32, 102]
def rW : List Int := [32, 114]
def fS : ByteArray := { data := #[32, 102] }
def rS : ByteArray := { data := #[32, 114] }
theorem fS_cells : Lib.strCells fS = fW.map (Value.int .u8) := rfl
theorem rS_cells : Lib.strCells rS = rW.map (Value.int .u8) := rfl
theorem fS_size : fS.size = fW.length := rfl
theorem rS_size : rS.size = rW.length := rfl
def oW : List Int := [32]
def oS : ByteArray := { data := #[32] }
theorem oS_cells : Lib.strCells oS = oW.map (Value.int .u8) := rfl
theorem oW_len : oW.length = 1 := rfl
theorem fW_len : fW.length = 2 := rfl
theorem rW_len : rW.length = 2 := rfl
def xS : ByteArray := { data := #[120] }
theorem xS_cells : Lib.strCells xS = [(120 : Int)].map (Value.int .u8) := rfl
def yS : ByteArray := { data := #[121] }
theorem yS_cells : Lib.strCells yS = [(121 : Int)].map (Value.int .u8) := rfl
def numsK (k : Int) (f r u a b : Nat) : List Int := (if hasF k = true then fW ++ digT f else []) ++ ((if hasR k = true then rW ++ digT r else []) ++ ((if hasU k = true then rW ++ digT u else []) ++ (if hasP k = true then [32] ++ digT a ++ [32] ++ digT b else [])))
/-- The literals of parts as text, the first one's number being i. -/
def partsW : Nat → List (Nat × Nat) → List Int
  | _, [] => []
  | i, x :: xs => litsW x.1 x.2 [markT.getD i 0] 24 ++ partsW (i + 1) xs
theorem litsT_L : ∀ (xs : List (Nat × Nat)) (i : Nat), litsT (litsL i xs) = partsW i xs
  | [], _ => rfl
  | x :: xs, i => by rw [litsL, litsT_append, litsT_L xs (i + 1), partsW, litsP, litsT_to]
theorem litsW_zero (os : List Int) : ∀ k, litsW 0 0 os k = []
  | 0 => rfl
  | k + 1 => by rw [litsW, litsW_zero os k]; simp [litAtT]
/-- A clause's text, where the clause may be. -/
def clT (k : Int) (f r u : Nat) (ps : List (Nat × Nat)) (a b : Nat) : List Int := wdK k ++ numsK k f r u a b ++ litsT (litsL 0 ps)
theorem clT_eq (k : Int) (f r u : Nat) (ps : List (Nat × Nat)) (a b : Nat) : clT k f r u ps a b = wdK k ++ numsK k f r u a b ++ partsW 0 ps := by rw [clT, litsT_L]
end

end Go.Proofs.YtknainelonaigaaGreatDoor
