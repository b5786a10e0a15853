/- What a door's condition gives the walks: the library's table lies as it was laid. -/
import Derived.Test.YtknainelonaigaaGreatDoorNLit
import Derived.ProofKit
import Derived.LaidMore
import Derived.OpenShut
import Derived.Stop.Joined
namespace Go.Proofs.YtknainelonaigaaGreatDoor
open Go.ChangeShapes Go.WideShapes Go.ChangeAt Go.WideMaps Go.WideElems Go.RowKit

def laid2 : List (String × DataW Unit) := [("math/bits.deBruijn32tab", Rows.laid_math_bits_deBruijn32tab), ("math/bits.deBruijn64tab", Rows.laid_math_bits_deBruijn64tab)]
theorem g64 : Tryz.prog.globalNamed "math/bits.deBruijn64tab" = some 2 := by kernel_rfl
theorem t64 : (Tryz.prog.globals[2]?).map (·.type) = some 148 := by kernel_rfl

/-- A row of small numbers in an array of bytes, read as this datum. -/
theorem tab_cells {W : World} {fuel : Nat} {cs : List Value} {p : List MemPlace} (h : DataW.trod (fun _ => ()) Tryz.prog W 0 (fun _ => true) false fuel 148 cs = some (Rows.laid_math_bits_deBruijn64tab, p)) : ∀ j, j < 64 → cs[j]? = some (.int .u8 (Lib.deBruijn64tab.getD j 0 : Nat)) := by
  obtain ⟨xs, m1, rfl, hx1, hlen, hn3, hel⟩ := DataW.trod_array Tryz.underlying148 h
  have c5 : Tryz.prog.cellsOf 5 = 1 := by kernel_rfl
  simp only [Prod.mk.injEq] at hx1
  intro j hj
  have h0 := hel j hj
  rw [c5] at h0
  simp only [Nat.mul_one] at h0
  have hxl : j < xs.length := by rw [hn3]; exact hj
  rw [List.getElem?_eq_getElem hxl] at h0
  obtain ⟨k, e1, e2, _⟩ := DataW.trod_int Tryz.underlying5 h0
  have hd : (xs.map (·.1))[j]? = some (.lit (.int .u8 (Lib.deBruijn64tab.getD j 0 : Nat))) := by
    have e3 : Rows.laid_math_bits_deBruijn64tab (H := Unit) = .agg (Lib.deBruijn64tab.map fun n => .lit (.int .u8 (n : Nat))) := rfl
    rw [e3] at hx1
    have e4 := hx1.1
    simp only [DataW.agg.injEq] at e4
    rw [← e4]
    have hl : j < Lib.deBruijn64tab.length := by simpa [Lib.deBruijn64tab] using hj
    simp [List.getD_eq_getElem?_getD, List.getElem?_eq_getElem hl]
  rw [List.getElem?_map, List.getElem?_eq_getElem hxl] at hd
  rw [e2] at hd
  simp only [Option.map_some, Option.some.injEq, DataW.lit.injEq, Lit.int.injEq, true_and] at hd
  subst hd
  have : (cs.drop j).take 1 = [.int .u8 (Lib.deBruijn64tab.getD j 0 : Nat)] := e1
  have h1 := congrArg (fun l => l[0]?) this
  simpa using h1

theorem door_met (os : Os) (args : Array Value) : laidMetH Tryz.prog laid2 ((World.doorLaid Tryz.prog 400 os).forCall (fun _ _ => 0) ⟨#[], args, []⟩).memory :=
  laidMetH_of_parts3 (fuel := 8) (laidMet_of_run' 8 (by kernel_rfl) (by kernel_rfl)) (by kernel_rfl) (by kernel_rfl)

end Go.Proofs.YtknainelonaigaaGreatDoor
