/- spec.WorldOk: for every world that can be read it answers what 'worldB' says. -/
import Derived.Test.YtpedjcabapldgaaDoorWdNames
import Derived.Deep.RegionWith
import Derived.Deep.DeepCutAuto
namespace Go.Proofs.YtpedjcabapldgaaDoor
open Go.RowKit

theorem worldB_iff (x : WD) : worldB x = true ↔ ((1 ≤ x.n ∧ x.n ≤ 128) ∧ x.names.length ≤ 12 ∧ x.roles.length ≤ 6 ∧ x.inds.length ≤ 6 ∧ x.sets.length = x.names.length ∧ x.rels.length = x.roles.length ∧ x.at'.length = x.inds.length) ∧
    (namesB true x.names = true ∧ namesB false x.roles = true ∧ namesB false x.inds = true) ∧ (flagsB x.sets x.n = true ∧ flagsB x.rels (x.n * x.n) = true ∧ atB x.at' x.n = true) := by
  unfold worldB
  simp only [Bool.and_eq_true, decide_eq_true_eq]

theorem worldB_no {x : WD} (h : worldB x = true → False) : worldB x = false := by
  cases e : worldB x
  · rfl
  · exact absurd e (fun e => h e)

end Go.Proofs.YtpedjcabapldgaaDoor
