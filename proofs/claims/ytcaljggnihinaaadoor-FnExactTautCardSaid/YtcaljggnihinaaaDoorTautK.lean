/- The clause that has a literal's atom alone, as the program lays its key (atomAlone): a contract. -/
import Derived.Test.YtcaljggnihinaaaDoorCmpKey2
import Derived.Test.YtcaljggnihinaaaDoorTautM
import Derived.Deep.RegionHeld3
import Derived.Deep.DeepCutAuto
namespace Go.Proofs.YtcaljggnihinaaaDoor
open Go.RowKit Go.Deep
set_option linter.unusedVariables false

def keyVs (l : List Int) : Array Value := (l.map (Value.int .i64)).toArray
theorem keyVs_size (l : List Int) : (keyVs l).size = l.length := by simp [keyVs]
theorem keyVs_one (l : List Int) : (keyVs l).all (·.oneCell') = true := by
  rw [keyVs, Array.all_eq_true_iff_forall_mem]
  intro v hv
  simp only [List.mem_toArray, List.mem_map] at hv
  obtain ⟨z, _, rfl⟩ := hv
  rfl

end Go.Proofs.YtcaljggnihinaaaDoor
