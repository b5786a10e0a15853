/- impl.AxiomOk: for every axiom that can be read it answers what 'axOk' says. -/
import Derived.Test.YtoeoddfhofcpcaaGreatAxPath0
import Derived.Test.YtoeoddfhofcpcaaGreatAxPath1
import Derived.Test.YtoeoddfhofcpcaaGreatAxPath2
import Derived.Test.YtoeoddfhofcpcaaGreatAxPath3
import Derived.Test.YtoeoddfhofcpcaaGreatAxPath4
import Derived.Test.YtoeoddfhofcpcaaGreatAxPath5
import Derived.Test.YtoeoddfhofcpcaaGreatAxPath6
import Derived.Test.YtoeoddfhofcpcaaGreatAxPathE
namespace Go.Proofs.YtoeoddfhofcpcaaGreat
open Go.RowKit

set_option maxRecDepth 100000 in
set_option maxHeartbeats 4000000 in
theorem implAxiomOk_any {dp : Nat} {c0 c1 c2 c3 d0 d1 d2 d3 : Value} {ra : Option Addr} {rn rc : Nat} {sa : Option Addr} {sn sc : Nat} {aa : Option Addr} {an ac : Nat} {ba : Option Addr} {bn bc : Nat} {x : AX} {w : World} {lo hi : Nat} (h : RdA lo hi w dp c0 c1 c2 c3 d0 d1 d2 d3 ra rn rc sa sn sc aa an ac ba bn bc x) (hhi : hi ≤ w.heap.size) (hbc : x.c.bulk ≤ 1048576) (hbd : x.d.bulk ≤ 1048576) (k : Int) (hk : k = x.kind) : Calls Tryz.prog 55 #[.agg #[.int .i64 k, c0, c1, c2, c3, d0, d1, d2, d3, .slice ra rn rc, .slice sa sn sc, .slice aa an ac, .slice ba bn bc]] w fun e w' => e = .returned (.bool (axOk x)) ∧ Below w.heap.size w w' := by
  by_cases hkk : 0 ≤ k ∧ k ≤ 5
  · obtain ⟨eC, eD, eR, eS, eA, eB⟩ := has_fields hkk
    have hlen := fields_long hkk
    obtain ⟨n1, n2⟩ := ne_nil hlen
    have hd : decide (0 ≤ x.kind ∧ x.kind ≤ 5) = true := by rw [← hk]; simp [hkk]
    cases hFC : fitC x.c (wantC k)
    · exact implAxPath0 h hhi hbc hbd k (fieldsS k) rfl eC eD eR eS eA eB (one_ne hlen) (one_ne hlen) (one_ne hlen) (one_ne hlen) (one_ne hlen) (one_ne hlen) n1 n2 hFC (by unfold Hid axOk; rw [← hk]; simp [hFC])
    ·
      cases hFD : fitC x.d (wantD k)
      · exact implAxPath1 h hhi hbc hbd k (fieldsS k) rfl eC eD eR eS eA eB (one_ne hlen) (one_ne hlen) (one_ne hlen) (one_ne hlen) (one_ne hlen) (one_ne hlen) n1 n2 hFC hFD (by unfold Hid axOk; rw [← hk]; simp [hFD])
      ·
        cases hFR : fitL x.r (wantR k)
        · exact implAxPath2 h hhi hbc hbd k (fieldsS k) rfl eC eD eR eS eA eB (one_ne hlen) (one_ne hlen) (one_ne hlen) (one_ne hlen) (one_ne hlen) (one_ne hlen) n1 n2 hFC hFD hFR (by unfold Hid axOk; rw [← hk]; simp [hFR])
        ·
          cases hFS : fitL x.s (wantS k)
          · exact implAxPath3 h hhi hbc hbd k (fieldsS k) rfl eC eD eR eS eA eB (one_ne hlen) (one_ne hlen) (one_ne hlen) (one_ne hlen) (one_ne hlen) (one_ne hlen) n1 n2 hFC hFD hFR hFS (by unfold Hid axOk; rw [← hk]; simp [hFS])
          ·
            cases hFA : fitL x.a (wantA k)
            · exact implAxPath4 h hhi hbc hbd k (fieldsS k) rfl eC eD eR eS eA eB (one_ne hlen) (one_ne hlen) (one_ne hlen) (one_ne hlen) (one_ne hlen) (one_ne hlen) n1 n2 hFC hFD hFR hFS hFA (by unfold Hid axOk; rw [← hk]; simp [hFA])
            ·
              cases hFB : fitL x.b (wantB k)
              · exact implAxPath5 h hhi hbc hbd k (fieldsS k) rfl eC eD eR eS eA eB (one_ne hlen) (one_ne hlen) (one_ne hlen) (one_ne hlen) (one_ne hlen) (one_ne hlen) n1 n2 hFC hFD hFR hFS hFA hFB (by unfold Hid axOk; rw [← hk]; simp [hFB])
              ·
                exact implAxPath6 h hhi hbc hbd k (fieldsS k) rfl eC eD eR eS eA eB (one_ne hlen) (one_ne hlen) (one_ne hlen) (one_ne hlen) (one_ne hlen) (one_ne hlen) n1 n2 hFC hFD hFR hFS hFA hFB (by unfold Hid axOk; rw [hd, ← hk, hFC, hFD, hFR, hFS, hFA, hFB]; rfl)
  · exact implAxNone h hhi hbc hbd k hk hkk

end Go.Proofs.YtoeoddfhofcpcaaGreat
