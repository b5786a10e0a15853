/- Which class has a name: as mathematics, as the program looks, as the document looks: contracts. -/
import Derived.Test.YtpedjcabapldgaaOrdS
namespace Go.Proofs.Ytpedjcabapldgaa
open Go.RowKit

def clsHit (xs : List (List (List Int))) (z : List Int) (k : Nat) : Bool := decide (z ∈ xs.getD k [])
def clsZ (xs : List (List (List Int))) (z : List Int) : Int := match (List.range xs.length).find? (clsHit xs z) with | some k => (k : Int) | none => -1
def classZ (x : OD) (z : List Int) : Int := if orderB x = true then clsZ x.cls z else -1
theorem classZ_no {x : OD} {z : List Int} (h : orderB x = false) : classZ x z = -1 := by unfold classZ; rw [h]; rfl
theorem classZ_yes {x : OD} {z : List Int} (h : orderB x = true) : classZ x z = clsZ x.cls z := by unfold classZ; rw [h]; rfl
theorem clsZ_at {xs : List (List (List Int))} {z : List Int} {k : Nat} (hk : k < xs.length) (h : clsHit xs z k = true) (hn : ∀ j, j < k → clsHit xs z j = false) : clsZ xs z = k := by
  have : (List.range xs.length).find? (clsHit xs z) = some k := by
    rw [List.find?_range_eq_some]
    exact ⟨h, by simpa using hk, fun j hj => by simp [hn j hj]⟩
  unfold clsZ; rw [this]
theorem clsZ_none {xs : List (List (List Int))} {z : List Int} {n : Nat} (hl : xs.length = n) (hn : ∀ j, j < n → clsHit xs z j = false) : clsZ xs z = -1 := by
  have : (List.range xs.length).find? (clsHit xs z) = none := by
    rw [List.find?_range_eq_none]
    exact fun i hi => by simp [hn i (by omega)]
  unfold clsZ; rw [this]

theorem wordIs_any {a : Option Addr} {n cap pb : Nat} {na : Option Addr} {nn nc : Nat} {z nm : List Int} {w : World} {lo hi lo' hi' : Nat} (h : Rd lo hi w a n cap z) (h' : Rd lo' hi' w na nn nc nm) (hp : w.cell? ⟨pb, 0, none⟩ = some (.slice na nn nc)) :
    Calls Try.prog 30 #[.slice a n cap, .pointer (some ⟨pb, 0, none⟩)] w fun e w' => e = .returned (.bool (decide (z = nm))) ∧ w' = w := by
  have H : Hid (Rd lo hi w a n cap z) := h
  have H' : Hid (Rd lo' hi' w na nn nc nm) := h'
  clear h h'
  go_enter Try.func30, Try.ntmps30
  go_wp2_with fail
  refine (bytesEqual_any H.out H'.out).mono ?_
  rintro e w5 ⟨rfl, hw5⟩
  rw [hw5]
  clear hw5
  obtain ⟨d, hd⟩ : ∃ d, d = decide (z = nm) := ⟨_, rfl⟩
  rw [← hd]
  go_wp2_with fail
  go_ret
  exact ⟨rb rfl, rfl⟩

set_option maxRecDepth 100000 in
set_option maxHeartbeats 4000000 in
theorem indexWord_any {a : Option Addr} {n cap pb : Nat} {na : Option Addr} {nn nc : Nat} {xs : List (List Int)} {nm : List Int} {w : World} {lo hi lo' hi' : Nat} (h : RSS lo hi w a n cap xs) (h' : Rd lo' hi' w na nn nc nm) (hp : w.cell? ⟨pb, 0, none⟩ = some (.slice na nn nc)) :
    Calls Try.prog 46 #[.slice a n cap, .func (.func 30) #[] #[.pointer (some ⟨pb, 0, none⟩)]] w fun e w' => ∃ i : Int, e = .returned (.int .i64 i) ∧ decide (0 ≤ i) = decide (nm ∈ xs) ∧ w' = w := by
  have HR : Hid (RSS lo hi w a n cap xs) := h
  have HL : Hid (xs.length = n) := h.len
  have HN : Hid (Rd lo' hi' w na nn nc nm) := h'
  have HP : Hid (w.cell? ⟨pb, 0, none⟩ = some (.slice na nn nc)) := hp
  have hf := h.fits
  clear h h' hp
  go_enter Try.func46, Try.ntmps46
  go_upto_region 2 with fail
  go_loopw [8] (fun i wr => ∃ k : Nat, k ≤ n ∧ i = .int .i64 k ∧ (∀ j, j < k → xs.getD j [] ≠ nm) ∧ wr = w) (fun i _ => n - (intOf i).toNat)
  case atStart => exact ⟨0, Nat.zero_le _, rfl, fun j hj => by omega, rfl⟩
  case round =>
    obtain ⟨k, hk, rfl, hall, rfl⟩ := hrel
    have HAll : Hid (∀ j, j < k → xs.getD j [] ≠ nm) := hall
    clear hall
    by_cases hlt : k < n
    · obtain ⟨b, off, rfl⟩ := HR.out.block (by omega)
      obtain ⟨za, zn, zc, c0, hr⟩ := HR.out.word hlt
      have HZ : Hid (Rd lo hi wr za zn zc (xs.getD k [])) := hr
      have hki : (k : Int) < (n : Int) := by omega
      clear hr
      go_wp2_with fail
      refine (wordIs_any HZ.out HN.out HP.out).mono ?_
      rintro e w5 ⟨rfl, hw5⟩
      rw [hw5]
      clear hw5
      by_cases hq : xs.getD k [] = nm
      · have hb : decide (xs.getD k [] = nm) = true := decide_eq_true hq
        have HE : Hid (decide (nm ∈ xs) = true) := decide_eq_true (by rw [← hq, getD_at (by rw [HL.out]; exact hlt)]; exact List.getElem_mem _)
        rw [hb]
        clear hq hb
        go_wp2_with fail
        go_ret
        exact ⟨k, rfl, by rw [HE.out]; simp, rfl⟩
      · have hb : decide (xs.getD k [] = nm) = false := decide_eq_false hq
        have HQ : Hid (xs.getD k [] ≠ nm) := hq
        rw [hb]
        clear hq hb
        go_wp2_with fail
        go_roundw
        case rel => exact ⟨k + 1, by omega, by go_num, fun j hj => by
          by_cases hjk : j < k
          · exact HAll.out j hjk
          · obtain rfl : j = k := by omega
            exact HQ.out, by first | rfl | trivial⟩
        case measure => simp [intOf]; omega
    · have HE : Hid (decide (nm ∈ xs) = false) := decide_eq_false (fun hm => by
        obtain ⟨i, hi, e⟩ := List.mem_iff_getElem.1 hm
        exact HAll.out i (by have := HL.out; omega) (by rw [getD_at hi]; exact e))
      have hge : decide ((k : Int) < (n : Int)) = false := by simp; omega
      go_wp2_with fail
      go_ret
      exact ⟨-1, rfl, by rw [HE.out]; simp, rfl⟩

set_option maxRecDepth 100000 in
theorem hasWord_any {a : Option Addr} {n cap pb : Nat} {na : Option Addr} {nn nc : Nat} {xs : List (List Int)} {nm : List Int} {w : World} {lo hi lo' hi' : Nat} (h : RSS lo hi w a n cap xs) (h' : Rd lo' hi' w na nn nc nm) (hp : w.cell? ⟨pb, 0, none⟩ = some (.slice na nn nc)) :
    Calls Try.prog 29 #[.slice a n cap, .func (.func 30) #[] #[.pointer (some ⟨pb, 0, none⟩)]] w fun e w' => e = .returned (.bool (decide (nm ∈ xs))) ∧ w' = w := by
  have HR : Hid (RSS lo hi w a n cap xs) := h
  have HN : Hid (Rd lo' hi' w na nn nc nm) := h'
  have HP : Hid (w.cell? ⟨pb, 0, none⟩ = some (.slice na nn nc)) := hp
  clear h h' hp
  go_enter Try.func29, Try.ntmps29
  go_wp2_with fail
  refine (indexWord_any HR.out HN.out HP.out).mono ?_
  rintro e w5 ⟨i, rfl, hi5, hw5⟩
  rw [hw5]
  have HI : Hid (decide (0 ≤ i) = decide (nm ∈ xs)) := hi5
  clear hi5 hw5
  by_cases hi0 : 0 ≤ i
  · go_wp2_with fail
    go_ret
    exact ⟨rb (by rw [← HI.out]; simp [hi0]), rfl⟩
  · go_wp2_with fail
    go_ret
    exact ⟨rb (by rw [← HI.out]), rfl⟩

set_option maxRecDepth 100000 in
theorem classHas_any {a : Option Addr} {n cap pb : Nat} {na : Option Addr} {nn nc : Nat} {xs : List (List Int)} {nm : List Int} {w : World} {lo hi lo' hi' : Nat} (h : RSS lo hi w a n cap xs) (h' : Rd lo' hi' w na nn nc nm) (hp : w.cell? ⟨pb, 0, none⟩ = some (.slice na nn nc)) :
    Calls Try.prog 28 #[.slice a n cap, .pointer (some ⟨pb, 0, none⟩)] w fun e w' => e = .returned (.bool (decide (nm ∈ xs))) ∧ w' = w := by
  have HR : Hid (RSS lo hi w a n cap xs) := h
  have HN : Hid (Rd lo' hi' w na nn nc nm) := h'
  have HP : Hid (w.cell? ⟨pb, 0, none⟩ = some (.slice na nn nc)) := hp
  clear h h' hp
  go_enter Try.func28, Try.ntmps28
  go_wp2_with fail
  refine (hasWord_any HR.out HN.out HP.out).mono ?_
  rintro e w5 ⟨rfl, hw5⟩
  rw [hw5]
  clear hw5
  obtain ⟨d, hd⟩ : ∃ d, d = decide (nm ∈ xs) := ⟨_, rfl⟩
  rw [← hd]
  go_wp2_with fail
  go_ret
  exact ⟨rb rfl, rfl⟩

set_option maxRecDepth 100000 in
set_option maxHeartbeats 4000000 in
theorem indexClass_any {a : Option Addr} {n cap pb : Nat} {na : Option Addr} {nn nc : Nat} {xs : List (List (List Int))} {nm : List Int} {w : World} {lo hi lo' hi' : Nat} (h : RSSS lo hi w a n cap xs) (h' : Rd lo' hi' w na nn nc nm) (hp : w.cell? ⟨pb, 0, none⟩ = some (.slice na nn nc)) :
    Calls Try.prog 27 #[.slice a n cap, .func (.func 28) #[] #[.pointer (some ⟨pb, 0, none⟩)]] w fun e w' => e = .returned (.int .i64 (clsZ xs nm)) ∧ w' = w := by
  have HR : Hid (RSSS lo hi w a n cap xs) := h
  have HL : Hid (xs.length = n) := h.len
  have HN : Hid (Rd lo' hi' w na nn nc nm) := h'
  have HP : Hid (w.cell? ⟨pb, 0, none⟩ = some (.slice na nn nc)) := hp
  have hf := h.fits
  clear h h' hp
  go_enter Try.func27, Try.ntmps27
  go_upto_region 2 with fail
  go_loopw [8] (fun i wr => ∃ k : Nat, k ≤ n ∧ i = .int .i64 k ∧ (∀ j, j < k → clsHit xs nm j = false) ∧ wr = w) (fun i _ => n - (intOf i).toNat)
  case atStart => exact ⟨0, Nat.zero_le _, rfl, fun j hj => by omega, rfl⟩
  case round =>
    obtain ⟨k, hk, rfl, hall, rfl⟩ := hrel
    have HAll : Hid (∀ j, j < k → clsHit xs nm j = false) := hall
    clear hall
    by_cases hlt : k < n
    · obtain ⟨b, off, rfl⟩ := HR.out.block (by omega)
      obtain ⟨za, zn, zc, c0, hr⟩ := HR.out.class hlt
      have HZ : Hid (RSS lo hi wr za zn zc (xs.getD k [])) := hr
      have hki : (k : Int) < (n : Int) := by omega
      clear hr
      go_wp2_with fail
      refine (classHas_any HZ.out HN.out HP.out).mono ?_
      rintro e w5 ⟨rfl, hw5⟩
      rw [hw5, show decide (nm ∈ xs.getD k []) = clsHit xs nm k from rfl]
      clear hw5
      cases hq : clsHit xs nm k
      · have HQ : Hid (clsHit xs nm k = false) := hq
        clear hq
        go_wp2_with fail
        go_roundw
        case rel => exact ⟨k + 1, by omega, by go_num, fun j hj => by
          by_cases hjk : j < k
          · exact HAll.out j hjk
          · obtain rfl : j = k := by omega
            exact HQ.out, by first | rfl | trivial⟩
        case measure => simp [intOf]; omega
      · have HE : Hid (clsZ xs nm = k) := clsZ_at (by rw [HL.out]; exact hlt) hq HAll.out
        clear hq
        go_wp2_with fail
        go_ret
        exact ⟨ri HE.out.symm, rfl⟩
    · have HE : Hid (clsZ xs nm = -1) := clsZ_none HL.out (fun j hj => HAll.out j (by omega))
      have hge : decide ((k : Int) < (n : Int)) = false := by simp; omega
      go_wp2_with fail
      go_ret
      exact ⟨ri HE.out.symm, rfl⟩

set_option maxRecDepth 100000 in
set_option maxHeartbeats 4000000 in
theorem implClassOf_any {ca : Option Addr} {cn cc : Nat} {ea : Option Addr} {en ec : Nat} {x : OD} {kx : Int} {na : Option Addr} {nn nc : Nat} {nm : List Int} {w : World} {lo hi lo' hi' : Nat} (h : RdO lo hi w ca cn cc ea en ec x) (hk : x.code = kx) (hhi : hi ≤ w.heap.size) (hbd : BdO x cn en) (h' : Rd lo' hi' w na nn nc nm) (hhi' : hi' ≤ w.heap.size) :
    Calls Try.prog 13 #[.agg #[.slice ca cn cc, .slice ea en ec, .int .i64 kx], .slice na nn nc] w fun e w' => e = .returned (.int .i64 (classZ x nm)) ∧ Below w.heap.size w w' := by
  obtain ⟨W0, hW0⟩ : ∃ W0, W0 = (w.alloc (.cells #[.slice ca cn cc, .slice ea en ec, .int .i64 kx] 30)).alloc (.cells #[.slice na nn nc] 34) := ⟨_, rfl⟩
  have HW0 : Hid (W0 = (w.alloc (.cells #[.slice ca cn cc, .slice ea en ec, .int .i64 kx] 30)).alloc (.cells #[.slice na nn nc] 34)) := hW0
  have hb0 : Below w.heap.size w W0 := by rw [hW0]; exact ((Below.refl _ _).alloc (Nat.le_refl _) _).alloc (by simp) _
  have HB0 : Hid (Below w.heap.size w W0) := hb0
  have hs0 : w.heap.size + 1 < W0.heap.size := by rw [hW0]; simp
  have hbx : BoxO 30 W0 w.heap.size (.slice ca cn cc) (.slice ea en ec) kx := by rw [hW0]; exact (BoxO.new _ w _ _ _).below ((Below.refl _ _).alloc (Nat.le_refl _) _) (by simp)
  have hby : Boxed W0 (w.heap.size + 1) 34 (.slice na nn nc) := by
    rw [hW0]
    have := Boxed.new (w.alloc (.cells #[.slice ca cn cc, .slice ea en ec, .int .i64 kx] 30)) 34 (.slice na nn nc)
    rwa [World.size_alloc] at this
  have HBx : Hid (∀ V, Below W0.heap.size W0 V → BoxO 30 V w.heap.size (.slice ca cn cc) (.slice ea en ec) kx) := fun V hV => hbx.below hV hbx.lt
  have HBy : Hid (∀ V, Below W0.heap.size W0 V → V.cell? ⟨w.heap.size + 1, 0, none⟩ = some (.slice na nn nc)) := fun V hV => (hV.cell (p := ⟨w.heap.size + 1, 0, none⟩) hs0).trans (Boxed.cell hby)
  have HR : Hid (∀ V, Below W0.heap.size W0 V → RdO lo hi V ca cn cc ea en ec x) := fun V hV => (h.below hb0 hhi).below hV (by omega)
  have HN : Hid (∀ V, Below W0.heap.size W0 V → Rd lo' hi' V na nn nc nm) := fun V hV => (h'.below hb0 hhi').below hV (by omega)
  have HRf : Hid (Below W0.heap.size W0 W0) := Below.refl _ _
  have HK : Hid (x.code = kx) := hk
  have HBd : Hid (BdO x cn en) := hbd
  obtain ⟨z0, z1, z2⟩ := hbx.cells
  clear h h' hb0 hW0 hbx hby hk hbd
  go_enter Try.func13, Try.ntmps13
  go_upto_region 1 with fail
  rw [← HW0.out]
  go_wp2_with fail
  refine (implOrderOk_any (HR.out _ HRf.out) HK.out (by omega) HBd.out).mono ?_
  rintro e w1 ⟨rfl, hb1⟩
  have HB1 : Hid (Below W0.heap.size W0 w1) := hb1
  have HF1 : Hid (Below w.heap.size w w1) := HB0.out.trans (hb1.mono HB0.out.size)
  have s1 := hb1.size
  clear z0 z1 z2 hb1
  cases hok : orderB x
  · have HE : Hid (classZ x nm = -1) := classZ_no hok
    go_wp2_with fail
    go_ret
    exact ⟨ri HE.out.symm, HF1.out⟩
  · have HE : Hid (classZ x nm = clsZ x.cls nm) := classZ_yes hok
    obtain ⟨z0, z1, z2⟩ := (HBx.out _ HB1.out).cells
    go_wp2_with fail
    refine (indexClass_any (HR.out _ HB1.out).cls (HN.out _ HB1.out) (HBy.out _ HB1.out)).mono ?_
    rintro e w2 ⟨rfl, hw2⟩
    rw [hw2, ← HE.out]
    clear hw2
    go_wp2_with fail
    go_ret
    exact ⟨ri rfl, HF1.out⟩

set_option maxRecDepth 100000 in
set_option maxHeartbeats 4000000 in
theorem specClassOf_any {ca : Option Addr} {cn cc : Nat} {ea : Option Addr} {en ec : Nat} {x : OD} {kx : Int} {na : Option Addr} {nn nc : Nat} {nm : List Int} {w : World} {lo hi lo' hi' : Nat} (h : RdO lo hi w ca cn cc ea en ec x) (hk : x.code = kx) (hhi : hi ≤ w.heap.size) (hlo : lo ≤ w.heap.size) (hbd : BdO x cn en) (h' : Rd lo' hi' w na nn nc nm) (hhi' : hi' ≤ w.heap.size) :
    Calls Try.prog 11 #[.agg #[.slice ca cn cc, .slice ea en ec, .int .i64 kx], .slice na nn nc] w fun e w' => e = .returned (.int .i64 (classZ x nm)) ∧ Below w.heap.size w w' := by
  obtain ⟨W0, hW0⟩ : ∃ W0, W0 = w.alloc (.cells #[.slice ca cn cc, .slice ea en ec, .int .i64 kx] 30) := ⟨_, rfl⟩
  have HW0 : Hid (W0 = w.alloc (.cells #[.slice ca cn cc, .slice ea en ec, .int .i64 kx] 30)) := hW0
  have hb0 : Below w.heap.size w W0 := by rw [hW0]; exact (Below.refl _ _).alloc (Nat.le_refl _) _
  have HB0 : Hid (Below w.heap.size w W0) := hb0
  have hs0 : w.heap.size < W0.heap.size := by rw [hW0]; simp
  have hbx : BoxO 30 W0 w.heap.size (.slice ca cn cc) (.slice ea en ec) kx := by rw [hW0]; exact BoxO.new _ w _ _ _
  have HBx : Hid (∀ V, Below W0.heap.size W0 V → BoxO 30 V w.heap.size (.slice ca cn cc) (.slice ea en ec) kx) := fun V hV => hbx.below hV hbx.lt
  have HR : Hid (∀ V, Below W0.heap.size W0 V → RdO lo hi V ca cn cc ea en ec x) := fun V hV => (h.below hb0 hhi).below hV (by omega)
  have HN : Hid (∀ V, Below W0.heap.size W0 V → Rd lo' hi' V na nn nc nm) := fun V hV => (h'.below hb0 hhi').below hV (by omega)
  have HRf : Hid (Below W0.heap.size W0 W0) := Below.refl _ _
  have HK : Hid (x.code = kx) := hk
  have HBd : Hid (BdO x cn en) := hbd
  have HL : Hid (x.cls.length = cn) := h.cls.len
  have HNb : Hid (Byt nm) := h'.byte
  have hfc := h.cls.fits
  obtain ⟨z0, z1, z2⟩ := hbx.cells
  clear h h' hb0 hW0 hbx hk hbd
  go_enter Try.func11, Try.ntmps11
  go_upto_region 1 with fail
  rw [← HW0.out]
  go_wp2_with fail
  refine (specOrderOk_any (HR.out _ HRf.out) HK.out (by omega) (by omega) HBd.out).mono ?_
  rintro e w1 ⟨rfl, hb1⟩
  have HB1 : Hid (Below W0.heap.size W0 w1) := hb1
  have HF1 : Hid (Below w.heap.size w w1) := HB0.out.trans (hb1.mono HB0.out.size)
  have s1 := hb1.size
  clear z0 z1 z2 hb1
  cases hok : orderB x
  · have HE : Hid (classZ x nm = -1) := classZ_no hok
    go_wp2_with fail
    go_ret
    exact ⟨ri HE.out.symm, HF1.out⟩
  · have HE : Hid (classZ x nm = clsZ x.cls nm) := classZ_yes hok
    clear hok
    go_wp2_with fail
    go_loopw [5] (fun i wr => ∃ k : Nat, k ≤ cn ∧ i = .int .i64 k ∧ (∀ j, j < k → clsHit x.cls nm j = false) ∧ Below W0.heap.size W0 wr) (fun i _ => cn - (intOf i).toNat)
    case atStart => exact ⟨0, Nat.zero_le _, rfl, fun j hj => by omega, HB1.out⟩
    case round =>
      obtain ⟨k, hk, rfl, hall, hbel⟩ := hrel
      have HAll : Hid (∀ j, j < k → clsHit x.cls nm j = false) := hall
      have HB : Hid (Below W0.heap.size W0 wr) := hbel
      obtain ⟨z0, z1, z2⟩ := (HBx.out _ hbel).cells
      clear hall
      by_cases hlt : k < cn
      · have hR := (HR.out _ hbel).cls
        obtain ⟨b, off, rfl⟩ := hR.block (by omega)
        obtain ⟨za, zn, zc, c0, hr⟩ := hR.class hlt
        have HZ : Hid (RSS lo hi wr za zn zc (x.cls.getD k [])) := hr
        have hki : (k : Int) < (cn : Int) := by omega
        obtain ⟨ix, hix⟩ : ∃ ix, ix = idxZ (x.cls.getD k []) nm := ⟨_, rfl⟩
        have HIx : Hid (ix = idxZ (x.cls.getD k []) nm) := hix
        have HMem : Hid (decide (0 ≤ ix) = clsHit x.cls nm k) := by rw [Hid, hix]; exact idx_mem (fun i hi => hr.byts (by rw [← hr.len]; exact hi)) HNb.out
        clear hR hr hbel hix
        go_wp2_with fail
        refine (l4find_any za zn zc (x.cls.getD k []) na nn nc nm wr HZ.out (HN.out _ HB.out)).mono ?_
        rintro e w6 ⟨rfl, nd, hw6⟩
        rw [← HIx.out]
        have HB6 : Hid (Below W0.heap.size W0 w6) := by unfold Hid; rw [hw6]; exact below_drewN HB.out nd
        clear hw6
        cases hq : clsHit x.cls nm k
        · have hd0 : decide (0 ≤ ix) = false := by rw [HMem.out]; exact hq
          have hd1 : ¬ 0 ≤ ix := of_decide_eq_false hd0
          have HQ : Hid (clsHit x.cls nm k = false) := hq
          clear hq
          go_wp2_with fail
          go_roundw
          case rel => exact ⟨k + 1, by omega, by go_num, fun j hj => by
            by_cases hjk : j < k
            · exact HAll.out j hjk
            · obtain rfl : j = k := by omega
              exact HQ.out, HB6.out⟩
          case measure => simp [intOf]; omega
        · have hd0 : decide (0 ≤ ix) = true := by rw [HMem.out]; exact hq
          have hd1 : 0 ≤ ix := of_decide_eq_true hd0
          have HF : Hid (clsZ x.cls nm = k) := clsZ_at (by rw [HL.out]; exact hlt) hq HAll.out
          clear hq
          go_wp2_with fail
          go_ret
          exact ⟨ri (by rw [HE.out, HF.out]), HB0.out.trans (HB6.out.mono (by omega))⟩
      · have HF : Hid (clsZ x.cls nm = -1) := clsZ_none HL.out (fun j hj => HAll.out j (by omega))
        clear hbel
        go_wp2_with fail
        go_ret
        exact ⟨ri (by rw [HE.out, HF.out]), HB0.out.trans (HB.out.mono (by omega))⟩

end Go.Proofs.Ytpedjcabapldgaa
