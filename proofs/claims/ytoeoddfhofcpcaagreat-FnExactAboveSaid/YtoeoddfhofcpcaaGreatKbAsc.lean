/- The words of a set in order: the program's lists of texts. -/
import Derived.Test.YtoeoddfhofcpcaaGreatKbAddM
import Derived.Test.YtoeoddfhofcpcaaGreatWFin
import Derived.Test.YtoeoddfhofcpcaaGreatIter
import Derived.Lib.ConvBytes
import Derived.Sort.KeysCollected
import Derived.Sort.Walk0
namespace Go.Proofs.YtoeoddfhofcpcaaGreat
open Go.RowKit Go.Maps Go.Sort Go.Shelf

/-- A word's bytes. -/
def bz (zs : List Int) : List UInt8 := zs.map fun n => UInt8.ofNat n.toNat

theorem bz_inj {xs ys : List Int} (hx : Byt xs) (hy : Byt ys) (h : bz xs = bz ys) : xs = ys := by
  refine litW_inj hx hy ?_
  unfold litW
  rw [strOfNums_data, strOfNums_data]
  exact congrArg Lit.string h

theorem ltW_bz (xs ys : List Int) : ltW xs ys = decide (bz xs < bz ys) := by
  unfold ltW
  rw [bytesLess_eq, ByteArray.toList_eq, ByteArray.toList_eq]
  rfl

theorem wset_sorted {w : World} {b : Nat} {L : List (List Int)} {D : DataW Unit} {n : Nat} (hown : w.ownsMap Tryz.prog 9 unitElem b n D) (hhas : ∀ kl, has D kl = true ↔ ∃ z ∈ L, kl = litW z) (hg : Good L) {ss : List (List UInt8)} (hp : ss.Perm (strKeys D)) :
    ss.mergeSort (fun x y => decide (x ≤ y)) = L.map bz ∧ ss.length = L.length := by
  have hT := hown.tidy lawStr
  obtain ⟨es, hD, hk⟩ := hown.keysOf
  obtain ⟨es', hD', hpw⟩ := hT
  rw [hD] at hD'
  cases hD'
  have hnd : (L.map bz).Nodup := by
    refine List.pairwise_map.2 (hg.srt.imp_of_mem fun {x y} hx hy hlt e => ?_)
    have := bz_inj (hg.byt x hx) (hg.byt y hy) e
    subst this
    rw [ltW_self] at hlt
    cases hlt
  have hmem : ∀ x, x ∈ L.map bz ↔ has (.map es) (.string x) = true := by
    intro x
    rw [← hD, hhas, List.mem_map]
    constructor
    · rintro ⟨z, hz, rfl⟩; exact ⟨z, hz, rfl⟩
    · rintro ⟨z, hz, e⟩; exact ⟨z, hz, (Lit.string.inj e).symm⟩
  have hkk : ∀ p ∈ es, ∃ x, p.1 = .string x := by
    intro p hp
    have h1 := (hhas p.1).1 (by rw [hD]; show es.any (fun q => q.1.sameKey p.1) = true; rw [List.any_eq_true]; refine ⟨p, hp, ?_⟩; obtain ⟨v, hv⟩ := hk p hp; obtain ⟨x, _, hx, _⟩ := Maps.keyOf_str Tryz.undStr hv; rw [hx]; simp [Lit.sameKey])
    obtain ⟨z, _, e⟩ := h1
    exact ⟨_, e⟩
  have hperm := perm_strKeys hpw hkk hnd hmem
  rw [hD] at hp
  have hp2 := hp.trans hperm.symm
  refine ⟨?_, by rw [hp2.length_eq, List.length_map]⟩
  have e := mergeSort_of_perm hp2
  rw [show ss.mergeSort (fun x y => decide (x ≤ y)) = ss.mergeSort leB from rfl, e]
  refine List.mergeSort_of_pairwise (List.pairwise_map.2 (hg.srt.imp fun {x y} hlt => ?_))
  rw [ltW_bz] at hlt
  simp only [leB, decide_eq_true_eq] at *
  exact List.le_of_lt hlt

set_option maxRecDepth 100000 in
set_option maxHeartbeats 1000000 in
theorem ascending_any {b : Nat} {L : List (List Int)} {w : World} (h : WSet w b L) (hl : L.length ≤ 1048576) :
    Calls Tryz.prog 71 #[.map (some b)] w fun e w' => ∃ v, e = .returned v ∧ w'.ownsRow w.heap.size 9 1 v L.length (L.map fun z => .string (strOfNums z)) ∧ Below w.heap.size w w' := by
  obtain ⟨D, hown, hhas, hsz, hgood⟩ := h
  have HS : Hid (∀ ss : List (List UInt8), ss.Perm (strKeys D) → ss.mergeSort (fun x y => decide (x ≤ y)) = L.map bz ∧ ss.length = L.length) := fun ss hp => wset_sorted hown hhas hgood hp
  have hmax : Maps.size D ≤ maxLen := by rw [hsz]; unfold maxLen; omega
  have hbytes : Maps.size D * 16 ≤ 140737488355328 := by rw [hsz]; omega
  refine (callsIn_wide (n := 6)).1 ?_
  have hfK : Fence.wide.fn 111 := trivial
  have hfS : Fence.wide.fn 110 := trivial
  refine callsIn_of_wp Tryz.func71 rfl trivial ?_ rfl
  simp only [Tryz.ntmps71, List.size_toArray, List.length_cons, List.length_nil, Nat.reduceAdd, Nat.reduceSub, Array.replicate_succ, Array.replicate_zero, List.push_toArray, List.append_toArray, List.nil_append, List.cons_append]
  gi_wp2_with (first
    | (gi_at_call 111; refine (setKeys_in _ _).mono ?_; rintro e w' ⟨rfl, rfl⟩)
    | (gi_at_call 110; refine (setSorted_in b L.length D unitElem w hown hmax hbytes).mono ?_; rintro e w' ⟨v, ss, rfl, hS, hrow, hnil, hb⟩))
  go_ret
  obtain ⟨e1, e2⟩ := HS.out ss hS
  rw [e1, e2, List.map_map] at hrow
  refine ⟨v, rfl, ownsRow_base_a hrow (by simp), ((Below.refl _ w).alloc (Nat.le_refl _) _).trans (hb.mono (by simp))⟩

end Go.Proofs.YtoeoddfhofcpcaaGreat
