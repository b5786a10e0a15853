/- A map that counts, and what a look-up, an entry and a store of one key do with it; for whatever program. -/
import Derived.WideKeyEntry
import Derived.DeepKeys4
import Derived.WalkKit
import Derived.Below
import Derived.RangeFuncBox
namespace Go.Proofs.YtcaljggnihinaaaDoor
open Go.RowKit Go.MapKept Go.ChangeMaps Go.WideElems
open Go.WideMaps (KeyLaw)

/-- Each key's number; nothing for one that is not there. -/
def MapT (P : Program) (k : TypeId) (w : World) (b : Nat) (cnt : Value → Int) : Prop :=
  ∃ es clock, w.heap[b]? = some (.map es clock) ∧ Stamped es clock ∧ (∀ x ∈ es.toList, (∃ l, keyOf P k x.key = some l) ∧ x.val = .int .i64 (cnt x.key)) ∧ ∀ key, (∀ x ∈ es.toList, x.key ≠ key) → cnt key = 0

theorem MapT.made (w : World) (P : Program) (k : TypeId) : MapT P k (w.alloc (.map #[] 0)) w.heap.size (fun _ => 0) :=
  ⟨#[], 0, World.alloc_heap_new w _, stamped_empty 0, by simp, fun _ _ => rfl⟩

theorem MapT.block {P : Program} {k : TypeId} {w w' : World} {b : Nat} {cnt : Value → Int} (h : MapT P k w b cnt) (e : w'.heap[b]? = w.heap[b]?) : MapT P k w' b cnt := by
  obtain ⟨es, clock, h1, h2⟩ := h
  exact ⟨es, clock, e.trans h1, h2⟩

theorem MapT.lt {P : Program} {k : TypeId} {w : World} {b : Nat} {cnt : Value → Int} (h : MapT P k w b cnt) : b < w.heap.size := by
  obtain ⟨es, clock, h1, _⟩ := h
  exact (Array.getElem?_eq_some_iff.1 h1).1

/-- Only this block has turned. -/
structure Turn (b : Nat) (w w' : World) : Prop where
  os : w'.os = w.os
  tape : w'.tape = w.tape
  output : w'.output = w.output
  size : w'.heap.size = w.heap.size
  block : ∀ i, i ≠ b → w'.heap[i]? = w.heap[i]?

theorem turn_setBlock (w : World) (b : Nat) (o : Obj) : Turn b w (setBlock w b o) :=
  ⟨rfl, rfl, rfl, by simp [setBlock], fun i hi => by simp only [setBlock]; rw [Array.getElem?_setIfInBounds_ne (Ne.symm hi)]⟩

theorem Turn.below {B b : Nat} {w w' : World} (h : Turn b w w') (hB : B ≤ b) : Below B w w' :=
  ⟨h.os, h.tape, h.output, by rw [h.size]; exact Nat.le_refl _, fun i hi => h.block i (by omega)⟩

theorem same_setBlock {w : World} {b : Nat} {o o' : Obj} (hb : w.heap[b]? = some o) : (setBlock w b o').heap[b]? = some o' := by
  have hlt := (Array.getElem?_eq_some_iff.1 hb).1
  simp only [setBlock]
  rw [Array.getElem?_setIfInBounds_self_of_lt hlt]

theorem set_twice (w : World) (b : Nat) (o o' : Obj) : setBlock (setBlock w b o) b o' = setBlock w b o' := by simp [setBlock]

theorem MapT.step {P : Program} {k t e : TypeId} {w : World} {b : Nat} {cnt cnt' : Value → Int} (h : MapT P k w b cnt) (K : KeyLaw P k) (ht : P.underlying t = some (.map k e)) (hz : ∀ u : World, (zeroValue e).run P u = .ok (.int .i64 0) u)
    {key : Value} {kl : Lit} (hkey : keyOf P k key = some kl) (hc : ∀ v, v ≠ key → cnt' v = cnt v) :
    ∃ (st : Nat) (W2 W3 : World), (Instr.lookup t (.map (some b)) key false).run P w = .ok (.int .i64 (cnt key)) w ∧ (Instr.mapEntry t (.map (some b)) key).run P w = .ok (.tuple #[.int .i64 (cnt key), .int .i64 (st : Nat)]) W2 ∧
      (Instr.lookup t (.map (some b)) key false).run P W2 = .ok (.int .i64 (cnt key)) W2 ∧ (Instr.entryStore t (.map (some b)) (.int .i64 (st : Nat)) (.int .i64 (cnt' key))).run P W2 = .ok () W3 ∧ MapT P k W3 b cnt' ∧ Turn b w W2 ∧ Turn b w W3 := by
  obtain ⟨es, clock, hb, hs, hv, h0⟩ := h
  have hs' := hs
  obtain ⟨s1, s2, s3⟩ := (stamped_iff es clock).1 hs
  have hks : ∀ x ∈ es.toList, ∃ l, keyOf P k x.key = some l := fun x hx => (hv x hx).1
  rcases K.find w hkey es.toList hks with ⟨h1, h2⟩ | ⟨j, e0, h1, h2, h3⟩
  · have hcz : cnt key = 0 := h0 key h2
    rw [hcz]
    have hb2 : (setBlock w b (.map (es.push ⟨key, .int .i64 0, clock⟩) (clock + 1))).heap[b]? = some (.map (es.push ⟨key, .int .i64 0, clock⟩) (clock + 1)) := same_setBlock hb
    refine ⟨clock, setBlock w b (.map (es.push ⟨key, .int .i64 0, clock⟩) (clock + 1)), setBlock w b (.map (es.push ⟨key, .int .i64 (cnt' key), clock⟩) (clock + 1)), ?_, ?_, ?_, ?_, ?_, turn_setBlock _ _ _, turn_setBlock _ _ _⟩
    · simp [Instr.lookup, run_underlying ht, MapKept.run_getObj_map hb, K.check w _ hkey, h1, hz, Result.andThen]
    · simp [Instr.mapEntry, run_underlying ht, MapKept.run_getObj_map hb, K.check w false hkey, h1, hz, MapKept.run_setObj_map _ hb, Result.andThen, setBlock, goInt]
    · have hk2 : ∀ x ∈ (es.push ⟨key, .int .i64 0, clock⟩).toList, ∃ l, keyOf P k x.key = some l := fun x hx => by
        rw [Array.toList_push, List.mem_append, List.mem_singleton] at hx
        rcases hx with hx | rfl
        · exact hks x hx
        · exact ⟨kl, hkey⟩
      rcases K.find (setBlock w b (.map (es.push ⟨key, .int .i64 0, clock⟩) (clock + 1))) hkey (es.push ⟨key, .int .i64 0, clock⟩).toList hk2 with ⟨q1, q2⟩ | ⟨j, e1, q1, q2, q3⟩
      · exact absurd rfl (q2 ⟨key, .int .i64 0, clock⟩ (by simp))
      · have hm : e1 ∈ (es.push ⟨key, .int .i64 0, clock⟩).toList := List.mem_of_getElem? q2
        rw [Array.toList_push, List.mem_append, List.mem_singleton] at hm
        have hval : e1.val = .int .i64 0 := by
          rcases hm with hm | rfl
          · exact absurd q3 (h2 e1 hm)
          · rfl
        rw [hval] at q1
        simp only [Array.toList_push] at q1
        simp [Instr.lookup, run_underlying ht, MapKept.run_getObj_map hb2, K.check _ _ hkey, q1, Result.andThen]
    · have hidx : (es.push ⟨key, .int .i64 0, clock⟩).findIdx? (fun e => ((e.born : Nat) : Int) == ((clock : Nat) : Int)) = some es.size := by
        rw [findIdx_arr]
        have := findIdx_born (l := (es.push ⟨key, .int .i64 0, clock⟩).toList) (j := es.size) (e0 := ⟨key, .int .i64 0, clock⟩) (by
          simp only [Array.toList_push, List.map_append, List.map_cons, List.map_nil]
          refine List.nodup_append.2 ⟨s2, by simp, fun a ha c hc e1 => ?_⟩
          simp only [List.mem_singleton] at hc
          obtain ⟨x, hx, rfl⟩ := List.mem_map.1 ha
          have := s1 x hx
          omega) (by simp)
        exact this
      have hmod : (es.push ⟨key, .int .i64 0, clock⟩).modify es.size (fun e => { e with val := .int .i64 (cnt' key) }) = es.push ⟨key, .int .i64 (cnt' key), clock⟩ := by
        apply Array.ext'
        rw [Array.toList_modify, Array.toList_push, Array.toList_push, ← Array.length_toList, modify_last]
      have hrun : (Instr.entryStore t (.map (some b)) (.int .i64 (clock : Nat)) (.int .i64 (cnt' key))).run P (setBlock w b (.map (es.push ⟨key, .int .i64 0, clock⟩) (clock + 1))) = .ok () (setBlock (setBlock w b (.map (es.push ⟨key, .int .i64 0, clock⟩) (clock + 1))) b (.map (es.push ⟨key, .int .i64 (cnt' key), clock⟩) (clock + 1))) := by
        simp [Instr.entryStore, MapKept.run_getObj_map hb2, asInt, asIntOf, hidx, hmod, MapKept.run_setObj_map _ hb2, Result.andThen]
        try rfl
      rw [set_twice] at hrun
      exact hrun
    · refine ⟨_, _, same_setBlock hb, stamped_push hs h2, ?_, ?_⟩
      · intro x hx
        rw [Array.toList_push, List.mem_append, List.mem_singleton] at hx
        rcases hx with hx | rfl
        · exact ⟨hks x hx, by rw [hc _ (h2 x hx)]; exact (hv x hx).2⟩
        · exact ⟨⟨kl, hkey⟩, rfl⟩
      · intro v hv'
        have hne : v ≠ key := fun e => hv' ⟨key, .int .i64 (cnt' key), clock⟩ (by simp) e.symm
        rw [hc v hne]
        exact h0 v (fun x hx => hv' x (by simp [hx]))
  · have hj : es[j]? = some e0 := by simpa using h2
    have hm0 : e0 ∈ es.toList := List.mem_of_getElem? h2
    have hval : e0.val = .int .i64 (cnt key) := by rw [← h3]; exact (hv e0 hm0).2
    have hsame : es.modify j (fun e => { e with key := key }) = es := by
      apply Array.ext'
      rw [Array.toList_modify, modify_eq_set _ _ _ _ h2]
      have : ({ e0 with key := key } : MapEntry) = e0 := by rw [← h3]
      rw [this]
      exact set_self _ _ _ h2
    have hb2 : (setBlock w b (.map es clock)).heap[b]? = some (.map es clock) := same_setBlock hb
    have h1' := h1
    rw [hval] at h1
    have hn1 : ∀ u : World, u.heap[b]? = some (.map es clock) → (Instr.lookup t (.map (some b)) key false).run P u = .ok (.int .i64 (cnt key)) u := fun u hu => by
      rcases K.find u hkey es.toList hks with ⟨q1, q2⟩ | ⟨j', e1, q1, q2, q3⟩
      · exact absurd h3 (q2 e0 hm0)
      · have hv1 : e1.val = .int .i64 (cnt key) := by rw [← q3]; exact (hv e1 (List.mem_of_getElem? q2)).2
        rw [hv1] at q1
        simp [Instr.lookup, run_underlying ht, MapKept.run_getObj_map hu, K.check u _ hkey, q1, Result.andThen]
    refine ⟨e0.born, setBlock w b (.map es clock), setBlock w b (.map (es.modify j (fun e' => { e' with val := .int .i64 (cnt' key) })) clock), hn1 w hb, ?_, hn1 _ hb2, ?_, ?_, turn_setBlock _ _ _, turn_setBlock _ _ _⟩
    · simp [Instr.mapEntry, run_underlying ht, MapKept.run_getObj_map hb, K.check w false hkey, h1, hj, h3, K.stays w hkey, hsame, MapKept.run_setObj_map _ hb, Result.andThen, setBlock, goInt]
    · have hidx : es.findIdx? (fun e => ((e.born : Nat) : Int) == ((e0.born : Nat) : Int)) = some j := by
        rw [findIdx_arr]
        exact findIdx_born s2 h2
      have hrun : (Instr.entryStore t (.map (some b)) (.int .i64 (e0.born : Nat)) (.int .i64 (cnt' key))).run P (setBlock w b (.map es clock)) = .ok () (setBlock (setBlock w b (.map es clock)) b (.map (es.modify j (fun e' => { e' with val := .int .i64 (cnt' key) })) clock)) := by
        simp [Instr.entryStore, MapKept.run_getObj_map hb2, asInt, asIntOf, hidx, MapKept.run_setObj_map _ hb2, Result.andThen]
        try rfl
      rw [set_twice] at hrun
      exact hrun
    · refine ⟨_, _, same_setBlock hb, stamped_modify hs' j _ (fun e _ => rfl) (fun e _ _ => rfl), ?_, ?_⟩
      · intro x hx
        rw [Array.toList_modify, modify_eq_set _ _ _ _ h2] at hx
        rw [List.mem_iff_getElem] at hx
        obtain ⟨i, hi, hxe⟩ := hx
        rw [List.length_set] at hi
        by_cases e : i = j
        · subst e
          rw [List.getElem_set_self] at hxe
          subst hxe
          exact ⟨⟨kl, by dsimp only; rw [h3]; exact hkey⟩, by dsimp only; rw [h3]⟩
        · rw [List.getElem_set_ne (Ne.symm e)] at hxe
          have hxm : x ∈ es.toList := by rw [← hxe]; exact List.getElem_mem _
          have hne : x.key ≠ key := by
            intro hk
            rw [List.pairwise_iff_getElem] at s3
            have hjl : j < es.toList.length := (List.getElem?_eq_some_iff.1 h2).1
            have hje : es.toList[j] = e0 := (List.getElem?_eq_some_iff.1 h2).2
            rcases Nat.lt_or_gt_of_ne e with hl | hl
            · have := s3 i j hi hjl hl
              rw [hxe, hje, h3] at this
              exact this hk
            · have := s3 j i hjl hi hl
              rw [hxe, hje, h3] at this
              exact this hk.symm
          exact ⟨hks x hxm, by rw [hc _ hne]; exact (hv x hxm).2⟩
      · intro v hv'
        have hne : v ≠ key := by
          intro e
          refine hv' { e0 with val := .int .i64 (cnt' key) } ?_ (by dsimp only; rw [h3, e])
          rw [Array.toList_modify, modify_eq_set _ _ _ _ h2]
          exact List.mem_iff_getElem.2 ⟨j, by rw [List.length_set]; exact (List.getElem?_eq_some_iff.1 h2).1, by rw [List.getElem_set_self]⟩
        rw [hc v hne]
        refine h0 v (fun x hx hk => ?_)
        obtain ⟨i, hi, hxe⟩ := List.mem_iff_getElem.1 hx
        by_cases e : i = j
        · subst e
          have hje : es.toList[i] = e0 := (List.getElem?_eq_some_iff.1 h2).2
          rw [hje] at hxe
          subst hxe
          exact hne (by rw [← hk, h3])
        · refine hv' x ?_ hk
          rw [Array.toList_modify, modify_eq_set _ _ _ _ h2]
          exact List.mem_iff_getElem.2 ⟨i, by rw [List.length_set]; exact hi, by rw [List.getElem_set_ne (Ne.symm e)]; exact hxe⟩

end Go.Proofs.YtcaljggnihinaaaDoor
