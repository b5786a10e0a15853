/- Several texts in one: LitTz, LitTell, TautM, TautS, CmpNum1, CmpNum2, CmpKey1, CmpKey2, TautK, TautI1A, TautI1B, TautI1C, TautMap, TautKey, TautI2. -/
import Derived.Test.YtlhfecfpkelkdaaDoorNCl
import Derived.Test.YtlhfecfpkelkdaaDoorRows
import Derived.Test.YtlhfecfpkelkdaaDoorNBase
import Derived.Test.YtlhfecfpkelkdaaDoorNPar
import Derived.RangeFuncNested
import Derived.RangeFuncBound
import Derived.RangeFuncCalls
import Derived.RangeFuncLeaves
import Derived.RangeFuncBox
import Derived.Shelf.Abstract
import Derived.Shelf.RegionOpen
import Derived.OwnWalkIn
import Derived.TacticsInMore
import Derived.LoopNIn
import Derived.LoopIn
import Derived.Laws.EntriesVeiled
import Derived.Sort.CutIn
import Derived.Test.YtlhfecfpkelkdaaDoorNGr
import Derived.Test.YtlhfecfpkelkdaaDoorClSpec
import Derived.Deep.RegionLaw
import Derived.Deep.AppendLies
import Derived.Deep.RegionHeld3
import Derived.Deep.RegionWith
import Derived.Deep.WholeRow
import Derived.Deep.DeepCutAuto
import Derived.WideKeyEntry
import Derived.DeepKeys4
import Derived.WalkKit
import Derived.Below
import Derived.WideKeyArr
import Derived.Test.YtlhfecfpkelkdaaDoorClImpl3
namespace Go.Proofs.YtlhfecfpkelkdaaDoor

section
open Go.RowKit

/-- The library's table lies as it was laid. -/
def TabD (w : World) : Prop := ∀ j, j < 64 → w.cell? ⟨1, j, none⟩ = some (.int .u8 (Lib.deBruijn64tab.getD j 0 : Nat))

theorem TabD.below {B : Nat} {w w' : World} (h : TabD w) (hb : Below B w w') (hB : 1 < B) : TabD w' := fun j hj => (hb.cell (p := ⟨1, j, none⟩) hB).trans (h j hj)

theorem bits_and_u64 (a b : Nat) (ha : a < 18446744073709551616) (hb : b < 18446744073709551616) : bits .and .u64 (a : Int) (b : Int) = ((a &&& b : Nat) : Int) := by
  have h1 : a &&& b ≤ a := Nat.and_le_left
  have e : ((BitVec.ofInt 64 (a : Int)) &&& (BitVec.ofInt 64 (b : Int))).toNat = a &&& b := by
    rw [BitVec.toNat_and, BitVec.ofInt_natCast, BitVec.ofInt_natCast, BitVec.toNat_ofNat, BitVec.toNat_ofNat, Nat.mod_eq_of_lt (by omega), Nat.mod_eq_of_lt (by omega)]
  show IntKind.u64.wrap (((BitVec.ofInt 64 (a : Int)) &&& (BitVec.ofInt 64 (b : Int))).toNat : Int) = _
  rw [e]
  simp [IntKind.wrap, IntKind.bits, IntKind.signed]
  omega

theorem wrap_u64' (n : Int) : IntKind.u64.wrap n = n % 18446744073709551616 := by simp [IntKind.wrap, IntKind.signed, IntKind.bits]

theorem tz_key (x a : Nat) (hx : x < 18446744073709551616) (hx0 : x ≠ 0) (hlow : x &&& (18446744073709551616 - x) = a) :
    IntKind.u64.wrap (bits BinOp.and IntKind.u64 (x : Int) (IntKind.u64.wrap (-(x : Int))) * 285870213051353865) / 288230376151711744 = ((a * 285870213051353865 % 18446744073709551616 / 288230376151711744 : Nat) : Int) := by
  have e1 : IntKind.u64.wrap (-(x : Int)) = ((18446744073709551616 - x : Nat) : Int) := by rw [wrap_u64']; omega
  rw [e1, bits_and_u64 x _ hx (by omega), hlow, wrap_u64']
  omega

set_option maxRecDepth 100000 in
set_option maxHeartbeats 1000000 in
theorem tz64_core (x k idx : Nat) (w : World) (hx0 : ((x : Int) == 0) = false)
    (key : IntKind.u64.wrap (bits BinOp.and IntKind.u64 (x : Int) (IntKind.u64.wrap (-(x : Int))) * 285870213051353865) / 288230376151711744 = (idx : Int))
    (hi : idx < 64) (hk : k < 64) (hcell : w.cell? ⟨1, idx, none⟩ = some (.int .u8 (k : Nat))) :
    Calls Tryd.prog 49 #[.int .u64 x] w fun e w' => e = .returned (.int .i64 (k : Nat)) ∧ w' = w := by
  go_enter Tryd.func49, Tryd.ntmps49
  go_wp2_with (simp only [key])
  go_ret
  exact ⟨rfl, rfl⟩

theorem tz64_any (x : Nat) (w : World) (hx : x < 16777216) (h0 : x ≠ 0) (hT : TabD w) :
    Calls Tryd.prog 49 #[.int .u64 x] w fun e w' => e = .returned (.int .i64 (Lib.ctz 64 x : Nat)) ∧ w' = w := by
  obtain ⟨hlow, hk⟩ := Lib.lowest_bit 64 x h0 (by omega)
  obtain ⟨hi, htab⟩ := Lib.deBruijn64_at _ hk
  have hcell := hT _ hi
  rw [htab] at hcell
  exact tz64_core x _ _ w (by simp; omega) (tz_key x _ (by omega) h0 hlow) hi hk hcell

theorem tz_any (x : Nat) (w : World) (hx : x < 16777216) (h0 : x ≠ 0) (hT : TabD w) :
    Calls Tryd.prog 39 #[.int .u64 x] w fun e w' => e = .returned (.int .i64 (Lib.ctz 64 x : Nat)) ∧ w' = w := by
  go_enter Tryd.func39, Tryd.ntmps39
  go_wp2_with (go_at_call 49; refine (tz64_any x _ hx h0 hT).mono ?_; rintro e w' ⟨rfl, rfl⟩)
  go_ret
  exact ⟨rfl, rfl⟩
end

section
open Go.RowKit Go.Shelf

attribute [local go_sem] Oper.semAt_some

theorem about_wide {o : Oper} {P : Program} {w : World} {ev : Operand → Value} : (∀ f, o.about P w ev = some f → Fence.wide.fn f) ↔ True := by simp [Fence.wide]
attribute [local go_sem ↓] about_wide

theorem yieldAt_wide {m : Nat} (m' : Nat) {P : Program} {l : Nat} {args : Array Value} {W : World} {R : Ending → World → Prop} (h : YieldAt Fence.wide m P l args W R) : YieldAt Fence.wide m' P l args W R := by
  obtain ⟨fn, tmps, assign, body, hy, hR⟩ := h
  exact ⟨fn, tmps, assign, body, hy, ⟨hR.1, fun c cs _ => hR.2 c cs (fun d h => by cases h)⟩⟩

/-- What a round keeps: all that lay below B; and the cells that lie from n1 on. -/
def KpC (B n1 : Nat) (W W' : World) : Prop := Below B W W' ∧ ∀ (b : Nat) (o : Obj), n1 ≤ b → W.heap[b]? = some o → o.isCells = true → W'.heap[b]? = some o
theorem KpC.refl (B n1 : Nat) (W : World) : KpC B n1 W W := ⟨Below.refl _ _, fun _ _ _ h _ => h⟩
theorem KpC.trans {B n1 : Nat} {A C D : World} (h : KpC B n1 A C) (k : KpC B n1 C D) : KpC B n1 A D := ⟨h.1.trans k.1, fun b o h1 h2 h3 => k.2 b o h1 (h.2 b o h1 h2 h3) h3⟩
theorem KpC.of_below {B n1 : Nat} {W W' : World} (h : Below W.heap.size W W') (hB : B ≤ W.heap.size) : KpC B n1 W W' := ⟨h.mono hB, fun b _ _ h2 _ => (h.block b (Array.getElem?_eq_some_iff.1 h2).1).trans h2⟩
theorem KpC.putObj {B n1 : Nat} (W : World) (l : Nat) (o o' : Obj) (hB : B ≤ l) (hl : W.heap[l]? = some o) (ho : o.isCells = false) : KpC B n1 W (W.putObj l o') :=
  ⟨(Below.refl B W).grown (grownBy_putObj' W l o') (by have := (Array.getElem?_eq_some_iff.1 hl).1; omega) (fun k e => by cases e; exact hB), fun b o2 _ hb hc => (World.putObj_heap_other (fun e => by subst e; rw [hl] at hb; cases hb; rw [ho] at hc; cases hc)).trans hb⟩

theorem abides_below {β : Type} {B : Nat} {J : β → World → Prop} (hJ : AbidesFrom B J) {s : β} {W W' : World} (h : J s W) (hb : Below W.heap.size W W') : J s W' :=
  hJ s W W' none h ⟨hb.os, hb.tape, hb.output, hb.size, fun k hk _ => hb.block k hk⟩ (fun r e => by cases e)

theorem BoxP.kept {t B n1 : Nat} {W W' : World} {b : Nat} {p n : Int} (h : BoxP t W b p n) (hk : KpC B n1 W W') (hb : n1 ≤ b) : BoxP t W' b p n := hk.2 b _ hb h rfl

/-- What a literal is handed over as. -/
def encL (x : LT) : Array Value := #[.agg #[.int .i64 (x.place : Nat), .int .i64 (x.atom : Nat), .bool x.no]]

theorem idx_any (l : List (Int × Int)) (j : Nat) (hj : j < 6) (V : World) : (Instr.index 68 (.agg (cells12 l)) (.int .i64 (j : Nat))).run Tryd.prog V = .ok (.agg #[.int .i64 (l.getD j (0, 0)).1, .int .i64 (l.getD j (0, 0)).2]) V := by
  obtain ⟨i, hi⟩ := info_of_underlying Tryd.underlying29
  have hc : Tryd.prog.cellsOf 29 = 2 := by kernel_rfl
  match j, hj with
  | 0, _ => simp [Instr.index, run_underlying Tryd.underlying68, asIntOf, run_sizeOf V hi, hc, go_sem, cells12]
  | 1, _ => simp [Instr.index, run_underlying Tryd.underlying68, asIntOf, run_sizeOf V hi, hc, go_sem, cells12]
  | 2, _ => simp [Instr.index, run_underlying Tryd.underlying68, asIntOf, run_sizeOf V hi, hc, go_sem, cells12]
  | 3, _ => simp [Instr.index, run_underlying Tryd.underlying68, asIntOf, run_sizeOf V hi, hc, go_sem, cells12]
  | 4, _ => simp [Instr.index, run_underlying Tryd.underlying68, asIntOf, run_sizeOf V hi, hc, go_sem, cells12]
  | 5, _ => simp [Instr.index, run_underlying Tryd.underlying68, asIntOf, run_sizeOf V hi, hc, go_sem, cells12]

/-- Parts as numbers that are no less than nothing. -/
def natP (l : List (Int × Int)) : List (Nat × Nat) := l.map fun x => (x.1.toNat, x.2.toNat)

theorem natP_getD (l : List (Int × Int)) (j : Nat) (hj : j < l.length) : (natP l).getD j (0, 0) = ((l.getD j (0, 0)).1.toNat, (l.getD j (0, 0)).2.toNat) := by
  simp [natP, List.getD_eq_getElem?_getD, List.getElem?_eq_getElem hj]

theorem litsL_take_succ (ps : List (Nat × Nat)) (j : Nat) (hj : j < ps.length) : litsL 0 (ps.take (j + 1)) = litsL 0 (ps.take j) ++ litsP j (ps.getD j (0, 0)).1 (ps.getD j (0, 0)).2 := by
  have e : ps.take (j + 1) = ps.take j ++ [ps.getD j (0, 0)] := by
    rw [List.take_succ_eq_append_getElem hj, List.getD_eq_getElem?_getD, List.getElem?_eq_getElem hj]
    rfl
  rw [e, litsL_append]
  simp [litsL, List.length_take, Nat.min_eq_left (Nat.le_of_lt hj)]

theorem litsTo_prefix (i p n : Nat) : ∀ d k, litsTo i p n k <+: litsTo i p n (k + d)
  | 0, _ => List.prefix_rfl
  | d + 1, k => by
    rw [← Nat.add_assoc, litsTo]
    exact (litsTo_prefix i p n d k).trans (List.prefix_append _ _)

theorem litsL_prefix (ps : List (Nat × Nat)) (j k : Nat) (hj : j < ps.length) (hk : k ≤ 24) : litsL 0 (ps.take j) ++ litsTo j (ps.getD j (0, 0)).1 (ps.getD j (0, 0)).2 k <+: litsL 0 ps := by
  have h1 : litsTo j (ps.getD j (0, 0)).1 (ps.getD j (0, 0)).2 k <+: litsP j (ps.getD j (0, 0)).1 (ps.getD j (0, 0)).2 := by
    have := litsTo_prefix j (ps.getD j (0, 0)).1 (ps.getD j (0, 0)).2 (24 - k) k
    rwa [show k + (24 - k) = 24 by omega] at this
  obtain ⟨t, ht⟩ := h1
  refine ⟨t ++ litsL (0 + (ps.take (j + 1)).length) (ps.drop (j + 1)), ?_⟩
  rw [List.append_assoc, ← List.append_assoc (litsTo j (ps.getD j (0, 0)).1 (ps.getD j (0, 0)).2 k), ht, ← List.append_assoc, ← litsL_take_succ ps j hj, ← litsL_append, List.take_append_drop]

/-- A literal of one of the six parts, its atom among the twenty-four. -/
abbrev LX : Type := { x : LT // x.place < 6 ∧ x.atom < 24 }
end

section
open Go.RowKit
end

section
open Go.RowKit
end

section
open Go.RowKit
end

section
open Go.RowKit
end

section
open Go.RowKit
end

section
open Go.RowKit
end

section
open Go.RowKit Go.Deep
set_option linter.unusedVariables false
end

section
open Go.RowKit Go.Deep
set_option linter.unusedVariables false
end

section
open Go.RowKit Go.Deep
set_option linter.unusedVariables false
end

section
open Go.RowKit Go.Deep
set_option linter.unusedVariables false
end

section
open Go.RowKit Go.MapKept Go.ChangeMaps Go.WideElems
open Go.WideMaps (KeyLaw)

/-- Each key's number; nothing for one that is not there. -/
def MapT (P : Program) (k : TypeId) (w : World) (b : Nat) (cnt : Value → Int) : Prop :=
  ∃ es clock, w.heap[b]? = some (.map es clock) ∧ Stamped es clock ∧ (∀ x ∈ es.toList, (∃ l, keyOf P k x.key = some l) ∧ x.val = .int .i64 (cnt x.key)) ∧ ∀ key, (∀ x ∈ es.toList, x.key ≠ key) → cnt key = 0

theorem MapT.made (w : World) (P : Program) (k : TypeId) : MapT P k (w.alloc (.map #[] 0)) w.heap.size (fun _ => 0) :=
  ⟨#[], 0, World.alloc_heap_new w _, stamped_empty 0, by simp, fun _ _ => rfl⟩

theorem MapT.block {P : Program} {k : TypeId} {w w' : World} {b : Nat} {cnt : Value → Int} (h : MapT P k w b cnt) (e : w'.heap[b]? = w.heap[b]?) : MapT P k w' b cnt := by
  obtain ⟨es, clock, h1, h2⟩ := h
  exact ⟨es, clock, e.trans h1, h2⟩

theorem MapT.lt {P : Program} {k : TypeId} {w : World} {b : Nat} {cnt : Value → Int} (h : MapT P k w b cnt) : b < w.heap.size := by
  obtain ⟨es, clock, h1, _⟩ := h
  exact (Array.getElem?_eq_some_iff.1 h1).1

/-- Only this block has turned. -/
structure Turn (b : Nat) (w w' : World) : Prop where
  os : w'.os = w.os
  tape : w'.tape = w.tape
  output : w'.output = w.output
  size : w'.heap.size = w.heap.size
  block : ∀ i, i ≠ b → w'.heap[i]? = w.heap[i]?

theorem turn_setBlock (w : World) (b : Nat) (o : Obj) : Turn b w (setBlock w b o) :=
  ⟨rfl, rfl, rfl, by simp [setBlock], fun i hi => by simp only [setBlock]; rw [Array.getElem?_setIfInBounds_ne (Ne.symm hi)]⟩

theorem Turn.below {B b : Nat} {w w' : World} (h : Turn b w w') (hB : B ≤ b) : Below B w w' :=
  ⟨h.os, h.tape, h.output, by rw [h.size]; exact Nat.le_refl _, fun i hi => h.block i (by omega)⟩

theorem same_setBlock {w : World} {b : Nat} {o o' : Obj} (hb : w.heap[b]? = some o) : (setBlock w b o').heap[b]? = some o' := by
  have hlt := (Array.getElem?_eq_some_iff.1 hb).1
  simp only [setBlock]
  rw [Array.getElem?_setIfInBounds_self_of_lt hlt]

theorem set_twice (w : World) (b : Nat) (o o' : Obj) : setBlock (setBlock w b o) b o' = setBlock w b o' := by simp [setBlock]

theorem MapT.step {P : Program} {k t e : TypeId} {w : World} {b : Nat} {cnt cnt' : Value → Int} (h : MapT P k w b cnt) (K : KeyLaw P k) (ht : P.underlying t = some (.map k e)) (hz : ∀ u : World, (zeroValue e).run P u = .ok (.int .i64 0) u)
    {key : Value} {kl : Lit} (hkey : keyOf P k key = some kl) (hc : ∀ v, v ≠ key → cnt' v = cnt v) :
    ∃ (st : Nat) (W2 W3 : World), (Instr.lookup t (.map (some b)) key false).run P w = .ok (.int .i64 (cnt key)) w ∧ (Instr.mapEntry t (.map (some b)) key).run P w = .ok (.tuple #[.int .i64 (cnt key), .int .i64 (st : Nat)]) W2 ∧
      (Instr.lookup t (.map (some b)) key false).run P W2 = .ok (.int .i64 (cnt key)) W2 ∧ (Instr.entryStore t (.map (some b)) (.int .i64 (st : Nat)) (.int .i64 (cnt' key))).run P W2 = .ok () W3 ∧ MapT P k W3 b cnt' ∧ Turn b w W2 ∧ Turn b w W3 := by
  obtain ⟨es, clock, hb, hs, hv, h0⟩ := h
  have hs' := hs
  obtain ⟨s1, s2, s3⟩ := (stamped_iff es clock).1 hs
  have hks : ∀ x ∈ es.toList, ∃ l, keyOf P k x.key = some l := fun x hx => (hv x hx).1
  rcases K.find w hkey es.toList hks with ⟨h1, h2⟩ | ⟨j, e0, h1, h2, h3⟩
  · have hcz : cnt key = 0 := h0 key h2
    rw [hcz]
    have hb2 : (setBlock w b (.map (es.push ⟨key, .int .i64 0, clock⟩) (clock + 1))).heap[b]? = some (.map (es.push ⟨key, .int .i64 0, clock⟩) (clock + 1)) := same_setBlock hb
    refine ⟨clock, setBlock w b (.map (es.push ⟨key, .int .i64 0, clock⟩) (clock + 1)), setBlock w b (.map (es.push ⟨key, .int .i64 (cnt' key), clock⟩) (clock + 1)), ?_, ?_, ?_, ?_, ?_, turn_setBlock _ _ _, turn_setBlock _ _ _⟩
    · simp [Instr.lookup, run_underlying ht, MapKept.run_getObj_map hb, K.check w _ hkey, h1, hz, Result.andThen]
    · simp [Instr.mapEntry, run_underlying ht, MapKept.run_getObj_map hb, K.check w false hkey, h1, hz, MapKept.run_setObj_map _ hb, Result.andThen, setBlock, goInt]
    · have hk2 : ∀ x ∈ (es.push ⟨key, .int .i64 0, clock⟩).toList, ∃ l, keyOf P k x.key = some l := fun x hx => by
        rw [Array.toList_push, List.mem_append, List.mem_singleton] at hx
        rcases hx with hx | rfl
        · exact hks x hx
        · exact ⟨kl, hkey⟩
      rcases K.find (setBlock w b (.map (es.push ⟨key, .int .i64 0, clock⟩) (clock + 1))) hkey (es.push ⟨key, .int .i64 0, clock⟩).toList hk2 with ⟨q1, q2⟩ | ⟨j, e1, q1, q2, q3⟩
      · exact absurd rfl (q2 ⟨key, .int .i64 0, clock⟩ (by simp))
      · have hm : e1 ∈ (es.push ⟨key, .int .i64 0, clock⟩).toList := List.mem_of_getElem? q2
        rw [Array.toList_push, List.mem_append, List.mem_singleton] at hm
        have hval : e1.val = .int .i64 0 := by
          rcases hm with hm | rfl
          · exact absurd q3 (h2 e1 hm)
          · rfl
        rw [hval] at q1
        simp only [Array.toList_push] at q1
        simp [Instr.lookup, run_underlying ht, MapKept.run_getObj_map hb2, K.check _ _ hkey, q1, Result.andThen]
    · have hidx : (es.push ⟨key, .int .i64 0, clock⟩).findIdx? (fun e => ((e.born : Nat) : Int) == ((clock : Nat) : Int)) = some es.size := by
        rw [findIdx_arr]
        have := findIdx_born (l := (es.push ⟨key, .int .i64 0, clock⟩).toList) (j := es.size) (e0 := ⟨key, .int .i64 0, clock⟩) (by
          simp only [Array.toList_push, List.map_append, List.map_cons, List.map_nil]
          refine List.nodup_append.2 ⟨s2, by simp, fun a ha c hc e1 => ?_⟩
          simp only [List.mem_singleton] at hc
          obtain ⟨x, hx, rfl⟩ := List.mem_map.1 ha
          have := s1 x hx
          omega) (by simp)
        exact this
      have hmod : (es.push ⟨key, .int .i64 0, clock⟩).modify es.size (fun e => { e with val := .int .i64 (cnt' key) }) = es.push ⟨key, .int .i64 (cnt' key), clock⟩ := by
        apply Array.ext'
        rw [Array.toList_modify, Array.toList_push, Array.toList_push, ← Array.length_toList, modify_last]
      have hrun : (Instr.entryStore t (.map (some b)) (.int .i64 (clock : Nat)) (.int .i64 (cnt' key))).run P (setBlock w b (.map (es.push ⟨key, .int .i64 0, clock⟩) (clock + 1))) = .ok () (setBlock (setBlock w b (.map (es.push ⟨key, .int .i64 0, clock⟩) (clock + 1))) b (.map (es.push ⟨key, .int .i64 (cnt' key), clock⟩) (clock + 1))) := by
        simp [Instr.entryStore, MapKept.run_getObj_map hb2, asInt, asIntOf, hidx, hmod, MapKept.run_setObj_map _ hb2, Result.andThen]
        try rfl
      rw [set_twice] at hrun
      exact hrun
    · refine ⟨_, _, same_setBlock hb, stamped_push hs h2, ?_, ?_⟩
      · intro x hx
        rw [Array.toList_push, List.mem_append, List.mem_singleton] at hx
        rcases hx with hx | rfl
        · exact ⟨hks x hx, by rw [hc _ (h2 x hx)]; exact (hv x hx).2⟩
        · exact ⟨⟨kl, hkey⟩, rfl⟩
      · intro v hv'
        have hne : v ≠ key := fun e => hv' ⟨key, .int .i64 (cnt' key), clock⟩ (by simp) e.symm
        rw [hc v hne]
        exact h0 v (fun x hx => hv' x (by simp [hx]))
  · have hj : es[j]? = some e0 := by simpa using h2
    have hm0 : e0 ∈ es.toList := List.mem_of_getElem? h2
    have hval : e0.val = .int .i64 (cnt key) := by rw [← h3]; exact (hv e0 hm0).2
    have hsame : es.modify j (fun e => { e with key := key }) = es := by
      apply Array.ext'
      rw [Array.toList_modify, modify_eq_set _ _ _ _ h2]
      have : ({ e0 with key := key } : MapEntry) = e0 := by rw [← h3]
      rw [this]
      exact set_self _ _ _ h2
    have hb2 : (setBlock w b (.map es clock)).heap[b]? = some (.map es clock) := same_setBlock hb
    have h1' := h1
    rw [hval] at h1
    have hn1 : ∀ u : World, u.heap[b]? = some (.map es clock) → (Instr.lookup t (.map (some b)) key false).run P u = .ok (.int .i64 (cnt key)) u := fun u hu => by
      rcases K.find u hkey es.toList hks with ⟨q1, q2⟩ | ⟨j', e1, q1, q2, q3⟩
      · exact absurd h3 (q2 e0 hm0)
      · have hv1 : e1.val = .int .i64 (cnt key) := by rw [← q3]; exact (hv e1 (List.mem_of_getElem? q2)).2
        rw [hv1] at q1
        simp [Instr.lookup, run_underlying ht, MapKept.run_getObj_map hu, K.check u _ hkey, q1, Result.andThen]
    refine ⟨e0.born, setBlock w b (.map es clock), setBlock w b (.map (es.modify j (fun e' => { e' with val := .int .i64 (cnt' key) })) clock), hn1 w hb, ?_, hn1 _ hb2, ?_, ?_, turn_setBlock _ _ _, turn_setBlock _ _ _⟩
    · simp [Instr.mapEntry, run_underlying ht, MapKept.run_getObj_map hb, K.check w false hkey, h1, hj, h3, K.stays w hkey, hsame, MapKept.run_setObj_map _ hb, Result.andThen, setBlock, goInt]
    · have hidx : es.findIdx? (fun e => ((e.born : Nat) : Int) == ((e0.born : Nat) : Int)) = some j := by
        rw [findIdx_arr]
        exact findIdx_born s2 h2
      have hrun : (Instr.entryStore t (.map (some b)) (.int .i64 (e0.born : Nat)) (.int .i64 (cnt' key))).run P (setBlock w b (.map es clock)) = .ok () (setBlock (setBlock w b (.map es clock)) b (.map (es.modify j (fun e' => { e' with val := .int .i64 (cnt' key) })) clock)) := by
        simp [Instr.entryStore, MapKept.run_getObj_map hb2, asInt, asIntOf, hidx, MapKept.run_setObj_map _ hb2, Result.andThen]
        try rfl
      rw [set_twice] at hrun
      exact hrun
    · refine ⟨_, _, same_setBlock hb, stamped_modify hs' j _ (fun e _ => rfl) (fun e _ _ => rfl), ?_, ?_⟩
      · intro x hx
        rw [Array.toList_modify, modify_eq_set _ _ _ _ h2] at hx
        rw [List.mem_iff_getElem] at hx
        obtain ⟨i, hi, hxe⟩ := hx
        rw [List.length_set] at hi
        by_cases e : i = j
        · subst e
          rw [List.getElem_set_self] at hxe
          subst hxe
          exact ⟨⟨kl, by dsimp only; rw [h3]; exact hkey⟩, by dsimp only; rw [h3]⟩
        · rw [List.getElem_set_ne (Ne.symm e)] at hxe
          have hxm : x ∈ es.toList := by rw [← hxe]; exact List.getElem_mem _
          have hne : x.key ≠ key := by
            intro hk
            rw [List.pairwise_iff_getElem] at s3
            have hjl : j < es.toList.length := (List.getElem?_eq_some_iff.1 h2).1
            have hje : es.toList[j] = e0 := (List.getElem?_eq_some_iff.1 h2).2
            rcases Nat.lt_or_gt_of_ne e with hl | hl
            · have := s3 i j hi hjl hl
              rw [hxe, hje, h3] at this
              exact this hk
            · have := s3 j i hjl hi hl
              rw [hxe, hje, h3] at this
              exact this hk.symm
          exact ⟨hks x hxm, by rw [hc _ hne]; exact (hv x hxm).2⟩
      · intro v hv'
        have hne : v ≠ key := by
          intro e
          refine hv' { e0 with val := .int .i64 (cnt' key) } ?_ (by dsimp only; rw [h3, e])
          rw [Array.toList_modify, modify_eq_set _ _ _ _ h2]
          exact List.mem_iff_getElem.2 ⟨j, by rw [List.length_set]; exact (List.getElem?_eq_some_iff.1 h2).1, by rw [List.getElem_set_self]⟩
        rw [hc v hne]
        refine h0 v (fun x hx hk => ?_)
        obtain ⟨i, hi, hxe⟩ := List.mem_iff_getElem.1 hx
        by_cases e : i = j
        · subst e
          have hje : es.toList[i] = e0 := (List.getElem?_eq_some_iff.1 h2).2
          rw [hje] at hxe
          subst hxe
          exact hne (by rw [← hk, h3])
        · refine hv' x ?_ hk
          rw [Array.toList_modify, modify_eq_set _ _ _ _ h2]
          exact List.mem_iff_getElem.2 ⟨i, by rw [List.length_set]; exact hi, by rw [List.getElem_set_ne (Ne.symm e)]; exact hxe⟩
end

section
open Go.RowKit Go.WideMaps
set_option linter.unusedVariables false
end

section
open Go.RowKit

theorem clauseB_inds {k f r u xp xn yp yn a b : Int} {xs : List (Int × Int)} (h : clauseB k f r u xp xn yp yn xs a b = true) : xs.length = 0 ∨ xs.length = 4 := by
  unfold clauseB at h
  simp only [Bool.and_eq_true] at h
  obtain ⟨_, _, _, _, _, _, _, _, h, _⟩ := h
  unfold indB at h
  split at h
  · simp only [Bool.and_eq_true, decide_eq_true_eq] at h
    exact .inr h.1
  · exact .inl (by simpa using h)

theorem partB_none {p n : Int} (h : noneB p n = true) : partB p n = true := by
  obtain ⟨rfl, rfl⟩ := noneB_iff.1 h
  rfl

theorem clauseB_parts {k f r u xp xn yp yn a b : Int} {xs : List (Int × Int)} (h : clauseB k f r u xp xn yp yn xs a b = true) : ∀ x ∈ six xp xn yp yn xs, partB x.1 x.2 = true := by
  have hl := clauseB_inds h
  unfold clauseB at h
  simp only [Bool.and_eq_true] at h
  obtain ⟨_, _, _, _, _, _, hx, hy, hi, _⟩ := h
  have h1 : partB xp xn = true := by
    unfold parB at hx
    split at hx
    · exact hx
    · exact partB_none hx
  have h2 : partB yp yn = true := by
    unfold parB at hy
    split at hy
    · exact hy
    · exact partB_none hy
  have h3 : ∀ j, partB (xs.getD j (0, 0)).1 (xs.getD j (0, 0)).2 = true := by
    intro j
    by_cases hj : j < xs.length
    · unfold indB at hi
      split at hi
      · simp only [Bool.and_eq_true, decide_eq_true_eq, List.all_eq_true] at hi
        exact hi.2 _ (by rw [List.getD_eq_getElem?_getD, List.getElem?_eq_getElem hj]; exact List.getElem_mem _)
      · have : xs.length = 0 := by simpa using hi
        omega
    · rw [List.getD_eq_getElem?_getD, List.getElem?_eq_none (by omega)]
      rfl
  intro x hx
  simp only [six, List.mem_cons, List.not_mem_nil, or_false] at hx
  rcases hx with rfl | rfl | rfl | rfl | rfl | rfl
  · exact h1
  · exact h2
  · exact h3 0
  · exact h3 1
  · exact h3 2
  · exact h3 3

theorem boxed_noncells {W W' : World} {B t : Nat} {v : Value} {row : Option Nat} (h : Boxed W B t v) (hg : W.grownBy W' row)
    (hr : ∀ r, row = some r → ∃ o : Obj, W.heap[r]? = some o ∧ o.isCells = false) : Boxed W' B t v :=
  h.kept hg (fun e => by
    obtain ⟨o, ho, hc⟩ := hr B e.symm
    rw [show W.heap[B]? = _ from h] at ho; cases ho; cases hc)
theorem boxed_below {W W' : World} {B t : Nat} {v : Value} (h : Boxed W B t v) {n : Nat} (hb : Below n W W') (hn : B < n) : Boxed W' B t v := (hb.block B hn).trans h
theorem keepsOthers_below {W W' : World} (h : Below W.heap.size W W') : KeepsOthers W W' := ⟨h.size, fun k _ hk _ => (h.block k (Array.getElem?_eq_some_iff.1 hk).1).trans hk⟩
end

end Go.Proofs.YtlhfecfpkelkdaaDoor
