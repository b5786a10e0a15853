/- The text of what is told, as a function on lists; appends of bytes that are read somewhere, as laws. -/
import Derived.Test.YtodpaihndpjbfaaAxMem
import Derived.Test.YtodpaihndpjbfaaConTextFn
import Derived.Test.YtodpaihndpjbfaaConSayG
namespace Go.Proofs.Ytodpaihndpjbfaa
open Go.RowKit

/-- The word of a kind, by its bytes. -/
def axWord (k : Int) : List Int := if k = 0 then [83, 117, 98] else if k = 1 then [69, 113] else if k = 2 then [68, 105, 115] else if k = 3 then [82, 111, 108, 101] else if k = 4 then [73, 115] else if k = 5 then [82, 101, 108] else []
def axWordB (k : Int) : ByteArray := if k = 0 then ⟨#[83, 117, 98]⟩ else if k = 1 then ⟨#[69, 113]⟩ else if k = 2 then ⟨#[68, 105, 115]⟩ else if k = 3 then ⟨#[82, 111, 108, 101]⟩ else if k = 4 then ⟨#[73, 115]⟩ else if k = 5 then ⟨#[82, 101, 108]⟩ else ⟨#[]⟩

theorem axWordB_cells (k : Int) : Lib.strCells (axWordB k) = (axWord k).map (Value.int .u8) := by
  unfold axWordB axWord
  repeat' split
  all_goals rfl
theorem axWordB_size (k : Int) : (axWordB k).size = (axWord k).length := by rw [← Lib.strCells_length, axWordB_cells, List.length_map]
theorem axWord_len (k : Int) : (axWord k).length ≤ 4 := by
  unfold axWord
  repeat' split
  all_goals simp
theorem axWord_byte (k : Int) : ∀ x ∈ axWord k, 0 ≤ x ∧ x ≤ 255 := by
  unfold axWord
  repeat' split
  all_goals (intro x hx; simp at hx; try omega)

theorem ownB_axStr {base : Nat} {W w2 : World} {v v' : Value} {xs : List Int} {k : Int} (hO : OwnB base W v xs) (hb : base ≤ W.heap.size)
    (hown : w2.ownsRow base 5 1 v' (xs.length + (axWordB k).size) (xs.map (Value.int .u8) ++ Lib.strCells (axWordB k))) (hgrow : W.grownBy w2 v.ownBlock) (hat : v'.ownBlock = v.ownBlock ∨ v'.ownBlock = some W.heap.size) :
    OwnB base w2 v' (xs ++ axWord k) ∧ Keep6 base W v w2 v' := by
  rw [axWordB_size, axWordB_cells] at hown
  exact ownB_app6 hO hb hown hgrow hat

/-- What a field is, as a text. -/
def fldT (x : AX) (f : Nat) : List Int := if f = 67 then textC x.c else if f = 68 then textC x.d else if f = 82 then x.r else if f = 83 then x.s else if f = 65 then x.a else x.b

def fieldsN (k : Int) : List Nat := if k = 0 ∨ k = 1 ∨ k = 2 then [67, 68] else if k = 3 then [82, 83] else if k = 4 then [65, 67] else if k = 5 then [82, 65, 66] else []

/-- The fields' texts; a bracket ahead of the first, a blank ahead of each other one. -/
def fldsT (x : AX) (gap : Int) : List Nat → List Int
  | [] => []
  | f :: fs => [gap] ++ fldT x f ++ fldsT x 32 fs

def axSay (x : AX) : List Int := axWord x.kind ++ fldsT x 40 (fieldsN x.kind) ++ [41]
def axText (x : AX) : List Int := if axOk x = true then axSay x else []

/-- What is known of one that may be. -/
theorem axOk_facts {x : AX} (h : axOk x = true) : (0 ≤ x.kind ∧ x.kind ≤ 5) ∧ fitC x.c (wantC x.kind) = true ∧ fitC x.d (wantD x.kind) = true ∧ fitL x.r (wantR x.kind) = true ∧ fitL x.s (wantS x.kind) = true ∧ fitL x.a (wantA x.kind) = true ∧ fitL x.b (wantB x.kind) = true := by
  unfold axOk at h
  simp only [Bool.and_eq_true] at h
  exact ⟨of_decide_eq_true h.1, h.2.1, h.2.2.1, h.2.2.2.1, h.2.2.2.2.1, h.2.2.2.2.2.1, h.2.2.2.2.2.2⟩

theorem fitL_want {zs : List Int} {wt : Bool} (h : fitL zs wt = true) (hw : wt = true) : 1 ≤ zs.length ∧ zs.length ≤ 6 := by
  subst hw
  exact longB_of_low h

theorem fitC_ok {c : CN} {wt : Bool} (h : fitC c wt = true) : conOk c = true := by
  unfold fitC at h
  split at h
  · exact h
  · exact ok_of_zero h

theorem textC_320 {c : CN} (h : conOk c = true) : (textC c).length ≤ 320 := by
  have h1 := conText_short c
  unfold conText at h1
  rw [if_pos h] at h1
  exact h1

theorem one_rd {w : World} {g : Nat} {c : Int} (h : w.heap[g]? = some (.cells #[.int .u8 c] 5 (0, 0))) (h0 : 0 ≤ c) (h1 : c ≤ 255) : Rd g (g + 1) w (some ⟨g, 0, none⟩) 1 1 [c] := by
  refine ⟨rfl, ⟨Nat.le_refl _, by omega⟩, fun i => ?_, .inr ⟨g, 0, rfl, Nat.le_refl _, Nat.lt_succ_self _, fun i hi => ?_⟩⟩
  · match i with
    | 0 => exact ⟨h0, h1⟩
    | i + 1 => simp
  · obtain rfl : i = 0 := by omega
    simp [World.cell?, h]

theorem one_alloc (w : World) (c : Int) (h0 : 0 ≤ c) (h1 : c ≤ 255) : Rd w.heap.size (w.heap.size + 1) (w.alloc (.cells #[.int .u8 c] 5)) (some ⟨w.heap.size, 0, none⟩) 1 1 [c] := one_rd (World.alloc_heap_new w _) h0 h1

/-- An append of bytes that are read somewhere, at the list of a plain region's operations. -/
theorem list_appB {w : World} {ops : Array Oper} {rest : List Oper} {o : Oper} {a : Act} {Q : Exit → Act → World → Prop} (hgd : o.guard = none) (s x : Operand)
    (ho : o.op = .call { callee := .builtin .append, args := #[s, x], argTypes := #[22, 22] }) (base : Nat) (v : Value) (xs : List Int) (hs : a.eval s = v) (hO : OwnB base w v xs) (lo hi : Nat) (ad : Option Addr) (n cap : Nat) (ys : List Int)
    (hx : a.eval x = .slice ad n cap) (hR : Rd lo hi w ad n cap ys) (h1 : 1 ≤ n) (hlen : xs.length + n ≤ 1073741824) (hbase : base ≤ w.heap.size)
    (h : ∀ v' w', OwnB base w' v' (xs ++ ys) → Keep6 base w v w' v' → wpList Try.prog ops Q rest (a.put o.dst v') w') : wpList Try.prog ops Q (o :: rest) a w := by
  obtain ⟨i0, hi0, hz0, hz1, hz2⟩ := info_parts Try.info5
  rcases hR.cells with e | ⟨b, off, rfl, _, _, _⟩
  · omega
  · have hl := hR.len
    subst hl
    exact wpList_append_own_at w hgd s x 22 ho base 5 i0 (.int .u8 0) 1 1 Try.underlying22 hi0 hz0 hz1 hz2 rfl (by decide) v xs.length (xs.map (Value.int .u8)) hs hO ⟨b, off, none⟩ ys.length cap (ys.map (Value.int .u8)) hx (by simp) (rd_news hR) (oneCB _) (by unfold maxLen; omega) (by omega) hbase
      (fun v' w2 hown hgrow _ hat => h v' w2 (ownB_app6 hO hbase hown hgrow hat).1 (ownB_app6 hO hbase hown hgrow hat).2)

theorem atOf {v : Value} {g n cap H : Nat} (h : v.ownBlock = some g ∨ g = H) : (Value.slice (some ⟨g, 0, none⟩) n cap).ownBlock = v.ownBlock ∨ (Value.slice (some ⟨g, 0, none⟩) n cap).ownBlock = some H := by
  rcases h with e | e
  · exact .inl e.symm
  · exact .inr (by rw [e]; rfl)

/-- The same as a step of a region that draws its order. -/
theorem step_appB {w : World} {ops : Array Oper} {o : Oper} {a : Act} {K : Act → World → Prop} {Q : Exit → Act → World → Prop} {E : Prop} (hgd : o.guard = none) (s x : Operand)
    (ho : o.op = .call { callee := .builtin .append, args := #[s, x], argTypes := #[22, 22] }) (base : Nat) (v : Value) (xs : List Int) (hs : a.eval s = v) (hO : OwnB base w v xs) (lo hi : Nat) (ad : Option Addr) (n cap : Nat) (ys : List Int)
    (hx : a.eval x = .slice ad n cap) (hR : Rd lo hi w ad n cap ys) (h1 : 1 ≤ n) (hlen : xs.length + n ≤ 1073741824) (hbase : base ≤ w.heap.size)
    (h : ∀ v' w', OwnB base w' v' (xs ++ ys) → Keep6 base w v w' v' → K (a.put o.dst v') w') :
    if Region.wanted o (yielded ops a.tmps) = true then Oper.wp Try.prog o a w K Q else E := by
  obtain ⟨i0, hi0, hz0, hz1, hz2⟩ := info_parts Try.info5
  rcases hR.cells with e | ⟨b, off, rfl, _, _, _⟩
  · omega
  · have hl := hR.len
    subst hl
    exact step_append_lies w hgd s x 22 ho base 5 i0 (.int .u8 0) 1 1 Try.underlying22 hi0 hz0 hz1 hz2 rfl (by decide) v xs.length (xs.map (Value.int .u8)) hs hO ⟨b, off, none⟩ ys.length cap (ys.map (Value.int .u8)) hx (by simp) (rd_news hR) (oneCB _) (by omega) (by unfold maxLen; omega) (by omega) hbase _ rfl
      (fun g cap w2 hown hgrow hat _ => h _ w2 (ownB_app6 hO hbase hown hgrow (atOf hat)).1 (ownB_app6 hO hbase hown hgrow (atOf hat)).2)

theorem BoxA.keep5 {t : Nat} (ht : t ≠ 5) {W W' : World} {base p : Nat} {k : Int} {c0 c1 c2 c3 d0 d1 d2 d3 r s a b : Value} (h : BoxA t W p k c0 c1 c2 c3 d0 d1 d2 d3 r s a b) (hk : Keep5 base W W') : BoxA t W' p k c0 c1 c2 c3 d0 d1 d2 d3 r s a b := hk.2 p _ _ _ ht h
theorem BoxA.keep6 {t : Nat} (ht : t ≠ 5) {W W' : World} {u u' : Value} {base p : Nat} {k : Int} {c0 c1 c2 c3 d0 d1 d2 d3 r s a b : Value} (h : BoxA t W p k c0 c1 c2 c3 d0 d1 d2 d3 r s a b) (hk : Keep6 base W u W' u') : BoxA t W' p k c0 c1 c2 c3 d0 d1 d2 d3 r s a b := h.keep5 ht hk.k5

/-! ### The words -/

set_option maxHeartbeats 400000 in
theorem axiomWord_any (k : Int) (w : World) : Calls Try.prog 188 #[.int .i64 k] w fun e w' => e = .returned (.string (axWordB k)) ∧ w' = w := by
  go_enter Try.func188, Try.ntmps188
  go_wp2
  all_goals
    go_ret
    refine ⟨?_, rfl⟩
    simp_all [axWordB]

set_option maxHeartbeats 400000 in
theorem l3word_any (k : Nat) (hk : k ≤ 5) (w : World) : Calls Try.prog 240 #[.int .i64 k] w fun e w' => e = .returned (.string (axWordB k)) ∧ Below w.heap.size w w' := by
  have hc : k = 0 ∨ k = 1 ∨ k = 2 ∨ k = 3 ∨ k = 4 ∨ k = 5 := by omega
  rcases hc with rfl | rfl | rfl | rfl | rfl | rfl
  all_goals
    go_enter Try.func240, Try.ntmps240
    go_wp2
    go_ret
    exact ⟨rfl, (Below.refl _ _).alloc (Nat.le_refl _) _⟩

end Go.Proofs.Ytodpaihndpjbfaa
