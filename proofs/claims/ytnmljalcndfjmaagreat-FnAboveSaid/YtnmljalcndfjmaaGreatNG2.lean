/- Several texts in one: CmpB, Draw1, RegInv, DrawPick, Rounds. -/
import Derived.Test.YtnmljalcndfjmaaGreatNG1
import Derived.Lib.BytesEntry
import Derived.Deep.DeepCutAuto
import Derived.Deep.RegionWith
import Derived.RangeFuncRecord
import Derived.RegionTactic
import Derived.WalkKit
import Derived.RangeFuncNested
import Derived.RangeFuncCalls
import Derived.OwnWalkIn
import Derived.Shelf.RegionOpen
import Derived.Laws.AppendOwn
namespace Go.Proofs.YtnmljalcndfjmaaGreat

section
open Go.RowKit

/-- -1, 0, 1: by their bytes. -/
def cmpZ (xs ys : List Int) : Int := Lib.compareBytes (strOfNums xs).toList (strOfNums ys).toList

theorem less_cmp : ∀ (a b : List UInt8), (if Op.bytesLess a b = true then (-1 : Int) else if Op.bytesLess b a = true then 1 else 0) = Lib.compareBytes a b
  | [], [] => by simp [Op.bytesLess, Lib.compareBytes]
  | [], b :: ys => by simp [Op.bytesLess, Lib.compareBytes]
  | a :: xs, [] => by simp [Op.bytesLess, Lib.compareBytes]
  | a :: xs, b :: ys => by
    have ih := less_cmp xs ys
    rw [Lib.compareBytes, ← ih]
    by_cases h1 : a < b
    · simp [Op.bytesLess, h1]
    · by_cases h2 : b < a
      · have hne : ¬ a = b := fun e => by subst e; exact h1 h2
        simp [Op.bytesLess, h1, h2, hne]
      · have he : a = b := UInt8.le_antisymm (UInt8.not_lt.1 h2) (UInt8.not_lt.1 h1)
        subst he
        simp [Op.bytesLess]

theorem less_self : ∀ a : List UInt8, Op.bytesLess a a = false
  | [] => rfl
  | a :: xs => by simp [Op.bytesLess, less_self xs, UInt8.lt_irrefl]

theorem less_tri : ∀ a b : List UInt8, Op.bytesLess a b = false → (a == b) = false → Op.bytesLess b a = true
  | [], [], _, h => by simp at h
  | [], b :: ys, h, _ => by simp [Op.bytesLess] at h
  | a :: xs, [], _, _ => by simp [Op.bytesLess]
  | a :: xs, b :: ys, h1, h2 => by
    have ih := less_tri xs ys
    by_cases h3 : a < b
    · simp [Op.bytesLess, h3] at h1
    · by_cases h4 : b < a
      · simp [Op.bytesLess, h4]
      · have he : a = b := UInt8.le_antisymm (UInt8.not_lt.1 h4) (UInt8.not_lt.1 h3)
        subst he
        simp [Op.bytesLess] at h1 h2 ⊢
        exact ih h1 (by simpa using h2)

set_option maxRecDepth 100000 in
set_option maxHeartbeats 1000000 in
theorem l2bytes_any {a a' : Option Addr} {n cap n' cap' : Nat} {xs ys : List Int} {w : World} {lo hi lo' hi' : Nat} (h : Rd lo hi w a n cap xs) (h' : Rd lo' hi' w a' n' cap' ys) :
    Calls Tryz.prog 148 #[.slice a n cap, .slice a' n' cap'] w fun e w' => e = .returned (.int .i64 (cmpZ xs ys)) ∧ w' = w := by
  have hc := conv_any h
  have hc' := conv_any h'
  have HZ : Hid (cmpZ xs ys = (if Op.bytesLess (strOfNums xs).toList (strOfNums ys).toList = true then (-1 : Int) else if Op.bytesLess (strOfNums ys).toList (strOfNums xs).toList = true then 1 else 0)) := (less_cmp _ _).symm
  obtain ⟨s, hs⟩ : ∃ s, s = strOfNums xs := ⟨_, rfl⟩
  obtain ⟨t, ht⟩ : ∃ t, t = strOfNums ys := ⟨_, rfl⟩
  rw [← hs] at hc HZ
  rw [← ht] at hc' HZ
  clear h h' hs ht
  cases h1 : Op.bytesLess s.toList t.toList
  · cases h2 : (s.toList == t.toList)
    · have h3 := less_tri _ _ h1 h2
      go_enter Tryz.func148, Tryz.ntmps148
      go_wp2
      go_ret
      exact ⟨ri (by rw [HZ.out, h1, h3]; rfl), rfl⟩
    · have h4 : s.toList = t.toList := by simpa using h2
      have HZ0 : Hid (cmpZ xs ys = 0) := by unfold Hid; rw [HZ.out, h4, less_self]; rfl
      clear h4
      go_enter Tryz.func148, Tryz.ntmps148
      go_wp2
      go_ret
      exact ⟨ri HZ0.out.symm, rfl⟩
  · go_enter Tryz.func148, Tryz.ntmps148
    go_wp2
    go_ret
    exact ⟨ri (by rw [HZ.out, h1]; rfl), rfl⟩
end

section
open Go.RowKit

/-- The box of a cursor. -/
def BoxCur (W : World) (B : Nat) (v : Value) (i h : Int) : Prop := W.heap[B]? = some (.cells #[v, .int .i64 i, .int .i64 h] 105 (0, 0))
theorem BoxCur.new (W : World) (v : Value) (i h : Int) : BoxCur (W.alloc (.cells #[v, .int .i64 i, .int .i64 h] 105)) W.heap.size v i h := World.alloc_heap_new W _
theorem BoxCur.lt {W : World} {B : Nat} {v : Value} {i h : Int} (q : BoxCur W B v i h) : B < W.heap.size := (Array.getElem?_eq_some_iff.1 q).1
theorem BoxCur.cells {W : World} {B : Nat} {v : Value} {i h : Int} (q : BoxCur W B v i h) : W.cell? ⟨B, 0, none⟩ = some v ∧ W.cell? ⟨B, 1, none⟩ = some (.int .i64 i) ∧ W.cell? ⟨B, 2, none⟩ = some (.int .i64 h) ∧ ∀ o, W.frozen? ⟨B, o, none⟩ = false := by
  unfold BoxCur at q
  refine ⟨?_, ?_, ?_, fun o => ?_⟩ <;> simp [World.cell?, World.frozen?, q]
theorem BoxCur.setH {W : World} {B : Nat} {v : Value} {i h : Int} (q : BoxCur W B v i h) (h' : Int) : BoxCur (W.setCell ⟨B, 2, none⟩ (.int .i64 h')) B v i h' := heap_setCell_same W B 2 _ _ _ q
theorem BoxCur.setI {W : World} {B : Nat} {v : Value} {i h : Int} (q : BoxCur W B v i h) (i' : Int) : BoxCur (W.setCell ⟨B, 1, none⟩ (.int .i64 i')) B v i' h := heap_setCell_same W B 1 _ _ _ q

/-- All that was there is as it was, but for the block B. -/
structure Only (B : Nat) (w w' : World) : Prop where
  below : Below B w w'
  other : ∀ b, b < w.heap.size → b ≠ B → w'.heap[b]? = w.heap[b]?

theorem Only.refl (B : Nat) (w : World) : Only B w w := ⟨Below.refl _ _, fun _ _ _ => rfl⟩
theorem Only.trans {B : Nat} {a b c : World} (h : Only B a b) (k : Only B b c) : Only B a c := ⟨h.below.trans k.below, fun x h1 h2 => (k.other x (Nat.lt_of_lt_of_le h1 h.below.size) h2).trans (h.other x h1 h2)⟩
theorem Only.drew {B : Nat} {w w' : World} (h : Only B w w') : Only B w w'.drew := ⟨h.below.drew, h.other⟩
theorem Only.set {B o : Nat} {w w' : World} (h : Only B w w') (v : Value) : Only B w (w'.setCell ⟨B, o, none⟩ v) :=
  ⟨h.below.setCell (Nat.le_refl _) v, fun b h1 h2 => (Below.heap_setCell w' ⟨B, o, none⟩ v b h2).trans (h.other b h1 h2)⟩

/-- A cursor over these bytes. -/
structure Cur (w : World) (B : Nat) (a : Option Addr) (n cap : Nat) (zs : List Int) (hi : Nat) : Prop where
  box : ∃ (i : Nat) (h : Int), i ≤ n ∧ BoxCur w B (.slice a n cap) i h
  rd : Rd 0 hi w a n cap zs
  le : hi ≤ B

theorem Cur.only {w w' : World} {B : Nat} {a : Option Addr} {n cap : Nat} {zs : List Int} {hi : Nat} (c : Cur w B a n cap zs hi) (i : Nat) (h : Int) (hin : i ≤ n) (hb : BoxCur w' B (.slice a n cap) i h) (o : Only B w w') : Cur w' B a n cap zs hi :=
  ⟨⟨i, h, hin, hb⟩, c.rd.same (fun b _ h2 => o.other b (Nat.lt_of_lt_of_le h2 (by obtain ⟨_, _, _, q⟩ := c.box; have := q.lt; have := c.le; omega)) (by have := c.le; omega)), c.le⟩

theorem and_255 (y : Int) : 0 ≤ bits .and .i64 y 255 ∧ bits .and .i64 y 255 ≤ 255 := by
  have e : ((BitVec.ofInt 64 y) &&& (BitVec.ofInt 64 255)).toNat ≤ 255 := by
    rw [BitVec.toNat_and]
    exact Nat.le_trans Nat.and_le_right (by decide)
  have e2 : bits .and .i64 y 255 = ((((BitVec.ofInt 64 y) &&& (BitVec.ofInt 64 255)).toNat : Nat) : Int) := by
    show IntKind.i64.wrap ((((BitVec.ofInt 64 y) &&& (BitVec.ofInt 64 255)).toNat : Nat) : Int) = _
    rw [wrap_id _ (by omega)]
  rw [e2]
  omega

set_option maxRecDepth 100000 in
set_option maxHeartbeats 4000000 in
theorem l1Byte_any {w : World} {B : Nat} {a : Option Addr} {n cap : Nat} {zs : List Int} {hi : Nat} (c : Cur w B a n cap zs hi) :
    Calls Tryz.prog 105 #[.pointer (some ⟨B, 0, none⟩)] w fun e w' => ∃ x : Int, e = .returned (.int .i64 x) ∧ (0 ≤ x ∧ x ≤ 255) ∧ Cur w' B a n cap zs hi ∧ Only B w w' := by
  obtain ⟨i, h, hin, hbx⟩ := c.box
  have HC : Hid (Cur w B a n cap zs hi) := c
  have hfit := c.rd.fits
  have hbl := hbx.lt
  obtain ⟨z0, z1, z2, zf⟩ := hbx.cells
  have f2 := zf 2
  have HBX : Hid (BoxCur w B (.slice a n cap) i h) := hbx
  clear c hbx zf
  obtain ⟨h1, hh1⟩ : ∃ h1, h1 = wrap64 (wrap64 (h * 6364136223846793005) + 1442695040888963407) := ⟨_, rfl⟩
  obtain ⟨W1, hW1⟩ : ∃ W1, W1 = w.setCell ⟨B, 2, none⟩ (.int .i64 h1) := ⟨_, rfl⟩
  have HW1 : Hid (W1 = w.setCell ⟨B, 2, none⟩ (.int .i64 (wrap64 (wrap64 (h * 6364136223846793005) + 1442695040888963407)))) := by unfold Hid; rw [hW1, hh1]
  have hbx1 : BoxCur W1 B (.slice a n cap) i h1 := by rw [hW1]; exact HBX.out.setH h1
  have HBX1 : Hid (BoxCur W1 B (.slice a n cap) i h1) := hbx1
  have HO1 : Hid (Only B w W1) := by unfold Hid; rw [hW1]; exact (Only.refl B w).set _
  have HR1 : Hid (Rd 0 hi W1 a n cap zs) := (HC.out.only i h1 hin hbx1 HO1.out).rd
  clear hh1 hW1
  go_enter Tryz.func105, Tryz.ntmps105
  go_upto_region 2 with fail
  rw [← HW1.out]
  clear z0 z1 z2 f2
  obtain ⟨z0, z1, z2, zf⟩ := hbx1.cells
  have f1 := zf 1
  clear zf hbx1
  go_cut [3] (fun v W => ∃ x : Int, v = .int .i64 x ∧ (0 ≤ x ∧ x ≤ 255) ∧ W = W1.drew)
  case first =>
    first | go_region | fail
    all_goals
      go_wp2_with fail
      go_meet
      case rel => exact ⟨_, rfl, and_255 _, rfl⟩
  case rest =>
    obtain ⟨x, hv, hx, hw⟩ := hcut
    subst hv
    rw [hw]
    clear hw
    by_cases hlt : i < n
    · have hli : (i : Int) < (n : Int) := by omega
      obtain ⟨bb, off, ea, hcb⟩ : ∃ bb off, a = some ⟨bb, off, none⟩ ∧ W1.cell? ⟨bb, off + i, none⟩ = some (.int .u8 (zs.getD i 0)) := by
        rcases HR1.out.cells with h0 | ⟨bb, off, e, _, _, hc⟩
        · omega
        · exact ⟨bb, off, e, hc i hlt⟩
      subst ea
      have hby := HR1.out.byte i
      obtain ⟨y, hy⟩ : ∃ y, y = zs.getD i 0 := ⟨_, rfl⟩
      rw [← hy] at hcb hby
      clear hy
      go_wp2_with fail
      first | go_region | fail
      all_goals
        go_wp2_with fail
        first | go_region | fail
        all_goals
          go_wp2_with fail
          go_ret
          have hbi : BoxCur (W1.drew.drew.drew.setCell ⟨B, 1, none⟩ (.int .i64 ((i : Int) + 1))) B (.slice (some ⟨bb, off, none⟩) n cap) ((i + 1 : Nat) : Int) h1 := BoxCur.setI (W := W1.drew.drew.drew) HBX1.out _
          have hoi : Only B w (W1.drew.drew.drew.setCell ⟨B, 1, none⟩ (.int .i64 ((i : Int) + 1))) := HO1.out.drew.drew.drew.set _
          exact ⟨_, rfl, and_255 _, HC.out.only (i + 1) h1 (by omega) hbi hoi, hoi⟩
    · have hli : decide ((i : Int) < (n : Int)) = false := by simp; omega
      go_wp2_with fail
      first | go_region | fail
      all_goals
        go_wp2_with fail
        go_ret
        exact ⟨x, rfl, hx, HC.out.only i h1 hin HBX1.out HO1.out.drew.drew, HO1.out.drew.drew⟩

set_option maxRecDepth 100000 in
theorem l1Below_any {w : World} {B : Nat} {a : Option Addr} {n cap : Nat} {zs : List Int} {hi : Nat} (c : Cur w B a n cap zs hi) (m : Int) (hm : 1 ≤ m ∧ m ≤ 256) :
    Calls Tryz.prog 46 #[.pointer (some ⟨B, 0, none⟩), .int .i64 m] w fun e w' => ∃ x : Int, e = .returned (.int .i64 x) ∧ (0 ≤ x ∧ x < m) ∧ Cur w' B a n cap zs hi ∧ Only B w w' := by
  obtain ⟨hm1, hm2⟩ := hm
  have HC : Hid (Cur w B a n cap zs hi) := c
  clear c
  go_enter Tryz.func46, Tryz.ntmps46
  go_wp2_with fail
  refine (l1Byte_any HC.out).mono ?_
  rintro e w1 ⟨x, rfl, hx, hc, ho⟩
  have HC1 : Hid (Cur w1 B a n cap zs hi) := hc
  have HO1 : Hid (Only B w w1) := ho
  obtain ⟨hx0, hx1⟩ := hx
  clear hc ho
  go_wp2_with fail
  go_ret
  exact ⟨x % m, rfl, ⟨Int.emod_nonneg _ (by omega), Int.emod_lt_of_pos _ (by omega)⟩, HC1.out, HO1.out⟩

theorem l1Once_any {w : World} {B : Nat} {a : Option Addr} {n cap : Nat} {zs : List Int} {hi : Nat} (c : Cur w B a n cap zs hi) (m : Int) (hm : 1 ≤ m ∧ m ≤ 256) :
    Calls Tryz.prog 74 #[.pointer (some ⟨B, 0, none⟩), .int .i64 m] w fun e w' => ∃ x : Bool, e = .returned (.bool x) ∧ Cur w' B a n cap zs hi ∧ Only B w w' := by
  have HC : Hid (Cur w B a n cap zs hi) := c
  clear c
  go_enter Tryz.func74, Tryz.ntmps74
  go_wp2_with fail
  refine (l1Below_any HC.out m hm).mono ?_
  rintro e w1 ⟨x, rfl, hx, hc, ho⟩
  have HC1 : Hid (Cur w1 B a n cap zs hi) := hc
  have HO1 : Hid (Only B w w1) := ho
  clear hc ho hx
  go_wp2_with fail
  go_ret
  exact ⟨_, rfl, HC1.out, HO1.out⟩

set_option maxRecDepth 100000 in
set_option maxHeartbeats 1000000 in
/-- A cursor that is made. -/
theorem l1New_any {a : Option Addr} {n cap : Nat} {zs : List Int} {w : World} {hi : Nat} (h : Rd 0 hi w a n cap zs) (hhi : hi ≤ w.heap.size) :
    Calls Tryz.prog 29 #[.slice a n cap] w fun e w' => e = .returned (.pointer (some ⟨w.heap.size, 0, none⟩)) ∧ Cur w' w.heap.size a n cap zs hi ∧ Below w.heap.size w w' := by
  have HR : Hid (Rd 0 hi w a n cap zs) := h
  have hfit := h.fits
  have hbuild : ∀ (hv : Int) (V : World), (Instr.build 105 #[(0, .slice a n cap), (2, .int .i64 hv)]).run Tryz.prog V = .ok (.agg #[.slice a n cap, .int .i64 0, .int .i64 hv]) V := fun hv V => run_build V _ _ _ (by kernel_rfl)
  have HFin : Hid (∀ hv : Int, Cur (w.alloc (.cells #[.slice a n cap, .int .i64 0, .int .i64 hv] 105)) w.heap.size a n cap zs hi ∧ Below w.heap.size w (w.alloc (.cells #[.slice a n cap, .int .i64 0, .int .i64 hv] 105))) := fun hv => by
    have hb : Below w.heap.size w (w.alloc (.cells #[.slice a n cap, .int .i64 0, .int .i64 hv] 105)) := (Below.refl _ _).alloc (Nat.le_refl _) _
    exact ⟨⟨⟨0, hv, Nat.zero_le _, BoxCur.new w _ _ _⟩, h.below hb hhi, hhi⟩, hb⟩
  clear h
  go_enter Tryz.func29, Tryz.ntmps29
  go_wp2_with fail
  go_loop [3, 4] (fun q i => ∃ (k : Nat) (hv : Int), k ≤ n ∧ k ≤ 4000 ∧ i = .int .i64 k ∧ q = .int .i64 hv) (fun _ i => 4000 - (intOf i).toNat)
  case atStart => exact ⟨0, _, Nat.zero_le _, by omega, rfl, rfl⟩
  case round =>
    obtain ⟨k, hv, hk, hk4, rfl, rfl⟩ := hrel
    by_cases hlt : k < n
    · by_cases hl4 : k < 4000
      · obtain ⟨bb, off, ea, hcb⟩ : ∃ bb off, a = some ⟨bb, off, none⟩ ∧ w.cell? ⟨bb, off + k, none⟩ = some (.int .u8 (zs.getD k 0)) := by
          rcases HR.out.cells with h0 | ⟨bb, off, e, _, _, hc⟩
          · omega
          · exact ⟨bb, off, e, hc k hlt⟩
        subst ea
        have hby := HR.out.byte k
        obtain ⟨y, hy⟩ : ∃ y, y = zs.getD k 0 := ⟨_, rfl⟩
        rw [← hy] at hcb hby
        have hki : (k : Int) < (n : Int) := by omega
        clear hy
        go_wp2_with fail
        go_round
        case rel => exact ⟨k + 1, _, by omega, by omega, by go_num, rfl⟩
        case measure => simp [intOf]; omega
      · have hk5 : k = 4000 := by omega
        have hki : (k : Int) < (n : Int) := by omega
        have hd : decide ((k : Int) < 4000) = false := by simp; omega
        clear hk5
        go_wp2_with fail
        go_ret
        exact ⟨rfl, HFin.out _⟩
    · have hd : decide ((k : Int) < (n : Int)) = false := by simp; omega
      go_wp2_with fail
      all_goals
        go_ret
        exact ⟨rfl, HFin.out _⟩
end

section
open Go
open Go.RowKit
section
variable {P : Program} {md : Region.Mode} {ops : Array Oper} {Q : Exit → Act → World → Prop}

/-- How many are left. -/
def leftB (l : Array Bool) : Nat := l.toList.countP (fun b => !b)

theorem countP_set {l : List Bool} : ∀ {i : Nat}, l[i]? = some false → (l.set i true).countP (fun b => !b) + 1 = l.countP (fun b => !b) := by
  induction l with
  | nil => intro i h; simp at h
  | cons x xs ih =>
    intro i h
    cases i with
    | zero =>
      simp only [List.getElem?_cons_zero, Option.some.injEq] at h
      subst h
      simp
    | succ i =>
      simp only [List.getElem?_cons_succ] at h
      have := ih h
      rw [List.set_cons_succ, List.countP_cons, List.countP_cons]
      omega

theorem ready_false {l : Array Bool} {i : Nat} (h : i ∈ Region.ready md ops l) : l[i]? = some false ∧ i < ops.size ∧ ∃ o, ops[i]? = some o ∧ (o.after.all fun e => !Region.binds md e || l.getD e.on false) = true := by
  unfold Region.ready at h
  rw [List.mem_filter] at h
  obtain ⟨h1, h2⟩ := h
  rw [Bool.and_eq_true] at h2
  obtain ⟨h3, h4⟩ := h2
  refine ⟨?_, List.mem_range.1 h1, ?_⟩
  · rw [Array.getD_eq_getD_getElem?] at h3
    cases e : l[i]? with
    | none => rw [e] at h3; simp at h3
    | some b => rw [e] at h3; simp at h3; rw [h3]
  · cases e : ops[i]? with
    | none => rw [e] at h4; simp at h4
    | some o => rw [e] at h4; exact ⟨o, rfl, by simpa using h4⟩

theorem left_set {l : Array Bool} {i : Nat} (h : l[i]? = some false) : leftB (l.setIfInBounds i true) + 1 = leftB l := by
  unfold leftB
  rw [Array.toList_setIfInBounds]
  exact countP_set (by simpa using h)

/-- The rule: what holds at the start, what each operation that may come up keeps, and what it is worth once all is done. -/
theorem wpAny_inv (I : Array Bool → Act → World → Prop)
    (hstep : ∀ (l : Array Bool) (a : Act) (w : World) (i : Nat), I l a w → i ∈ Region.ready md ops l → wpOp P ops Q i (I (l.setIfInBounds i true)) a w)
    (hend : ∀ (l : Array Bool) (a : Act) (w : World), I l a w → Region.ready md ops l = [] → Q .normal a w) :
    ∀ (fuel : Nat) (l : Array Bool) (a : Act) (w : World), leftB l ≤ fuel → I l a w → wpAny P md ops Q fuel l a w := by
  intro fuel
  induction fuel with
  | zero =>
    intro l a w hl hI
    have hr : Region.ready md ops l = [] := by
      cases e : Region.ready md ops l with
      | nil => rfl
      | cons i t =>
        have hi : i ∈ Region.ready md ops l := by rw [e]; simp
        have := left_set (ready_false hi).1
        omega
    exact ⟨hr, hend l a w hI hr⟩
  | succ fuel ih =>
    intro l a w hl hI
    refine ⟨fun hr => hend l a w hI hr, fun i hi => ?_⟩
    have hlt := left_set (ready_false hi).1
    exact wpOp_mono (fun a' w' h' => ih _ a' w' (by omega) h') (hstep l a w i hI hi)

end
end

section
open Go.RowKit

set_option maxRecDepth 100000 in
theorem pickN_any {w : World} {B : Nat} {a : Option Addr} {n cap : Nat} {zs : List Int} {hi : Nat} (c : Cur w B a n cap zs hi) {g m : Nat} (hg : g ≠ B) (hm : 1 ≤ m ∧ m ≤ 100) (P : Int → Prop) (hc : ∀ i, i < m → ∃ z, w.cell? ⟨g, i, none⟩ = some (.int .i64 z) ∧ P z) :
    Calls Tryz.prog 75 #[.pointer (some ⟨B, 0, none⟩), .slice (some ⟨g, 0, none⟩) m m] w fun e w' => ∃ x : Int, e = .returned (.int .i64 x) ∧ P x ∧ Cur w' B a n cap zs hi ∧ Only B w w' := by
  have HC : Hid (Cur w B a n cap zs hi) := c
  have HCe : Hid (∀ i, i < m → ∃ z, w.cell? ⟨g, i, none⟩ = some (.int .i64 z) ∧ P z) := hc
  have hgl : g < w.heap.size := by
    obtain ⟨z, h, _⟩ := hc 0 (by omega)
    exact World.block_lt_of_cell? w _ h
  clear c hc
  go_enter Tryz.func75, Tryz.ntmps75
  go_wp2_with fail
  refine (l1Below_any HC.out (m : Int) ⟨by omega, by omega⟩).mono ?_
  rintro e w1 ⟨x, rfl, ⟨hx0, hx1⟩, hc, ho⟩
  obtain ⟨i, hi⟩ : ∃ i : Nat, x = (i : Int) := ⟨x.toNat, by omega⟩
  subst hi
  obtain ⟨z, hz, hp⟩ := HCe.out i (by omega)
  have e0 : w1.cell? ⟨g, i, none⟩ = some (.int .i64 z) := (World.cell?_of_block (w := w) (ho.other g hgl hg)).trans hz
  have HC1 : Hid (Cur w1 B a n cap zs hi) := hc
  have HO1 : Hid (Only B w w1) := ho
  have HP : Hid (P z) := hp
  clear hc ho hz hp hx0
  go_wp2_with fail
  go_ret
  exact ⟨_, rfl, HP.out, HC1.out, HO1.out⟩
end

section
open Go.RowKit

theorem uponIn_round_iff {F : Fence} {l n : Nat} {P : Program} {o : Oper} {a : Act} {next : Act → World → Prop} {Q : Exit → Act → World → Prop} {r : Result Next} :
    o.uponIn F n P a next Q r → o.uponIn (F.inRound l) n P a next Q r := by
  intro h
  cases r with
  | ok x w => cases x <;> exact h
  | halt x w => cases x <;> exact h

def plainOp (o : Oper) : Bool := match o.op with | .defer _ => false | _ => true

theorem plainOp_spec {o : Oper} (h : plainOp o = true) : ∀ c, o.op ≠ .defer c := by
  intro c e
  unfold plainOp at h
  rw [e] at h
  simp at h

theorem wpIn_op_round {F : Fence} {l n : Nat} {P : Program} {o : Oper} {a : Act} {w : World} {K : Act → World → Prop} {Q : Exit → Act → World → Prop} (hro : F.round = none) (hp : plainOp o = true) (h : o.wpIn F n P a w K Q) : o.wpIn (F.inRound l) n P a w K Q := by
  unfold Oper.wpIn at *
  refine ⟨h.1, uponIn_round_iff ?_⟩
  have h2 := h.2
  rw [hro, Oper.semAt_none] at h2
  rw [Fence.inRound_round, Oper.semAt_some l _ _ (plainOp_spec hp)]
  exact h2

theorem wpAnyIn_round {F : Fence} {l n : Nat} {P : Program} {md : Region.Mode} {ops : Array Oper} {Q : Exit → Act → World → Prop} (hro : F.round = none) (hp : ∀ (i : Nat) (o : Oper), ops[i]? = some o → plainOp o = true) :
    ∀ (fuel : Nat) (listed : Array Bool) (a : Act) (w : World), wpAnyIn F n P md ops Q fuel listed a w → wpAnyIn (F.inRound l) n P md ops Q fuel listed a w
  | 0, _, _, _, h => h
  | fuel + 1, listed, a, w, h => by
    refine ⟨h.1, fun i hi => ?_⟩
    have h2 := h.2 i hi
    have h3 := wpOpIn_mono (K' := wpAnyIn (F.inRound l) n P md ops Q fuel (listed.setIfInBounds i true)) (fun a w q => wpAnyIn_round hro hp fuel _ a w q) h2
    unfold wpOpIn at *
    split
    · rename_i ho; simp only [ho] at h3; exact h3
    · rename_i o ho
      simp only [ho] at h3
      split
      · rename_i hw; simp only [hw, if_true] at h3; exact wpIn_op_round hro (hp i o ho) h3
      · rename_i hw; simp only [hw] at h3; exact h3

theorem plain_all {ops : Array Oper} (h : ops.toList.all plainOp = true) : ∀ (i : Nat) (o : Oper), ops[i]? = some o → plainOp o = true := by
  intro i o ho
  refine List.all_eq_true.1 h o ?_
  have := Array.getElem?_eq_some_iff.1 ho
  obtain ⟨hi, e⟩ := this
  rw [← e]
  simp

theorem region_round {l n : Nat} {P : Program} {id : Nat} {ops : Array Oper} {Q : Exit → Act → World → Prop} {a : Act} {w : World} (hm : P.follows .mixedOrders = true) (hp : ops.toList.all plainOp = true)
    (h : wpAnyIn Fence.wide n P .any ops Q ops.size (Array.replicate ops.size false) a w.drew) : (Code.region id ops true).wpIn (Fence.wide.inRound l) n P Q a w :=
  wpIn_region_any hm (wpAnyIn_round rfl (plain_all hp) _ _ _ _ h)

theorem stepIn_append_own {F : Fence} {n : Nat} {P : Program} {ops : Array Oper} {o : Oper} {a : Act} {w : World} {K : Act → World → Prop} {Q : Exit → Act → World → Prop} {E : Prop}
    (hro : F.round = none) (hg : o.guard = none) (s x : Operand) (t : TypeId) (hop : o.op = Op.call { callee := Callee.builtin Builtin.append, args := #[s, x], argTypes := #[t, t] }) (ty : TypeId) (hty : o.type = ty)
    (v : Value) (y : Value) (hs : a.eval s = v) (hx : a.eval x = y) (v' : Value) (w' : World) (hrun : (Builtin.append_ #[t, t] ty #[v, y]).run P w = .ok v' w') (hK : K (a.put o.dst v') w') :
    if Region.wanted o (yielded ops a.tmps) = true then Oper.wpIn F n P o a w K Q else E := by
  have hw : Region.wanted o (yielded ops a.tmps) = true := by simp [Region.wanted, hg]
  rw [if_pos hw]
  subst hty
  unfold Oper.wpIn
  refine ⟨?_, ?_⟩
  · simp [Oper.about, hop, resolve, Target.leads, Sem.run_pure]
  · rw [hro, Oper.semAt_none]
    simp [execOp, hop, resolve, invoke, builtin, hs, hx, hrun, Result.andThen]
    exact hK
end

end Go.Proofs.YtnmljalcndfjmaaGreat
