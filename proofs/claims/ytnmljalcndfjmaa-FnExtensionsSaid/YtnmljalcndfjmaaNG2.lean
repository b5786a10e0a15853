/- Several texts in one: CmpB, Draw1, Toks, DrawPick. -/
import Derived.Test.YtnmljalcndfjmaaNG1
import Derived.Lib.BytesEntry
import Derived.Deep.DeepCutAuto
import Derived.Deep.RegionWith
import Derived.RangeFuncRecord
namespace Go.Proofs.Ytnmljalcndfjmaa

section
open Go.RowKit

/-- -1, 0, 1: by their bytes. -/
def cmpZ (xs ys : List Int) : Int := Lib.compareBytes (strOfNums xs).toList (strOfNums ys).toList

theorem bytesOf_any {a : Option Addr} {n cap : Nat} {zs : List Int} {w : World} {lo hi : Nat} (h : Rd lo hi w a n cap zs) : (Extern.Bytes.bytesOf (.slice a n cap)).run Try.prog w = .ok (strOfNums zs) w := by
  rcases h.cells with h0 | ⟨b, off, rfl, _, _, hc⟩
  · subst h0
    have hz : zs = [] := List.eq_nil_of_length_eq_zero h.len
    subst hz
    cases a with
    | none => rfl
    | some a => rfl
  · have hl := Lib.run_loadBytesX (P := Try.prog) w zs ⟨b, off, none⟩ .empty (fun j x hj => by
      have hjl : j < zs.length := (List.getElem?_eq_some_iff.1 hj).1
      have e : (⟨b, off, none⟩ : Addr).add j = ⟨b, off + j, none⟩ := by unfold Addr.add; split <;> simp_all
      rw [e, hc j (by have := h.len; omega), List.getD_eq_getElem?_getD, hj]
      rfl)
    rw [h.len] at hl
    show (Extern.Bytes.loadBytes ⟨b, off, none⟩ n .empty).run Try.prog w = _
    rw [hl]
    congr 1
    apply ByteArray.ext
    show (#[] : Array UInt8) ++ (Lib.bytesOf zs).toArray = _
    simp [Lib.bytesOf, strOfNums]

theorem compare_run {a a' : Option Addr} {n cap n' cap' : Nat} {xs ys : List Int} {w : World} {lo hi lo' hi' : Nat} (h : Rd lo hi w a n cap xs) (h' : Rd lo' hi' w a' n' cap' ys) :
    (Extern.BytealgCompare.compare #[.slice a n cap, .slice a' n' cap']).run Try.prog w = .ok (.int .i64 (cmpZ xs ys)) w := by
  change Sem.run Try.prog (do pure (goInt (Extern.BytealgCompare.cmp (← Extern.Bytes.bytesOf (.slice a n cap)) (← Extern.Bytes.bytesOf (.slice a' n' cap'))))) w = _
  simp only [Sem.run_bind, Sem.run_pure, bytesOf_any h, bytesOf_any h', Result.andThen]
  rw [Lib.cmp_eq]
  unfold cmpZ
  rw [ByteArray.toList_eq, ByteArray.toList_eq]
  rfl

set_option maxHeartbeats 1000000 in
set_option maxRecDepth 100000 in
theorem bytesCompare_any {a a' : Option Addr} {n cap n' cap' : Nat} {xs ys : List Int} {w : World} {lo hi lo' hi' : Nat} (h : Rd lo hi w a n cap xs) (h' : Rd lo' hi' w a' n' cap' ys) :
    Calls Try.prog 67 #[.slice a n cap, .slice a' n' cap'] w fun e w' => e = .returned (.int .i64 (cmpZ xs ys)) ∧ w' = w := by
  have HC : Hid ((Extern.BytealgCompare.compare #[.slice a n cap, .slice a' n' cap']).run Try.prog w = .ok (.int .i64 (cmpZ xs ys)) w) := compare_run h h'
  clear h h'
  go_enter Try.func67, Try.ntmps67
  go_wp2
  rw [run_callFunc_extern Try.func80 (by kernel_rfl) (by kernel_rfl) (by kernel_rfl) (e := Extern.BytealgCompare.compare) (by kernel_rfl), HC.out]
  simp only [Result.andThen]
  rw [Oper.upon_value]
  go_wp2
  go_ret
  exact ⟨rfl, rfl⟩

theorem less_cmp : ∀ (a b : List UInt8), (if Op.bytesLess a b = true then (-1 : Int) else if Op.bytesLess b a = true then 1 else 0) = Lib.compareBytes a b
  | [], [] => by simp [Op.bytesLess, Lib.compareBytes]
  | [], b :: ys => by simp [Op.bytesLess, Lib.compareBytes]
  | a :: xs, [] => by simp [Op.bytesLess, Lib.compareBytes]
  | a :: xs, b :: ys => by
    have ih := less_cmp xs ys
    rw [Lib.compareBytes, ← ih]
    by_cases h1 : a < b
    · simp [Op.bytesLess, h1]
    · by_cases h2 : b < a
      · have hne : ¬ a = b := fun e => by subst e; exact h1 h2
        simp [Op.bytesLess, h1, h2, hne]
      · have he : a = b := UInt8.le_antisymm (UInt8.not_lt.1 h2) (UInt8.not_lt.1 h1)
        subst he
        simp [Op.bytesLess]

theorem less_self : ∀ a : List UInt8, Op.bytesLess a a = false
  | [] => rfl
  | a :: xs => by simp [Op.bytesLess, less_self xs, UInt8.lt_irrefl]

theorem less_tri : ∀ a b : List UInt8, Op.bytesLess a b = false → (a == b) = false → Op.bytesLess b a = true
  | [], [], _, h => by simp at h
  | [], b :: ys, h, _ => by simp [Op.bytesLess] at h
  | a :: xs, [], _, _ => by simp [Op.bytesLess]
  | a :: xs, b :: ys, h1, h2 => by
    have ih := less_tri xs ys
    by_cases h3 : a < b
    · simp [Op.bytesLess, h3] at h1
    · by_cases h4 : b < a
      · simp [Op.bytesLess, h4]
      · have he : a = b := UInt8.le_antisymm (UInt8.not_lt.1 h4) (UInt8.not_lt.1 h3)
        subst he
        simp [Op.bytesLess] at h1 h2 ⊢
        exact ih h1 (by simpa using h2)
end

section
open Go.RowKit

/-- The box of a cursor. -/
def BoxCur (W : World) (B : Nat) (v : Value) (i h : Int) : Prop := W.heap[B]? = some (.cells #[v, .int .i64 i, .int .i64 h] 63 (0, 0))
theorem BoxCur.new (W : World) (v : Value) (i h : Int) : BoxCur (W.alloc (.cells #[v, .int .i64 i, .int .i64 h] 63)) W.heap.size v i h := World.alloc_heap_new W _
theorem BoxCur.lt {W : World} {B : Nat} {v : Value} {i h : Int} (q : BoxCur W B v i h) : B < W.heap.size := (Array.getElem?_eq_some_iff.1 q).1
theorem BoxCur.cells {W : World} {B : Nat} {v : Value} {i h : Int} (q : BoxCur W B v i h) : W.cell? ⟨B, 0, none⟩ = some v ∧ W.cell? ⟨B, 1, none⟩ = some (.int .i64 i) ∧ W.cell? ⟨B, 2, none⟩ = some (.int .i64 h) ∧ ∀ o, W.frozen? ⟨B, o, none⟩ = false := by
  unfold BoxCur at q
  refine ⟨?_, ?_, ?_, fun o => ?_⟩ <;> simp [World.cell?, World.frozen?, q]
theorem BoxCur.setH {W : World} {B : Nat} {v : Value} {i h : Int} (q : BoxCur W B v i h) (h' : Int) : BoxCur (W.setCell ⟨B, 2, none⟩ (.int .i64 h')) B v i h' := heap_setCell_same W B 2 _ _ _ q
theorem BoxCur.setI {W : World} {B : Nat} {v : Value} {i h : Int} (q : BoxCur W B v i h) (i' : Int) : BoxCur (W.setCell ⟨B, 1, none⟩ (.int .i64 i')) B v i' h := heap_setCell_same W B 1 _ _ _ q

/-- All that was there is as it was, but for the block B. -/
structure Only (B : Nat) (w w' : World) : Prop where
  below : Below B w w'
  other : ∀ b, b < w.heap.size → b ≠ B → w'.heap[b]? = w.heap[b]?

theorem Only.refl (B : Nat) (w : World) : Only B w w := ⟨Below.refl _ _, fun _ _ _ => rfl⟩
theorem Only.trans {B : Nat} {a b c : World} (h : Only B a b) (k : Only B b c) : Only B a c := ⟨h.below.trans k.below, fun x h1 h2 => (k.other x (Nat.lt_of_lt_of_le h1 h.below.size) h2).trans (h.other x h1 h2)⟩
theorem Only.drew {B : Nat} {w w' : World} (h : Only B w w') : Only B w w'.drew := ⟨h.below.drew, h.other⟩
theorem Only.set {B o : Nat} {w w' : World} (h : Only B w w') (v : Value) : Only B w (w'.setCell ⟨B, o, none⟩ v) :=
  ⟨h.below.setCell (Nat.le_refl _) v, fun b h1 h2 => (Below.heap_setCell w' ⟨B, o, none⟩ v b h2).trans (h.other b h1 h2)⟩

/-- A cursor over these bytes. -/
structure Cur (w : World) (B : Nat) (a : Option Addr) (n cap : Nat) (zs : List Int) (hi : Nat) : Prop where
  box : ∃ (i : Nat) (h : Int), i ≤ n ∧ BoxCur w B (.slice a n cap) i h
  rd : Rd 0 hi w a n cap zs
  le : hi ≤ B

theorem Cur.only {w w' : World} {B : Nat} {a : Option Addr} {n cap : Nat} {zs : List Int} {hi : Nat} (c : Cur w B a n cap zs hi) (i : Nat) (h : Int) (hin : i ≤ n) (hb : BoxCur w' B (.slice a n cap) i h) (o : Only B w w') : Cur w' B a n cap zs hi :=
  ⟨⟨i, h, hin, hb⟩, c.rd.same (fun b _ h2 => o.other b (Nat.lt_of_lt_of_le h2 (by obtain ⟨_, _, _, q⟩ := c.box; have := q.lt; have := c.le; omega)) (by have := c.le; omega)), c.le⟩

theorem and_255 (y : Int) : 0 ≤ bits .and .i64 y 255 ∧ bits .and .i64 y 255 ≤ 255 := by
  have e : ((BitVec.ofInt 64 y) &&& (BitVec.ofInt 64 255)).toNat ≤ 255 := by
    rw [BitVec.toNat_and]
    exact Nat.le_trans Nat.and_le_right (by decide)
  have e2 : bits .and .i64 y 255 = ((((BitVec.ofInt 64 y) &&& (BitVec.ofInt 64 255)).toNat : Nat) : Int) := by
    show IntKind.i64.wrap ((((BitVec.ofInt 64 y) &&& (BitVec.ofInt 64 255)).toNat : Nat) : Int) = _
    rw [wrap_id _ (by omega)]
  rw [e2]
  omega

set_option maxRecDepth 100000 in
set_option maxHeartbeats 4000000 in
theorem l1Byte_any {w : World} {B : Nat} {a : Option Addr} {n cap : Nat} {zs : List Int} {hi : Nat} (c : Cur w B a n cap zs hi) :
    Calls Try.prog 58 #[.pointer (some ⟨B, 0, none⟩)] w fun e w' => ∃ x : Int, e = .returned (.int .i64 x) ∧ (0 ≤ x ∧ x ≤ 255) ∧ Cur w' B a n cap zs hi ∧ Only B w w' := by
  obtain ⟨i, h, hin, hbx⟩ := c.box
  have HC : Hid (Cur w B a n cap zs hi) := c
  have hfit := c.rd.fits
  have hbl := hbx.lt
  obtain ⟨z0, z1, z2, zf⟩ := hbx.cells
  have f2 := zf 2
  have HBX : Hid (BoxCur w B (.slice a n cap) i h) := hbx
  clear c hbx zf
  obtain ⟨h1, hh1⟩ : ∃ h1, h1 = wrap64 (wrap64 (h * 6364136223846793005) + 1442695040888963407) := ⟨_, rfl⟩
  obtain ⟨W1, hW1⟩ : ∃ W1, W1 = w.setCell ⟨B, 2, none⟩ (.int .i64 h1) := ⟨_, rfl⟩
  have HW1 : Hid (W1 = w.setCell ⟨B, 2, none⟩ (.int .i64 (wrap64 (wrap64 (h * 6364136223846793005) + 1442695040888963407)))) := by unfold Hid; rw [hW1, hh1]
  have hbx1 : BoxCur W1 B (.slice a n cap) i h1 := by rw [hW1]; exact HBX.out.setH h1
  have HBX1 : Hid (BoxCur W1 B (.slice a n cap) i h1) := hbx1
  have HO1 : Hid (Only B w W1) := by unfold Hid; rw [hW1]; exact (Only.refl B w).set _
  have HR1 : Hid (Rd 0 hi W1 a n cap zs) := (HC.out.only i h1 hin hbx1 HO1.out).rd
  clear hh1 hW1
  go_enter Try.func58, Try.ntmps58
  go_upto_region 2 with fail
  rw [← HW1.out]
  clear z0 z1 z2 f2
  obtain ⟨z0, z1, z2, zf⟩ := hbx1.cells
  have f1 := zf 1
  clear zf hbx1
  go_cut [3] (fun v W => ∃ x : Int, v = .int .i64 x ∧ (0 ≤ x ∧ x ≤ 255) ∧ W = W1.drew)
  case first =>
    first | go_region | fail
    all_goals
      go_wp2_with fail
      go_meet
      case rel => exact ⟨_, rfl, and_255 _, rfl⟩
  case rest =>
    obtain ⟨x, hv, hx, hw⟩ := hcut
    subst hv
    rw [hw]
    clear hw
    by_cases hlt : i < n
    · have hli : (i : Int) < (n : Int) := by omega
      obtain ⟨bb, off, ea, hcb⟩ : ∃ bb off, a = some ⟨bb, off, none⟩ ∧ W1.cell? ⟨bb, off + i, none⟩ = some (.int .u8 (zs.getD i 0)) := by
        rcases HR1.out.cells with h0 | ⟨bb, off, e, _, _, hc⟩
        · omega
        · exact ⟨bb, off, e, hc i hlt⟩
      subst ea
      have hby := HR1.out.byte i
      obtain ⟨y, hy⟩ : ∃ y, y = zs.getD i 0 := ⟨_, rfl⟩
      rw [← hy] at hcb hby
      clear hy
      go_wp2_with fail
      first | go_region | fail
      all_goals
        go_wp2_with fail
        first | go_region | fail
        all_goals
          go_wp2_with fail
          go_ret
          have hbi : BoxCur (W1.drew.drew.drew.setCell ⟨B, 1, none⟩ (.int .i64 ((i : Int) + 1))) B (.slice (some ⟨bb, off, none⟩) n cap) ((i + 1 : Nat) : Int) h1 := BoxCur.setI (W := W1.drew.drew.drew) HBX1.out _
          have hoi : Only B w (W1.drew.drew.drew.setCell ⟨B, 1, none⟩ (.int .i64 ((i : Int) + 1))) := HO1.out.drew.drew.drew.set _
          exact ⟨_, rfl, and_255 _, HC.out.only (i + 1) h1 (by omega) hbi hoi, hoi⟩
    · have hli : decide ((i : Int) < (n : Int)) = false := by simp; omega
      go_wp2_with fail
      first | go_region | fail
      all_goals
        go_wp2_with fail
        go_ret
        exact ⟨x, rfl, hx, HC.out.only i h1 hin HBX1.out HO1.out.drew.drew, HO1.out.drew.drew⟩

set_option maxRecDepth 100000 in
theorem l1Below_any {w : World} {B : Nat} {a : Option Addr} {n cap : Nat} {zs : List Int} {hi : Nat} (c : Cur w B a n cap zs hi) (m : Int) (hm : 1 ≤ m ∧ m ≤ 256) :
    Calls Try.prog 28 #[.pointer (some ⟨B, 0, none⟩), .int .i64 m] w fun e w' => ∃ x : Int, e = .returned (.int .i64 x) ∧ (0 ≤ x ∧ x < m) ∧ Cur w' B a n cap zs hi ∧ Only B w w' := by
  obtain ⟨hm1, hm2⟩ := hm
  have HC : Hid (Cur w B a n cap zs hi) := c
  clear c
  go_enter Try.func28, Try.ntmps28
  go_wp2_with fail
  refine (l1Byte_any HC.out).mono ?_
  rintro e w1 ⟨x, rfl, hx, hc, ho⟩
  have HC1 : Hid (Cur w1 B a n cap zs hi) := hc
  have HO1 : Hid (Only B w w1) := ho
  obtain ⟨hx0, hx1⟩ := hx
  clear hc ho
  go_wp2_with fail
  go_ret
  exact ⟨x % m, rfl, ⟨Int.emod_nonneg _ (by omega), Int.emod_lt_of_pos _ (by omega)⟩, HC1.out, HO1.out⟩

theorem l1Once_any {w : World} {B : Nat} {a : Option Addr} {n cap : Nat} {zs : List Int} {hi : Nat} (c : Cur w B a n cap zs hi) (m : Int) (hm : 1 ≤ m ∧ m ≤ 256) :
    Calls Try.prog 27 #[.pointer (some ⟨B, 0, none⟩), .int .i64 m] w fun e w' => ∃ x : Bool, e = .returned (.bool x) ∧ Cur w' B a n cap zs hi ∧ Only B w w' := by
  have HC : Hid (Cur w B a n cap zs hi) := c
  clear c
  go_enter Try.func27, Try.ntmps27
  go_wp2_with fail
  refine (l1Below_any HC.out m hm).mono ?_
  rintro e w1 ⟨x, rfl, hx, hc, ho⟩
  have HC1 : Hid (Cur w1 B a n cap zs hi) := hc
  have HO1 : Hid (Only B w w1) := ho
  clear hc ho hx
  go_wp2_with fail
  go_ret
  exact ⟨_, rfl, HC1.out, HO1.out⟩

set_option maxRecDepth 100000 in
set_option maxHeartbeats 1000000 in
/-- A cursor that is made. -/
theorem l1New_any {a : Option Addr} {n cap : Nat} {zs : List Int} {w : World} {hi : Nat} (h : Rd 0 hi w a n cap zs) (hhi : hi ≤ w.heap.size) :
    Calls Try.prog 11 #[.slice a n cap] w fun e w' => e = .returned (.pointer (some ⟨w.heap.size, 0, none⟩)) ∧ Cur w' w.heap.size a n cap zs hi ∧ Below w.heap.size w w' := by
  have HR : Hid (Rd 0 hi w a n cap zs) := h
  have hfit := h.fits
  have hbuild : ∀ (hv : Int) (V : World), (Instr.build 63 #[(0, .slice a n cap), (2, .int .i64 hv)]).run Try.prog V = .ok (.agg #[.slice a n cap, .int .i64 0, .int .i64 hv]) V := fun hv V => run_build V _ _ _ (by kernel_rfl)
  have HFin : Hid (∀ hv : Int, Cur (w.alloc (.cells #[.slice a n cap, .int .i64 0, .int .i64 hv] 63)) w.heap.size a n cap zs hi ∧ Below w.heap.size w (w.alloc (.cells #[.slice a n cap, .int .i64 0, .int .i64 hv] 63))) := fun hv => by
    have hb : Below w.heap.size w (w.alloc (.cells #[.slice a n cap, .int .i64 0, .int .i64 hv] 63)) := (Below.refl _ _).alloc (Nat.le_refl _) _
    exact ⟨⟨⟨0, hv, Nat.zero_le _, BoxCur.new w _ _ _⟩, h.below hb hhi, hhi⟩, hb⟩
  clear h
  go_enter Try.func11, Try.ntmps11
  go_wp2_with fail
  go_loop [3, 4] (fun q i => ∃ (k : Nat) (hv : Int), k ≤ n ∧ k ≤ 4000 ∧ i = .int .i64 k ∧ q = .int .i64 hv) (fun _ i => 4000 - (intOf i).toNat)
  case atStart => exact ⟨0, _, Nat.zero_le _, by omega, rfl, rfl⟩
  case round =>
    obtain ⟨k, hv, hk, hk4, rfl, rfl⟩ := hrel
    by_cases hlt : k < n
    · by_cases hl4 : k < 4000
      · obtain ⟨bb, off, ea, hcb⟩ : ∃ bb off, a = some ⟨bb, off, none⟩ ∧ w.cell? ⟨bb, off + k, none⟩ = some (.int .u8 (zs.getD k 0)) := by
          rcases HR.out.cells with h0 | ⟨bb, off, e, _, _, hc⟩
          · omega
          · exact ⟨bb, off, e, hc k hlt⟩
        subst ea
        have hby := HR.out.byte k
        obtain ⟨y, hy⟩ : ∃ y, y = zs.getD k 0 := ⟨_, rfl⟩
        rw [← hy] at hcb hby
        have hki : (k : Int) < (n : Int) := by omega
        clear hy
        go_wp2_with fail
        go_round
        case rel => exact ⟨k + 1, _, by omega, by omega, by go_num, rfl⟩
        case measure => simp [intOf]; omega
      · have hk5 : k = 4000 := by omega
        have hki : (k : Int) < (n : Int) := by omega
        have hd : decide ((k : Int) < 4000) = false := by simp; omega
        clear hk5
        go_wp2_with fail
        go_ret
        exact ⟨rfl, HFin.out _⟩
    · have hd : decide ((k : Int) < (n : Int)) = false := by simp; omega
      go_wp2_with fail
      all_goals
        go_ret
        exact ⟨rfl, HFin.out _⟩
end

section
open Go.RowKit

/-- A token: its kind, its place, the bytes of its text. -/
structure Tok where
  kind : Int
  place : Int
  text : List Int

def Tok.zero : Tok := ⟨0, 0, []⟩

/-- A slice's value reads as these tokens. -/
structure RdT (lo hi : Nat) (w : World) (a : Option Addr) (n cap : Nat) (ts : List Tok) : Prop where
  len : ts.length = n
  fits : n ≤ cap ∧ cap ≤ 9223372036854775807
  cells : n = 0 ∨ ∃ b off, a = some ⟨b, off, none⟩ ∧ lo ≤ b ∧ b < hi ∧ ∀ i, i < n → ∃ ta tn tc,
    w.cell? ⟨b, off + i * 3, none⟩ = some (.int .i64 (ts.getD i Tok.zero).kind) ∧ w.cell? ⟨b, off + i * 3 + 1, none⟩ = some (.int .i64 (ts.getD i Tok.zero).place) ∧
    w.cell? ⟨b, off + i * 3 + 2, none⟩ = some (.slice ta tn tc) ∧ Rd lo hi w ta tn tc (ts.getD i Tok.zero).text

theorem RdT.same {lo hi : Nat} {w w' : World} {a : Option Addr} {n cap : Nat} {ts : List Tok} (h : RdT lo hi w a n cap ts) (hs : Same lo hi w w') : RdT lo hi w' a n cap ts := by
  obtain ⟨hl, hm, hc⟩ := h
  refine ⟨hl, hm, ?_⟩
  rcases hc with h0 | ⟨b, off, e, h1, h2, hc⟩
  · exact .inl h0
  · refine .inr ⟨b, off, e, h1, h2, fun i hi => ?_⟩
    obtain ⟨ta, tn, tc, c1, c2, c3, c4⟩ := hc i hi
    exact ⟨ta, tn, tc, (hs.cell (p := ⟨b, _, none⟩) h1 h2).trans c1, (hs.cell (p := ⟨b, _, none⟩) h1 h2).trans c2, (hs.cell (p := ⟨b, _, none⟩) h1 h2).trans c3, c4.same hs⟩

/-! ### marking -/

/-- Where a slice of tokens has its numbers and its bytes: block and place of each text, and how long it is. -/
def leafT (b off : Nat) (tx : Nat → Nat × Nat × Nat) (n : Nat) : List (Addr × IntKind) :=
  (List.range n).flatMap (fun i => (⟨b, off + i * 3, none⟩, .i64) :: (⟨b, off + i * 3 + 1, none⟩, .i64) :: leafB (tx i).1 (tx i).2.1 (tx i).2.2)

theorem leafT_succ (b off : Nat) (tx : Nat → Nat × Nat × Nat) (n : Nat) :
    leafT b off tx (n + 1) = leafT b off tx n ++ ((⟨b, off + n * 3, none⟩, .i64) :: (⟨b, off + n * 3 + 1, none⟩, .i64) :: leafB (tx n).1 (tx n).2.1 (tx n).2.2) := by
  simp [leafT, List.range_succ]

/-- The text of each token is a slice that leads where 'tx' says. -/
def HeadT (w : World) (b off : Nat) (tx : Nat → Nat × Nat × Nat) (n : Nat) : Prop :=
  ∀ i, i < n → ∃ ta tc, w.cell? ⟨b, off + i * 3 + 2, none⟩ = some (.slice ta (tx i).2.2 tc) ∧ ((tx i).2.2 = 0 ∨ ta = some ⟨(tx i).1, (tx i).2.1, none⟩) ∧ (tx i).2.2 ≤ 1048576

theorem HeadT.marks {b off n : Nat} {tx : Nat → Nat × Nat × Nat} {L : List (Addr × IntKind)} : ∀ {w : World}, HeadT w b off tx n → LeafOk w L → ∀ k, HeadT (marks w L k) b off tx n := by
  induction L with
  | nil => intro w h _ k; exact h
  | cons x L ih =>
    intro w h hL k
    obtain ⟨a, kd⟩ := x
    obtain ⟨⟨m, hm⟩, hf⟩ := hL (a, kd) (by simp)
    have h1' := hL.set hm (kd.wrap k)
    refine ih (fun i hi => ?_) (fun x hx => h1' x (by simp [hx])) (k + 1)
    obtain ⟨ta, tc, hc, r⟩ := h i hi
    refine ⟨ta, tc, ?_, r⟩
    rw [World.cell?_setCell_other _ _ _ _ (fun e => by rw [e] at hm; rw [hm] at hc; simp at hc)]
    exact hc
end

section
open Go.RowKit

set_option maxRecDepth 100000 in
theorem pickN_any {w : World} {B : Nat} {a : Option Addr} {n cap : Nat} {zs : List Int} {hi : Nat} (c : Cur w B a n cap zs hi) {g m : Nat} (hg : g ≠ B) (hm : 1 ≤ m ∧ m ≤ 100) (P : Int → Prop) (hc : ∀ i, i < m → ∃ z, w.cell? ⟨g, i, none⟩ = some (.int .i64 z) ∧ P z) :
    Calls Try.prog 29 #[.pointer (some ⟨B, 0, none⟩), .slice (some ⟨g, 0, none⟩) m m] w fun e w' => ∃ x : Int, e = .returned (.int .i64 x) ∧ P x ∧ Cur w' B a n cap zs hi ∧ Only B w w' := by
  have HC : Hid (Cur w B a n cap zs hi) := c
  have HCe : Hid (∀ i, i < m → ∃ z, w.cell? ⟨g, i, none⟩ = some (.int .i64 z) ∧ P z) := hc
  have hgl : g < w.heap.size := by
    obtain ⟨z, h, _⟩ := hc 0 (by omega)
    exact World.block_lt_of_cell? w _ h
  clear c hc
  go_enter Try.func29, Try.ntmps29
  go_wp2_with fail
  refine (l1Below_any HC.out (m : Int) ⟨by omega, by omega⟩).mono ?_
  rintro e w1 ⟨x, rfl, ⟨hx0, hx1⟩, hc, ho⟩
  obtain ⟨i, hi⟩ : ∃ i : Nat, x = (i : Int) := ⟨x.toNat, by omega⟩
  subst hi
  obtain ⟨z, hz, hp⟩ := HCe.out i (by omega)
  have e0 : w1.cell? ⟨g, i, none⟩ = some (.int .i64 z) := (World.cell?_of_block (w := w) (ho.other g hgl hg)).trans hz
  have HC1 : Hid (Cur w1 B a n cap zs hi) := hc
  have HO1 : Hid (Only B w w1) := ho
  have HP : Hid (P z) := hp
  clear hc ho hz hp hx0
  go_wp2_with fail
  go_ret
  exact ⟨_, rfl, HP.out, HC1.out, HO1.out⟩
end

end Go.Proofs.Ytnmljalcndfjmaa
