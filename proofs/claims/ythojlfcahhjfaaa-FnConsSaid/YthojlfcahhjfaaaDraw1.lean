/- The document's cursor over the bytes of a draw: what it turns; a number below another one: a contract of each function. -/
import Derived.Test.YthojlfcahhjfaaaNBase
import Derived.Deep.DeepCutAuto
import Derived.Deep.RegionWith
import Derived.RangeFuncRecord
namespace Go.Proofs.Ythojlfcahhjfaaa
open Go.RowKit

/-- The box of a cursor. -/
def BoxCur (W : World) (B : Nat) (v : Value) (i h : Int) : Prop := W.heap[B]? = some (.cells #[v, .int .i64 i, .int .i64 h] 114 (0, 0))
theorem BoxCur.new (W : World) (v : Value) (i h : Int) : BoxCur (W.alloc (.cells #[v, .int .i64 i, .int .i64 h] 114)) W.heap.size v i h := World.alloc_heap_new W _
theorem BoxCur.lt {W : World} {B : Nat} {v : Value} {i h : Int} (q : BoxCur W B v i h) : B < W.heap.size := (Array.getElem?_eq_some_iff.1 q).1
theorem BoxCur.cells {W : World} {B : Nat} {v : Value} {i h : Int} (q : BoxCur W B v i h) : W.cell? ⟨B, 0, none⟩ = some v ∧ W.cell? ⟨B, 1, none⟩ = some (.int .i64 i) ∧ W.cell? ⟨B, 2, none⟩ = some (.int .i64 h) ∧ ∀ o, W.frozen? ⟨B, o, none⟩ = false := by
  unfold BoxCur at q
  refine ⟨?_, ?_, ?_, fun o => ?_⟩ <;> simp [World.cell?, World.frozen?, q]
theorem BoxCur.setH {W : World} {B : Nat} {v : Value} {i h : Int} (q : BoxCur W B v i h) (h' : Int) : BoxCur (W.setCell ⟨B, 2, none⟩ (.int .i64 h')) B v i h' := heap_setCell_same W B 2 _ _ _ q
theorem BoxCur.setI {W : World} {B : Nat} {v : Value} {i h : Int} (q : BoxCur W B v i h) (i' : Int) : BoxCur (W.setCell ⟨B, 1, none⟩ (.int .i64 i')) B v i' h := heap_setCell_same W B 1 _ _ _ q

/-- All that was there is as it was, but for the block B. -/
structure Only (B : Nat) (w w' : World) : Prop where
  below : Below B w w'
  other : ∀ b, b < w.heap.size → b ≠ B → w'.heap[b]? = w.heap[b]?

theorem Only.refl (B : Nat) (w : World) : Only B w w := ⟨Below.refl _ _, fun _ _ _ => rfl⟩
theorem Only.trans {B : Nat} {a b c : World} (h : Only B a b) (k : Only B b c) : Only B a c := ⟨h.below.trans k.below, fun x h1 h2 => (k.other x (Nat.lt_of_lt_of_le h1 h.below.size) h2).trans (h.other x h1 h2)⟩
theorem Only.drew {B : Nat} {w w' : World} (h : Only B w w') : Only B w w'.drew := ⟨h.below.drew, h.other⟩
theorem Only.set {B o : Nat} {w w' : World} (h : Only B w w') (v : Value) : Only B w (w'.setCell ⟨B, o, none⟩ v) :=
  ⟨h.below.setCell (Nat.le_refl _) v, fun b h1 h2 => (Below.heap_setCell w' ⟨B, o, none⟩ v b h2).trans (h.other b h1 h2)⟩

/-- A cursor over these bytes. -/
structure Cur (w : World) (B : Nat) (a : Option Addr) (n cap : Nat) (zs : List Int) (hi : Nat) : Prop where
  box : ∃ (i : Nat) (h : Int), i ≤ n ∧ BoxCur w B (.slice a n cap) i h
  rd : Rd 0 hi w a n cap zs
  le : hi ≤ B

theorem Cur.only {w w' : World} {B : Nat} {a : Option Addr} {n cap : Nat} {zs : List Int} {hi : Nat} (c : Cur w B a n cap zs hi) (i : Nat) (h : Int) (hin : i ≤ n) (hb : BoxCur w' B (.slice a n cap) i h) (o : Only B w w') : Cur w' B a n cap zs hi :=
  ⟨⟨i, h, hin, hb⟩, c.rd.same (fun b _ h2 => o.other b (Nat.lt_of_lt_of_le h2 (by obtain ⟨_, _, _, q⟩ := c.box; have := q.lt; have := c.le; omega)) (by have := c.le; omega)), c.le⟩

theorem and_255 (y : Int) : 0 ≤ bits .and .i64 y 255 ∧ bits .and .i64 y 255 ≤ 255 := by
  have e : ((BitVec.ofInt 64 y) &&& (BitVec.ofInt 64 255)).toNat ≤ 255 := by
    rw [BitVec.toNat_and]
    exact Nat.le_trans Nat.and_le_right (by decide)
  have e2 : bits .and .i64 y 255 = ((((BitVec.ofInt 64 y) &&& (BitVec.ofInt 64 255)).toNat : Nat) : Int) := by
    show IntKind.i64.wrap ((((BitVec.ofInt 64 y) &&& (BitVec.ofInt 64 255)).toNat : Nat) : Int) = _
    rw [wrap_id _ (by omega)]
  rw [e2]
  omega

set_option maxRecDepth 100000 in
set_option maxHeartbeats 4000000 in
theorem l1Byte_any {w : World} {B : Nat} {a : Option Addr} {n cap : Nat} {zs : List Int} {hi : Nat} (c : Cur w B a n cap zs hi) :
    Calls Try.prog 118 #[.pointer (some ⟨B, 0, none⟩)] w fun e w' => ∃ x : Int, e = .returned (.int .i64 x) ∧ (0 ≤ x ∧ x ≤ 255) ∧ Cur w' B a n cap zs hi ∧ Only B w w' := by
  obtain ⟨i, h, hin, hbx⟩ := c.box
  have HC : Hid (Cur w B a n cap zs hi) := c
  have hfit := c.rd.fits
  have hbl := hbx.lt
  obtain ⟨z0, z1, z2, zf⟩ := hbx.cells
  have f2 := zf 2
  have HBX : Hid (BoxCur w B (.slice a n cap) i h) := hbx
  clear c hbx zf
  obtain ⟨h1, hh1⟩ : ∃ h1, h1 = wrap64 (wrap64 (h * 6364136223846793005) + 1442695040888963407) := ⟨_, rfl⟩
  obtain ⟨W1, hW1⟩ : ∃ W1, W1 = w.setCell ⟨B, 2, none⟩ (.int .i64 h1) := ⟨_, rfl⟩
  have HW1 : Hid (W1 = w.setCell ⟨B, 2, none⟩ (.int .i64 (wrap64 (wrap64 (h * 6364136223846793005) + 1442695040888963407)))) := by unfold Hid; rw [hW1, hh1]
  have hbx1 : BoxCur W1 B (.slice a n cap) i h1 := by rw [hW1]; exact HBX.out.setH h1
  have HBX1 : Hid (BoxCur W1 B (.slice a n cap) i h1) := hbx1
  have HO1 : Hid (Only B w W1) := by unfold Hid; rw [hW1]; exact (Only.refl B w).set _
  have HR1 : Hid (Rd 0 hi W1 a n cap zs) := (HC.out.only i h1 hin hbx1 HO1.out).rd
  clear hh1 hW1
  go_enter Try.func118, Try.ntmps118
  go_upto_region 2 with fail
  rw [← HW1.out]
  clear z0 z1 z2 f2
  obtain ⟨z0, z1, z2, zf⟩ := hbx1.cells
  have f1 := zf 1
  clear zf hbx1
  go_cut [3] (fun v W => ∃ x : Int, v = .int .i64 x ∧ (0 ≤ x ∧ x ≤ 255) ∧ W = W1.drew)
  case first =>
    first | go_region | fail
    all_goals
      go_wp2_with fail
      go_meet
      case rel => exact ⟨_, rfl, and_255 _, rfl⟩
  case rest =>
    obtain ⟨x, hv, hx, hw⟩ := hcut
    subst hv
    rw [hw]
    clear hw
    by_cases hlt : i < n
    · have hli : (i : Int) < (n : Int) := by omega
      obtain ⟨bb, off, ea, hcb⟩ : ∃ bb off, a = some ⟨bb, off, none⟩ ∧ W1.cell? ⟨bb, off + i, none⟩ = some (.int .u8 (zs.getD i 0)) := by
        rcases HR1.out.cells with h0 | ⟨bb, off, e, _, _, hc⟩
        · omega
        · exact ⟨bb, off, e, hc i hlt⟩
      subst ea
      have hby := HR1.out.byte i
      obtain ⟨y, hy⟩ : ∃ y, y = zs.getD i 0 := ⟨_, rfl⟩
      rw [← hy] at hcb hby
      clear hy
      go_wp2_with fail
      first | go_region | fail
      all_goals
        go_wp2_with fail
        first | go_region | fail
        all_goals
          go_wp2_with fail
          go_ret
          have hbi : BoxCur (W1.drew.drew.drew.setCell ⟨B, 1, none⟩ (.int .i64 ((i : Int) + 1))) B (.slice (some ⟨bb, off, none⟩) n cap) ((i + 1 : Nat) : Int) h1 := BoxCur.setI (W := W1.drew.drew.drew) HBX1.out _
          have hoi : Only B w (W1.drew.drew.drew.setCell ⟨B, 1, none⟩ (.int .i64 ((i : Int) + 1))) := HO1.out.drew.drew.drew.set _
          exact ⟨_, rfl, and_255 _, HC.out.only (i + 1) h1 (by omega) hbi hoi, hoi⟩
    · have hli : decide ((i : Int) < (n : Int)) = false := by simp; omega
      go_wp2_with fail
      first | go_region | fail
      all_goals
        go_wp2_with fail
        go_ret
        exact ⟨x, rfl, hx, HC.out.only i h1 hin HBX1.out HO1.out.drew.drew, HO1.out.drew.drew⟩

set_option maxRecDepth 100000 in
theorem l1Below_any {w : World} {B : Nat} {a : Option Addr} {n cap : Nat} {zs : List Int} {hi : Nat} (c : Cur w B a n cap zs hi) (m : Int) (hm : 1 ≤ m ∧ m ≤ 256) :
    Calls Try.prog 85 #[.pointer (some ⟨B, 0, none⟩), .int .i64 m] w fun e w' => ∃ x : Int, e = .returned (.int .i64 x) ∧ (0 ≤ x ∧ x < m) ∧ Cur w' B a n cap zs hi ∧ Only B w w' := by
  obtain ⟨hm1, hm2⟩ := hm
  have HC : Hid (Cur w B a n cap zs hi) := c
  clear c
  go_enter Try.func85, Try.ntmps85
  go_wp2_with fail
  refine (l1Byte_any HC.out).mono ?_
  rintro e w1 ⟨x, rfl, hx, hc, ho⟩
  have HC1 : Hid (Cur w1 B a n cap zs hi) := hc
  have HO1 : Hid (Only B w w1) := ho
  obtain ⟨hx0, hx1⟩ := hx
  clear hc ho
  go_wp2_with fail
  go_ret
  exact ⟨x % m, rfl, ⟨Int.emod_nonneg _ (by omega), Int.emod_lt_of_pos _ (by omega)⟩, HC1.out, HO1.out⟩

theorem l1Once_any {w : World} {B : Nat} {a : Option Addr} {n cap : Nat} {zs : List Int} {hi : Nat} (c : Cur w B a n cap zs hi) (m : Int) (hm : 1 ≤ m ∧ m ≤ 256) :
    Calls Try.prog 65 #[.pointer (some ⟨B, 0, none⟩), .int .i64 m] w fun e w' => ∃ x : Bool, e = .returned (.bool x) ∧ Cur w' B a n cap zs hi ∧ Only B w w' := by
  have HC : Hid (Cur w B a n cap zs hi) := c
  clear c
  go_enter Try.func65, Try.ntmps65
  go_wp2_with fail
  refine (l1Below_any HC.out m hm).mono ?_
  rintro e w1 ⟨x, rfl, hx, hc, ho⟩
  have HC1 : Hid (Cur w1 B a n cap zs hi) := hc
  have HO1 : Hid (Only B w w1) := ho
  clear hc ho hx
  go_wp2_with fail
  go_ret
  exact ⟨_, rfl, HC1.out, HO1.out⟩

set_option maxRecDepth 100000 in
set_option maxHeartbeats 1000000 in
/-- A cursor that is made. -/
theorem l1New_any {a : Option Addr} {n cap : Nat} {zs : List Int} {w : World} {hi : Nat} (h : Rd 0 hi w a n cap zs) (hhi : hi ≤ w.heap.size) :
    Calls Try.prog 46 #[.slice a n cap] w fun e w' => e = .returned (.pointer (some ⟨w.heap.size, 0, none⟩)) ∧ Cur w' w.heap.size a n cap zs hi ∧ Below w.heap.size w w' := by
  have HR : Hid (Rd 0 hi w a n cap zs) := h
  have hfit := h.fits
  have hbuild : ∀ (hv : Int) (V : World), (Instr.build 114 #[(0, .slice a n cap), (2, .int .i64 hv)]).run Try.prog V = .ok (.agg #[.slice a n cap, .int .i64 0, .int .i64 hv]) V := fun hv V => run_build V _ _ _ (by kernel_rfl)
  have HFin : Hid (∀ hv : Int, Cur (w.alloc (.cells #[.slice a n cap, .int .i64 0, .int .i64 hv] 114)) w.heap.size a n cap zs hi ∧ Below w.heap.size w (w.alloc (.cells #[.slice a n cap, .int .i64 0, .int .i64 hv] 114))) := fun hv => by
    have hb : Below w.heap.size w (w.alloc (.cells #[.slice a n cap, .int .i64 0, .int .i64 hv] 114)) := (Below.refl _ _).alloc (Nat.le_refl _) _
    exact ⟨⟨⟨0, hv, Nat.zero_le _, BoxCur.new w _ _ _⟩, h.below hb hhi, hhi⟩, hb⟩
  clear h
  go_enter Try.func46, Try.ntmps46
  go_wp2_with fail
  go_loop [3, 4] (fun q i => ∃ (k : Nat) (hv : Int), k ≤ n ∧ k ≤ 4000 ∧ i = .int .i64 k ∧ q = .int .i64 hv) (fun _ i => 4000 - (intOf i).toNat)
  case atStart => exact ⟨0, _, Nat.zero_le _, by omega, rfl, rfl⟩
  case round =>
    obtain ⟨k, hv, hk, hk4, rfl, rfl⟩ := hrel
    by_cases hlt : k < n
    · by_cases hl4 : k < 4000
      · obtain ⟨bb, off, ea, hcb⟩ : ∃ bb off, a = some ⟨bb, off, none⟩ ∧ w.cell? ⟨bb, off + k, none⟩ = some (.int .u8 (zs.getD k 0)) := by
          rcases HR.out.cells with h0 | ⟨bb, off, e, _, _, hc⟩
          · omega
          · exact ⟨bb, off, e, hc k hlt⟩
        subst ea
        have hby := HR.out.byte k
        obtain ⟨y, hy⟩ : ∃ y, y = zs.getD k 0 := ⟨_, rfl⟩
        rw [← hy] at hcb hby
        have hki : (k : Int) < (n : Int) := by omega
        clear hy
        go_wp2_with fail
        go_round
        case rel => exact ⟨k + 1, _, by omega, by omega, by go_num, rfl⟩
        case measure => simp [intOf]; omega
      · have hk5 : k = 4000 := by omega
        have hki : (k : Int) < (n : Int) := by omega
        have hd : decide ((k : Int) < 4000) = false := by simp; omega
        clear hk5
        go_wp2_with fail
        go_ret
        exact ⟨rfl, HFin.out _⟩
    · have hd : decide ((k : Int) < (n : Int)) = false := by simp; omega
      go_wp2_with fail
      all_goals
        go_ret
        exact ⟨rfl, HFin.out _⟩

end Go.Proofs.Ythojlfcahhjfaaa
