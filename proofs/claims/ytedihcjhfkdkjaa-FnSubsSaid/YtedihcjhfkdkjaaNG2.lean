/- Several texts in one: Draw1, TTTo, Rounds, WdMem, Draw4, RoundsH. -/
import Derived.Test.YtedihcjhfkdkjaaNG1
import Derived.Deep.DeepCutAuto
import Derived.Deep.RegionWith
import Derived.RangeFuncRecord
import Derived.RangeFuncNested
import Derived.RangeFuncCalls
import Derived.OwnWalkIn
import Derived.Shelf.RegionOpen
import Derived.Laws.AppendOwn
import Derived.Deep.RegionHeldLaw
import Derived.Deep.AppendLies
namespace Go.Proofs.Ytedihcjhfkdkjaa

section
open Go.RowKit

/-- The box of a cursor. -/
def BoxCur (W : World) (B : Nat) (v : Value) (i h : Int) : Prop := W.heap[B]? = some (.cells #[v, .int .i64 i, .int .i64 h] 64 (0, 0))
theorem BoxCur.new (W : World) (v : Value) (i h : Int) : BoxCur (W.alloc (.cells #[v, .int .i64 i, .int .i64 h] 64)) W.heap.size v i h := World.alloc_heap_new W _
theorem BoxCur.lt {W : World} {B : Nat} {v : Value} {i h : Int} (q : BoxCur W B v i h) : B < W.heap.size := (Array.getElem?_eq_some_iff.1 q).1
theorem BoxCur.cells {W : World} {B : Nat} {v : Value} {i h : Int} (q : BoxCur W B v i h) : W.cell? ⟨B, 0, none⟩ = some v ∧ W.cell? ⟨B, 1, none⟩ = some (.int .i64 i) ∧ W.cell? ⟨B, 2, none⟩ = some (.int .i64 h) ∧ ∀ o, W.frozen? ⟨B, o, none⟩ = false := by
  unfold BoxCur at q
  refine ⟨?_, ?_, ?_, fun o => ?_⟩ <;> simp [World.cell?, World.frozen?, q]
theorem BoxCur.setH {W : World} {B : Nat} {v : Value} {i h : Int} (q : BoxCur W B v i h) (h' : Int) : BoxCur (W.setCell ⟨B, 2, none⟩ (.int .i64 h')) B v i h' := heap_setCell_same W B 2 _ _ _ q
theorem BoxCur.setI {W : World} {B : Nat} {v : Value} {i h : Int} (q : BoxCur W B v i h) (i' : Int) : BoxCur (W.setCell ⟨B, 1, none⟩ (.int .i64 i')) B v i' h := heap_setCell_same W B 1 _ _ _ q

/-- All that was there is as it was, but for the block B. -/
structure Only (B : Nat) (w w' : World) : Prop where
  below : Below B w w'
  other : ∀ b, b < w.heap.size → b ≠ B → w'.heap[b]? = w.heap[b]?

theorem Only.refl (B : Nat) (w : World) : Only B w w := ⟨Below.refl _ _, fun _ _ _ => rfl⟩
theorem Only.trans {B : Nat} {a b c : World} (h : Only B a b) (k : Only B b c) : Only B a c := ⟨h.below.trans k.below, fun x h1 h2 => (k.other x (Nat.lt_of_lt_of_le h1 h.below.size) h2).trans (h.other x h1 h2)⟩
theorem Only.drew {B : Nat} {w w' : World} (h : Only B w w') : Only B w w'.drew := ⟨h.below.drew, h.other⟩
theorem Only.set {B o : Nat} {w w' : World} (h : Only B w w') (v : Value) : Only B w (w'.setCell ⟨B, o, none⟩ v) :=
  ⟨h.below.setCell (Nat.le_refl _) v, fun b h1 h2 => (Below.heap_setCell w' ⟨B, o, none⟩ v b h2).trans (h.other b h1 h2)⟩

/-- A cursor over these bytes. -/
structure Cur (w : World) (B : Nat) (a : Option Addr) (n cap : Nat) (zs : List Int) (hi : Nat) : Prop where
  box : ∃ (i : Nat) (h : Int), i ≤ n ∧ BoxCur w B (.slice a n cap) i h
  rd : Rd 0 hi w a n cap zs
  le : hi ≤ B

theorem Cur.only {w w' : World} {B : Nat} {a : Option Addr} {n cap : Nat} {zs : List Int} {hi : Nat} (c : Cur w B a n cap zs hi) (i : Nat) (h : Int) (hin : i ≤ n) (hb : BoxCur w' B (.slice a n cap) i h) (o : Only B w w') : Cur w' B a n cap zs hi :=
  ⟨⟨i, h, hin, hb⟩, c.rd.same (fun b _ h2 => o.other b (Nat.lt_of_lt_of_le h2 (by obtain ⟨_, _, _, q⟩ := c.box; have := q.lt; have := c.le; omega)) (by have := c.le; omega)), c.le⟩

theorem and_255 (y : Int) : 0 ≤ bits .and .i64 y 255 ∧ bits .and .i64 y 255 ≤ 255 := by
  have e : ((BitVec.ofInt 64 y) &&& (BitVec.ofInt 64 255)).toNat ≤ 255 := by
    rw [BitVec.toNat_and]
    exact Nat.le_trans Nat.and_le_right (by decide)
  have e2 : bits .and .i64 y 255 = ((((BitVec.ofInt 64 y) &&& (BitVec.ofInt 64 255)).toNat : Nat) : Int) := by
    show IntKind.i64.wrap ((((BitVec.ofInt 64 y) &&& (BitVec.ofInt 64 255)).toNat : Nat) : Int) = _
    rw [wrap_id _ (by omega)]
  rw [e2]
  omega

set_option maxRecDepth 100000 in
set_option maxHeartbeats 4000000 in
theorem l1Byte_any {w : World} {B : Nat} {a : Option Addr} {n cap : Nat} {zs : List Int} {hi : Nat} (c : Cur w B a n cap zs hi) :
    Calls Try.prog 57 #[.pointer (some ⟨B, 0, none⟩)] w fun e w' => ∃ x : Int, e = .returned (.int .i64 x) ∧ (0 ≤ x ∧ x ≤ 255) ∧ Cur w' B a n cap zs hi ∧ Only B w w' := by
  obtain ⟨i, h, hin, hbx⟩ := c.box
  have HC : Hid (Cur w B a n cap zs hi) := c
  have hfit := c.rd.fits
  have hbl := hbx.lt
  obtain ⟨z0, z1, z2, zf⟩ := hbx.cells
  have f2 := zf 2
  have HBX : Hid (BoxCur w B (.slice a n cap) i h) := hbx
  clear c hbx zf
  obtain ⟨h1, hh1⟩ : ∃ h1, h1 = wrap64 (wrap64 (h * 6364136223846793005) + 1442695040888963407) := ⟨_, rfl⟩
  obtain ⟨W1, hW1⟩ : ∃ W1, W1 = w.setCell ⟨B, 2, none⟩ (.int .i64 h1) := ⟨_, rfl⟩
  have HW1 : Hid (W1 = w.setCell ⟨B, 2, none⟩ (.int .i64 (wrap64 (wrap64 (h * 6364136223846793005) + 1442695040888963407)))) := by unfold Hid; rw [hW1, hh1]
  have hbx1 : BoxCur W1 B (.slice a n cap) i h1 := by rw [hW1]; exact HBX.out.setH h1
  have HBX1 : Hid (BoxCur W1 B (.slice a n cap) i h1) := hbx1
  have HO1 : Hid (Only B w W1) := by unfold Hid; rw [hW1]; exact (Only.refl B w).set _
  have HR1 : Hid (Rd 0 hi W1 a n cap zs) := (HC.out.only i h1 hin hbx1 HO1.out).rd
  clear hh1 hW1
  go_enter Try.func57, Try.ntmps57
  go_upto_region 2 with fail
  rw [← HW1.out]
  clear z0 z1 z2 f2
  obtain ⟨z0, z1, z2, zf⟩ := hbx1.cells
  have f1 := zf 1
  clear zf hbx1
  go_cut [3] (fun v W => ∃ x : Int, v = .int .i64 x ∧ (0 ≤ x ∧ x ≤ 255) ∧ W = W1.drew)
  case first =>
    first | go_region | fail
    all_goals
      go_wp2_with fail
      go_meet
      case rel => exact ⟨_, rfl, and_255 _, rfl⟩
  case rest =>
    obtain ⟨x, hv, hx, hw⟩ := hcut
    subst hv
    rw [hw]
    clear hw
    by_cases hlt : i < n
    · have hli : (i : Int) < (n : Int) := by omega
      obtain ⟨bb, off, ea, hcb⟩ : ∃ bb off, a = some ⟨bb, off, none⟩ ∧ W1.cell? ⟨bb, off + i, none⟩ = some (.int .u8 (zs.getD i 0)) := by
        rcases HR1.out.cells with h0 | ⟨bb, off, e, _, _, hc⟩
        · omega
        · exact ⟨bb, off, e, hc i hlt⟩
      subst ea
      have hby := HR1.out.byte i
      obtain ⟨y, hy⟩ : ∃ y, y = zs.getD i 0 := ⟨_, rfl⟩
      rw [← hy] at hcb hby
      clear hy
      go_wp2_with fail
      first | go_region | fail
      all_goals
        go_wp2_with fail
        first | go_region | fail
        all_goals
          go_wp2_with fail
          go_ret
          have hbi : BoxCur (W1.drew.drew.drew.setCell ⟨B, 1, none⟩ (.int .i64 ((i : Int) + 1))) B (.slice (some ⟨bb, off, none⟩) n cap) ((i + 1 : Nat) : Int) h1 := BoxCur.setI (W := W1.drew.drew.drew) HBX1.out _
          have hoi : Only B w (W1.drew.drew.drew.setCell ⟨B, 1, none⟩ (.int .i64 ((i : Int) + 1))) := HO1.out.drew.drew.drew.set _
          exact ⟨_, rfl, and_255 _, HC.out.only (i + 1) h1 (by omega) hbi hoi, hoi⟩
    · have hli : decide ((i : Int) < (n : Int)) = false := by simp; omega
      go_wp2_with fail
      first | go_region | fail
      all_goals
        go_wp2_with fail
        go_ret
        exact ⟨x, rfl, hx, HC.out.only i h1 hin HBX1.out HO1.out.drew.drew, HO1.out.drew.drew⟩

set_option maxRecDepth 100000 in
theorem l1Below_any {w : World} {B : Nat} {a : Option Addr} {n cap : Nat} {zs : List Int} {hi : Nat} (c : Cur w B a n cap zs hi) (m : Int) (hm : 1 ≤ m ∧ m ≤ 256) :
    Calls Try.prog 34 #[.pointer (some ⟨B, 0, none⟩), .int .i64 m] w fun e w' => ∃ x : Int, e = .returned (.int .i64 x) ∧ (0 ≤ x ∧ x < m) ∧ Cur w' B a n cap zs hi ∧ Only B w w' := by
  obtain ⟨hm1, hm2⟩ := hm
  have HC : Hid (Cur w B a n cap zs hi) := c
  clear c
  go_enter Try.func34, Try.ntmps34
  go_wp2_with fail
  refine (l1Byte_any HC.out).mono ?_
  rintro e w1 ⟨x, rfl, hx, hc, ho⟩
  have HC1 : Hid (Cur w1 B a n cap zs hi) := hc
  have HO1 : Hid (Only B w w1) := ho
  obtain ⟨hx0, hx1⟩ := hx
  clear hc ho
  go_wp2_with fail
  go_ret
  exact ⟨x % m, rfl, ⟨Int.emod_nonneg _ (by omega), Int.emod_lt_of_pos _ (by omega)⟩, HC1.out, HO1.out⟩

theorem l1Once_any {w : World} {B : Nat} {a : Option Addr} {n cap : Nat} {zs : List Int} {hi : Nat} (c : Cur w B a n cap zs hi) (m : Int) (hm : 1 ≤ m ∧ m ≤ 256) :
    Calls Try.prog 33 #[.pointer (some ⟨B, 0, none⟩), .int .i64 m] w fun e w' => ∃ x : Bool, e = .returned (.bool x) ∧ Cur w' B a n cap zs hi ∧ Only B w w' := by
  have HC : Hid (Cur w B a n cap zs hi) := c
  clear c
  go_enter Try.func33, Try.ntmps33
  go_wp2_with fail
  refine (l1Below_any HC.out m hm).mono ?_
  rintro e w1 ⟨x, rfl, hx, hc, ho⟩
  have HC1 : Hid (Cur w1 B a n cap zs hi) := hc
  have HO1 : Hid (Only B w w1) := ho
  clear hc ho hx
  go_wp2_with fail
  go_ret
  exact ⟨_, rfl, HC1.out, HO1.out⟩

set_option maxRecDepth 100000 in
set_option maxHeartbeats 1000000 in
/-- A cursor that is made. -/
theorem l1New_any {a : Option Addr} {n cap : Nat} {zs : List Int} {w : World} {hi : Nat} (h : Rd 0 hi w a n cap zs) (hhi : hi ≤ w.heap.size) :
    Calls Try.prog 15 #[.slice a n cap] w fun e w' => e = .returned (.pointer (some ⟨w.heap.size, 0, none⟩)) ∧ Cur w' w.heap.size a n cap zs hi ∧ Below w.heap.size w w' := by
  have HR : Hid (Rd 0 hi w a n cap zs) := h
  have hfit := h.fits
  have hbuild : ∀ (hv : Int) (V : World), (Instr.build 64 #[(0, .slice a n cap), (2, .int .i64 hv)]).run Try.prog V = .ok (.agg #[.slice a n cap, .int .i64 0, .int .i64 hv]) V := fun hv V => run_build V _ _ _ (by kernel_rfl)
  have HFin : Hid (∀ hv : Int, Cur (w.alloc (.cells #[.slice a n cap, .int .i64 0, .int .i64 hv] 64)) w.heap.size a n cap zs hi ∧ Below w.heap.size w (w.alloc (.cells #[.slice a n cap, .int .i64 0, .int .i64 hv] 64))) := fun hv => by
    have hb : Below w.heap.size w (w.alloc (.cells #[.slice a n cap, .int .i64 0, .int .i64 hv] 64)) := (Below.refl _ _).alloc (Nat.le_refl _) _
    exact ⟨⟨⟨0, hv, Nat.zero_le _, BoxCur.new w _ _ _⟩, h.below hb hhi, hhi⟩, hb⟩
  clear h
  go_enter Try.func15, Try.ntmps15
  go_wp2_with fail
  go_loop [3, 4] (fun q i => ∃ (k : Nat) (hv : Int), k ≤ n ∧ k ≤ 4000 ∧ i = .int .i64 k ∧ q = .int .i64 hv) (fun _ i => 4000 - (intOf i).toNat)
  case atStart => exact ⟨0, _, Nat.zero_le _, by omega, rfl, rfl⟩
  case round =>
    obtain ⟨k, hv, hk, hk4, rfl, rfl⟩ := hrel
    by_cases hlt : k < n
    · by_cases hl4 : k < 4000
      · obtain ⟨bb, off, ea, hcb⟩ : ∃ bb off, a = some ⟨bb, off, none⟩ ∧ w.cell? ⟨bb, off + k, none⟩ = some (.int .u8 (zs.getD k 0)) := by
          rcases HR.out.cells with h0 | ⟨bb, off, e, _, _, hc⟩
          · omega
          · exact ⟨bb, off, e, hc k hlt⟩
        subst ea
        have hby := HR.out.byte k
        obtain ⟨y, hy⟩ : ∃ y, y = zs.getD k 0 := ⟨_, rfl⟩
        rw [← hy] at hcb hby
        have hki : (k : Int) < (n : Int) := by omega
        clear hy
        go_wp2_with fail
        go_round
        case rel => exact ⟨k + 1, _, by omega, by omega, by go_num, rfl⟩
        case measure => simp [intOf]; omega
      · have hk5 : k = 4000 := by omega
        have hki : (k : Int) < (n : Int) := by omega
        have hd : decide ((k : Int) < 4000) = false := by simp; omega
        clear hk5
        go_wp2_with fail
        go_ret
        exact ⟨rfl, HFin.out _⟩
    · have hd : decide ((k : Int) < (n : Int)) = false := by simp; omega
      go_wp2_with fail
      all_goals
        go_ret
        exact ⟨rfl, HFin.out _⟩
end

section
open Go.RowKit

/-- The cell j of a row of tokens of which the first k are laid: the texts in the blocks that f says. -/
def cellT (ts : List Tok) (f : Nat → Nat) (k j : Nat) : Value :=
  if j / 3 < k then (if j % 3 = 0 then .int .i64 (ts.getD (j / 3) Tok.zero).kind else if j % 3 = 1 then .int .i64 (ts.getD (j / 3) Tok.zero).place else .slice (some ⟨f (j / 3), 0, none⟩) (ts.getD (j / 3) Tok.zero).text.length (ts.getD (j / 3) Tok.zero).text.length)
  else (if j % 3 = 0 then .int .i64 0 else if j % 3 = 1 then .int .i64 0 else .slice none 0 0)

theorem cellT_new (ts : List Tok) (f : Nat → Nat) {k i : Nat} (h : i < k) : cellT ts f k (i * 3) = .int .i64 (ts.getD i Tok.zero).kind ∧ cellT ts f k (i * 3 + 1) = .int .i64 (ts.getD i Tok.zero).place ∧ cellT ts f k (i * 3 + 2) = .slice (some ⟨f i, 0, none⟩) (ts.getD i Tok.zero).text.length (ts.getD i Tok.zero).text.length := by
  have e0 : i * 3 / 3 = i := by omega
  have e1 : (i * 3 + 1) / 3 = i := by omega
  have e2 : (i * 3 + 2) / 3 = i := by omega
  have m0 : i * 3 % 3 = 0 := by omega
  have m1 : (i * 3 + 1) % 3 = 1 := by omega
  have m2 : (i * 3 + 2) % 3 = 2 := by omega
  refine ⟨?_, ?_, ?_⟩
  · simp [cellT, e0, h]
  · simp [cellT, e1, m1, h]
  · simp [cellT, e2, m2, h]

/-- A row of tokens that the laws' copy has made: its own block, and a block for each text. -/
structure MadeT (lo : Nat) (w : World) (g n : Nat) (ts : List Tok) (f : Nat → Nat) : Prop where
  len : ts.length = n
  base : lo ≤ g
  row : w.rowIs g 94 (n * 3) (cellT ts f n)
  txt : ∀ i, i < n → lo ≤ f i ∧ Row w (f i) (ts.getD i Tok.zero).text.length (ts.getD i Tok.zero).text
  byte : ∀ i j, 0 ≤ (ts.getD i Tok.zero).text.getD j 0 ∧ (ts.getD i Tok.zero).text.getD j 0 ≤ 255
  small : n + sumT ts n ≤ 1048576

def txM (ts : List Tok) (f : Nat → Nat) (i : Nat) : Nat × Nat × Nat := (f i, 0, (ts.getD i Tok.zero).text.length)

theorem MadeT.rd {lo : Nat} {w : World} {g n : Nat} {ts : List Tok} {f : Nat → Nat} (h : MadeT lo w g n ts f) : RdT lo w.heap.size w (some ⟨g, 0, none⟩) n n ts := by
  obtain ⟨h1, h2, h3, h4, h5, h6⟩ := h
  refine ⟨h1, ⟨Nat.le_refl _, by omega⟩, .inr ⟨g, 0, rfl, h2, h3.lt, fun i hi => ?_⟩⟩
  obtain ⟨c0, c1, c2⟩ := cellT_new ts f hi
  simp only [Nat.zero_add]
  rw [h3.cell (show i * 3 < n * 3 by omega), h3.cell (show i * 3 + 1 < n * 3 by omega), h3.cell (show i * 3 + 2 < n * 3 by omega), c0, c1, c2]
  exact ⟨_, _, _, rfl, rfl, rfl, (h4 i hi).2.rd rfl (h5 i) (by have := sumT_ge ts hi; omega) (h4 i hi).1 (h4 i hi).2.lt⟩

theorem MadeT.below {lo B : Nat} {w w' : World} {g n : Nat} {ts : List Tok} {f : Nat → Nat} (h : MadeT lo w g n ts f) (hb : Below B w w') (hB : w.heap.size ≤ B) : MadeT lo w' g n ts f := by
  obtain ⟨h1, h2, h3, h4, h5, h6⟩ := h
  exact ⟨h1, h2, h3.of_block (hb.block g (Nat.lt_of_lt_of_le h3.lt hB)), fun i hi => ⟨(h4 i hi).1, (h4 i hi).2.below hb (Nat.lt_of_lt_of_le (h4 i hi).2.lt hB)⟩, h5, h6⟩

theorem mem_leafM {b off : Nat} {tx : Nat → Nat × Nat × Nat} {n : Nat} {x : Addr × IntKind} (h : x ∈ leafT b off tx n) :
    ∃ i, i < n ∧ (x = (⟨b, off + i * 3, none⟩, .i64) ∨ x = (⟨b, off + i * 3 + 1, none⟩, .i64) ∨ ∃ j, j < (tx i).2.2 ∧ x = (⟨(tx i).1, (tx i).2.1 + j, none⟩, .u8)) := by
  simp only [leafT, List.mem_flatMap, List.mem_range, List.mem_cons, leafB, List.mem_map] at h
  obtain ⟨i, hi, h⟩ := h
  refine ⟨i, hi, ?_⟩
  rcases h with h | h | ⟨j, hj, h⟩
  · exact .inl h
  · exact .inr (.inl h)
  · exact .inr (.inr ⟨j, hj, h.symm⟩)

theorem MadeT.leaf {lo : Nat} {w : World} {g n : Nat} {ts : List Tok} {f : Nat → Nat} (h : MadeT lo w g n ts f) :
    HeadT w g 0 (txM ts f) n ∧ LeafOk w (leafT g 0 (txM ts f) n) ∧ ∀ x ∈ leafT g 0 (txM ts f) n, lo ≤ x.1.block ∧ x.1.block < w.heap.size := by
  obtain ⟨h1, h2, h3, h4, h5, h6⟩ := h
  refine ⟨fun i hi => ?_, fun x hx => ?_, fun x hx => ?_⟩
  · obtain ⟨c0, c1, c2⟩ := cellT_new ts f hi
    refine ⟨some ⟨f i, 0, none⟩, (ts.getD i Tok.zero).text.length, ?_, .inr rfl, by have := sumT_ge ts hi; show (ts.getD i Tok.zero).text.length ≤ _; omega⟩
    rw [Nat.zero_add, h3.cell (show i * 3 + 2 < n * 3 by omega), c2]; rfl
  · obtain ⟨i, hi, e | e | ⟨j, hj, e⟩⟩ := mem_leafM hx
    · subst e
      obtain ⟨c0, c1, c2⟩ := cellT_new ts f hi
      simp only [Nat.zero_add]
      exact ⟨⟨_, by rw [h3.cell (show i * 3 < n * 3 by omega), c0]⟩, h3.frozen _⟩
    · subst e
      obtain ⟨c0, c1, c2⟩ := cellT_new ts f hi
      simp only [Nat.zero_add]
      exact ⟨⟨_, by rw [h3.cell (show i * 3 + 1 < n * 3 by omega), c1]⟩, h3.frozen _⟩
    · subst e
      simp only [txM, Nat.zero_add] at hj ⊢
      exact ⟨⟨_, (h4 i hi).2.cell hj⟩, (h4 i hi).2.frozen _⟩
  · obtain ⟨i, hi, e | e | ⟨j, hj, e⟩⟩ := mem_leafM hx
    · subst e; exact ⟨h2, h3.lt⟩
    · subst e; exact ⟨h2, h3.lt⟩
    · subst e; exact ⟨(h4 i hi).1, (h4 i hi).2.lt⟩

theorem RdT.byte {lo hi : Nat} {w : World} {a : Option Addr} {n cap : Nat} {ts : List Tok} (h : RdT lo hi w a n cap ts) : ∀ i j, 0 ≤ (ts.getD i Tok.zero).text.getD j 0 ∧ (ts.getD i Tok.zero).text.getD j 0 ≤ 255 := by
  intro i j
  by_cases hi' : i < n
  · rcases h.cells with h0 | ⟨b, off, _, _, _, hc⟩
    · omega
    · obtain ⟨_, _, _, _, _, _, c4⟩ := hc i hi'
      exact c4.byte j
  · have e : ts.getD i Tok.zero = Tok.zero := by rw [List.getD, List.getElem?_eq_none (by rw [h.len]; omega)]; rfl
    rw [e]; simp [Tok.zero]
end

section
open Go.RowKit

theorem uponIn_round_iff {F : Fence} {l n : Nat} {P : Program} {o : Oper} {a : Act} {next : Act → World → Prop} {Q : Exit → Act → World → Prop} {r : Result Next} :
    o.uponIn F n P a next Q r → o.uponIn (F.inRound l) n P a next Q r := by
  intro h
  cases r with
  | ok x w => cases x <;> exact h
  | halt x w => cases x <;> exact h

def plainOp (o : Oper) : Bool := match o.op with | .defer _ => false | _ => true

theorem plainOp_spec {o : Oper} (h : plainOp o = true) : ∀ c, o.op ≠ .defer c := by
  intro c e
  unfold plainOp at h
  rw [e] at h
  simp at h

theorem wpIn_op_round {F : Fence} {l n : Nat} {P : Program} {o : Oper} {a : Act} {w : World} {K : Act → World → Prop} {Q : Exit → Act → World → Prop} (hro : F.round = none) (hp : plainOp o = true) (h : o.wpIn F n P a w K Q) : o.wpIn (F.inRound l) n P a w K Q := by
  unfold Oper.wpIn at *
  refine ⟨h.1, uponIn_round_iff ?_⟩
  have h2 := h.2
  rw [hro, Oper.semAt_none] at h2
  rw [Fence.inRound_round, Oper.semAt_some l _ _ (plainOp_spec hp)]
  exact h2

theorem wpAnyIn_round {F : Fence} {l n : Nat} {P : Program} {md : Region.Mode} {ops : Array Oper} {Q : Exit → Act → World → Prop} (hro : F.round = none) (hp : ∀ (i : Nat) (o : Oper), ops[i]? = some o → plainOp o = true) :
    ∀ (fuel : Nat) (listed : Array Bool) (a : Act) (w : World), wpAnyIn F n P md ops Q fuel listed a w → wpAnyIn (F.inRound l) n P md ops Q fuel listed a w
  | 0, _, _, _, h => h
  | fuel + 1, listed, a, w, h => by
    refine ⟨h.1, fun i hi => ?_⟩
    have h2 := h.2 i hi
    have h3 := wpOpIn_mono (K' := wpAnyIn (F.inRound l) n P md ops Q fuel (listed.setIfInBounds i true)) (fun a w q => wpAnyIn_round hro hp fuel _ a w q) h2
    unfold wpOpIn at *
    split
    · rename_i ho; simp only [ho] at h3; exact h3
    · rename_i o ho
      simp only [ho] at h3
      split
      · rename_i hw; simp only [hw, if_true] at h3; exact wpIn_op_round hro (hp i o ho) h3
      · rename_i hw; simp only [hw] at h3; exact h3

theorem plain_all {ops : Array Oper} (h : ops.toList.all plainOp = true) : ∀ (i : Nat) (o : Oper), ops[i]? = some o → plainOp o = true := by
  intro i o ho
  refine List.all_eq_true.1 h o ?_
  have := Array.getElem?_eq_some_iff.1 ho
  obtain ⟨hi, e⟩ := this
  rw [← e]
  simp

theorem region_round {l n : Nat} {P : Program} {id : Nat} {ops : Array Oper} {Q : Exit → Act → World → Prop} {a : Act} {w : World} (hm : P.follows .mixedOrders = true) (hp : ops.toList.all plainOp = true)
    (h : wpAnyIn Fence.wide n P .any ops Q ops.size (Array.replicate ops.size false) a w.drew) : (Code.region id ops true).wpIn (Fence.wide.inRound l) n P Q a w :=
  wpIn_region_any hm (wpAnyIn_round rfl (plain_all hp) _ _ _ _ h)

theorem stepIn_append_own {F : Fence} {n : Nat} {P : Program} {ops : Array Oper} {o : Oper} {a : Act} {w : World} {K : Act → World → Prop} {Q : Exit → Act → World → Prop} {E : Prop}
    (hro : F.round = none) (hg : o.guard = none) (s x : Operand) (t : TypeId) (hop : o.op = Op.call { callee := Callee.builtin Builtin.append, args := #[s, x], argTypes := #[t, t] }) (ty : TypeId) (hty : o.type = ty)
    (v : Value) (y : Value) (hs : a.eval s = v) (hx : a.eval x = y) (v' : Value) (w' : World) (hrun : (Builtin.append_ #[t, t] ty #[v, y]).run P w = .ok v' w') (hK : K (a.put o.dst v') w') :
    if Region.wanted o (yielded ops a.tmps) = true then Oper.wpIn F n P o a w K Q else E := by
  have hw : Region.wanted o (yielded ops a.tmps) = true := by simp [Region.wanted, hg]
  rw [if_pos hw]
  subst hty
  unfold Oper.wpIn
  refine ⟨?_, ?_⟩
  · simp [Oper.about, hop, resolve, Target.leads, Sem.run_pure]
  · rw [hro, Oper.semAt_none]
    simp [execOp, hop, resolve, invoke, builtin, hs, hx, hrun, Result.andThen]
    exact hK
end

section
open Go.RowKit

/-- A slice's value reads as this list, each member of one cell, 'R' saying what a cell's value reads as. -/
structure RdN {α : Type} (d : α) (R : Value → α → Prop) (lo hi : Nat) (w : World) (a : Option Addr) (n cap : Nat) (xs : List α) : Prop where
  len : xs.length = n
  fits : n ≤ cap ∧ cap ≤ 9223372036854775807
  cells : n = 0 ∨ ∃ b off, a = some ⟨b, off, none⟩ ∧ lo ≤ b ∧ b < hi ∧ ∀ i, i < n → ∃ v, w.cell? ⟨b, off + i, none⟩ = some v ∧ R v (xs.getD i d)

theorem RdN.imp {α : Type} {d : α} {R S : Value → α → Prop} {lo hi lo' hi' : Nat} {w w' : World} {a : Option Addr} {n cap : Nat} {xs : List α} (h : RdN d R lo hi w a n cap xs)
    (hRS : ∀ v c, R v c → S v c) (hs : Same lo hi w w') (h1 : lo' ≤ lo) (h2 : hi ≤ hi') : RdN d S lo' hi' w' a n cap xs := by
  obtain ⟨hl, hm, hc⟩ := h
  refine ⟨hl, hm, ?_⟩
  rcases hc with h0 | ⟨b, off, e, q1, q2, hc⟩
  · exact .inl h0
  · refine .inr ⟨b, off, e, by omega, by omega, fun i hi => ?_⟩
    obtain ⟨v, c0, hr⟩ := hc i hi
    exact ⟨v, (hs.cell (p := ⟨b, _, none⟩) q1 q2).trans c0, hRS _ _ hr⟩

/-- Flags; numbers. -/
def RB (lo hi : Nat) (w : World) (a : Option Addr) (n cap : Nat) (xs : List Bool) : Prop := RdN false (fun v b => v = .bool b) lo hi w a n cap xs
def RI (lo hi : Nat) (w : World) (a : Option Addr) (n cap : Nat) (xs : List Int) : Prop := RdN 0 (fun v z => v = .int .i64 z) lo hi w a n cap xs
def SlB (lo hi : Nat) (w : World) (v : Value) (zs : List Int) : Prop := ∃ a n c, v = .slice a n c ∧ Rd lo hi w a n c zs
def SlF (lo hi : Nat) (w : World) (v : Value) (zs : List Bool) : Prop := ∃ a n c, v = .slice a n c ∧ RB lo hi w a n c zs
/-- Texts; lists of flags. -/
def RSS (lo hi : Nat) (w : World) (a : Option Addr) (n cap : Nat) (xs : List (List Int)) : Prop := RdN [] (SlB lo hi w) lo hi w a n cap xs
def RFF (lo hi : Nat) (w : World) (a : Option Addr) (n cap : Nat) (xs : List (List Bool)) : Prop := RdN [] (SlF lo hi w) lo hi w a n cap xs

theorem RB.same {lo hi : Nat} {w w' : World} {a : Option Addr} {n cap : Nat} {xs : List Bool} (h : RB lo hi w a n cap xs) (hs : Same lo hi w w') : RB lo hi w' a n cap xs := RdN.imp h (fun _ _ q => q) hs (Nat.le_refl _) (Nat.le_refl _)
theorem RI.same {lo hi : Nat} {w w' : World} {a : Option Addr} {n cap : Nat} {xs : List Int} (h : RI lo hi w a n cap xs) (hs : Same lo hi w w') : RI lo hi w' a n cap xs := RdN.imp h (fun _ _ q => q) hs (Nat.le_refl _) (Nat.le_refl _)
theorem RB.mono {lo hi lo' hi' : Nat} {w : World} {a : Option Addr} {n cap : Nat} {xs : List Bool} (h : RB lo hi w a n cap xs) (h1 : lo' ≤ lo) (h2 : hi ≤ hi') : RB lo' hi' w a n cap xs := RdN.imp h (fun _ _ q => q) (Same.refl _ _ _) h1 h2
theorem RI.mono {lo hi lo' hi' : Nat} {w : World} {a : Option Addr} {n cap : Nat} {xs : List Int} (h : RI lo hi w a n cap xs) (h1 : lo' ≤ lo) (h2 : hi ≤ hi') : RI lo' hi' w a n cap xs := RdN.imp h (fun _ _ q => q) (Same.refl _ _ _) h1 h2
theorem SlB.same {lo hi : Nat} {w w' : World} {v : Value} {zs : List Int} (h : SlB lo hi w v zs) (hs : Same lo hi w w') : SlB lo hi w' v zs := by obtain ⟨a, n, c, e, h⟩ := h; exact ⟨a, n, c, e, h.same hs⟩
theorem SlF.same {lo hi : Nat} {w w' : World} {v : Value} {zs : List Bool} (h : SlF lo hi w v zs) (hs : Same lo hi w w') : SlF lo hi w' v zs := by obtain ⟨a, n, c, e, h⟩ := h; exact ⟨a, n, c, e, h.same hs⟩
theorem SlB.mono {lo hi lo' hi' : Nat} {w : World} {v : Value} {zs : List Int} (h : SlB lo hi w v zs) (h1 : lo' ≤ lo) (h2 : hi ≤ hi') : SlB lo' hi' w v zs := by obtain ⟨a, n, c, e, h⟩ := h; exact ⟨a, n, c, e, h.mono h1 h2⟩
theorem SlF.mono {lo hi lo' hi' : Nat} {w : World} {v : Value} {zs : List Bool} (h : SlF lo hi w v zs) (h1 : lo' ≤ lo) (h2 : hi ≤ hi') : SlF lo' hi' w v zs := by obtain ⟨a, n, c, e, h⟩ := h; exact ⟨a, n, c, e, h.mono h1 h2⟩
theorem RSS.same {lo hi : Nat} {w w' : World} {a : Option Addr} {n cap : Nat} {xs : List (List Int)} (h : RSS lo hi w a n cap xs) (hs : Same lo hi w w') : RSS lo hi w' a n cap xs := RdN.imp h (fun _ _ q => q.same hs) hs (Nat.le_refl _) (Nat.le_refl _)
theorem RFF.same {lo hi : Nat} {w w' : World} {a : Option Addr} {n cap : Nat} {xs : List (List Bool)} (h : RFF lo hi w a n cap xs) (hs : Same lo hi w w') : RFF lo hi w' a n cap xs := RdN.imp h (fun _ _ q => q.same hs) hs (Nat.le_refl _) (Nat.le_refl _)
theorem RSS.mono {lo hi lo' hi' : Nat} {w : World} {a : Option Addr} {n cap : Nat} {xs : List (List Int)} (h : RSS lo hi w a n cap xs) (h1 : lo' ≤ lo) (h2 : hi ≤ hi') : RSS lo' hi' w a n cap xs := RdN.imp h (fun _ _ q => q.mono h1 h2) (Same.refl _ _ _) h1 h2
theorem RFF.mono {lo hi lo' hi' : Nat} {w : World} {a : Option Addr} {n cap : Nat} {xs : List (List Bool)} (h : RFF lo hi w a n cap xs) (h1 : lo' ≤ lo) (h2 : hi ≤ hi') : RFF lo' hi' w a n cap xs := RdN.imp h (fun _ _ q => q.mono h1 h2) (Same.refl _ _ _) h1 h2
theorem RI.below {lo hi B : Nat} {w w' : World} {a : Option Addr} {n cap : Nat} {xs : List Int} (h : RI lo hi w a n cap xs) (hb : Below B w w') (hB : hi ≤ B) : RI lo hi w' a n cap xs := h.same (Same.of_below hb hB)
theorem RSS.below {lo hi B : Nat} {w w' : World} {a : Option Addr} {n cap : Nat} {xs : List (List Int)} (h : RSS lo hi w a n cap xs) (hb : Below B w w') (hB : hi ≤ B) : RSS lo hi w' a n cap xs := h.same (Same.of_below hb hB)
theorem RFF.below {lo hi B : Nat} {w w' : World} {a : Option Addr} {n cap : Nat} {xs : List (List Bool)} (h : RFF lo hi w a n cap xs) (hb : Below B w w') (hB : hi ≤ B) : RFF lo hi w' a n cap xs := h.same (Same.of_below hb hB)

/-- A world. -/
structure WD where
  n : Int
  names : List (List Int)
  sets : List (List Bool)
  roles : List (List Int)
  rels : List (List Bool)
  inds : List (List Int)
  at' : List Int

structure RdW (lo hi : Nat) (w : World) (na : Option Addr) (nn nc : Nat) (sa : Option Addr) (sn sc : Nat) (ra : Option Addr) (rn rc : Nat) (la : Option Addr) (ln lc : Nat) (ia : Option Addr) (im ic : Nat) (ta : Option Addr) (tn tc : Nat) (x : WD) : Prop where
  names : RSS lo hi w na nn nc x.names
  sets : RFF lo hi w sa sn sc x.sets
  roles : RSS lo hi w ra rn rc x.roles
  rels : RFF lo hi w la ln lc x.rels
  inds : RSS lo hi w ia im ic x.inds
  at' : RI lo hi w ta tn tc x.at'

theorem RdW.below {lo hi B : Nat} {w w' : World} {na : Option Addr} {nn nc : Nat} {sa : Option Addr} {sn sc : Nat} {ra : Option Addr} {rn rc : Nat} {la : Option Addr} {ln lc : Nat} {ia : Option Addr} {im ic : Nat} {ta : Option Addr} {tn tc : Nat} {x : WD}
    (h : RdW lo hi w na nn nc sa sn sc ra rn rc la ln lc ia im ic ta tn tc x) (hb : Below B w w') (hB : hi ≤ B) : RdW lo hi w' na nn nc sa sn sc ra rn rc la ln lc ia im ic ta tn tc x :=
  ⟨h.names.below hb hB, h.sets.below hb hB, h.roles.below hb hB, h.rels.below hb hB, h.inds.below hb hB, h.at'.below hb hB⟩

def BoxW (t : Nat) (W : World) (p : Nat) (n : Int) (v1 v2 v3 v4 v5 v6 : Value) : Prop := W.heap[p]? = some (.cells #[.int .i64 n, v1, v2, v3, v4, v5, v6] t (0, 0))
theorem BoxW.new (t : Nat) (W : World) (n : Int) (v1 v2 v3 v4 v5 v6 : Value) : BoxW t (W.alloc (.cells #[.int .i64 n, v1, v2, v3, v4, v5, v6] t)) W.heap.size n v1 v2 v3 v4 v5 v6 := World.alloc_heap_new W _
theorem BoxW.below {t : Nat} {W W' : World} {p B : Nat} {n : Int} {v1 v2 v3 v4 v5 v6 : Value} (h : BoxW t W p n v1 v2 v3 v4 v5 v6) (hb : Below B W W') (hB : p < B) : BoxW t W' p n v1 v2 v3 v4 v5 v6 := (hb.block p hB).trans h
theorem BoxW.lt {t : Nat} {W : World} {p : Nat} {n : Int} {v1 v2 v3 v4 v5 v6 : Value} (h : BoxW t W p n v1 v2 v3 v4 v5 v6) : p < W.heap.size := (Array.getElem?_eq_some_iff.1 h).1
theorem BoxW.cells {t : Nat} {W : World} {p : Nat} {n : Int} {v1 v2 v3 v4 v5 v6 : Value} (h : BoxW t W p n v1 v2 v3 v4 v5 v6) :
    W.cell? ⟨p, 0, none⟩ = some (.int .i64 n) ∧ W.cell? ⟨p, 1, none⟩ = some v1 ∧ W.cell? ⟨p, 2, none⟩ = some v2 ∧ W.cell? ⟨p, 3, none⟩ = some v3 ∧ W.cell? ⟨p, 4, none⟩ = some v4 ∧ W.cell? ⟨p, 5, none⟩ = some v5 ∧ W.cell? ⟨p, 6, none⟩ = some v6 := by
  unfold BoxW at h
  refine ⟨?_, ?_, ?_, ?_, ?_, ?_, ?_⟩ <;> simp [World.cell?, h]
theorem BoxW.frz {t : Nat} {W : World} {p : Nat} {n : Int} {v1 v2 v3 v4 v5 v6 : Value} (h : BoxW t W p n v1 v2 v3 v4 v5 v6) (o : Nat) : W.frozen? ⟨p, o, none⟩ = false := by
  unfold BoxW at h
  simp [World.frozen?, h]
theorem BoxW.at {t : Nat} {W : World} {p : Nat} {n : Int} {v1 v2 v3 v4 v5 v6 : Value} (h : BoxW t W p n v1 v2 v3 v4 v5 v6) (i : Nat) (v : Value) : (W.setCell ⟨p, i, none⟩ v).heap[p]? = some (.cells (#[.int .i64 n, v1, v2, v3, v4, v5, v6].setIfInBounds i v) t (0, 0)) := heap_setCell_same W p i _ _ v h
end

section
open Go.RowKit
end

section
open Go.RowKit

theorem opIn_of_wp {n : Nat} {P : Program} {o : Oper} {a : Act} {w : World} {K : Act → World → Prop} {Q : Exit → Act → World → Prop} (h : o.wp P a w K Q) : o.wpIn Fence.wide n P a w K Q := by
  unfold Oper.wp at h
  unfold Oper.wpIn
  refine ⟨fun _ _ => trivial, ?_⟩
  rw [show Fence.wide.round = none from rfl, Oper.semAt_none]
  generalize (execOp a.eval o).run P w = r at h ⊢
  cases r with
  | ok x w' =>
    cases x with
    | value v => exact h
    | skip => exact h
    | defer d => exact h
    | enter f args => exact ⟨fun h => (by cases h), callsIn_wide.2 h⟩
    | row row args => exact ⟨fun h => (by cases h), fun c cs _ => let ⟨v, w', r, s⟩ := h c cs; ⟨v, w', r, stepsIn_wide.2 s⟩⟩
    | _ => exact h.elim
  | halt x w' => cases x <;> first | exact h | exact h.elim

theorem anyIn_of_any {n : Nat} {P : Program} {md : Region.Mode} {ops : Array Oper} {Q : Exit → Act → World → Prop} (hQ : ∀ a w, ¬ Q .outgrown a w) :
    ∀ (fuel : Nat) (listed : Array Bool) (a : Act) (w : World), wpAny P md ops Q fuel listed a w → wpAnyIn Fence.wide n P md ops Q fuel listed a w
  | 0, _, _, _, h => h
  | fuel + 1, listed, a, w, h => by
    refine ⟨h.1, fun i hi => ?_⟩
    have h2 := wpOp_mono (K' := wpAnyIn Fence.wide n P md ops Q fuel (listed.setIfInBounds i true)) (fun a w q => anyIn_of_any hQ fuel _ a w q) (h.2 i hi)
    unfold wpOp at h2
    unfold wpOpIn
    split
    · rename_i ho; simp only [ho] at h2; exact h2
    · rename_i o ho
      simp only [ho] at h2
      split
      · rename_i hw
        simp only [hw, if_true] at h2
        rcases h2 with h2 | ⟨_, a', w', h2⟩
        · exact opIn_of_wp h2
        · exact absurd h2 (hQ a' w')
      · rename_i hw; simp only [hw] at h2; exact ⟨fun _ _ => trivial, h2⟩

theorem region_held {l n : Nat} {P : Program} {id : Nat} {ops : Array Oper} {Q : Exit → Act → World → Prop} (S : World → Prop) {a : Act} {w : World} (hm : P.follows .mixedOrders = true) (hp : ops.toList.all plainOp = true) (hQ : ∀ a w, ¬ Q .outgrown a w) (hS : S w.drew)
    (h : S w.drew → wpAnyH P .any ops Q S ops.size (Array.replicate ops.size false) a w.drew) : (Code.region id ops true).wpIn (Fence.wide.inRound l) n P Q a w :=
  region_round hm hp (anyIn_of_any hQ _ _ _ _ (wpAny_of_held _ _ _ _ (h hS)))
end

end Go.Proofs.Ytedihcjhfkdkjaa
