/- Several texts in one: ConTextFn, ConTellN. -/
import Derived.Test.YtedihcjhfkdkjaaNG12
import Derived.Test.YtedihcjhfkdkjaaNG7
import Derived.Test.YtedihcjhfkdkjaaNG13
import Derived.Test.YtedihcjhfkdkjaaNG1
import Derived.Test.YtedihcjhfkdkjaaNG11
namespace Go.Proofs.Ytedihcjhfkdkjaa

section
open Go.RowKit

def conText (c : CN) : List Int := if conOk c = true then textC c else []

theorem textJ_byte {cs : List CN} (h : ∀ c ∈ cs, ∀ x ∈ textC c, 0 ≤ x ∧ x ≤ 255) : ∀ (i : Nat), ∀ x ∈ textJ i cs, 0 ≤ x ∧ x ≤ 255 := by
  induction cs with
  | nil => intro i x hx; simp [textJ] at hx
  | cons c cs ih =>
    intro i x hx
    simp only [textJ, List.mem_append] at hx
    rcases hx with (hx | hx) | hx
    · unfold gapT at hx; split at hx <;> simp at hx; omega
    · exact h c (by simp) x hx
    · exact ih (fun c hc => h c (by simp [hc])) _ x hx

theorem Rd.mem {lo hi : Nat} {w : World} {a : Option Addr} {n cap : Nat} {zs : List Int} (h : Rd lo hi w a n cap zs) : ∀ x ∈ zs, 0 ≤ x ∧ x ≤ 255 := by
  intro x hx
  obtain ⟨j, hj, rfl⟩ := List.mem_iff_getElem.1 hx
  have := h.byte j
  rwa [List.getD, List.getElem?_eq_getElem hj] at this

theorem textC_byte {lo hi : Nat} {w : World} : ∀ {d : Nat} {v : Value} {c : CN}, RdC lo hi w d v c → ∀ x ∈ textC c, 0 ≤ x ∧ x ≤ 255 := by
  intro d
  induction d with
  | zero => intro v c h; exact h.elim
  | succ d ih =>
    intro v c h x hx
    obtain ⟨na, nn, nc, ra, rn, rc, ka, kn, kc, _, h1, h2, h3⟩ := h
    have hkids : ∀ c' ∈ c.kids, ∀ x ∈ textC c', 0 ≤ x ∧ x ≤ 255 := by
      intro c' hc'
      obtain ⟨j, hj, rfl⟩ := List.mem_iff_getElem.1 hc'
      rcases h3.cells with h0 | ⟨b, off, _, _, _, hc⟩
      · have := h3.len; omega
      · obtain ⟨v0, v1, v2, v3, _, _, _, _, hr⟩ := hc j (by have := h3.len; omega)
        rw [List.getD, List.getElem?_eq_getElem hj] at hr
        exact ih hr
    rw [textC_eq] at hx
    split at hx
    · exact h1.mem x hx
    · split at hx
      · exact wordOf_byte _ x hx
      · simp only [List.mem_append, List.mem_singleton] at hx
        rcases hx with (((hx | hx) | hx) | hx) | hx
        · exact wordOf_byte _ x hx
        · omega
        · unfold roleT at hx
          split at hx
          · simp at hx
          · simp only [List.mem_append, List.mem_singleton] at hx
            rcases hx with hx | hx
            · exact h2.mem x hx
            · omega
        · exact textJ_byte hkids _ x hx
        · omega

set_option maxHeartbeats 1000000 in
theorem specConText_any {d : Nat} {v : Value} {c : CN} {w : World} {lo hi : Nat} (h : RdC lo hi w d v c) (hhi : hi ≤ w.heap.size) (hbk : c.bulk ≤ 1048576) :
    Calls Try.prog 26 #[v] w fun e w' => ∃ v', e = .returned v' ∧ OwnB w.heap.size w' v' (conText c) ∧ Below w.heap.size w w' := by
  have HRd : Hid (RdC lo hi w d v c) := h
  obtain ⟨k, na, nn, nc, ra, rn, rc, ka, kn, kc, rfl⟩ := h.shape
  have hb0 : Below w.heap.size w (w.alloc (.cells #[.int .i64 k, .slice na nn nc, .slice ra rn rc, .slice ka kn kc] 25)) := (Below.refl _ _).alloc (Nat.le_refl _) _
  have HB0 : Hid (Below w.heap.size w (w.alloc (.cells #[.int .i64 k, .slice na nn nc, .slice ra rn rc, .slice ka kn kc] 25))) := hb0
  have HR0 : Hid (RdC lo hi (w.alloc (.cells #[.int .i64 k, .slice na nn nc, .slice ra rn rc, .slice ka kn kc] 25)) d (.agg #[.int .i64 k, .slice na nn nc, .slice ra rn rc, .slice ka kn kc]) c) := HRd.out.below hb0 hhi
  have HBx0 : Hid (BoxC (w.alloc (.cells #[.int .i64 k, .slice na nn nc, .slice ra rn rc, .slice ka kn kc] 25)) w.heap.size (.int .i64 k) (.slice na nn nc) (.slice ra rn rc) (.slice ka kn kc)) := BoxC.new w _ _ _ _
  clear hb0 h
  go_enter Try.func26, Try.ntmps26
  go_wp2_with fail
  refine (specConOk_any HR0.out (Nat.le_trans hhi HB0.out.size)).mono ?_
  rintro e w1 ⟨rfl, hb1⟩
  have HB1 : Hid (Below w.heap.size w w1) := HB0.out.trans (hb1.mono HB0.out.size)
  have HBx1 : Hid (BoxC w1 w.heap.size (.int .i64 k) (.slice na nn nc) (.slice ra rn rc) (.slice ka kn kc)) := HBx0.out.below hb1 HBx0.out.lt
  obtain ⟨q0, q1, q2, q3⟩ := HBx1.out.cells
  clear hb1
  cases hok : conOk c
  · have HE : Hid (conText c = []) := by unfold Hid conText; rw [hok]; rfl
    go_wp2_with fail
    go_ret
    exact ⟨_, rfl, by rw [HE.out]; exact OwnB.nil _ _, HB1.out⟩
  · have HE : Hid (conText c = textC c) := by unfold Hid conText; rw [hok]; rfl
    have HWf : Hid (wfC c = true) := wfC_of_ok hok
    have htl := textC_len c
    go_wp2_with fail
    refine (sayC_any d _ c (.slice none 0 0) [] w1 w.heap.size lo hi (HRd.out.below HB1.out hhi) hhi HB1.out.size HWf.out (OwnB.nil _ _) (by simp; omega)).mono ?_
    rintro e w2 ⟨v2, rfl, hO2, hK2⟩
    have HO2 : Hid (OwnB w.heap.size w2 v2 (textC c)) := by unfold Hid; simpa using hO2
    have HB2 : Hid (Below w.heap.size w w2) := HB1.out.trans hK2.1
    clear hO2 hK2
    go_wp2_with fail
    go_ret
    exact ⟨_, rfl, by rw [HE.out]; exact HO2.out, HB2.out⟩

set_option maxHeartbeats 1000000 in
theorem implConText_any {d : Nat} {v : Value} {c : CN} {w : World} {lo hi : Nat} (h : RdC lo hi w d v c) (hhi : hi ≤ w.heap.size) (hbk : c.bulk ≤ 1048576) :
    Calls Try.prog 24 #[v] w fun e w' => ∃ v', e = .returned v' ∧ OwnB w.heap.size w' v' (conText c) ∧ Below w.heap.size w w' := by
  have HRd : Hid (RdC lo hi w d v c) := h
  obtain ⟨k, na, nn, nc, ra, rn, rc, ka, kn, kc, rfl⟩ := h.shape
  have hb0 : Below w.heap.size w (w.alloc (.cells #[.int .i64 k, .slice na nn nc, .slice ra rn rc, .slice ka kn kc] 25)) := (Below.refl _ _).alloc (Nat.le_refl _) _
  have HB0 : Hid (Below w.heap.size w (w.alloc (.cells #[.int .i64 k, .slice na nn nc, .slice ra rn rc, .slice ka kn kc] 25))) := hb0
  have HR0 : Hid (RdC lo hi (w.alloc (.cells #[.int .i64 k, .slice na nn nc, .slice ra rn rc, .slice ka kn kc] 25)) d (.agg #[.int .i64 k, .slice na nn nc, .slice ra rn rc, .slice ka kn kc]) c) := HRd.out.below hb0 hhi
  have HBx0 : Hid (BoxC (w.alloc (.cells #[.int .i64 k, .slice na nn nc, .slice ra rn rc, .slice ka kn kc] 25)) w.heap.size (.int .i64 k) (.slice na nn nc) (.slice ra rn rc) (.slice ka kn kc)) := BoxC.new w _ _ _ _
  clear hb0 h
  go_enter Try.func24, Try.ntmps24
  go_wp2_with fail
  refine (implConOk_any HR0.out (Nat.le_trans hhi HB0.out.size) hbk).mono ?_
  rintro e w1 ⟨rfl, hb1⟩
  have HB1 : Hid (Below w.heap.size w w1) := HB0.out.trans (hb1.mono HB0.out.size)
  have HBx1 : Hid (BoxC w1 w.heap.size (.int .i64 k) (.slice na nn nc) (.slice ra rn rc) (.slice ka kn kc)) := HBx0.out.below hb1 HBx0.out.lt
  obtain ⟨q0, q1, q2, q3⟩ := HBx1.out.cells
  clear hb1
  cases hok : conOk c
  · have HE : Hid (conText c = []) := by unfold Hid conText; rw [hok]; rfl
    go_wp2_with fail
    go_ret
    exact ⟨_, rfl, by rw [HE.out]; exact OwnB.nil _ _, HB1.out⟩
  · have HE : Hid (conText c = textC c) := by unfold Hid conText; rw [hok]; rfl
    have HWf : Hid (wfC c = true) := wfC_of_ok hok
    have htl := textC_len c
    go_wp2_with fail
    refine (addC_any d _ c (.slice none 0 0) [] w1 w.heap.size lo hi (HRd.out.below HB1.out hhi) hhi HB1.out.size HWf.out (OwnB.nil _ _) (by simp; omega)).mono ?_
    rintro e w2 ⟨v2, rfl, hO2, hK2⟩
    have HO2 : Hid (OwnB w.heap.size w2 v2 (textC c)) := by unfold Hid; simpa using hO2
    have HB2 : Hid (Below w.heap.size w w2) := HB1.out.trans hK2.1
    clear hO2 hK2
    go_wp2_with fail
    go_ret
    exact ⟨_, rfl, by rw [HE.out]; exact HO2.out, HB2.out⟩
end

section
open Go.RowKit Go.Shelf
namespace Nm

attribute [local go_sem] Oper.semAt_some

/-- Small, and each part of the right shape. -/
def ShpC (c : CN) : Prop := c.bulk ≤ 208 ∧ ∃ deep, ∀ p ∈ parts c deep, shapeB p.2 = true
theorem ShpC.self {c : CN} (h : ShpC c) : shapeB c = true := by
  obtain ⟨_, deep, h⟩ := h
  exact h (deep, c) (by rw [parts_eq]; simp)
theorem ShpC.kid {c : CN} (h : ShpC c) {j : Nat} (hj : j < c.kids.length) (hb : (c.kids.getD j CN.zero).bulk ≤ 208) : ShpC (c.kids.getD j CN.zero) := by
  obtain ⟨_, deep, h⟩ := h
  refine ⟨hb, deep + 1, fun p hp => h p ?_⟩
  rw [parts_eq]
  refine List.mem_cons_of_mem _ ?_
  rw [partsL_take_drop c.kids (j + 1) (deep + 1), partsL_take_succ _ _ _ hj]
  exact List.mem_append_left _ (List.mem_append_right _ hp)

/-- The block that the list in the variable owns. -/
def own (lb : Nat) (W : World) : Option Nat := (W.cell? ⟨lb, 0, none⟩).bind Value.ownBlock
def OwnAt (lb : Nat) (W : World) (n : Nat) : Prop := ∀ g, own lb W = some g → g < n
def OwnLt (lb : Nat) (W : World) : Prop := OwnAt lb W W.heap.size

theorem own_below {lb : Nat} {W W' : World} (h : Below W.heap.size W W') (hl : lb < W.heap.size) : own lb W' = own lb W := by
  unfold own; rw [h.cell (p := ⟨lb, 0, none⟩) hl]
theorem OwnAt.below {lb n : Nat} {W W' : World} (h : Below W.heap.size W W') (hl : lb < W.heap.size) (ho : OwnAt lb W n) : OwnAt lb W' n := by
  intro g hg; rw [own_below h hl] at hg; exact ho g hg
theorem OwnLt.below {lb : Nat} {W W' : World} (ho : OwnLt lb W) (h : Below W.heap.size W W') (hl : lb < W.heap.size) : OwnLt lb W' := by
  intro g hg; rw [own_below h hl] at hg; exact Nat.lt_of_lt_of_le (ho g hg) h.size
theorem OwnAt.ne {lb n b : Nat} {W : World} (ho : OwnAt lb W n) (h : n ≤ b) : own lb W ≠ some b := fun e => by have := ho b e; omega

/-- What a round keeps: all that lay below B; the cells that lie from n1 on, but the list's own block; and the list's block stays, or is a new one. -/
def KpL (B n1 lb : Nat) (W W' : World) : Prop := Below B W W' ∧ (∀ (b : Nat) (o : Obj), n1 ≤ b → W.heap[b]? = some o → o.isCells = true → own lb W ≠ some b → W'.heap[b]? = some o) ∧
  (own lb W' = own lb W ∨ ∃ g, own lb W' = some g ∧ W.heap.size ≤ g ∧ g < W'.heap.size)
theorem KpL.trans {B n1 lb : Nat} {A C D : World} (h : KpL B n1 lb A C) (k : KpL B n1 lb C D) : KpL B n1 lb A D := by
  refine ⟨h.1.trans k.1, fun b o h1 h2 h3 h4 => k.2.1 b o h1 (h.2.1 b o h1 h2 h3 h4) h3 (fun e => ?_), ?_⟩
  · have hb := (Array.getElem?_eq_some_iff.1 h2).1
    rcases h.2.2 with q | ⟨g, q1, q2, _⟩
    · rw [q] at e; exact h4 e
    · rw [q1] at e; cases e; omega
  · rcases k.2.2 with q | ⟨g, q1, q2, q3⟩
    · rcases h.2.2 with r | ⟨g, r1, r2, r3⟩
      · exact .inl (q.trans r)
      · exact .inr ⟨g, q.trans r1, r2, Nat.lt_of_lt_of_le r3 k.1.size⟩
    · exact .inr ⟨g, q1, Nat.le_trans h.1.size q2, q3⟩
theorem KpL.of_below {B n1 lb : Nat} {W W' : World} (h : Below W.heap.size W W') (hB : B ≤ W.heap.size) (hl : lb < W.heap.size) : KpL B n1 lb W W' :=
  ⟨h.mono hB, fun b _ _ h2 _ _ => (h.block b (Array.getElem?_eq_some_iff.1 h2).1).trans h2, .inl (own_below h hl)⟩
theorem KpL.putObj {B n1 lb : Nat} (W : World) (l : Nat) (o o' : Obj) (hB : B ≤ l) (hlb : lb < l) (hl : W.heap[l]? = some o) (ho : o.isCells = false) : KpL B n1 lb W (W.putObj l o') :=
  ⟨(KpC.putObj (n1 := n1) W l o o' hB hl ho).1, fun b o2 h1 hb hc _ => (KpC.putObj (B := B) (n1 := n1) W l o o' hB hl ho).2 b o2 h1 hb hc, .inl (by unfold own; rw [World.cell?_of_block (w := W) (World.putObj_heap_other (by show lb ≠ l; omega))])⟩
theorem KpL.own {B n1 lb : Nat} {W W' : World} (h : KpL B n1 lb W W') (ho : OwnLt lb W) : OwnLt lb W' := by
  intro g hg
  rcases h.2.2 with q | ⟨g', q1, _, q3⟩
  · rw [q] at hg; exact Nat.lt_of_lt_of_le (ho g hg) h.1.size
  · rw [q1] at hg; cases hg; exact q3
theorem BoxC.keptL {B n1 lb : Nat} {W W' : World} {b : Nat} {v0 v1 v2 v3 : Value} (h : BoxC W b v0 v1 v2 v3) (hk : KpL B n1 lb W W') (hb : n1 ≤ b) (ho : own lb W ≠ some b) : BoxC W' b v0 v1 v2 v3 := hk.2.1 b _ hb h rfl ho
theorem BoxT.keptL {B n1 lb : Nat} {W W' : World} {b : Nat} {k : Int} {na : Option Addr} {nn nc : Nat} {ra : Option Addr} {rn rc : Nat} {ka : Option Addr} {kn kc : Nat} (h : BoxT W b k na nn nc ra rn rc ka kn kc) (hk : KpL B n1 lb W W') (hb : n1 ≤ b) (ho : own lb W ≠ some b) : BoxT W' b k na nn nc ra rn rc ka kn kc := hk.2.1 b _ hb h rfl ho

/-- A part that is told, of a bounded size: its depth, its value, what it reads as. -/
structure ItemL (lo hi : Nat) (w0 : World) where
  deep : Nat
  v : Value
  c : CN
  d : Nat
  rd : RdC lo hi w0 d v c
  bk : ShpC c

def ItemL.m {lo hi : Nat} {w0 : World} (x : ItemL lo hi w0) : Nat × CN := (x.deep, x.c)
def encL {lo hi : Nat} {w0 : World} (x : ItemL lo hi w0) : Array Value := #[.int .i64 x.deep, x.v]

def TellOkL (lo hi B n1 lb N l : Nat) (w0 : World) (J Jx : List (ItemL lo hi w0) → World → Prop) (tk : Int) (ta : Option Addr) (tn tc : Nat) (sa : Option Addr) (sn sc : Nat) (ua : Option Addr) (un uc : Nat) (d : Nat) : Prop :=
  ∀ (n deep : Nat) (v : Value) (c : CN) (pre : List (ItemL lo hi w0)) (W : World), RdC lo hi w0 d v c → Below B w0 W → n1 ≤ W.heap.size → J pre W → OwnLt lb W → pre.length + (parts c deep).length ≤ N → deep + c.bulk ≤ 1099511627776 → ShpC c →
    CallsIn Fence.wide n Try.prog 38 #[.agg #[.int .i64 tk, .slice ta tn tc, .slice sa sn sc, .slice ua un uc, .func (.func 36) #[] #[]], .int .i64 deep, v, .func (.yield l) #[] #[]] W fun e W' =>
      (e = .returned (.bool true) ∧ (∃ ys, ys.map ItemL.m = parts c deep ∧ J (pre ++ ys) W') ∧ KpL B n1 lb W W') ∨ (e = .returned (.bool false) ∧ ∃ q, q.map ItemL.m <+: parts c deep ∧ Jx (pre ++ q) W')

set_option maxRecDepth 100000 in
set_option maxHeartbeats 2000000 in
theorem tellL_of {lo hi B n1 lb N l : Nat} {w0 : World} {J Jx : List (ItemL lo hi w0) → World → Prop} {B' : Nat} (hJ : AbidesFrom B' J) (hhi : hi ≤ B) (hB1 : B ≤ n1) (hlb : lb < n1)
    (hY : ∀ m pre x W, J pre W → pre.length < N → YieldAt Fence.wide m Try.prog l (encL x) W fun e W' =>
      (e = .returned (.bool true) ∧ J (pre ++ [x]) W' ∧ KpL B n1 lb W W') ∨ (e = .returned (.bool false) ∧ Jx (pre ++ [x]) W'))
    {tk : Int} {ta : Option Addr} {tn tc : Nat} {sa : Option Addr} {sn sc : Nat} {ua : Option Addr} {un uc : Nat} {d : Nat} (ih : TellOkL lo hi B n1 lb N l w0 J Jx tk ta tn tc sa sn sc ua un uc d) : TellOkL lo hi B n1 lb N l w0 J Jx tk ta tn tc sa sn sc ua un uc (d + 1) := by
  intro n deep v c pre W hR hW hn1 hJ0 hO hN hdp h208
  have HRd : Hid (RdC lo hi w0 (d + 1) v c) := hR
  obtain ⟨na, nn, nc, ra, rn, rc, ka, kn, kc, rfl, _, _, hk⟩ := hR
  obtain ⟨k, hkd⟩ : ∃ k, k = c.kind := ⟨_, rfl⟩
  rw [← hkd] at HRd ⊢
  have HKL : Hid (c.kids.length = kn) := hk.len
  have hkf := hk.fits
  have hP := parts_eq c deep
  have hbk := c.bulk_eq
  have HP : Hid (parts c deep = (deep, c) :: partsL c.kids (deep + 1)) := hP
  have HBk : Hid (c.bulk = c.name.length + c.role.length + bulks c.kids) := hbk
  have HN : Hid (pre.length + 1 + (partsL c.kids (deep + 1)).length ≤ N) := by rw [hP] at hN; simp at hN; unfold Hid; omega
  have HK : Hid (RdL (RdC lo hi w0 d) lo hi w0 ka kn kc c.kids) := hk
  obtain ⟨W1, hW1⟩ : ∃ W1, W1 = (W.alloc (.cells #[.int .i64 tk, .slice ta tn tc, .slice sa sn sc, .slice ua un uc, .func (.func 36) #[] #[]] 44)).alloc (.cells #[.int .i64 k, .slice na nn nc, .slice ra rn rc, .slice ka kn kc] 25) := ⟨_, rfl⟩
  have hb1 : Below W.heap.size W W1 := by rw [hW1]; exact ((Below.refl _ _).alloc (Nat.le_refl _) _).alloc (by simp) _
  have HB1 : Hid (Below W.heap.size W W1) := hb1
  have HBT : Hid (BoxT W1 W.heap.size tk ta tn tc sa sn sc ua un uc) := by unfold Hid; rw [hW1]; exact (Below.heap_alloc _ _ _ (by simp)).trans (World.alloc_heap_new W _)
  have HBC : Hid (BoxC W1 (W.heap.size + 1) (.int .i64 k) (.slice na nn nc) (.slice ra rn rc) (.slice ka kn kc)) := by unfold Hid; rw [hW1]; have := BoxC.new (W.alloc (.cells #[.int .i64 tk, .slice ta tn tc, .slice sa sn sc, .slice ua un uc, .func (.func 36) #[] #[]] 44)) (.int .i64 k) (.slice na nn nc) (.slice ra rn rc) (.slice ka kn kc); rwa [World.size_alloc] at this
  have HW1 : Hid (W1 = (W.alloc (.cells #[.int .i64 tk, .slice ta tn tc, .slice sa sn sc, .slice ua un uc, .func (.func 36) #[] #[]] 44)).alloc (.cells #[.int .i64 k, .slice na nn nc, .slice ra rn rc, .slice ka kn kc] 25)) := hW1
  have hJ1 := abides_below hJ hJ0 hb1
  have hlbW : lb < W.heap.size := by omega
  have HOA : Hid (OwnAt lb W1 W.heap.size) := OwnAt.below hb1 hlbW hO
  have HO1 : Hid (OwnLt lb W1) := fun g hg => Nat.lt_of_lt_of_le (HOA.out g hg) hb1.size
  have hyy := hY (n - 1) pre ⟨deep, .agg #[.int .i64 k, .slice na nn nc, .slice ra rn rc, .slice ka kn kc], c, d + 1, HRd.out, h208⟩ W1 hJ1 (by have := HN.out; omega)
  unfold encL at hyy
  dsimp only at hyy
  rw [hW1] at hyy
  obtain ⟨fn, tmps, assign, body, hy, hRr⟩ := hyy
  have HRr : Hid (RoundIn Fence.wide (n - 1) Try.prog l fn tmps assign body ((W.alloc (.cells #[.int .i64 tk, .slice ta tn tc, .slice sa sn sc, .slice ua un uc, .func (.func 36) #[] #[]] 44)).alloc (.cells #[.int .i64 k, .slice na nn nc, .slice ra rn rc, .slice ka kn kc] 25)) fun e W' =>
      (e = .returned (.bool true) ∧ J (pre ++ [⟨deep, .agg #[.int .i64 k, .slice na nn nc, .slice ra rn rc, .slice ka kn kc], c, d + 1, HRd.out, h208⟩]) W' ∧ KpL B n1 lb ((W.alloc (.cells #[.int .i64 tk, .slice ta tn tc, .slice sa sn sc, .slice ua un uc, .func (.func 36) #[] #[]] 44)).alloc (.cells #[.int .i64 k, .slice na nn nc, .slice ra rn rc, .slice ka kn kc] 25)) W') ∨ (e = .returned (.bool false) ∧ Jx (pre ++ [⟨deep, .agg #[.int .i64 k, .slice na nn nc, .slice ra rn rc, .slice ka kn kc], c, d + 1, HRd.out, h208⟩]) W')) := hRr
  clear hRr hJ1 hW1 hb1 hk hkd hP hbk hN hJ0 hO hY
  refine callsIn_of_wp Try.func38 rfl trivial ?_ rfl
  simp only [Try.ntmps38, List.size_toArray, List.length_cons, List.length_nil, Nat.reduceAdd, Nat.reduceSub, Array.replicate_succ, Array.replicate_zero, List.push_toArray, List.append_toArray, List.nil_append, List.cons_append]
  gi_wp2_with fail
  refine ⟨fun h => (by cases h), ?_⟩
  refine HRr.out.mono ?_
  rintro e W2 (⟨rfl, hJ2, hk2⟩ | ⟨rfl, hx2⟩)
  · rw [← HW1.out] at hk2
    have hO1 : OwnAt lb W1 W.heap.size := HOA.out
    have hBT2 := BoxT.keptL HBT.out hk2 hn1 (hO1.ne (Nat.le_refl _))
    have hBC2 := BoxC.keptL HBC.out hk2 (Nat.le_succ_of_le hn1) (hO1.ne (Nat.le_succ _))
    have HBT2 : Hid (BoxT W2 W.heap.size tk ta tn tc sa sn sc ua un uc) := hBT2
    have HBC2 : Hid (BoxC W2 (W.heap.size + 1) (.int .i64 k) (.slice na nn nc) (.slice ra rn rc) (.slice ka kn kc)) := hBC2
    obtain ⟨p0, p1, p2, p3, p4⟩ := hBT2.cells
    obtain ⟨q0, q1, q2, q3⟩ := hBC2.cells
    have HKp2 : Hid (KpL B n1 lb W1 W2) := hk2
    have HJ2 : Hid (J (pre ++ [⟨deep, .agg #[.int .i64 k, .slice na nn nc, .slice ra rn rc, .slice ka kn kc], c, d + 1, HRd.out, h208⟩]) W2) := hJ2
    have hs1 : W.heap.size + 1 < W2.heap.size := HBC2.out.lt
    clear hO1
    clear hk2 hBT2 hBC2 hJ2 HRr hy
    gi_wp2_with fail
    refine ⟨trivial, fun h => (by cases h), ?_⟩
    refine (kidsOf_in _ _ _ _ _ _).mono ?_
    rintro e W3 ⟨rfl, hw3⟩
    have hb3 : Below W2.heap.size W2 W3 := by rw [hw3]; exact (Below.refl _ _).alloc (Nat.le_refl _) _
    have hs3 := hb3.size
    have HKp3 : Hid (KpL B n1 lb W1 W3) := HKp2.out.trans (KpL.of_below hb3 (by have := HKp2.out.1.size; have := HB1.out.size; omega) (by omega))
    have HBT3 : Hid (BoxT W3 W.heap.size tk ta tn tc sa sn sc ua un uc) := (hb3.block _ (by omega)).trans HBT2.out
    have HJ3 : Hid (J (pre ++ [⟨deep, .agg #[.int .i64 k, .slice na nn nc, .slice ra rn rc, .slice ka kn kc], c, d + 1, HRd.out, h208⟩]) W3) := abides_below hJ HJ2.out hb3
    clear hw3 hb3 p0 p1 p2 p3 p4 q0 q1 q2 q3
    gi_wp2_with fail
    gi_loopw [21] (fun i wr => ∃ (j : Nat) (ys : List (ItemL lo hi w0)), j ≤ kn ∧ i = .int .i64 j ∧ ys.map ItemL.m = (deep, c) :: partsL (c.kids.take j) (deep + 1) ∧ J (pre ++ ys) wr ∧ KpL B n1 lb W1 wr ∧ BoxT wr W.heap.size tk ta tn tc sa sn sc ua un uc ∧ W.heap.size + 1 < wr.heap.size) (fun i _ => kn - (intOf i).toNat)
    case atStart => exact ⟨0, _, Nat.zero_le _, rfl, by simp [partsL, ItemL.m], HJ3.out, HKp3.out, HBT3.out, by omega⟩
    case round =>
      obtain ⟨j, ys, hj, rfl, hys, hJr, hKr, hBr, hsr⟩ := hrel
      have HYs : Hid (ys.map ItemL.m = (deep, c) :: partsL (c.kids.take j) (deep + 1)) := hys
      have HJr : Hid (J (pre ++ ys) wr) := hJr
      have HKr : Hid (KpL B n1 lb W1 wr) := hKr
      have HBr : Hid (BoxT wr W.heap.size tk ta tn tc sa sn sc ua un uc) := hBr
      have hbw : Below B w0 wr := hW.trans ((HB1.out.mono (Nat.le_trans hB1 hn1)).trans hKr.1)
      by_cases hlt : j < kn
      · have hjl : j < c.kids.length := by rw [HKL.out]; exact hlt
        rcases HK.out.cells with hz | ⟨b, off, e1, _, hbhi, hc⟩
        · omega
        · subst e1
          obtain ⟨v0, v1, v2, v3, c0', c1', c2', c3', hrd⟩ := hc j hlt
          have c0 := (hbw.cell (p := ⟨b, off + j * 4, none⟩) (Nat.lt_of_lt_of_le hbhi hhi)).trans c0'
          have c1 := (hbw.cell (p := ⟨b, off + j * 4 + 1, none⟩) (Nat.lt_of_lt_of_le hbhi hhi)).trans c1'
          have c2 := (hbw.cell (p := ⟨b, off + j * 4 + 2, none⟩) (Nat.lt_of_lt_of_le hbhi hhi)).trans c2'
          have c3 := (hbw.cell (p := ⟨b, off + j * 4 + 3, none⟩) (Nat.lt_of_lt_of_le hbhi hhi)).trans c3'
          obtain ⟨kk, kna, knn, knc, kra, krn, krc, kka, kkn, kkc, rfl, rfl, rfl, rfl⟩ := hrd.form4
          have HKid : Hid (RdC lo hi w0 d (.agg #[.int .i64 kk, .slice kna knn knc, .slice kra krn krc, .slice kka kkn kkc]) (c.kids.getD j CN.zero)) := hrd
          obtain ⟨p0, p1, p2, p3, p4⟩ := hBr.cells
          have hji : (j : Int) < (kn : Int) := by omega
          have hsw : W.heap.size < wr.heap.size := by omega
          have HT : Hid (partsL (c.kids.take (j + 1)) (deep + 1) = partsL (c.kids.take j) (deep + 1) ++ parts (c.kids.getD j CN.zero) (deep + 1)) := partsL_take_succ _ _ _ hjl
          have HTD : Hid (partsL c.kids (deep + 1) = partsL (c.kids.take (j + 1)) (deep + 1) ++ partsL (c.kids.drop (j + 1)) (deep + 1)) := partsL_take_drop _ _ _
          have hkb := getD_bulk_le c.kids j hjl
          have HK8 : Hid (ShpC (c.kids.getD j CN.zero)) := h208.kid hjl (by have := HBk.out; have := h208.1; omega)
          have HKb : Hid (deep + 1 + (c.kids.getD j CN.zero).bulk ≤ 1099511627776) := by have := HBk.out; unfold Hid; omega
          obtain ⟨W4, hW4⟩ : ∃ W4, W4 = wr.alloc (.cells #[.int .i64 kk, .slice kna knn knc, .slice kra krn krc, .slice kka kkn kkc] 25) := ⟨_, rfl⟩
          have hb4 : Below wr.heap.size wr W4 := by rw [hW4]; exact (Below.refl _ _).alloc (Nat.le_refl _) _
          have HB4 : Hid (Below wr.heap.size wr W4) := hb4
          have HW4 : Hid (W4 = wr.alloc (.cells #[.int .i64 kk, .slice kna knn knc, .slice kra krn krc, .slice kka kkn kkc] 25)) := hW4
          have HK4 : Hid (KpL B n1 lb W1 W4) := HKr.out.trans (KpL.of_below hb4 (by omega) (by omega))
          have HO4 : Hid (OwnLt lb W4) := HK4.out.own HO1.out
          have HBT4 : Hid (BoxT W4 W.heap.size tk ta tn tc sa sn sc ua un uc) := (hb4.block _ (by omega)).trans HBr.out
          have HJ4 : Hid (J (pre ++ ys) W4) := abides_below hJ HJr.out hb4
          have hs4 := hb4.size
          have HLen : Hid ((pre ++ ys).length + (parts (c.kids.getD j CN.zero) (deep + 1)).length ≤ N) := by
            have e1 := congrArg List.length HYs.out
            have e2 := congrArg List.length HT.out
            have e3 := congrArg List.length HTD.out
            simp only [List.length_map, List.length_cons, List.length_append] at e1 e2 e3
            have := HN.out
            unfold Hid; rw [List.length_append]; omega
          clear hys hJr hKr hBr hc hrd c0' c1' c2' c3' hb4 hW4 hkb hjl
          gi_wp2_with fail
          rw [← HW4.out]
          refine ⟨trivial, fun h => (by cases h), ?_⟩
          refine (ih (n - 1) (deep + 1) _ (c.kids.getD j CN.zero) (pre ++ ys) W4 HKid.out (hbw.trans ?_) (by omega) HJ4.out HO4.out HLen.out HKb.out HK8.out).mono ?_
          · exact HB4.out.mono (by omega)
          rintro e W5 (⟨rfl, ⟨zs, hzs, hJ5⟩, hK5⟩ | ⟨rfl, q, hq, hx5⟩)
          · have HE : Hid ((ys ++ zs).map ItemL.m = (deep, c) :: partsL (c.kids.take (j + 1)) (deep + 1)) := by unfold Hid; rw [List.map_append, HYs.out, hzs, HT.out]; rfl
            have HJ5 : Hid (J (pre ++ (ys ++ zs)) W5) := by unfold Hid; rw [← List.append_assoc]; exact hJ5
            have HK5 : Hid (KpL B n1 lb W1 W5) := HK4.out.trans hK5
            have HBT5 : Hid (BoxT W5 W.heap.size tk ta tn tc sa sn sc ua un uc) := BoxT.keptL HBT.out HK5.out hn1 (HOA.out.ne (Nat.le_refl _))
            have hs5 := hK5.1.size
            clear hzs hJ5 hK5
            gi_wp2_with fail
            go_roundw
            case rel => exact ⟨j + 1, _, by omega, by go_num, HE.out, HJ5.out, HK5.out, HBT5.out, by omega⟩
            case measure => simp [intOf]; omega
          · have HQ : Hid ((ys ++ q).map ItemL.m <+: parts c deep) := by
              obtain ⟨t, ht⟩ := hq
              refine ⟨t ++ partsL (c.kids.drop (j + 1)) (deep + 1), ?_⟩
              rw [HP.out, HTD.out, HT.out, ← ht, List.map_append, HYs.out]
              simp
            have HX : Hid (Jx (pre ++ (ys ++ q)) W5) := by unfold Hid; rw [← List.append_assoc]; exact hx5
            clear hq hx5
            gi_wp2_with fail
            go_ret
            exact .inr ⟨rfl, _, HQ.out, HX.out⟩
      · have HE : Hid (ys.map ItemL.m = parts c deep) := by unfold Hid; rw [HYs.out, HP.out, List.take_of_length_le (by rw [HKL.out]; omega)]
        clear hys hJr hKr hBr
        gi_wp2_with fail
        go_ret
        exact .inl ⟨rfl, ⟨ys, HE.out, HJr.out⟩, (KpL.of_below HB1.out (Nat.le_trans hB1 hn1) (by omega)).trans HKr.out⟩
  · gi_wp2_with fail
    go_ret
    exact .inr ⟨rfl, _, ⟨partsL c.kids (deep + 1), by rw [HP.out]; rfl⟩, hx2⟩

theorem tellL_any {lo hi B n1 lb N l : Nat} {w0 : World} {J Jx : List (ItemL lo hi w0) → World → Prop} {B' : Nat} (hJ : AbidesFrom B' J) (hhi : hi ≤ B) (hB1 : B ≤ n1) (hlb : lb < n1)
    (hY : ∀ m pre x W, J pre W → pre.length < N → YieldAt Fence.wide m Try.prog l (encL x) W fun e W' =>
      (e = .returned (.bool true) ∧ J (pre ++ [x]) W' ∧ KpL B n1 lb W W') ∨ (e = .returned (.bool false) ∧ Jx (pre ++ [x]) W'))
    {tk : Int} {ta : Option Addr} {tn tc : Nat} {sa : Option Addr} {sn sc : Nat} {ua : Option Addr} {un uc : Nat} : ∀ d, TellOkL lo hi B n1 lb N l w0 J Jx tk ta tn tc sa sn sc ua un uc d
  | 0 => fun _ _ _ _ _ _ h => h.elim
  | d + 1 => tellL_of hJ hhi hB1 hlb hY (tellL_any hJ hhi hB1 hlb hY d)

set_option maxHeartbeats 1000000 in
theorem all1L_in {lo hi B n1 lb l : Nat} {w0 : World} {J Jx : List (ItemL lo hi w0) → World → Prop} {B' : Nat} (hJ : AbidesFrom B' J) (hhi : hi ≤ B) (hB1 : B ≤ n1) (hlb : lb < n1) (n Bt : Nat) (c : CN) {d : Nat}
    {k : Int} {na : Option Addr} {nn nc : Nat} {ra : Option Addr} {rn rc : Nat} {ka : Option Addr} {kn kc : Nat} (hR : RdC lo hi w0 d (.agg #[.int .i64 k, .slice na nn nc, .slice ra rn rc, .slice ka kn kc]) c) (hbk : ShpC c)
    (hY : ∀ m pre x W, J pre W → pre.length < (parts c 1).length → YieldAt Fence.wide m Try.prog l (encL x) W fun e W' =>
      (e = .returned (.bool true) ∧ J (pre ++ [x]) W' ∧ KpL B n1 lb W W') ∨ (e = .returned (.bool false) ∧ Jx (pre ++ [x]) W'))
    (W : World) (hW : Below B w0 W) (hn1 : n1 ≤ W.heap.size) (hBt : BoxT W Bt k na nn nc ra rn rc ka kn kc) (hO : OwnLt lb W) (h0 : J [] W) :
    CallsIn Fence.wide n Try.prog 37 #[.func (.yield l) #[] #[], .pointer (some ⟨Bt, 0, none⟩)] W fun e W' => (∃ v, e = .returned v) ∧
      ((∃ ys, ys.map ItemL.m = parts c 1 ∧ J ys W') ∨ (∃ pre, pre.map ItemL.m <+: parts c 1 ∧ Jx pre W')) := by
  obtain ⟨p0, p1, p2, p3, p4⟩ := hBt.cells
  have HT : Hid (TellOkL lo hi B n1 lb (parts c 1).length l w0 J Jx k na nn nc ra rn rc ka kn kc d) := tellL_any hJ hhi hB1 hlb hY d
  have HR : Hid (RdC lo hi w0 d (.agg #[.int .i64 k, .slice na nn nc, .slice ra rn rc, .slice ka kn kc]) c) := hR
  clear hY hR
  refine callsIn_of_wp Try.func37 rfl trivial ?_ rfl
  simp only [Try.ntmps37, List.size_toArray, List.length_cons, List.length_nil, Nat.reduceAdd, Nat.reduceSub, Array.replicate_succ, Array.replicate_zero, List.push_toArray, List.append_toArray, List.nil_append, List.cons_append]
  gi_wp2_with fail
  refine ⟨trivial, fun h => (by cases h), ?_⟩
  refine (HT.out (n - 1) 1 _ c [] W HR.out hW hn1 h0 hO (by simp) (by have := hbk.1; omega) hbk).mono ?_
  rintro e W1 (⟨rfl, ⟨ys, hys, hJ1⟩, _⟩ | ⟨rfl, q, hq, hx⟩)
  · gi_wp2_with fail
    go_end0
    exact ⟨⟨_, rfl⟩, .inl ⟨ys, hys, by simpa using hJ1⟩⟩
  · gi_wp2_with fail
    go_end0
    exact ⟨⟨_, rfl⟩, .inr ⟨q, hq, by simpa using hx⟩⟩

/-- The parts of a concept, one by one. -/
theorem partsL_stops {lo hi B n1 lb : Nat} (n Bt : Nat) {w0 w : World} (hhi : hi ≤ B) (hB1 : B ≤ n1) (hlb : lb < n1) (c : CN) {d : Nat}
    {k : Int} {na : Option Addr} {nn nc : Nat} {ra : Option Addr} {rn rc : Nat} {ka : Option Addr} {kn kc : Nat} (hR : RdC lo hi w0 d (.agg #[.int .i64 k, .slice na nn nc, .slice ra rn rc, .slice ka kn kc]) c) (hbk : ShpC c)
    (hb : Below B w0 w) (hn1 : n1 ≤ w.heap.size) (hBt : BoxT w Bt k na nn nc ra rn rc ka kn kc) (hO : OwnLt lb w) :
    SeqStopsK Fence.wide n Try.prog 37 #[.pointer (some ⟨Bt, 0, none⟩)] (encL (lo := lo) (hi := hi) (w0 := w0)) (KpL B n1 lb) (fun ys => ys.map ItemL.m = parts c 1) (fun pre => pre.map ItemL.m <+: parts c 1) (parts c 1).length w := fun _ _ _ W hW hJ _ hY h0 =>
  all1L_in hJ hhi hB1 hlb n Bt c hR hbk (fun m pre x W hj hl => yieldAt_wide m (hY pre x W hj hl)) W (hb.trans (hW.mono (Nat.le_trans hB1 hn1))) (Nat.le_trans hn1 hW.size) ((hW.block Bt (Array.getElem?_eq_some_iff.1 hBt).1).trans hBt) (hO.below hW (by omega)) h0

end Nm
end

end Go.Proofs.Ytedihcjhfkdkjaa
