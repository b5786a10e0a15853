/- A bent concept: as it is drawn, and the walk down. -/
import Derived.Test.YtnmljalcndfjmaaGreatNG20
import Derived.Deep.CutBlock
namespace Go.Proofs.YtnmljalcndfjmaaGreat
open Go.RowKit

/-- What a bent concept leaves. -/
def BnP (B : Nat) (a : Option Addr) (n cap : Nat) (zs : List Int) (hi : Nat) (w : World) (e : Ending) (w' : World) : Prop :=
  ∃ v c, e = .returned v ∧ RdC w.heap.size w'.heap.size w' 20 v c ∧ c.bulk ≤ 100000 ∧ Cur w' B a n cap zs hi ∧ Bt B w.heap.size w w'

/-- The tree under x, as it is while y walks. -/
structure BtI (B : Nat) (a : Option Addr) (n cap : Nat) (zs : List Int) (hi : Nat) (w : World) (X : Nat) (c : CN) (L : List (Addr × IntKind)) (w' : World) : Prop where
  m : DrM B a n cap zs hi w w'
  x : w.heap.size < X ∧ X < w'.heap.size
  l : ∀ x ∈ L, w.heap.size < x.1.block ∧ x.1.block < w'.heap.size
  bulk : c.bulk ≤ 256
  box : ∃ k na nn nc ra rn rc ka kn kc, BoxC w' X (.int .i64 k) (.slice na nn nc) (.slice ra rn rc) (.slice ka kn kc)

theorem BtI.only {B : Nat} {a : Option Addr} {n cap : Nat} {zs : List Int} {hi : Nat} {w : World} {X : Nat} {c : CN} {L : List (Addr × IntKind)} {w1 w2 : World} (h : BtI B a n cap zs hi w X c L w1) (hB : B < w.heap.size) (hc : Cur w2 B a n cap zs hi) (o : Only B w1 w2) {b o' d : Nat} {c' : CN} {L' : List (Addr × IntKind)} (hb : Bent w1 X 4 c L b o' d c' L') : BtI B a n cap zs hi w X c L w2 ∧ Bent w2 X 4 c L b o' d c' L' := by
  have h1 := h.x
  have hs := o.below.size
  exact ⟨⟨h.m.only hB hc o, ⟨h1.1, by omega⟩, fun x hx => ⟨(h.l x hx).1, by have := (h.l x hx).2; omega⟩, h.bulk, by obtain ⟨k, na, nn, nc, ra, rn, rc, ka, kn, kc, q⟩ := h.box; exact ⟨k, na, nn, nc, ra, rn, rc, ka, kn, kc, (o.other _ h1.2 (by omega)).trans q⟩⟩, hb.keep (o.other _ h1.2 (by omega)) (fun x hx => o.other _ (h.l x hx).2 (by have := (h.l x hx).1; omega))⟩

def LpI (B : Nat) (a : Option Addr) (n cap : Nat) (zs : List Int) (hi : Nat) (w : World) (X : Nat) (c : CN) (L : List (Addr × IntKind)) (p : Value) (wr : World) : Prop :=
  ∃ b o d c' L', p = .pointer (some ⟨b, o, none⟩) ∧ BtI B a n cap zs hi w X c L wr ∧ Bent wr X 4 c L b o d c' L' ∧ d ≤ 4 ∧ ∀ i, wr.frozen? ⟨b, i, none⟩ = false

/-- What the switch leaves. -/
def FnI (B : Nat) (a : Option Addr) (n cap : Nat) (zs : List Int) (hi : Nat) (w : World) (X : Nat) (wr : World) : Prop :=
  DrM B a n cap zs hi w wr ∧ ∃ c, RdS (w.heap.size + 1) wr.heap.size wr 19 X 0 c ∧ c.bulk ≤ 100000

/-- The kids of where y stands. -/
theorem Bent.row {w : World} {X D : Nat} {c : CN} {L : List (Addr × IntKind)} {b o d : Nat} {c' : CN} {L' : List (Addr × IntKind)} (h : Bent w X D c L b o d c' L') :
    ∃ a n k, w.cell? ⟨b, o + 3, none⟩ = some (.slice a n k) ∧ n = c'.kids.length ∧ (0 < n → ∃ bk ok, a = some ⟨bk, ok, none⟩) := by
  obtain ⟨v0, v1, v2, v3, c0, c1, c2, c3, hr⟩ := h.sub
  cases d with
  | zero => exact hr.elim
  | succ d =>
    obtain ⟨na, nn, nc, ra, rn, rc, ka, kn', kc', bn, on, br, or, bk', ok', Ls, hv, q1, q2, q3, rfl⟩ := hr
    simp only [Value.agg.injEq, Array.mk.injEq, List.cons.injEq, and_true] at hv
    obtain ⟨rfl, rfl, rfl, rfl⟩ := hv
    refine ⟨_, _, _, c3, q3.len.symm, fun hn => ?_⟩
    rcases q3.cells with q | ⟨e2, q⟩
    · omega
    · exact ⟨_, _, e2⟩

theorem BtI.yb {B : Nat} {a : Option Addr} {n cap : Nat} {zs : List Int} {hi : Nat} {w : World} {X : Nat} {c : CN} {L : List (Addr × IntKind)} {w1 : World} (h : BtI B a n cap zs hi w X c L w1) {b o' d : Nat} {c' : CN} {L' : List (Addr × IntKind)} (hb : Bent w1 X 4 c L b o' d c' L') : w.heap.size < b := by
  rcases hb.at_ with e | e
  · rw [e]; exact h.x.1
  · exact (h.l _ e).1
theorem BtI.yl {B : Nat} {a : Option Addr} {n cap : Nat} {zs : List Int} {hi : Nat} {w : World} {X : Nat} {c : CN} {L : List (Addr × IntKind)} {w1 : World} (h : BtI B a n cap zs hi w X c L w1) {b o' d : Nat} {c' : CN} {L' : List (Addr × IntKind)} (hb : Bent w1 X 4 c L b o' d c' L') : b < w1.heap.size := by
  rcases hb.at_ with e | e
  · rw [e]; exact h.x.2
  · exact (h.l _ e).2
theorem BtI.keepy {B : Nat} {a : Option Addr} {n cap : Nat} {zs : List Int} {hi : Nat} {w : World} {X : Nat} {c : CN} {L : List (Addr × IntKind)} {w1 w2 : World} (h : BtI B a n cap zs hi w X c L w1) {b o' d : Nat} {c' : CN} {L' : List (Addr × IntKind)} (hb : Bent w1 X 4 c L b o' d c' L') (hB : B < w.heap.size) (o : Only B w1 w2) : w2.heap[b]? = w1.heap[b]? :=
  o.other _ (h.yl hb) (by have := h.yb hb; omega)
/-- All is kept but new blocks. -/
theorem BtI.below {B : Nat} {a : Option Addr} {n cap : Nat} {zs : List Int} {hi : Nat} {w : World} {X : Nat} {c : CN} {L : List (Addr × IntKind)} {w1 w2 : World} (h : BtI B a n cap zs hi w X c L w1) (hB : B < w.heap.size) (o : Below w1.heap.size w1 w2) {b o' d : Nat} {c' : CN} {L' : List (Addr × IntKind)} (hb : Bent w1 X 4 c L b o' d c' L') : BtI B a n cap zs hi w X c L w2 ∧ Bent w2 X 4 c L b o' d c' L' := by
  have h1 := h.x
  have hs := o.size
  exact ⟨⟨h.m.below hB o, ⟨h1.1, by omega⟩, fun x hx => ⟨(h.l x hx).1, by have := (h.l x hx).2; omega⟩, h.bulk, by obtain ⟨k, na, nn, nc, ra, rn, rc, ka, kn, kc, q⟩ := h.box; exact ⟨k, na, nn, nc, ra, rn, rc, ka, kn, kc, (o.block _ h1.2).trans q⟩⟩, hb.keep (o.block _ h1.2) (fun x hx => o.block _ (h.l x hx).2)⟩
theorem RdC.formS {lo hi d : Nat} {w : World} {v0 v1 v2 v3 : Value} {c : CN} (h : RdC lo hi w d (.agg #[v0, v1, v2, v3]) c) : v0 = .int .i64 c.kind ∧ (∃ a n k, v1 = .slice a n k) ∧ (∃ a n k, v2 = .slice a n k) ∧ (∃ a n k, v3 = .slice a n k) := by
  cases d with
  | zero => exact h.elim
  | succ d =>
    obtain ⟨na, nn, nc, ra, rn, rc, ka, kn, kc, hv, _⟩ := h
    simp only [Value.agg.injEq, Array.mk.injEq, List.cons.injEq, and_true] at hv
    obtain ⟨rfl, rfl, rfl, rfl⟩ := hv
    exact ⟨rfl, ⟨_, _, _, rfl⟩, ⟨_, _, _, rfl⟩, ⟨_, _, _, rfl⟩⟩
theorem FnI.kind {B : Nat} {a : Option Addr} {n cap : Nat} {zs : List Int} {hi : Nat} {w : World} {X : Nat} {c : CN} {L : List (Addr × IntKind)} {w1 : World} (h : BtI B a n cap zs hi w X c L w1) {b o d : Nat} {c' : CN} {L' : List (Addr × IntKind)} (hb : Bent w1 X 4 c L b o d c' L') (hd : d ≤ 4) (hB : B < w.heap.size) (hwb : w.heap.size < b) (k : Int) : FnI B a n cap zs hi w X (w1.setCell ⟨b, o, none⟩ (.int .i64 k)) := by
  obtain ⟨c'', q1, q2⟩ := put_kind (lo := w.heap.size + 1) hb (fun x hx => h.l x hx) k
  have hs : (w1.setCell ⟨b, o, none⟩ (.int .i64 k)).heap.size = w1.heap.size := by simp
  refine ⟨h.m.set hB hwb _, c'', by rw [hs]; exact q1.higher (by omega), ?_⟩
  have := h.bulk
  have := hb.bulk
  omega
theorem FnI.name {B : Nat} {a : Option Addr} {n cap : Nat} {zs : List Int} {hi : Nat} {w : World} {X : Nat} {c : CN} {L : List (Addr × IntKind)} {w1 : World} (h : BtI B a n cap zs hi w X c L w1) {b o d : Nat} {c' : CN} {L' : List (Addr × IntKind)} (hb : Bent w1 X 4 c L b o d c' L') (hd : d ≤ 4) (hB : B < w.heap.size) (hwb : w.heap.size < b) {a' : Option Addr} {n' cap' b' : Nat} {nm : List Int} (hr : RolR w1 (.slice a' n' cap') nm b') (h1 : b < b') (h2 : b' < w1.heap.size) (h3 : nm.length ≤ 100) : FnI B a n cap zs hi w X (w1.setCell ⟨b, o + 1, none⟩ (.slice a' n' cap')) := by
  obtain ⟨c'', q1, q2⟩ := put_name (lo := w.heap.size + 1) hb (fun x hx => h.l x hx) (rol_rd hr (by omega) (by omega) h2)
  have hs : (w1.setCell ⟨b, o + 1, none⟩ (.slice a' n' cap')).heap.size = w1.heap.size := by simp
  refine ⟨h.m.set hB hwb _, c'', by rw [hs]; exact q1.higher (by omega), ?_⟩
  have := h.bulk
  have := hb.bulk
  omega
theorem FnI.role {B : Nat} {a : Option Addr} {n cap : Nat} {zs : List Int} {hi : Nat} {w : World} {X : Nat} {c : CN} {L : List (Addr × IntKind)} {w1 : World} (h : BtI B a n cap zs hi w X c L w1) {b o d : Nat} {c' : CN} {L' : List (Addr × IntKind)} (hb : Bent w1 X 4 c L b o d c' L') (hd : d ≤ 4) (hB : B < w.heap.size) (hwb : w.heap.size < b) {a' : Option Addr} {n' cap' b' : Nat} {nm : List Int} (hr : RolR w1 (.slice a' n' cap') nm b') (h1 : b < b') (h2 : b' < w1.heap.size) (h3 : nm.length ≤ 100) : FnI B a n cap zs hi w X (w1.setCell ⟨b, o + 2, none⟩ (.slice a' n' cap')) := by
  obtain ⟨c'', q1, q2⟩ := put_role (lo := w.heap.size + 1) hb (fun x hx => h.l x hx) (rol_rd hr (by omega) (by omega) h2)
  have hs : (w1.setCell ⟨b, o + 2, none⟩ (.slice a' n' cap')).heap.size = w1.heap.size := by simp
  refine ⟨h.m.set hB hwb _, c'', by rw [hs]; exact q1.higher (by omega), ?_⟩
  have := h.bulk
  have := hb.bulk
  omega

theorem FnI.kids {B : Nat} {a : Option Addr} {n cap : Nat} {zs : List Int} {hi : Nat} {w : World} {X : Nat} {c : CN} {L : List (Addr × IntKind)} {w1 w2 : World} (h : BtI B a n cap zs hi w X c L w1) {b o e : Nat} {c' : CN} {L' : List (Addr × IntKind)} (hb : Bent w1 X 4 c L b o (e + 1) c' L') (hd : e + 1 ≤ 4) (hB : B < w.heap.size) (hwb : w.heap.size < b) {ka : Option Addr} {kn kc : Nat} (h3 : w1.cell? ⟨b, o + 3, none⟩ = some (.slice ka kn kc))
    {m : Nat} {xs : List Value} (hown : w1.ownsRow 0 30 4 (.slice ka kn kc) m xs) (hob : ∀ g, (Value.slice ka kn kc).ownBlock = some g → ((⟨g, 0, none⟩, .i64) : Addr × IntKind) ∈ L ∧ ∀ x ∈ L, x.1.block = g → x.1.off + 4 ≤ m * 4)
    {g cp : Nat} (ho2 : w2.ownsRow 0 30 4 (.slice (some ⟨g, 0, none⟩) (m + 1) cp) (m + 1) (xs ++ zero4)) (hg : w1.grownBy w2 (Value.slice ka kn kc).ownBlock) (hat : (Value.slice ka kn kc).ownBlock = some g ∨ (g = w1.heap.size ∧ ∀ k, k < w1.heap.size → w2.heap[k]? = w1.heap[k]?)) (hgl : g < w2.heap.size) : FnI B a n cap zs hi w X (w2.setCell ⟨b, o + 3, none⟩ (.slice (some ⟨g, 0, none⟩) (m + 1) cp)) := by
  have hbs := h.m.bt.size
  obtain ⟨c'', q1, q2⟩ := put_kids (lo := w.heap.size + 1) hb h.x.2 (by have := h.x; omega) (fun x hx => h.l x hx) h3 hown hob ho2 hg hat hgl
  have hs : (w2.setCell ⟨b, o + 3, none⟩ (.slice (some ⟨g, 0, none⟩) (m + 1) cp)).heap.size = w2.heap.size := by simp
  have hM : DrM B a n cap zs hi w w2 := h.m.grown (C := w.heap.size + 1) hB hg (fun k e => (h.l _ (hob k e).1).1) (Nat.lt_succ_self _)
  refine ⟨hM.set hB hwb _, c'', by rw [hs]; exact q1.higher (by omega), ?_⟩
  have := h.bulk
  have := hb.bulk
  omega

theorem BtI.wp {B : Nat} {a : Option Addr} {n cap : Nat} {zs : List Int} {hi : Nat} {w : World} {X : Nat} {c : CN} {L : List (Addr × IntKind)} {w1 : World} (h : BtI B a n cap zs hi w X c L w1) {b o d : Nat} {c' : CN} {L' : List (Addr × IntKind)} (hb : Bent w1 X 4 c L b o d c' L') : ∃ k na nn nc ra rn rc ka kn kc, WpV B a n cap zs hi w X k na nn nc ra rn rc ka kn kc 4 256 w1 := by
  obtain ⟨k, na, nn, nc, ra, rn, rc, ka, kn, kc, q⟩ := h.box
  obtain ⟨v0, v1, v2, v3, c0, c1, c2, c3, hr⟩ := hb.own
  obtain ⟨x0, x1, x2, x3⟩ := q.cells
  refine ⟨k, na, nn, nc, ra, rn, rc, ka, kn, kc, h.m, h.x.1, q, c, L, ?_, fun x hx => ⟨(h.l x hx).1, hb.nm x hx, (h.l x hx).2⟩, h.bulk⟩
  rw [x0] at c0; rw [x1] at c1; rw [x2] at c2; rw [x3] at c3
  simp only [Option.some.injEq] at c0 c1 c2 c3
  rw [c0, c1, c2, c3]
  exact hr
theorem FnI.wp {B : Nat} {a : Option Addr} {n cap : Nat} {zs : List Int} {hi : Nat} {w : World} {X : Nat} {k : Int} {na : Option Addr} {nn nc : Nat} {ra : Option Addr} {rn rc : Nat} {ka : Option Addr} {kn kc : Nat} {D K : Nat} {wr : World} (h : WpV B a n cap zs hi w X k na nn nc ra rn rc ka kn kc D K wr) (hD : D ≤ 19) (hK : K ≤ 100000) : FnI B a n cap zs hi w X wr := by
  obtain ⟨c, L, hr, hL, hk⟩ := h.own
  obtain ⟨x0, x1, x2, x3⟩ := h.box.cells
  exact ⟨h.m, c, ⟨_, _, _, _, x0, x1, x2, x3, (hr.lift hD).rd (fun x hx => ⟨(hL x hx).1, (hL x hx).2.2⟩)⟩, by omega⟩

theorem Bent.frz {w : World} {X D : Nat} {c : CN} {L : List (Addr × IntKind)} {b o d : Nat} {c' : CN} {L' : List (Addr × IntKind)} (h : Bent w X D c L b o d c' L') {bk ok kn kc : Nat} (h1 : w.cell? ⟨b, o + 3, none⟩ = some (.slice (some ⟨bk, ok, none⟩) kn kc)) (i : Nat) : w.frozen? ⟨bk, i, none⟩ = false := by
  cases d with
  | zero =>
    obtain ⟨v0, v1, v2, v3, _, _, _, _, hr⟩ := h.sub
    exact hr.elim
  | succ d =>
    obtain ⟨n, xs, q1, _, _⟩ := h.wh _ h1
    rcases q1.2 with ⟨q, _⟩ | ⟨g, cap, cur, q, _, hg, _⟩
    · simp at q
    · simp only [Value.slice.injEq, Option.some.injEq, Addr.mk.injEq, and_true] at q
      obtain ⟨⟨rfl, _⟩, _⟩ := q
      simp [World.frozen?, hg]

set_option maxRecDepth 100000 in
set_option maxHeartbeats 6000000 in
theorem l2bent_any {w : World} {B : Nat} {a : Option Addr} {n cap : Nat} {zs : List Int} {hi : Nat} (c : Cur w B a n cap zs hi) :
    Calls Tryz.prog 31 #[.pointer (some ⟨B, 0, none⟩)] w (BnP B a n cap zs hi w) := by
  have hB := c.lt
  have hb0 : Below w.heap.size w (w.alloc (.cells #[.int .i64 0, .slice none 0 0, .slice none 0 0, .slice none 0 0] 30)) := (Below.refl _ _).alloc (Nat.le_refl _) _
  obtain ⟨W0, HW0⟩ : ∃ W, Hid (W = w.alloc (.cells #[.int .i64 0, .slice none 0 0, .slice none 0 0, .slice none 0 0] 30)) := ⟨_, rfl⟩
  have HM0 : Hid (DrM B a n cap zs hi w W0) := by unfold Hid; rw [HW0.out]; exact ⟨c.of (hb0.mono hB), Bt.of_below hb0, BoxC.new w _ _ _ _⟩
  clear hb0 c
  go_enter Tryz.func31, Tryz.ntmps31
  go_wp2_with fail
  rw [← HW0.out]
  refine (l2draw_any 3 (by omega) HM0.out.cur).mono ?_
  rintro e w1 hD
  obtain ⟨y0, y1, y2, y3, c, L, rfl, hO, hWh, hbk, _, hC1, hbt1⟩ := hD
  obtain ⟨hy0, ⟨na, nn, nc, hy1⟩, ⟨ra, rn, rc, hy2⟩, ⟨ka, kn, kc, hy3⟩⟩ := hO.ow.form
  obtain ⟨k, hk⟩ : ∃ k, k = c.kind := ⟨_, rfl⟩
  rw [← hk] at hy0
  rw [hy0, hy1, hy2, hy3] at hO
  rw [hy3] at hWh
  rw [hy0, hy1, hy2, hy3]
  have hs0 : W0.heap.size = w.heap.size + 1 := by rw [HW0.out]; simp
  have HM1 : Hid (DrM B a n cap zs hi w w1) := ⟨hC1, HM0.out.bt.trans (hbt1.mono HM0.out.bt.size), (hbt1.block _ HM0.out.box.lt (by omega)).trans HM0.out.box⟩
  obtain ⟨W2, HW2⟩ : ∃ W, Hid (W = w1.alloc (.cells #[.int .i64 k, .slice na nn nc, .slice ra rn rc, .slice ka kn kc] 30)) := ⟨_, rfl⟩
  have hb2 : Below w1.heap.size w1 W2 := by rw [HW2.out]; exact (Below.refl _ _).alloc (Nat.le_refl _) _
  have HX2 : Hid (BoxC W2 w1.heap.size (.int .i64 k) (.slice na nn nc) (.slice ra rn rc) (.slice ka kn kc)) := by unfold Hid; rw [HW2.out]; exact BoxC.new w1 _ _ _ _
  have hll : ∀ x ∈ L, w.heap.size < x.1.block ∧ x.1.block < w1.heap.size := by
    intro x hx
    rcases hO.us x hx with ⟨q1, q2⟩ | ⟨t, _, _, q, _⟩
    · omega
    · simp at q
  have hkk : ∀ x ∈ L, W2.heap[x.1.block]? = w1.heap[x.1.block]? := fun x hx => hb2.block _ (hll x hx).2
  have HI2 : Hid (BtI B a n cap zs hi w w1.heap.size c L W2) := ⟨HM1.out.below hB hb2, ⟨HM1.out.box.lt, HX2.out.lt⟩, fun x hx => ⟨(hll x hx).1, by have := (hll x hx).2; have := hb2.size; omega⟩, hbk, ⟨_, _, _, _, _, _, _, _, _, _, HX2.out⟩⟩
  have HB2 : Hid (Bent W2 w1.heap.size 4 c L w1.heap.size 0 4 c L) := by
    obtain ⟨x0, x1, x2, x3⟩ := HX2.out.cells
    have hs : OwS W2 4 w1.heap.size 0 c L := ⟨_, _, _, _, x0, x1, x2, x3, hO.ow.keep hkk⟩
    have hn : ∀ x ∈ L, x.1.block ≠ w1.heap.size := fun x hx => by have := (hll x hx).2; omega
    exact ⟨hs, hO.nd, hn, .here _ _, hs, fun x hx => hx, hO.nd, fun hm => by obtain ⟨x, hx, e⟩ := List.mem_map.1 hm; exact hn x hx (by rw [e]), .inl rfl, fun u hu => by rw [x3] at hu; simp only [Option.some.injEq] at hu; subst hu; exact hWh.keep hkk, Nat.le_refl _⟩
  clear hO hWh hbk hC1 hbt1 hy0 hy1 hy2 hy3 hk hb2 hll hkk hs0
  go_wp2_with fail
  try dsimp only
  rw [← HW2.out]
  refine (l1Once_any HI2.out.m.cur 6 (by omega)).mono ?_
  rintro e w3 ⟨y, rfl, hc3, ho3⟩
  obtain ⟨hi3, hb3⟩ := HI2.out.only hB hc3 ho3 HB2.out
  have HI3 : Hid (BtI B a n cap zs hi w w1.heap.size c L w3) := hi3
  have HB3 : Hid (Bent w3 w1.heap.size 4 c L w1.heap.size 0 4 c L) := hb3
  have HX3 : Hid (BoxC w3 w1.heap.size (.int .i64 k) (.slice na nn nc) (.slice ra rn rc) (.slice ka kn kc)) := (ho3.other _ HI2.out.x.2 (by have := HI2.out.x.1; omega)).trans HX2.out
  clear hi3 hb3 hc3 ho3 HI2 HB2 HX2
  cases y
  · obtain ⟨x0, x1, x2, x3⟩ := HX3.out.cells
    obtain ⟨z0, z1, z2, z3⟩ := HI3.out.m.box.cells
    have zf0 := HI3.out.m.box.frz 0
    have zf1 := HI3.out.m.box.frz 1
    have zf2 := HI3.out.m.box.frz 2
    have zf3 := HI3.out.m.box.frz 3
    go_wp2
    obtain ⟨hVs, hBs⟩ := set4_mem HI3.out.m.box (.int .i64 k) (.slice na nn nc) (.slice ra rn rc) (.slice ka kn kc) HI3.out.m.bt (Nat.le_refl _)
    obtain ⟨s0, s1, s2, s3⟩ := hVs.cells
    refine bodyPost_ret (v := .agg #[.int .i64 k, .slice na nn nc, .slice ra rn rc, .slice ka kn kc]) (by simp [results, Tryz.results31, go_sem, s0, s1, s2, s3]) rfl ?_
    obtain ⟨u0, u1, u2, u3, c0, c1, c2, c3, hr⟩ := HB3.out.own
    have e0 : Value.agg #[u0, u1, u2, u3] = .agg #[.int .i64 k, .slice na nn nc, .slice ra rn rc, .slice ka kn kc] := by
      rw [x0] at c0; rw [x1] at c1; rw [x2] at c2; rw [x3] at c3
      simp only [Option.some.injEq] at c0 c1 c2 c3
      rw [c0, c1, c2, c3]
    rw [e0] at hr
    have hr' := hr.keep (w' := ((((w3.setCell ⟨w.heap.size, 0, none⟩ (.int .i64 k)).setCell ⟨w.heap.size, 1, none⟩ (.slice na nn nc)).setCell ⟨w.heap.size, 2, none⟩ (.slice ra rn rc)).setCell ⟨w.heap.size, 3, none⟩ (.slice ka kn kc))) (fun x hx => heap_set4 _ _ _ _ _ (by have := (HI3.out.l x hx).1; omega))
    exact ⟨_, c, rfl, ((hr'.lift (by omega : 4 ≤ 20)).rd (fun x hx => ⟨by have := (HI3.out.l x hx).1; omega, by have := (HI3.out.l x hx).2; simpa using this⟩)), by have := HI3.out.bulk; omega, HI3.out.m.cur.keepB (fun q hq => heap_set4 _ _ _ _ _ (by omega)), hBs⟩
  · clear HX3
    go_upto_block 0 with fail
    go_cut [4] from 13 to 34 (fun p wc => LpI B a n cap zs hi w w1.heap.size c L p wc)
    case first =>
      go_wp2_with fail
      go_loopw [4] (fun p wr => LpI B a n cap zs hi w w1.heap.size c L p wr) (fun p wr => dep w1.heap.size 4 c L wr p)
      case atStart => exact ⟨_, _, _, _, _, rfl, HI3.out, HB3.out, Nat.le_refl 4, fun i => by obtain ⟨k, na, nn, nc, ra, rn, rc, ka, kn, kc, q⟩ := HI3.out.box; exact q.frz i⟩
      case round =>
        obtain ⟨b, o, d0, c0', L0', rfl, hi4, hb4, hd4, hf4⟩ := hrel
        obtain ⟨⟨c', L', hb4'⟩, hdd⟩ := dep_spec hb4
        obtain ⟨d, hd⟩ : ∃ d, d = dep w1.heap.size 4 c L wr (.pointer (some ⟨b, o, none⟩)) := ⟨_, rfl⟩
        rw [← hd] at hb4'
        have HD4 : Hid (d ≤ 4) := by unfold Hid; rw [hd]; omega
        have HD : Hid (d = dep w1.heap.size 4 c L wr (.pointer (some ⟨b, o, none⟩))) := hd
        have HI4 : Hid (BtI B a n cap zs hi w w1.heap.size c L wr) := hi4
        have HB4 : Hid (Bent wr w1.heap.size 4 c L b o d c' L') := hb4'
        have HF4 : Hid (∀ i, wr.frozen? ⟨b, i, none⟩ = false) := hf4
        obtain ⟨la, ln, lc, hc3, hln, hla⟩ := Bent.row HB4.out
        have HC3 : Hid (wr.cell? ⟨b, o + 3, none⟩ = some (.slice la ln lc)) := hc3
        have HLN : Hid (ln = c'.kids.length) := hln
        clear hi4 hb4 hb4' hd hln hf4 hd4 hdd
        by_cases hl0 : ln = 0
        · subst hl0
          go_wp2_with fail
          go_meet
          case rel => exact ⟨_, _, _, _, _, rfl, HI4.out, HB4.out, HD4.out, HF4.out⟩
        · have hlp : (0 : Int) < (ln : Int) := by omega
          obtain ⟨bk, ok, hla'⟩ := hla (by omega)
          subst hla'
          go_wp2_with fail
          refine (l1Once_any HI4.out.m.cur 2 (by omega)).mono ?_
          rintro e w5 ⟨y, rfl, hc5, ho5⟩
          obtain ⟨hi5, hb5⟩ := HI4.out.only hB hc5 ho5 HB4.out
          have HI5 : Hid (BtI B a n cap zs hi w w1.heap.size c L w5) := hi5
          have HB5 : Hid (Bent w5 w1.heap.size 4 c L b o d c' L') := hb5
          have hblk : w5.heap[b]? = wr.heap[b]? := by
            rcases HB4.out.at_ with e | e
            · rw [e]; exact ho5.other _ HI4.out.x.2 (by have := HI4.out.x.1; omega)
            · exact ho5.other _ (HI4.out.l _ e).2 (by have hq : w.heap.size < b := (HI4.out.l _ e).1; show b ≠ B; omega)
          have hc35 : w5.cell? ⟨b, o + 3, none⟩ = some (.slice (some ⟨bk, ok, none⟩) ln lc) := (World.cell?_of_block (w := wr) hblk).trans HC3.out
          have HF5 : Hid (∀ i, w5.frozen? ⟨b, i, none⟩ = false) := fun i => (World.frozen?_of_block (w := wr) hblk).trans (HF4.out i)
          clear hi5 hb5 hc5 ho5 hc3 hblk
          cases y
          · go_wp2_with fail
            go_meet
            case rel => exact ⟨_, _, _, _, _, rfl, HI5.out, HB5.out, HD4.out, HF5.out⟩
          · have hl256 : ln ≤ 256 := by
              have := HB5.out.bulk
              have := HI5.out.bulk
              have := c'.bulk_eq
              have := length_le_bulks c'.kids
              have := HLN.out
              omega
            go_wp2_with fail
            go_region_law (go_simp; refine (l1Below_any (HI5.out.m.cur.keepB (w' := w5.drew) (fun _ _ => rfl)) ln (by omega)).mono ?_; rintro e w6 ⟨x, rfl, ⟨hx0, hx1⟩, hc6, ho6⟩; obtain ⟨j, hj⟩ : ∃ j : Nat, x = (j : Int) := ⟨x.toNat, by omega⟩; subst hj; have HF6 : Hid (BtI B a n cap zs hi w w1.heap.size c L w6 ∧ Bent w6 w1.heap.size 4 c L b o d c' L') := HI5.out.only hB hc6 ((Only.refl B w5).drew.trans ho6) HB5.out; have hc36 : w6.cell? ⟨b, o + 3, none⟩ = some (.slice (some ⟨bk, ok, none⟩) ln lc) := (World.cell?_of_block (w := w5) (by show w6.heap[b]? = w5.heap[b]?; rcases HB5.out.at_ with e | e; (· rw [e]; exact ((Only.refl B w5).drew.trans ho6).other _ HI5.out.x.2 (by have := HI5.out.x.1; omega)); (· exact ((Only.refl B w5).drew.trans ho6).other _ (HI5.out.l _ e).2 (by have hq : w.heap.size < b := (HI5.out.l _ e).1; show b ≠ B; omega)))).trans hc35; have hjl : j < ln := (by omega); clear hc6 ho6)
            all_goals
              go_wp2_with fail
              have HN : Hid (LpI B a n cap zs hi w w1.heap.size c L (.pointer (some ⟨bk, ok + j * 4, none⟩)) w6 ∧ dep w1.heap.size 4 c L w6 (.pointer (some ⟨bk, ok + j * 4, none⟩)) < dep w1.heap.size 4 c L wr (.pointer (some ⟨b, o, none⟩))) := by
                obtain ⟨e, L2, he, _, hb⟩ := HF6.out.2.step hc36 hjl
                refine ⟨⟨_, _, _, _, _, rfl, HF6.out.1, hb, by have := HD4.out; omega, Bent.frz HF6.out.2 hc36⟩, ?_⟩
                have h1 := (dep_spec hb).2
                have h2 := HD.out
                exact Nat.lt_of_le_of_lt h1 (by rw [← h2]; omega)
              go_roundw
              case rel => first | exact HN.out.1 | ((repeat apply Exists.intro); exact ⟨HN.out.1, rfl⟩)
              case measure => exact HN.out.2
    case rest =>
      obtain ⟨b, o, d, c', L', rfl, hi4, hb4, hd4, hf4⟩ := hcut
      have HI4 : Hid (BtI B a n cap zs hi w w1.heap.size c L wc) := hi4
      have HB4 : Hid (Bent wc w1.heap.size 4 c L b o d c' L') := hb4
      have HF4 : Hid (∀ i, wc.frozen? ⟨b, i, none⟩ = false) := hf4
      have HD4 : Hid (d ≤ 4) := hd4
      clear hi4 hb4 hf4 hd4 HI3 HB3
      go_wp2_with fail
      refine (l1Below_any HI4.out.m.cur 6 (by omega)).mono ?_
      rintro e w7 ⟨m, rfl, ⟨hm0, hm1⟩, hc7, ho7⟩
      obtain ⟨hi7, hb7⟩ := HI4.out.only hB hc7 ho7 HB4.out
      have HI7 : Hid (BtI B a n cap zs hi w w1.heap.size c L w7) := hi7
      have HB7 : Hid (Bent w7 w1.heap.size 4 c L b o d c' L') := hb7
      have HF7 : Hid (∀ i, w7.frozen? ⟨b, i, none⟩ = false) := fun i => (World.frozen?_of_block (w := wc) (HI4.out.keepy HB4.out hB ho7)).trans (HF4.out i)
      clear hi7 hb7 hc7 ho7 HI4 HB4 HF4
      have hwb : w.heap.size < b := HI7.out.yb HB7.out
      go_upto_block 2 with fail
      go_cut [5, 6] from 37 to 96 (fun _ _ wx => FnI B a n cap zs hi w w1.heap.size wx)
      case first =>
        by_cases h0 : m = 0
        · subst h0
          go_wp2_with fail
          refine (l1Below_any HI7.out.m.cur 10 (by omega)).mono ?_
          rintro e w8 ⟨x, rfl, ⟨hx0, hx1⟩, hc8, ho8⟩
          obtain ⟨hi8, hb8⟩ := HI7.out.only hB hc8 ho8 HB7.out
          have HI8 : Hid (BtI B a n cap zs hi w w1.heap.size c L w8) := hi8
          have HB8 : Hid (Bent w8 w1.heap.size 4 c L b o d c' L') := hb8
          obtain ⟨v0, v1, v2, v3, y0, y1, y2, y3, _⟩ := hb8.sub
          have yf := (World.frozen?_of_block (w := w7) (a := ⟨b, o, none⟩) (HI7.out.keepy HB7.out hB ho8)).trans (HF7.out o)
          obtain ⟨kd, hkd⟩ : ∃ kd : Int, IntKind.i64.wrap (x - 1) = kd := ⟨_, rfl⟩
          clear hi8 hb8 hc8 ho8
          go_wp2_with fail
          go_meet
          case rel =>
            exact FnI.kind HI8.out HB8.out HD4.out hB hwb kd
        · have h0' : (m == 0) = false := by simpa using h0
          by_cases h1 : m = 1
          · subst h1
            obtain ⟨W8, HW8⟩ : ∃ W, Hid (W = w7.alloc (.cells #[.string { data := #[] }, .string { data := #[65] }, .string { data := #[65, 110, 100] }, .string { data := #[81, 49] }, .string { data := #[97] }] 9)) := ⟨_, rfl⟩
            have hb8 : Below w7.heap.size w7 W8 := by rw [HW8.out]; exact (Below.refl _ _).alloc (Nat.le_refl _) _
            have hs8 : w7.heap.size < W8.heap.size := by rw [HW8.out]; simp
            have HWs : Hid (∀ i : Nat, i < 5 → ∃ s : ByteArray, W8.cell? ⟨w7.heap.size, i, none⟩ = some (.string s) ∧ s.size ≤ 3) := by
              intro i hi
              rw [HW8.out]
              match i, hi with
              | 0, _ | 1, _ | 2, _ | 3, _ | 4, _ => exact ⟨_, by simp; rfl, by decide⟩
            have HP8 : Hid (BtI B a n cap zs hi w w1.heap.size c L W8 ∧ Bent W8 w1.heap.size 4 c L b o d c' L') := HI7.out.below hB hb8 HB7.out
            have hby : b < w7.heap.size := HI7.out.yl HB7.out
            have HF8 : Hid (∀ i, W8.frozen? ⟨b, i, none⟩ = false) := fun i => (World.frozen?_of_block (w := w7) (hb8.block _ hby)).trans (HF7.out i)
            clear hb8
            go_wp2_with fail
            rw [← HW8.out]
            refine (l1Below_any HP8.out.1.m.cur 5 (by omega)).mono ?_
            rintro e w9 ⟨x, rfl, ⟨hx0, hx1⟩, hc9, ho9⟩
            obtain ⟨j, hj⟩ : ∃ j : Nat, x = (j : Int) := ⟨x.toNat, by omega⟩
            subst hj
            have hjn : j < 5 := by omega
            obtain ⟨s, hsc, hss⟩ := HWs.out j hjn
            have hsc9 : w9.cell? ⟨w7.heap.size, j, none⟩ = some (.string s) := (World.cell?_of_block (w := W8) (ho9.other w7.heap.size hs8 (by omega))).trans hsc
            have HP9 : Hid (BtI B a n cap zs hi w w1.heap.size c L w9 ∧ Bent w9 w1.heap.size 4 c L b o d c' L') := HP8.out.1.only hB hc9 ho9 HP8.out.2
            have HF9 : Hid (∀ i, w9.frozen? ⟨b, i, none⟩ = false) := fun i => (World.frozen?_of_block (w := W8) (HP8.out.1.keepy HP8.out.2 hB ho9)).trans (HF8.out i)
            have hji : (j : Int) < 5 := by omega
            obtain ⟨Wx, HWx⟩ : ∃ W, Hid (W = Lib.bytesWorld w9 5 s) := ⟨_, rfl⟩
            obtain ⟨cp, HCP⟩ : ∃ cp, Hid (cp = grownCap w9 s.size 0 5) := ⟨_, rfl⟩
            have hcv : (convert 9 22 (.string s)).run Tryz.prog w9 = .ok (.slice (some ⟨w9.heap.size, 0, none⟩) s.size cp) Wx := by
              rw [HWx.out, HCP.out]
              exact Lib.run_convert_string_bytes w9 9 22 5 s Tryz.underlying9 Tryz.underlying22 Tryz.underlying5
            have hbx : Below w9.heap.size w9 Wx := by rw [HWx.out]; exact bytes_below w9 5 s
            have hsx : w9.heap.size < Wx.heap.size := by rw [HWx.out, Lib.bytesWorld_size]; omega
            have HPx : Hid (BtI B a n cap zs hi w w1.heap.size c L Wx ∧ Bent Wx w1.heap.size 4 c L b o d c' L') := HP9.out.1.below hB hbx HP9.out.2
            have hb9 : b < w9.heap.size := HP9.out.1.yl HP9.out.2
            have yf := (World.frozen?_of_block (w := w9) (a := ⟨b, o + 1, none⟩) (hbx.block _ hb9)).trans (HF9.out (o + 1))
            have HRx : Hid (RolR Wx (.slice (some ⟨w9.heap.size, 0, none⟩) s.size cp) (numsOf s) w9.heap.size) := by unfold Hid; rw [HWx.out, HCP.out]; exact rol_conv w9 s (by omega)
            obtain ⟨v0, v1, v2, v3, y0, y1, y2, y3, _⟩ := HPx.out.2.sub
            clear hsc hc9 ho9 hbx hx0 hx1
            go_wp2_with fail
            go_meet
            case rel => exact FnI.name HPx.out.1 HPx.out.2 HD4.out hB hwb HRx.out hb9 hsx (by rw [numsOf_len]; omega)
          · have h1' : (m == 1) = false := by simpa using h1
            by_cases h2 : m = 2
            · subst h2
              obtain ⟨W8, HW8⟩ : ∃ W, Hid (W = w7.alloc (.cells #[.string { data := #[] }, .string { data := #[114] }, .string { data := #[82] }] 9)) := ⟨_, rfl⟩
              have hb8 : Below w7.heap.size w7 W8 := by rw [HW8.out]; exact (Below.refl _ _).alloc (Nat.le_refl _) _
              have hs8 : w7.heap.size < W8.heap.size := by rw [HW8.out]; simp
              have HWs : Hid (∀ i : Nat, i < 3 → ∃ s : ByteArray, W8.cell? ⟨w7.heap.size, i, none⟩ = some (.string s) ∧ s.size ≤ 3) := by
                intro i hi
                rw [HW8.out]
                match i, hi with
                | 0, _ | 1, _ | 2, _ => exact ⟨_, by simp; rfl, by decide⟩
              have HP8 : Hid (BtI B a n cap zs hi w w1.heap.size c L W8 ∧ Bent W8 w1.heap.size 4 c L b o d c' L') := HI7.out.below hB hb8 HB7.out
              have hby : b < w7.heap.size := HI7.out.yl HB7.out
              have HF8 : Hid (∀ i, W8.frozen? ⟨b, i, none⟩ = false) := fun i => (World.frozen?_of_block (w := w7) (hb8.block _ hby)).trans (HF7.out i)
              clear hb8
              go_wp2_with fail
              rw [← HW8.out]
              refine (l1Below_any HP8.out.1.m.cur 3 (by omega)).mono ?_
              rintro e w9 ⟨x, rfl, ⟨hx0, hx1⟩, hc9, ho9⟩
              obtain ⟨j, hj⟩ : ∃ j : Nat, x = (j : Int) := ⟨x.toNat, by omega⟩
              subst hj
              have hjn : j < 3 := by omega
              obtain ⟨s, hsc, hss⟩ := HWs.out j hjn
              have hsc9 : w9.cell? ⟨w7.heap.size, j, none⟩ = some (.string s) := (World.cell?_of_block (w := W8) (ho9.other w7.heap.size hs8 (by omega))).trans hsc
              have HP9 : Hid (BtI B a n cap zs hi w w1.heap.size c L w9 ∧ Bent w9 w1.heap.size 4 c L b o d c' L') := HP8.out.1.only hB hc9 ho9 HP8.out.2
              have HF9 : Hid (∀ i, w9.frozen? ⟨b, i, none⟩ = false) := fun i => (World.frozen?_of_block (w := W8) (HP8.out.1.keepy HP8.out.2 hB ho9)).trans (HF8.out i)
              have hji : (j : Int) < 3 := by omega
              obtain ⟨Wx, HWx⟩ : ∃ W, Hid (W = Lib.bytesWorld w9 5 s) := ⟨_, rfl⟩
              obtain ⟨cp, HCP⟩ : ∃ cp, Hid (cp = grownCap w9 s.size 0 5) := ⟨_, rfl⟩
              have hcv : (convert 9 22 (.string s)).run Tryz.prog w9 = .ok (.slice (some ⟨w9.heap.size, 0, none⟩) s.size cp) Wx := by
                rw [HWx.out, HCP.out]
                exact Lib.run_convert_string_bytes w9 9 22 5 s Tryz.underlying9 Tryz.underlying22 Tryz.underlying5
              have hbx : Below w9.heap.size w9 Wx := by rw [HWx.out]; exact bytes_below w9 5 s
              have hsx : w9.heap.size < Wx.heap.size := by rw [HWx.out, Lib.bytesWorld_size]; omega
              have HPx : Hid (BtI B a n cap zs hi w w1.heap.size c L Wx ∧ Bent Wx w1.heap.size 4 c L b o d c' L') := HP9.out.1.below hB hbx HP9.out.2
              have hb9 : b < w9.heap.size := HP9.out.1.yl HP9.out.2
              have yf := (World.frozen?_of_block (w := w9) (a := ⟨b, o + 2, none⟩) (hbx.block _ hb9)).trans (HF9.out (o + 2))
              have HRx : Hid (RolR Wx (.slice (some ⟨w9.heap.size, 0, none⟩) s.size cp) (numsOf s) w9.heap.size) := by unfold Hid; rw [HWx.out, HCP.out]; exact rol_conv w9 s (by omega)
              obtain ⟨v0, v1, v2, v3, y0, y1, y2, y3, _⟩ := HPx.out.2.sub
              clear hsc hc9 ho9 hbx hx0 hx1
              go_wp2_with fail
              go_meet
              case rel => exact FnI.role HPx.out.1 HPx.out.2 HD4.out hB hwb HRx.out hb9 hsx (by rw [numsOf_len]; omega)
            · have h2' : (m == 2) = false := by simpa using h2
              by_cases h3 : m = 3
              · subst h3
                obtain ⟨ka', kn', kc', hy3, hkn', hka'⟩ := Bent.row HB7.out
                obtain ⟨e0, hde⟩ : ∃ e0, d = e0 + 1 := by
                  cases d with
                  | zero => obtain ⟨_, _, _, _, _, _, _, _, q⟩ := HB7.out.sub; exact q.elim
                  | succ d => exact ⟨d, rfl⟩
                have HB7' := HB7
                rw [hde] at HB7'
                obtain ⟨nk, xs, hown, hob, _⟩ := HB7'.out.wh _ hy3
                have hnk : nk = kn' := by
                  rcases hown.2 with ⟨q, rfl⟩ | ⟨_, _, _, q, _⟩
                  · simp only [Value.slice.injEq] at q; exact q.2.1.symm
                  · simp only [Value.slice.injEq] at q; exact q.2.1.symm
                subst hnk
                have hn256 : nk ≤ 256 := by
                  have := HB7.out.bulk
                  have := HI7.out.bulk
                  have := c'.bulk_eq
                  have := length_le_bulks c'.kids
                  omega
                have HOB : Hid (∀ g, (Value.slice ka' nk kc').ownBlock = some g → ((⟨g, 0, none⟩, .i64) : Addr × IntKind) ∈ L ∧ ∀ x ∈ L, x.1.block = g → x.1.off + 4 ≤ nk * 4) := hob
                obtain ⟨Wa, HWa⟩ : ∃ W, Hid (W = (w7.alloc (.cells #[.int .i64 0, .slice none 0 0, .slice none 0 0, .slice none 0 0] 30)).drew) := ⟨_, rfl⟩
                have hba : Below w7.heap.size w7 Wa := by rw [HWa.out]; exact ((Below.refl w7.heap.size w7).alloc (Nat.le_refl _) _).drew
                have hsa : Wa.heap.size = w7.heap.size + 1 := by rw [HWa.out]; simp
                have HPa : Hid (BtI B a n cap zs hi w w1.heap.size c L Wa ∧ Bent Wa w1.heap.size 4 c L b o (e0 + 1) c' L') := HI7.out.below hB hba HB7'.out
                have hby : b < w7.heap.size := HI7.out.yl HB7.out
                have HFa : Hid (∀ i, Wa.frozen? ⟨b, i, none⟩ = false) := fun i => (World.frozen?_of_block (w := w7) (hba.block _ hby)).trans (HF7.out i)
                have HYa : Hid (Wa.cell? ⟨b, o + 3, none⟩ = some (.slice ka' nk kc')) := (World.cell?_of_block (w := w7) (hba.block _ hby)).trans hy3
                have HOa : Hid (Wa.ownsRow 0 30 4 (.slice ka' nk kc') nk xs) := ownsRow_keepW hown (fun g hg => hba.block _ (hown.lt g hg).2)
                have HNw : Hid (∀ j u, zero4[j]? = some u → Wa.cell? ((⟨w7.heap.size, 0, none⟩ : Addr).add j) = some u) := by unfold Hid; rw [HWa.out]; exact new4 _ _ _ _ _ _ _ rfl
                obtain ⟨i0, hi0, hz0, hz1, hz2⟩ := info_parts Tryz.infoCon4
                have hki : (nk : Int) < (nk : Int) + 1 := by omega
                have HD4a : Hid (e0 + 1 ≤ 4) := by unfold Hid; rw [← hde]; exact HD4.out
                clear hob hown hkn' hka' hba HB7'
                go_wp2_with fail
                go_region_law
                  (first
                  | (try rw [← HWa.out]; refine step_append_keep (w := Wa) rfl (.tmp 80) (.tmp 83) 28 rfl 0 30 i0 (.agg #[.int .i64 0, .slice none 0 0, .slice none 0 0, .slice none 0 0]) 4 80 Tryz.underlying28 hi0 hz0 hz1 hz2 rfl (by decide) (.slice ka' nk kc') nk xs (by first | rfl | (simp [Act.eval]; done) | simp [Act.eval, Act.put]) HOa.out ⟨w7.heap.size, 0, none⟩ 1 1 zero4 (by first | rfl | (simp [Act.eval]; done) | simp [Act.eval, Act.put]) rfl HNw.out (one4 _ _ _ _ _ _ _ _ _ _) (by decide) (by unfold maxLen; omega) (by omega) (Nat.zero_le _) ?_; intro g1 cap1 w9 hown hgrow hat hlt9; have HR9 : Hid (FnI B a n cap zs hi w w1.heap.size (w9.setCell ⟨b, o + 3, none⟩ (.slice (some ⟨g1, 0, none⟩) (nk + 1) cap1))) := FnI.kids HPa.out.1 HPa.out.2 HD4a.out hB hwb HYa.out HOa.out HOB.out hown hgrow hat hlt9; obtain ⟨⟨y3, yf3⟩, ⟨e0', e1', e2', e3'⟩, hqq, hqf, hgb, _⟩ := kid_facts HPa.out.2 HPa.out.1.x.2 (fun x hx => HPa.out.1.l x hx) HYa.out HFa.out HOa.out HOB.out hown hgrow hat; obtain ⟨⟨r0, r1, r2, r3⟩, f0', f1', f2', f3'⟩ := kid_facts2 (b := b) (o := o) (v := .slice (some ⟨g1, 0, none⟩) (nk + 1) cap1) hgb hqq; obtain ⟨q0, q1, q2, q3⟩ := hqq; have qf0 := hqf (nk * 4); have qf1 := hqf (nk * 4 + 1); have qf2 := hqf (nk * 4 + 2); have qf3 := hqf (nk * 4 + 3); clear hown hgrow hat hqf))
                all_goals
                  go_wp2_with fail
                  go_meet
                  case rel => exact HR9.out
              · have h3' : (m == 3) = false := by simpa using h3
                by_cases h4 : m = 4
                · subst h4
                  obtain ⟨k0, na0, nn0, nc0, ra0, rn0, rc0, ka0, kn0, kc0, hwp⟩ := HI7.out.wp HB7.out
                  have HWp : Hid (WpV B a n cap zs hi w w1.heap.size k0 na0 nn0 nc0 ra0 rn0 rc0 ka0 kn0 kc0 4 256 w7) := hwp
                  clear hwp
                  go_wp2_with fail
                  go_loopw [5] (fun q wr => ∃ (t : Nat) (K : Nat) (k : Int) (na : Option Addr) (nn nc : Nat) (ra : Option Addr) (rn rc : Nat) (ka : Option Addr) (kn kc : Nat), t ≤ 6 ∧ q = .int .i64 t ∧ K ≤ 256 + t ∧ WpV B a n cap zs hi w w1.heap.size k na nn nc ra rn rc ka kn kc (4 + t) K wr) (fun q _ => 6 - (intOf q).toNat)
                  case atStart => exact ⟨0, 256, _, _, _, _, _, _, _, _, _, _, Nat.zero_le _, rfl, by omega, HWp.out⟩
                  case round =>
                    obtain ⟨t, K, k1, na1, nn1, nc1, ra1, rn1, rc1, ka1, kn1, kc1, ht, rfl, hK, hw1⟩ := hrel
                    have HW1 : Hid (WpV B a n cap zs hi w w1.heap.size k1 na1 nn1 nc1 ra1 rn1 rc1 ka1 kn1 kc1 (4 + t) K wr) := hw1
                    have HK1 : Hid (K ≤ 256 + t) := hK
                    obtain ⟨x0, x1, x2, x3⟩ := hw1.box.cells
                    have xf0 := hw1.box.frz 0
                    have xf1 := hw1.box.frz 1
                    have xf2 := hw1.box.frz 2
                    have xf3 := hw1.box.frz 3
                    have hXl : w1.heap.size < wr.heap.size := hw1.box.lt
                    clear hw1 hK
                    by_cases hlt : t < 6
                    · have hti : (t : Int) < 6 := by omega
                      have HW2' : Hid (WpV B a n cap zs hi w w1.heap.size 3 none 0 0 none 0 0 (some ⟨wr.heap.size, 0, none⟩) 1 1 (4 + t + 1) (1 * (1 + K)) (((((wr.setCell ⟨w1.heap.size, 0, none⟩ (.int .i64 3)).setCell ⟨w1.heap.size, 1, none⟩ (.slice none 0 0)).setCell ⟨w1.heap.size, 2, none⟩ (.slice none 0 0)).setCell ⟨w1.heap.size, 3, none⟩ (.slice (some ⟨wr.heap.size, 0, none⟩) 1 1)).alloc (.cells #[.int .i64 k1, .slice na1 nn1 nc1, .slice ra1 rn1 rc1, .slice ka1 kn1 kc1] 30))) := HW1.out.wrap hB 3 _ 1 (by omega) (fun i hi => by
                        match i, hi with
                        | 0, _ => exact ⟨rfl, rfl, rfl, rfl⟩)
                      go_wp2_with fail
                      go_roundw
                      case rel => exact ⟨t + 1, 1 * (1 + K), _, _, _, _, _, _, _, _, _, _, by omega, by go_num, by have := HK1.out; omega, HW2'.out⟩
                      case measure => simp [intOf]; omega
                    · have hti : ¬ (t : Int) < 6 := by omega
                      have htm : t = 6 := by omega
                      subst htm
                      go_wp2_with fail
                      go_meet
                      case rel => exact FnI.wp HW1.out (by omega) (by have := HK1.out; omega)
                · have h4' : (m == 4) = false := by simpa using h4
                  obtain ⟨k0, na0, nn0, nc0, ra0, rn0, rc0, ka0, kn0, kc0, hwp⟩ := HI7.out.wp HB7.out
                  have HWp : Hid (WpV B a n cap zs hi w w1.heap.size k0 na0 nn0 nc0 ra0 rn0 rc0 ka0 kn0 kc0 4 256 w7) := hwp
                  clear hwp
                  go_wp2_with fail
                  go_loopw [6] (fun q wr => ∃ (t : Nat) (K : Nat) (k : Int) (na : Option Addr) (nn nc : Nat) (ra : Option Addr) (rn rc : Nat) (ka : Option Addr) (kn kc : Nat), t ≤ 3 ∧ q = .int .i64 t ∧ K + 2 ≤ 258 * 2 ^ t ∧ WpV B a n cap zs hi w w1.heap.size k na nn nc ra rn rc ka kn kc (4 + t) K wr) (fun q _ => 3 - (intOf q).toNat)
                  case atStart => exact ⟨0, 256, _, _, _, _, _, _, _, _, _, _, Nat.zero_le _, rfl, by omega, HWp.out⟩
                  case round =>
                    obtain ⟨t, K, k1, na1, nn1, nc1, ra1, rn1, rc1, ka1, kn1, kc1, ht, rfl, hK, hw1⟩ := hrel
                    have HW1 : Hid (WpV B a n cap zs hi w w1.heap.size k1 na1 nn1 nc1 ra1 rn1 rc1 ka1 kn1 kc1 (4 + t) K wr) := hw1
                    have HK1 : Hid (K + 2 ≤ 258 * 2 ^ t) := hK
                    obtain ⟨x0, x1, x2, x3⟩ := hw1.box.cells
                    have xf0 := hw1.box.frz 0
                    have xf1 := hw1.box.frz 1
                    have xf2 := hw1.box.frz 2
                    have xf3 := hw1.box.frz 3
                    have hXl : w1.heap.size < wr.heap.size := hw1.box.lt
                    clear hw1 hK
                    by_cases hlt : t < 3
                    · have hti : (t : Int) < 3 := by omega
                      have HW2' : Hid (WpV B a n cap zs hi w w1.heap.size 4 none 0 0 none 0 0 (some ⟨wr.heap.size, 0, none⟩) 2 2 (4 + t + 1) (2 * (1 + K)) (((((wr.setCell ⟨w1.heap.size, 0, none⟩ (.int .i64 4)).setCell ⟨w1.heap.size, 1, none⟩ (.slice none 0 0)).setCell ⟨w1.heap.size, 2, none⟩ (.slice none 0 0)).setCell ⟨w1.heap.size, 3, none⟩ (.slice (some ⟨wr.heap.size, 0, none⟩) 2 2)).alloc (.cells #[.int .i64 k1, .slice na1 nn1 nc1, .slice ra1 rn1 rc1, .slice ka1 kn1 kc1, .int .i64 k1, .slice na1 nn1 nc1, .slice ra1 rn1 rc1, .slice ka1 kn1 kc1] 30))) := HW1.out.wrap hB 4 _ 2 (by omega) (fun i hi => by
                        match i, hi with
                        | 0, _ | 1, _ => exact ⟨rfl, rfl, rfl, rfl⟩)
                      go_wp2_with fail
                      go_roundw
                      case rel => exact ⟨t + 1, 2 * (1 + K), _, _, _, _, _, _, _, _, _, _, by omega, by go_num, by have := HK1.out; rw [Nat.pow_succ]; omega, HW2'.out⟩
                      case measure => simp [intOf]; omega
                    · have hti : ¬ (t : Int) < 3 := by omega
                      have htm : t = 3 := by omega
                      subst htm
                      go_wp2_with fail
                      go_meet
                      case rel => exact FnI.wp HW1.out (by omega) (by have := HK1.out; omega)
      case rest =>
        obtain ⟨hmx, cx, hrx, hbx⟩ := hcut
        have HMx : Hid (DrM B a n cap zs hi w wc) := hmx
        have HBx : Hid (cx.bulk ≤ 100000) := hbx
        obtain ⟨v0, v1, v2, v3, x0, x1, x2, x3, hr⟩ := hrx
        have HRx : Hid (RdC (w.heap.size + 1) wc.heap.size wc 19 (.agg #[v0, v1, v2, v3]) cx) := hr
        obtain ⟨rfl, ⟨xna, xnn, xnc, rfl⟩, ⟨xra, xrn, xrc, rfl⟩, ⟨xka, xkn, xkc, rfl⟩⟩ := hr.formS
        obtain ⟨k5, hk5⟩ : ∃ k5, k5 = cx.kind := ⟨_, rfl⟩
        rw [← hk5] at x0 HRx
        obtain ⟨z0, z1, z2, z3⟩ := HMx.out.box.cells
        have zf0 := HMx.out.box.frz 0
        have zf1 := HMx.out.box.frz 1
        have zf2 := HMx.out.box.frz 2
        have zf3 := HMx.out.box.frz 3
        clear hmx hbx hr hk5
        go_wp2
        obtain ⟨hVs, hBs⟩ := set4_mem HMx.out.box (.int .i64 k5) (.slice xna xnn xnc) (.slice xra xrn xrc) (.slice xka xkn xkc) HMx.out.bt (Nat.le_refl _)
        obtain ⟨s0, s1, s2, s3⟩ := hVs.cells
        refine bodyPost_ret (v := .agg #[.int .i64 k5, .slice xna xnn xnc, .slice xra xrn xrc, .slice xka xkn xkc]) (by simp [results, Tryz.results31, go_sem, s0, s1, s2, s3]) rfl ?_
        refine ⟨_, cx, rfl, ?_, HBx.out, HMx.out.cur.keepB (fun q hq => heap_set4 _ _ _ _ _ (by omega)), hBs⟩
        have hsm : Same (w.heap.size + 1) wc.heap.size wc ((((wc.setCell ⟨w.heap.size, 0, none⟩ (.int .i64 k5)).setCell ⟨w.heap.size, 1, none⟩ (.slice xna xnn xnc)).setCell ⟨w.heap.size, 2, none⟩ (.slice xra xrn xrc)).setCell ⟨w.heap.size, 3, none⟩ (.slice xka xkn xkc)) := fun q h1 h2 => heap_set4 _ _ _ _ _ (by omega)
        exact ((HRx.out.same hsm).mono (Nat.le_succ _) (by simp)).higher (by omega)

end Go.Proofs.YtnmljalcndfjmaaGreat
