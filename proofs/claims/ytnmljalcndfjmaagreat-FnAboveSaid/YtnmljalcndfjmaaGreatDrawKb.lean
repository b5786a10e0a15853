/- What is told, drawn: a list of axioms. -/
import Derived.Test.YtnmljalcndfjmaaGreatNG22
import Derived.Deep.AppendLies
import Derived.Deep.RegionHeldLaw
import Derived.Maps.AppendAt
namespace Go.Proofs.YtnmljalcndfjmaaGreat
open Go.RowKit

theorem AxI.form {lo hi : Nat} {w : World} {k0 : Int} {v : Value} (h : AxI lo hi w k0 v) : ∃ (kd : Int) (ck : Int) (c1a : Option Addr) (c1n c1c : Nat) (c2a : Option Addr) (c2n c2c : Nat) (c3a : Option Addr) (c3n c3c : Nat) (dk : Int) (d1a : Option Addr) (d1n d1c : Nat) (d2a : Option Addr) (d2n d2c : Nat) (d3a : Option Addr) (d3n d3c : Nat) (ra : Option Addr) (rn rc : Nat) (sa : Option Addr) (sn sc : Nat) (aa : Option Addr) (an ac : Nat) (ba : Option Addr) (bn bc : Nat), v = .agg #[.int .i64 kd, .int .i64 ck, .slice c1a c1n c1c, .slice c2a c2n c2c, .slice c3a c3n c3c, .int .i64 dk, .slice d1a d1n d1c, .slice d2a d2n d2c, .slice d3a d3n d3c, .slice ra rn rc, .slice sa sn sc, .slice aa an ac, .slice ba bn bc] ∧ kd = k0 := by
  obtain ⟨c0, c1, c2, c3, d0, d1, d2, d3, ra, rn, rc, sa, sn, sc, aa, an, ac, ba, bn, bc, x, rfl, _, hr, _⟩ := h
  obtain ⟨rfl, ⟨_, _, _, rfl⟩, ⟨_, _, _, rfl⟩, ⟨_, _, _, rfl⟩⟩ := hr.c.formS
  obtain ⟨rfl, ⟨_, _, _, rfl⟩, ⟨_, _, _, rfl⟩, ⟨_, _, _, rfl⟩⟩ := hr.d.formS
  exact ⟨_, _, _, _, _, _, _, _, _, _, _, _, _, _, _, _, _, _, _, _, _, _, _, _, _, _, _, _, _, _, _, _, _, rfl, rfl⟩

/-- What is under way: the cursor; the list's box p. -/
structure KbI (B : Nat) (a : Option Addr) (n cap : Nat) (zs : List Int) (hi : Nat) (w : World) (p base : Nat) (w' : World) (v : Value) (m : Nat) (vs : List Value) : Prop where
  dg : DgM (.cells #[.slice none 0 0] 42) B a n cap zs hi w w'
  lt : B < w.heap.size ∧ w.heap.size < p ∧ w.heap.size < base
  box : w'.heap[p]? = some (.cells #[v] 42 (0, 0))
  own : OwnAx base p w' v m vs

section
variable {B : Nat} {a : Option Addr} {n cap : Nat} {zs : List Int} {hi : Nat} {w w1 w2 : World} {p base m : Nat} {v : Value} {vs : List Value}
theorem KbI.plt (h : KbI B a n cap zs hi w p base w1 v m vs) : p < w1.heap.size := (Array.getElem?_eq_some_iff.1 h.box).1
theorem KbI.next (h : KbI B a n cap zs hi w p base w1 v m vs) (c : Cur w2 B a n cap zs hi) (hb : Bt B w1.heap.size w1 w2) : KbI B a n cap zs hi w p base w2 v m vs := by
  obtain ⟨q1, q2, q3⟩ := h.lt
  exact ⟨h.dg.next q1 c hb, h.lt, (hb.block p h.plt (by omega)).trans h.box, h.own.same (fun b h1 h2 _ => hb.block b h2 (by omega)) hb.size⟩
theorem KbI.only (h : KbI B a n cap zs hi w p base w1 v m vs) (c : Cur w2 B a n cap zs hi) (o : Only B w1 w2) : KbI B a n cap zs hi w p base w2 v m vs := h.next c o.bt
theorem KbI.below (h : KbI B a n cap zs hi w p base w1 v m vs) (hb : Below w1.heap.size w1 w2) : KbI B a n cap zs hi w p base w2 v m vs := h.next (h.dg.below h.lt.1 hb).cur (Bt.of_below hb)
theorem KbI.drew (h : KbI B a n cap zs hi w p base w1 v m vs) : KbI B a n cap zs hi w p base w1.drew v m vs := h.next h.dg.drew.cur ((Bt.refl _ _ _).drew)
theorem KbI.set (h : KbI B a n cap zs hi w p base w1 v m vs) {q i : Nat} (hq : w1.heap.size ≤ q ∨ (w.heap.size < q ∧ q ≠ p ∧ q < base)) (u : Value) : KbI B a n cap zs hi w p base (w1.setCell ⟨q, i, none⟩ u) v m vs := by
  obtain ⟨q1, q2, q3⟩ := h.lt
  have hp := h.plt
  have hm := h.dg.lt
  exact ⟨h.dg.set q1 (by omega) u, h.lt, (Below.heap_setCell _ _ _ _ (by show p ≠ q; omega)).trans h.box, h.own.same (fun b h1 h2 _ => Below.heap_setCell _ _ _ _ (by show b ≠ q; omega)) (by simp)⟩
theorem KbI.fm (h : KbI B a n cap zs hi w p base w1 v m vs) : ∃ va vc, v = .slice va m vc := by
  rcases h.own.1.2 with ⟨e, e0⟩ | ⟨g, c, _, e, _⟩
  · exact ⟨none, 0, by rw [e, e0]⟩
  · exact ⟨_, c, e⟩
theorem KbI.cell (h : KbI B a n cap zs hi w p base w1 v m vs) : w1.cell? ⟨p, 0, none⟩ = some v ∧ w1.frozen? ⟨p, 0, none⟩ = false := by
  have := h.box
  constructor
  · simp [World.cell?, this]
  · simp [World.frozen?, this]
/-- One more is appended, and the list's box written. -/
theorem KbI.push (h : KbI B a n cap zs hi w p base w1 v m vs) {lo hi' g1 cap1 : Nat} {kd : Int} {cs : Array Value} (hax : AxI lo hi' w1 kd (.agg cs)) (hsz : cs.size = 13) (hlo : base ≤ lo ∧ hi' ≤ w1.heap.size ∧ (p < lo ∨ hi' ≤ p)) (hg : ∀ g, v.ownBlock = some g → g < lo ∨ hi' ≤ g)
    (hn : w2.ownsRow base 49 13 (.slice (some ⟨g1, 0, none⟩) (m + 1) cap1) (m + 1) (vs ++ cs.toList)) (hgr : w1.grownBy w2 v.ownBlock) (hat : v.ownBlock = some g1 ∨ w1.heap.size ≤ g1) :
    KbI B a n cap zs hi w p base (w2.setCell ⟨p, 0, none⟩ (.slice (some ⟨g1, 0, none⟩) (m + 1) cap1)) (.slice (some ⟨g1, 0, none⟩) (m + 1) cap1) (m + 1) (vs ++ cs.toList) ∧ w2.cell? ⟨p, 0, none⟩ = some v ∧ w2.frozen? ⟨p, 0, none⟩ = false := by
  obtain ⟨q1, q2, q3⟩ := h.lt
  have hp := h.plt
  have ho : ∀ k, v.ownBlock = some k → base ≤ k ∧ k ≠ p := fun k e => ⟨(World.ownsRow.lt h.own.1 k e).1, h.own.2.1 k e⟩
  have hm2 : DgM (.cells #[.slice none 0 0] 42) B a n cap zs hi w w2 := h.dg.grown q1 hgr (fun k e => by have := (ho k e).1; omega)
  have hb2 : w2.heap[p]? = some (.cells #[v] 42 (0, 0)) := (hgr.block p hp (fun e => by have := (ho p e.symm).2; omega)).trans h.box
  have hown := h.own.push hax hsz hlo hp hg hn hgr hat
  refine ⟨⟨hm2.set q1 q2 _, h.lt, ?_, hown.same (fun b _ _ h3 => Below.heap_setCell _ _ _ _ (by show b ≠ p; exact h3)) (by simp)⟩, by simp [World.cell?, hb2], by simp [World.frozen?, hb2]⟩
  exact heap_setCell_same w2 p 0 _ _ _ hb2
end

/-- What a drawn list leaves. -/
def KdP (M : Nat) (B : Nat) (a : Option Addr) (n cap : Nat) (zs : List Int) (hi : Nat) (w : World) (e : Ending) (w' : World) : Prop :=
  ∃ (va : Option Addr) (m vc : Nat) (vs : List Value), e = .returned (.agg #[.slice va m vc]) ∧ OwnAx w.heap.size w'.heap.size w' (.slice va m vc) m vs ∧ m ≤ M ∧ Cur w' B a n cap zs hi ∧ Bt B w.heap.size w w'

theorem KbI.fin {B : Nat} {a : Option Addr} {n cap : Nat} {zs : List Int} {hi : Nat} {w V : World} {p base m vc : Nat} {va : Option Addr} {vs : List Value} (h : KbI B a n cap zs hi w p base V (.slice va m vc) m vs) {M : Nat} (hm : m ≤ M) :
    KdP M B a n cap zs hi w (.returned (.agg #[.slice va m vc])) (V.setCell ⟨w.heap.size, 0, none⟩ (.slice va m vc)) ∧ (V.setCell ⟨w.heap.size, 0, none⟩ (.slice va m vc)).cell? ⟨w.heap.size, 0, none⟩ = some (.slice va m vc) := by
  obtain ⟨q1, q2, q3⟩ := h.lt
  have hh := h.dg.box
  have ho : ∀ q, q ≠ w.heap.size → (V.setCell ⟨w.heap.size, 0, none⟩ (.slice va m vc)).heap[q]? = V.heap[q]? := fun q hq => Below.heap_setCell _ _ _ _ (by show q ≠ w.heap.size; exact hq)
  refine ⟨⟨va, m, vc, vs, rfl, ?_, hm, h.dg.cur.keepB (fun q hq => ho q (by omega)), ⟨h.dg.bt.os, h.dg.bt.tape, h.dg.bt.output, by simpa using h.dg.bt.size, fun q h1 h2 => (ho q (by omega)).trans (h.dg.bt.block q h1 h2)⟩⟩, ?_⟩
  · exact (h.own.same (w' := V.setCell ⟨w.heap.size, 0, none⟩ (.slice va m vc)) (fun b h1 _ _ => ho b (by omega)) (by simp)).base (by omega) (.inl (Nat.le_refl _))
  · have := heap_setCell_same V w.heap.size 0 _ _ (.slice va m vc) hh
    simp [World.cell?, this]

set_option maxRecDepth 100000 in
set_option maxHeartbeats 4000000 in
theorem l3draw_any {w : World} {B : Nat} {a : Option Addr} {n cap : Nat} {zs : List Int} {hi : Nat} (c : Cur w B a n cap zs hi) :
    Calls Tryz.prog 104 #[.pointer (some ⟨B, 0, none⟩)] w (KdP 4 B a n cap zs hi w) := by
  have hB := c.lt
  obtain ⟨W0, HW0⟩ : ∃ W, Hid (W = (w.alloc (.cells #[.slice none 0 0] 42)).alloc (.cells #[.slice none 0 0] 42)) := ⟨_, rfl⟩
  obtain ⟨p, hp⟩ : ∃ p, p = w.heap.size + 1 := ⟨_, rfl⟩
  have HI0 : Hid (KbI B a n cap zs hi w p (p + 1) W0 (.slice none 0 0) 0 []) := by
    unfold Hid
    rw [HW0.out]
    exact ⟨(DgM.start c #[.slice none 0 0] 42).below hB ((Below.refl _ _).alloc (Nat.le_refl _) _), ⟨hB, by omega, by omega⟩, by rw [hp]; exact allocAtA (by simp), OwnAx.nil _ _ _⟩
  have HP : Hid (p = w.heap.size + 1) := hp
  clear c
  go_enter Tryz.func104, Tryz.ntmps104
  go_wp2_with fail
  rw [← HW0.out, ← hp]
  clear hp
  refine (l1Below_any HI0.out.dg.cur 5 (by omega)).mono ?_
  rintro e w1 ⟨x, rfl, ⟨hx0, hx1⟩, hc1, ho1⟩
  have HI1 : Hid (KbI B a n cap zs hi w p (p + 1) w1 (.slice none 0 0) 0 []) := HI0.out.only hc1 ho1
  obtain ⟨N, hN⟩ : ∃ N : Nat, x = (N : Int) := ⟨x.toNat, by omega⟩
  subst hN
  have hN4 : N ≤ 4 := by omega
  clear hc1 ho1 hx0 hx1
  obtain ⟨i0, hi0, hz0, hz1, hz2⟩ := info_parts Tryz.infoAx
  go_wp2_with fail
  go_loopw [5] (fun q wr => ∃ (i : Nat) (v : Value) (vs : List Value), i ≤ N ∧ q = .int .i64 i ∧ KbI B a n cap zs hi w p (p + 1) wr v i vs) (fun q _ => N - (intOf q).toNat)
  case atStart => exact ⟨0, _, _, Nat.zero_le _, rfl, HI1.out⟩
  case round =>
    obtain ⟨i, v, vs, hi1, rfl, hinv⟩ := hrel
    obtain ⟨va, vc, rfl⟩ := hinv.fm
    have HI : Hid (KbI B a n cap zs hi w p (p + 1) wr (.slice va i vc) i vs) := hinv
    clear hinv
    obtain ⟨z0, zf0⟩ := HI.out.cell
    have hpr : p < wr.heap.size := HI.out.plt
    by_cases hlt : i < N
    · have hii : (i : Int) < (N : Int) := by omega
      go_upto_region 6 with fail
      first
      | go_region_law (first
        | (refine step_append_lies _ rfl (.tmp 14) (.tmp 17) 40 rfl (p + 1) 49 i0 (.agg zeroA) 13 264 Tryz.underlying40 hi0 hz0 hz1 hz2 rfl (by decide) (.slice va i vc) i vs (by simp [Act.eval]) HI6.out.own.1 ⟨w5.heap.size, 0, none⟩ 1 1 [.int .i64 kd5, .int .i64 ck5, .slice c1a5 c1n5 c1c5, .slice c2a5 c2n5 c2c5, .slice c3a5 c3n5 c3c5, .int .i64 dk5, .slice d1a5 d1n5 d1c5, .slice d2a5 d2n5 d2c5, .slice d3a5 d3n5 d3c5, .slice ra5 rn5 rc5, .slice sa5 sn5 sc5, .slice aa5 an5 ac5, .slice ba5 bn5 bc5] (by simp [Act.eval]) rfl HN6.out (one13 (cs := #[.int .i64 kd5, .int .i64 ck5, .slice c1a5 c1n5 c1c5, .slice c2a5 c2n5 c2c5, .slice c3a5 c3n5 c3c5, .int .i64 dk5, .slice d1a5 d1n5 d1c5, .slice d2a5 d2n5 d2c5, .slice d3a5 d3n5 d3c5, .slice ra5 rn5 rc5, .slice sa5 sn5 sc5, .slice aa5 an5 ac5, .slice ba5 bn5 bc5]) (by simp [Value.oneCell'])) (by decide) (by unfold maxLen; omega) (by omega) hbs _ rfl ?_; intro g1 cap1 w6 hown hgrow hat hlt6; obtain ⟨hI7, y0, yf0⟩ := HI6.out.push HAx6.out rfl HAb.out (HAg.out) hown hgrow (by rcases hat with q | q; exact .inl q; exact .inr (by rw [q]; exact Nat.le_refl _)); have HI7 : Hid (KbI B a n cap zs hi w p (p + 1) (w6.setCell ⟨p, 0, none⟩ (.slice (some ⟨g1, 0, none⟩) (i + 1) cap1)) (.slice (some ⟨g1, 0, none⟩) (i + 1) cap1) (i + 1) (vs ++ [.int .i64 kd5, .int .i64 ck5, .slice c1a5 c1n5 c1c5, .slice c2a5 c2n5 c2c5, .slice c3a5 c3n5 c3c5, .int .i64 dk5, .slice d1a5 d1n5 d1c5, .slice d2a5 d2n5 d2c5, .slice d3a5 d3n5 d3c5, .slice ra5 rn5 rc5, .slice sa5 sn5 sc5, .slice aa5 an5 ac5, .slice ba5 bn5 bc5])) := hI7; clear hI7 hown hgrow hat hlt6)
        | (go_simp; refine (l3axiomDraw_any (w := wr.drew) HI.out.drew.dg.cur).mono ?_; rintro e w5 hP; obtain ⟨k0, v5, he5, hax, hkb, hc5, hb5⟩ := hP; subst he5; obtain ⟨kd5, ck5, c1a5, c1n5, c1c5, c2a5, c2n5, c2c5, c3a5, c3n5, c3c5, dk5, d1a5, d1n5, d1c5, d2a5, d2n5, d2c5, d3a5, d3n5, d3c5, ra5, rn5, rc5, sa5, sn5, sc5, aa5, an5, ac5, ba5, bn5, bc5, hv5, hk5⟩ := (AxI.of hax).form; subst hv5; have HI5 : Hid (KbI B a n cap zs hi w p (p + 1) w5 (.slice va i vc) i vs) := HI.out.drew.next hc5 hb5; obtain ⟨y0, yf0⟩ := HI5.out.cell; have hp5 : p < w5.heap.size := HI5.out.plt; have hbw : Below w5.heap.size w5 (w5.alloc (.cells #[.int .i64 kd5, .int .i64 ck5, .slice c1a5 c1n5 c1c5, .slice c2a5 c2n5 c2c5, .slice c3a5 c3n5 c3c5, .int .i64 dk5, .slice d1a5 d1n5 d1c5, .slice d2a5 d2n5 d2c5, .slice d3a5 d3n5 d3c5, .slice ra5 rn5 rc5, .slice sa5 sn5 sc5, .slice aa5 an5 ac5, .slice ba5 bn5 bc5] 49)) := (Below.refl _ _).alloc (Nat.le_refl _) _; have HI6 : Hid (KbI B a n cap zs hi w p (p + 1) (w5.alloc (.cells #[.int .i64 kd5, .int .i64 ck5, .slice c1a5 c1n5 c1c5, .slice c2a5 c2n5 c2c5, .slice c3a5 c3n5 c3c5, .int .i64 dk5, .slice d1a5 d1n5 d1c5, .slice d2a5 d2n5 d2c5, .slice d3a5 d3n5 d3c5, .slice ra5 rn5 rc5, .slice sa5 sn5 sc5, .slice aa5 an5 ac5, .slice ba5 bn5 bc5] 49)) (.slice va i vc) i vs) := HI5.out.below hbw; have hsr : wr.heap.size ≤ w5.heap.size := hb5.size; have hbs : p + 1 ≤ (w5.alloc (.cells #[.int .i64 kd5, .int .i64 ck5, .slice c1a5 c1n5 c1c5, .slice c2a5 c2n5 c2c5, .slice c3a5 c3n5 c3c5, .int .i64 dk5, .slice d1a5 d1n5 d1c5, .slice d2a5 d2n5 d2c5, .slice d3a5 d3n5 d3c5, .slice ra5 rn5 rc5, .slice sa5 sn5 sc5, .slice aa5 an5 ac5, .slice ba5 bn5 bc5] 49)).heap.size := (by have := hbw.size; omega); have HAx6 : Hid (AxI wr.heap.size w5.heap.size (w5.alloc (.cells #[.int .i64 kd5, .int .i64 ck5, .slice c1a5 c1n5 c1c5, .slice c2a5 c2n5 c2c5, .slice c3a5 c3n5 c3c5, .int .i64 dk5, .slice d1a5 d1n5 d1c5, .slice d2a5 d2n5 d2c5, .slice d3a5 d3n5 d3c5, .slice ra5 rn5 rc5, .slice sa5 sn5 sc5, .slice aa5 an5 ac5, .slice ba5 bn5 bc5] 49)) k0 (.agg #[.int .i64 kd5, .int .i64 ck5, .slice c1a5 c1n5 c1c5, .slice c2a5 c2n5 c2c5, .slice c3a5 c3n5 c3c5, .int .i64 dk5, .slice d1a5 d1n5 d1c5, .slice d2a5 d2n5 d2c5, .slice d3a5 d3n5 d3c5, .slice ra5 rn5 rc5, .slice sa5 sn5 sc5, .slice aa5 an5 ac5, .slice ba5 bn5 bc5])) := (AxI.of hax).same (Same.of_below hbw (Nat.le_refl _)); have HAb : Hid (p + 1 ≤ wr.heap.size ∧ w5.heap.size ≤ (w5.alloc (.cells #[.int .i64 kd5, .int .i64 ck5, .slice c1a5 c1n5 c1c5, .slice c2a5 c2n5 c2c5, .slice c3a5 c3n5 c3c5, .int .i64 dk5, .slice d1a5 d1n5 d1c5, .slice d2a5 d2n5 d2c5, .slice d3a5 d3n5 d3c5, .slice ra5 rn5 rc5, .slice sa5 sn5 sc5, .slice aa5 an5 ac5, .slice ba5 bn5 bc5] 49)).heap.size ∧ (p < wr.heap.size ∨ w5.heap.size ≤ p)) := ⟨by omega, hbw.size, .inl hpr⟩; have HAg : Hid (∀ g, (Value.slice va i vc).ownBlock = some g → g < wr.heap.size ∨ w5.heap.size ≤ g) := fun g e => .inl (World.ownsRow.lt HI.out.own.1 g e).2; have HN6 : Hid (∀ j u, [.int .i64 kd5, .int .i64 ck5, .slice c1a5 c1n5 c1c5, .slice c2a5 c2n5 c2c5, .slice c3a5 c3n5 c3c5, .int .i64 dk5, .slice d1a5 d1n5 d1c5, .slice d2a5 d2n5 d2c5, .slice d3a5 d3n5 d3c5, .slice ra5 rn5 rc5, .slice sa5 sn5 sc5, .slice aa5 an5 ac5, .slice ba5 bn5 bc5][j]? = some u → (w5.alloc (.cells #[.int .i64 kd5, .int .i64 ck5, .slice c1a5 c1n5 c1c5, .slice c2a5 c2n5 c2c5, .slice c3a5 c3n5 c3c5, .int .i64 dk5, .slice d1a5 d1n5 d1c5, .slice d2a5 d2n5 d2c5, .slice d3a5 d3n5 d3c5, .slice ra5 rn5 rc5, .slice sa5 sn5 sc5, .slice aa5 an5 ac5, .slice ba5 bn5 bc5] 49)).cell? ((⟨w5.heap.size, 0, none⟩ : Addr).add j) = some u) := new13 w5 #[.int .i64 kd5, .int .i64 ck5, .slice c1a5 c1n5 c1c5, .slice c2a5 c2n5 c2c5, .slice c3a5 c3n5 c3c5, .int .i64 dk5, .slice d1a5 d1n5 d1c5, .slice d2a5 d2n5 d2c5, .slice d3a5 d3n5 d3c5, .slice ra5 rn5 rc5, .slice sa5 sn5 sc5, .slice aa5 an5 ac5, .slice ba5 bn5 bc5] 49; clear hax hkb hc5 hb5 hbw hk5))
      | fail
      all_goals
        go_wp2_with fail
        go_roundw
        case rel => first | exact ⟨i + 1, _, _, by omega, by go_num, HI7.out⟩ | ((repeat apply Exists.intro); exact ⟨⟨by omega, by go_num, HI7.out⟩, rfl⟩)
        case measure => simp [intOf]; omega
    · have hii : ¬ (i : Int) < (N : Int) := by omega
      obtain ⟨hF, y0⟩ := HI.out.fin (M := 4) (by omega)
      have HF : Hid _ := hF
      have hu0 : wr.cell? ⟨w.heap.size, 0, none⟩ = some (.slice none 0 0) ∧ wr.frozen? ⟨w.heap.size, 0, none⟩ = false := by
        have := HI.out.dg.box
        constructor
        · simp [World.cell?, this]
        · simp [World.frozen?, this]
      obtain ⟨u0, uf0⟩ := hu0
      clear hF
      go_wp2
      refine bodyPost_ret (v := .agg #[.slice va i vc]) (by simp [results, Tryz.results104, go_sem, y0]) rfl ?_
      exact HF.out

end Go.Proofs.YtnmljalcndfjmaaGreat
