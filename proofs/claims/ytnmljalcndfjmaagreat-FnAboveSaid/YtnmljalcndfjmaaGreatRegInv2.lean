/- A statement whose order is drawn, by what each operation that is done has left in its slot. -/
import Derived.Test.YtnmljalcndfjmaaGreatNG20
import Derived.Test.YtnmljalcndfjmaaGreatNG2
import Derived.Test.YtnmljalcndfjmaaGreatBent1
import Derived.Laws.Tables
namespace Go.Proofs.YtnmljalcndfjmaaGreat
open Go.RowKit

/-- It is done. -/
def Dn (l : Array Bool) (k : Nat) : Prop := l.getD k false = true
theorem dn_set {l : Array Bool} {i k : Nat} : Dn (l.setIfInBounds i true) k ↔ (k = i ∧ i < l.size) ∨ Dn l k := by
  unfold Dn
  rw [Array.getD_eq_getD_getElem?, Array.getD_eq_getD_getElem?, Array.getElem?_setIfInBounds]
  by_cases h : i = k
  · subst h
    by_cases h2 : i < l.size
    · simp [h2]
    · simp [h2]
  · simp only [if_neg h]
    constructor
    · exact fun q => .inr q
    · rintro (⟨q, _⟩ | q)
      · exact absurd q.symm h
      · exact q
theorem not_dn {l : Array Bool} {i : Nat} (h : l[i]? = some false) : ¬ Dn l i := by
  unfold Dn
  rw [Array.getD_eq_getD_getElem?, h]
  simp

section
variable {P : Program} {md : Region.Mode} {ops : Array Oper} {Q : Exit → Act → World → Prop}
theorem wpOp_of {i : Nat} {o : Oper} {K : Act → World → Prop} {a : Act} {w : World} (ho : ops[i]? = some o) (hg : o.guard = none) (h : o.wp P a w K Q) : wpOp P ops Q i K a w := by
  unfold wpOp
  rw [ho]
  have hw : Region.wanted o (yielded ops a.tmps) = true := by simp [Region.wanted, hg]
  simp only [hw, if_true]
  exact .inl h
theorem dep_done {l : Array Bool} {i : Nat} (hi : i ∈ Region.ready md ops l) {o : Oper} (ho : ops[i]? = some o) {k : Nat} (hk : (o.after.toList.any fun e => Region.binds md e && decide (e.on = k)) = true) : Dn l k := by
  obtain ⟨_, _, o', ho', ha⟩ := ready_false hi
  rw [ho] at ho'
  obtain rfl : o = o' := by simpa using ho'
  rw [← Array.all_toList, List.all_eq_true] at ha
  rw [List.any_eq_true] at hk
  obtain ⟨e, he, hb⟩ := hk
  rw [Bool.and_eq_true, decide_eq_true_eq] at hb
  have := ha e he
  rw [hb.1, hb.2] at this
  unfold Dn
  simpa using this
theorem all_done {l : Array Bool} (hs : l.size = ops.size) (hr : Region.ready md ops l = []) (ho : ∀ (i : Nat) (o : Oper), ops[i]? = some o → ∀ e ∈ o.after.toList, e.on < i) : ∀ i, i < ops.size → Dn l i := by
  intro i
  induction i using Nat.strongRecOn with
  | _ i ih =>
    intro hi
    refine Classical.byContradiction fun hn => ?_
    have hi' : i < l.size := by omega
    have hl : l[i]? = some false := by
      rw [Array.getElem?_eq_getElem hi']
      congr 1
      cases e : l[i]
      · rfl
      · exact absurd (by unfold Dn; rw [Array.getD_eq_getD_getElem?, Array.getElem?_eq_getElem hi', e]; rfl) hn
    obtain ⟨o, hoi⟩ : ∃ o, ops[i]? = some o := ⟨ops[i], Array.getElem?_eq_getElem hi⟩
    have hm : i ∈ Region.ready md ops l := by
      unfold Region.ready
      rw [List.mem_filter]
      refine ⟨List.mem_range.2 hi, ?_⟩
      rw [Bool.and_eq_true]
      constructor
      · rw [Array.getD_eq_getD_getElem?, hl]; rfl
      · rw [hoi]
        show (o.after.all fun e => !Region.binds md e || l.getD e.on false) = true
        rw [← Array.all_toList, List.all_eq_true]
        intro e he
        have hlt := ho i o hoi e he
        have := ih e.on hlt (by omega)
        unfold Dn at this
        rw [this]
        simp
    rw [hr] at hm
    simp at hm
end

theorem allocAtA {W : World} {o : Obj} {k : Nat} (h : k = W.heap.size) : (W.alloc o).heap[k]? = some o := by
  subst h
  show (W.heap.push o)[W.heap.size]? = _
  rw [Array.getElem?_push, if_pos rfl]

/-! ### What a slot holds -/
def Str2 (B : Nat) (w : World) (g : Nat) : Prop := g ≠ B ∧ ∃ s1 s2 : ByteArray, w.heap[g]? = some (.cells #[.string s1, .string s2] 9 (0, 0)) ∧ s1.size ≤ 1 ∧ s2.size ≤ 1

def AxSm (x : AX) : Prop := x.c.bulk ≤ 100000 ∧ x.d.bulk ≤ 100000 ∧ x.r.length ≤ 1 ∧ x.s.length ≤ 1 ∧ x.a.length ≤ 1 ∧ x.b.length ≤ 1

/-- An axiom as a value. -/
def AxV (lo : Nat) (w : World) (kd : Int) (v : Value) : Prop :=
  ∃ (c0 c1 c2 c3 d0 d1 d2 d3 : Value) (ra : Option Addr) (rn rc : Nat) (sa : Option Addr) (sn sc : Nat) (aa : Option Addr) (an ac : Nat) (ba : Option Addr) (bn bc : Nat) (x : AX),
    v = .agg #[.int .i64 kd, c0, c1, c2, c3, d0, d1, d2, d3, .slice ra rn rc, .slice sa sn sc, .slice aa an ac, .slice ba bn bc] ∧ x.kind = kd ∧ RdA lo w.heap.size w 20 c0 c1 c2 c3 d0 d1 d2 d3 ra rn rc sa sn sc aa an ac ba bn bc x ∧ AxSm x

inductive RK | row | cur | idx | adr | str | word | axm (kd : Int)

def RV (lo B : Nat) : RK → World → Value → Prop
  | .row, w, v => ∃ g, v = .slice (some ⟨g, 0, none⟩) 2 2 ∧ Str2 B w g
  | .cur, _, v => v = .pointer (some ⟨B, 0, none⟩)
  | .idx, _, v => ∃ j : Nat, j < 2 ∧ v = .int .i64 j
  | .adr, w, v => ∃ g j, v = .pointer (some ⟨g, j, none⟩) ∧ j < 2 ∧ Str2 B w g
  | .str, _, v => ∃ s : ByteArray, v = .string s ∧ s.size ≤ 1
  | .word, w, v => ∃ b k c z, v = .slice b k c ∧ Rd lo w.heap.size w b k c z ∧ z.length ≤ 1
  | .axm kd, w, v => AxV lo w kd v

theorem Str2.next {B g : Nat} {w w' : World} (h : Str2 B w g) (hb : Bt B w.heap.size w w') : Str2 B w' g := by
  obtain ⟨h1, s1, s2, h2, h3⟩ := h
  exact ⟨h1, s1, s2, (hb.block g (Array.getElem?_eq_some_iff.1 h2).1 h1).trans h2, h3⟩
theorem Rd.next {lo B : Nat} {w w' : World} {b : Option Addr} {k c : Nat} {z : List Int} (h : Rd lo w.heap.size w b k c z) (hB : B < lo) (hb : Bt B w.heap.size w w') : Rd lo w'.heap.size w' b k c z :=
  (h.same (fun q h1 h2 => hb.block q h2 (by omega))).mono (Nat.le_refl _) hb.size
theorem AxV.next {lo B : Nat} {w w' : World} {kd : Int} {v : Value} (h : AxV lo w kd v) (hB : B < lo) (hb : Bt B w.heap.size w w') : AxV lo w' kd v := by
  obtain ⟨c0, c1, c2, c3, d0, d1, d2, d3, ra, rn, rc, sa, sn, sc, aa, an, ac, ba, bn, bc, x, e, hk, hr, hs⟩ := h
  have hsm : Same lo w.heap.size w w' := fun q h1 h2 => hb.block q h2 (by omega)
  exact ⟨c0, c1, c2, c3, d0, d1, d2, d3, ra, rn, rc, sa, sn, sc, aa, an, ac, ba, bn, bc, x, e, hk, ⟨RdC.mono (Nat.le_refl _) hb.size (RdC.same hsm hr.c), RdC.mono (Nat.le_refl _) hb.size (RdC.same hsm hr.d), hr.r.next hB hb, hr.s.next hB hb, hr.a.next hB hb, hr.b.next hB hb⟩, hs⟩
theorem RV.next {lo B : Nat} {kd : RK} {w w' : World} {v : Value} (h : RV lo B kd w v) (hB : B < lo) (hb : Bt B w.heap.size w w') : RV lo B kd w' v := by
  cases kd with
  | row => obtain ⟨g, e, h⟩ := h; exact ⟨g, e, h.next hb⟩
  | cur => exact h
  | idx => exact h
  | adr => obtain ⟨g, j, e, hj, h⟩ := h; exact ⟨g, j, e, hj, h.next hb⟩
  | str => exact h
  | word => obtain ⟨b, k, c, z, e, h, hz⟩ := h; exact ⟨b, k, c, z, e, h.next hB hb, hz⟩
  | axm kd => exact AxV.next h hB hb

theorem rdZero (lo hi d : Nat) (w : World) : RdC lo hi w (d + 1) (.agg #[.int .i64 0, .slice none 0 0, .slice none 0 0, .slice none 0 0]) CN.zero := by
  have h0 : Rd lo hi w none 0 0 [] := ⟨rfl, ⟨by omega, by omega⟩, by simp, .inl rfl⟩
  exact ⟨none, 0, 0, none, 0, 0, none, 0, 0, rfl, h0, h0, ⟨rfl, ⟨by omega, by omega⟩, .inl rfl⟩⟩
theorem rdNil (lo hi : Nat) (w : World) : Rd lo hi w none 0 0 [] := ⟨rfl, ⟨by omega, by omega⟩, by simp, .inl rfl⟩
theorem zero_small : CN.zero.bulk ≤ 100000 := by simp [CN.zero, CN.bulk, bulks]

/-- Of texts alone. -/
theorem AxV.words {lo : Nat} {w : World} (kd : Int) {ra : Option Addr} {rn rc : Nat} {sa : Option Addr} {sn sc : Nat} {aa : Option Addr} {an ac : Nat} {ba : Option Addr} {bn bc : Nat} {zr zs za zb : List Int}
    (h1 : Rd lo w.heap.size w ra rn rc zr) (h2 : Rd lo w.heap.size w sa sn sc zs) (h3 : Rd lo w.heap.size w aa an ac za) (h4 : Rd lo w.heap.size w ba bn bc zb) (l1 : zr.length ≤ 1) (l2 : zs.length ≤ 1) (l3 : za.length ≤ 1) (l4 : zb.length ≤ 1) :
    AxV lo w kd (.agg #[.int .i64 kd, .int .i64 0, .slice none 0 0, .slice none 0 0, .slice none 0 0, .int .i64 0, .slice none 0 0, .slice none 0 0, .slice none 0 0, .slice ra rn rc, .slice sa sn sc, .slice aa an ac, .slice ba bn bc]) :=
  ⟨_, _, _, _, _, _, _, _, ra, rn, rc, sa, sn, sc, aa, an, ac, ba, bn, bc, ⟨kd, CN.zero, CN.zero, zr, zs, za, zb⟩, rfl, rfl, ⟨rdZero _ _ 19 _, rdZero _ _ 19 _, h1, h2, h3, h4⟩, zero_small, zero_small, l1, l2, l3, l4⟩

def zeroA : Array Value := #[.int .i64 0, .int .i64 0, .slice none 0 0, .slice none 0 0, .slice none 0 0, .int .i64 0, .slice none 0 0, .slice none 0 0, .slice none 0 0, .slice none 0 0, .slice none 0 0, .slice none 0 0, .slice none 0 0]

/-- What a drawn axiom leaves. -/
def AdP (B : Nat) (a : Option Addr) (n cap : Nat) (zs : List Int) (hi : Nat) (w : World) (e : Ending) (w' : World) : Prop :=
  ∃ (kd : Int) (v : Value), e = .returned v ∧ AxV w.heap.size w' kd v ∧ (-1 ≤ kd ∧ kd ≤ 7) ∧ Cur w' B a n cap zs hi ∧ Bt B w.heap.size w w'

theorem AxV.one {lo : Nat} {w : World} {kd : Int} {v : Value} (h : AxV lo w kd v) : ∃ cs, v = .agg cs ∧ cs.size = 13 ∧ cs.all (·.oneCell') = true := by
  obtain ⟨c0, c1, c2, c3, d0, d1, d2, d3, ra, rn, rc, sa, sn, sc, aa, an, ac, ba, bn, bc, x, rfl, _, hr, _⟩ := h
  obtain ⟨rfl, ⟨_, _, _, rfl⟩, ⟨_, _, _, rfl⟩, ⟨_, _, _, rfl⟩⟩ := hr.c.formS
  obtain ⟨rfl, ⟨_, _, _, rfl⟩, ⟨_, _, _, rfl⟩, ⟨_, _, _, rfl⟩⟩ := hr.d.formS
  exact ⟨_, rfl, rfl, by simp [Value.oneCell']⟩

/-- The result's box is written, and that is the end. -/
theorem DgM.finA {B : Nat} {a : Option Addr} {n cap : Nat} {zs : List Int} {hi : Nat} {w V : World} {kd : Int} {cs : Array Value} (h : DgM (.cells zeroA 49) B a n cap zs hi w V) (hB : B < w.heap.size) (hv : AxV (w.heap.size + 1) V kd (.agg cs)) (hk : -1 ≤ kd ∧ kd ≤ 7) :
    AdP B a n cap zs hi w (.returned (.agg cs)) (V.setRow w.heap.size cs) ∧ (V.setRow w.heap.size cs).heap[w.heap.size]? = some (.cells cs 49 (0, 0)) := by
  have ho : ∀ q, q ≠ w.heap.size → (V.setRow w.heap.size cs).heap[q]? = V.heap[q]? := fun q hq => setRow_other V w.heap.size q cs hq
  have hs : (V.setRow w.heap.size cs).heap.size = V.heap.size := setRow_size _ _ _
  refine ⟨⟨kd, _, rfl, ?_, hk, h.cur.keepB (fun q hq => ho q (by omega)), ⟨h.bt.os, h.bt.tape, h.bt.output, by rw [hs]; exact h.bt.size, fun q q1 q2 => (ho q (by omega)).trans (h.bt.block q q1 q2)⟩⟩, setRow_heap V w.heap.size zeroA cs _ _ h.box⟩
  obtain ⟨c0, c1, c2, c3, d0, d1, d2, d3, ra, rn, rc, sa, sn, sc, aa, an, ac, ba, bn, bc, x, e, hk, hr, hsm⟩ := hv
  have hsm' : Same (w.heap.size + 1) V.heap.size V (V.setRow w.heap.size cs) := fun q h1 _ => ho q (by omega)
  rw [AxV, hs]
  exact ⟨c0, c1, c2, c3, d0, d1, d2, d3, ra, rn, rc, sa, sn, sc, aa, an, ac, ba, bn, bc, x, e, hk, ⟨RdC.mono (Nat.le_succ _) (Nat.le_refl _) (RdC.same hsm' hr.c), RdC.mono (Nat.le_succ _) (Nat.le_refl _) (RdC.same hsm' hr.d), (hr.r.same hsm').mono (Nat.le_succ _) (Nat.le_refl _), (hr.s.same hsm').mono (Nat.le_succ _) (Nat.le_refl _), (hr.a.same hsm').mono (Nat.le_succ _) (Nat.le_refl _), (hr.b.same hsm').mono (Nat.le_succ _) (Nat.le_refl _)⟩, hsm⟩

/-! ### The invariant -/
structure DI (m base : Nat) (tag : Nat → RK) (B : Nat) (da : Option Addr) (n cap : Nat) (zs : List Int) (hi : Nat) (w0 : World) (F : Act → World → Prop) (l : Array Bool) (a : Act) (w : World) : Prop where
  sz : l.size = m + 1
  tz : base + m ≤ a.tmps.size
  df : a.defers = []
  fin : Dn l m → F a w
  all : Dn l m → ∀ k, k < m → Dn l k
  mem : ¬ Dn l m → DgM (.cells zeroA 49) B da n cap zs hi w0 w ∧ a.tmps[0]?.getD undef = .pointer (some ⟨B, 0, none⟩) ∧ a.tmps[2]?.getD undef = .pointer (some ⟨w0.heap.size, 0, none⟩) ∧ RV (w0.heap.size + 1) B .word w (a.tmps[3]?.getD undef) ∧
    ∀ k, k < m → Dn l k → RV (w0.heap.size + 1) B (tag k) w (a.tmps[base + k]?.getD undef)

theorem tmps_set {a : Array Value} {i j : Nat} {v : Value} (hi : i < a.size) : (a.setIfInBounds i v)[j]?.getD undef = if i = j then v else a[j]?.getD undef := by
  rw [Array.getElem?_setIfInBounds]
  by_cases h : i = j
  · subst h; simp [hi]
  · simp [h]

section
variable {m base : Nat} {tag : Nat → RK} {B : Nat} {da : Option Addr} {n cap : Nat} {zs : List Int} {hi : Nat} {w0 : World} {F : Act → World → Prop} {l : Array Bool} {a : Act} {w : World}
theorem DI.open (h : DI m base tag B da n cap zs hi w0 F l a w) {i : Nat} (hn : l[i]? = some false) (hlt : i < m + 1) : ¬ Dn l m := by
  intro hd
  by_cases e : i = m
  · subst e; exact not_dn hn hd
  · exact not_dn hn (h.all hd i (by omega))
theorem DI.step (h : DI m base tag B da n cap zs hi w0 F l a w) (hB : B < w0.heap.size) (hb4 : 4 ≤ base) {i : Nat} (hlt : i < m) (hn : l[i]? = some false) {v : Value} {w2 : World} (hm : DgM (.cells zeroA 49) B da n cap zs hi w0 w2) (hb : Bt B w.heap.size w w2) (hv : RV (w0.heap.size + 1) B (tag i) w2 v) :
    DI m base tag B da n cap zs hi w0 F (l.setIfInBounds i true) { tmps := a.tmps.setIfInBounds (base + i) v, defers := a.defers } w2 := by
  have ho := h.open hn (by omega)
  have htz := h.tz
  have hne : ¬ Dn (l.setIfInBounds i true) m := by
    rw [dn_set]
    rintro (⟨e, _⟩ | q)
    · omega
    · exact ho q
  obtain ⟨_, t0, t2, t3, hf⟩ := h.mem ho
  refine ⟨by simpa using h.sz, by simpa using htz, h.df, fun q => absurd q hne, fun q => absurd q hne, fun _ => ⟨hm, ?_, ?_, ?_, ?_⟩⟩
  · show (a.tmps.setIfInBounds (base + i) v)[0]?.getD undef = _
    rw [tmps_set (by omega), if_neg (by omega)]; exact t0
  · show (a.tmps.setIfInBounds (base + i) v)[2]?.getD undef = _
    rw [tmps_set (by omega), if_neg (by omega)]; exact t2
  · show RV _ _ _ _ ((a.tmps.setIfInBounds (base + i) v)[3]?.getD undef)
    rw [tmps_set (by omega), if_neg (by omega)]; exact t3.next (by omega) hb
  · intro k hk hd
    show RV _ _ _ _ ((a.tmps.setIfInBounds (base + i) v)[base + k]?.getD undef)
    rw [tmps_set (by omega)]
    by_cases e : base + i = base + k
    · obtain rfl : i = k := by omega
      rw [if_pos rfl]; exact hv
    · rw [if_neg e]
      rw [dn_set] at hd
      rcases hd with ⟨q, _⟩ | q
      · omega
      · exact (hf k hk q).next (by omega) hb
theorem DI.stop (h : DI m base tag B da n cap zs hi w0 F l a w) (hall : ∀ k, k < m → Dn l k) {w2 : World} (hf : F a w2) : DI m base tag B da n cap zs hi w0 F (l.setIfInBounds m true) a w2 := by
  refine ⟨by simpa using h.sz, h.tz, h.df, fun _ => hf, fun _ k hk => dn_set.2 (.inr (hall k hk)), fun q => absurd (dn_set.2 (.inl ⟨rfl, by have := h.sz; omega⟩)) q⟩
end

end Go.Proofs.YtnmljalcndfjmaaGreat
