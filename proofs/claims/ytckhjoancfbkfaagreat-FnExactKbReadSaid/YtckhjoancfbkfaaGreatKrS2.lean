/- The model's parser of one thing told: what is under way from whatever state, step by step. -/
import Derived.Test.YtckhjoancfbkfaaGreatNG23
namespace Go.Proofs.YtckhjoancfbkfaaGreat
open Go.RowKit
set_option linter.unusedVariables false

def stOf : ResX → PSt
  | .ok _ j => .at' j
  | .bad p => .bad p
def stepF (ts : List Tok) (en : Int) (f : Nat) : ResX → ResX
  | .bad p => .bad p
  | .ok x j => fieldR ts en f x j
def openX (ts : List Tok) (en : Int) : ResX → ResX
  | .bad p => .bad p
  | .ok x j => if isI ts 3 j = true then .ok x (j + 1) else .bad (hereI ts en j)
theorem fieldsR_step {ts : List Tok} {en : Int} {f : Nat} {fs : List Nat} {x : AX} {i : Nat} : fieldsR ts en (f :: fs) x i = match stepF ts en f (.ok x i) with | .bad p => .bad p | .ok x' j => fieldsR ts en fs x' j := rfl
theorem fieldsR2 {ts : List Tok} {en : Int} {f f' : Nat} {x : AX} {i : Nat} : fieldsR ts en [f, f'] x i = stepF ts en f' (stepF ts en f (.ok x i)) := by
  rw [fieldsR_step]
  cases h : stepF ts en f (.ok x i) with
  | bad p => rfl
  | ok x1 j1 =>
    show fieldsR ts en [f'] x1 j1 = _
    rw [fieldsR_step]
    cases h1 : stepF ts en f' (.ok x1 j1) with
    | bad p => rfl
    | ok x2 j2 => rfl
theorem fieldsR3 {ts : List Tok} {en : Int} {f f' f'' : Nat} {x : AX} {i : Nat} : fieldsR ts en [f, f', f''] x i = stepF ts en f'' (stepF ts en f' (stepF ts en f (.ok x i))) := by
  rw [fieldsR_step]
  cases h : stepF ts en f (.ok x i) with
  | bad p => rfl
  | ok x1 j1 => exact fieldsR2

/-- Twelve values that have the cells' forms. -/
def VFm (V : XV) : Prop := ∃ (ck : Int) (c1a : Option Addr) (c1n c1c : Nat) (c2a : Option Addr) (c2n c2c : Nat) (c3a : Option Addr) (c3n c3c : Nat) (dk : Int) (d1a : Option Addr) (d1n d1c : Nat) (d2a : Option Addr) (d2n d2c : Nat) (d3a : Option Addr) (d3n d3c : Nat) (ra : Option Addr) (rn rc : Nat) (sa : Option Addr) (sn sc : Nat) (aa : Option Addr) (an ac : Nat) (ba : Option Addr) (bn bc : Nat),
    V = ⟨.int .i64 ck, .slice c1a c1n c1c, .slice c2a c2n c2c, .slice c3a c3n c3c, .int .i64 dk, .slice d1a d1n d1c, .slice d2a d2n d2c, .slice d3a d3n d3c, .slice ra rn rc, .slice sa sn sc, .slice aa an ac, .slice ba bn bc⟩

theorem VFm.zero : VFm XV.zero := ⟨_, _, _, _, _, _, _, _, _, _, _, _, _, _, _, _, _, _, _, _, _, _, _, _, _, _, _, _, _, _, _, _, rfl⟩

/-- What is under way: the box p; the parser; what has been read. -/
structure StY (pb g : Nat) (ts : List Tok) (gs : List (Nat × Nat)) (en : Int) (w0 : World) (i0 p s : Nat) (k : Int) (w : World) (V : XV) (r : ResX) : Prop where
  bt : Bt pb w0.heap.size w0 w
  box : BoxX w p k V
  le : s ≤ w.heap.size
  fm : VFm V
  st : PsY w pb g ts en (stOf r)
  ok : ∀ x j, r = .ok x j → i0 ≤ j ∧ x.kind = k ∧ ∃ Ls, StZ pb g ts gs en w0 i0 p s k w V x Ls j
theorem StY.tk {base pb g : Nat} {ts : List Tok} {gs : List (Nat × Nat)} {en : Int} {w0 : World} {i0 p s : Nat} {k : Int} {w : World} {V : XV} {r : ResX} (h : StY pb g ts gs en w0 i0 p s k w V r) (hS : SsX base pb g ts gs w0 p s) : TkM base pb w g ts gs := hS.t.bt h.bt (Nat.le_of_lt hS.plt)

theorem StY.lowR {base pb g : Nat} {ts : List Tok} {gs : List (Nat × Nat)} {en : Int} {w0 : World} {i0 p s : Nat} {k : Int} {w w1 : World} {V : XV} {r : ResX} (h : StY pb g ts gs en w0 i0 p s k w V r) (hS : SsX base pb g ts gs w0 p s) {a : Option Addr} {n c : Nat} (hb : Bt pb w.heap.size w w1) (hp : PsY w1 pb g ts en (takeT ts en 2 (stOf r))) (hv : ∀ j, stOf r = .at' j → isI ts 2 j = true → ∃ L, OwS w1 (.slice a n c) (wordI ts j) L ∧ (L.map (·.1)).Nodup ∧ (∀ x ∈ L, w1.frozen? x.1 = false) ∧ Use ts gs j (j + 1) w.heap.size w1.heap.size L) :
    BoxX w1 p k V ∧ StY pb g ts gs en w0 i0 p s k (w1.setCell ⟨p, 9, none⟩ (.slice a n c)) { V with r := .slice a n c } (stepF ts en 82 r) := by
  have hplt := hS.plt
  have hp0 := hS.p0
  have hB1 : BoxX w1 p k V := h.box.of (hb.block _ h.box.lt (by omega))
  obtain ⟨ck, c1a, c1n, c1c, c2a, c2n, c2c, c3a, c3n, c3c, dk, d1a, d1n, d1c, d2a, d2n, d2c, d3a, d3n, d3c, ra, rn, rc, sa, sn, sc, aa, an, ac, ba, bn, bc, rfl⟩ := h.fm
  refine ⟨hB1, (h.bt.trans (hb.mono h.bt.size)).set (.inl (by show w0.heap.size ≤ p; omega)) _, hB1.setR _, by have := h.le; have := hb.size; simp; omega, ⟨_, _, _, _, _, _, _, _, _, _, _, _, _, _, _, _, _, _, _, _, _, _, _, _, _, _, _, _, _, _, _, _, rfl⟩, ?_, fun x' j' hr => ?_⟩
  · have h2 := hp.of (W' := w1.setCell ⟨p, 9, none⟩ (.slice a n c)) (heap_set1 _ _ _ _ (by omega))
    cases r with
    | bad q => exact h2
    | ok x j =>
      simp only [stOf, takeT] at h2
      simp only [stepF, fieldR]
      cases hk : isI ts 2 j
      · simp only [hk] at h2 ⊢; exact h2
      · simp only [hk, if_true] at h2 ⊢; exact h2
  · cases r with
    | bad q => simp [stepF] at hr
    | ok x j =>
      obtain ⟨hij, hkx, Ls, hz⟩ := h.ok x j rfl
      have hf : fieldR ts en 82 x j = .ok x' j' := hr
      cases hk : isI ts 2 j
      · simp [fieldR, hk] at hf
      · have e1 : fieldR ts en 82 x j = .ok (putB x 82 (wordI ts j)) (j + 1) := by simp [fieldR, hk]
        rw [e1] at hf
        simp only [ResX.ok.injEq] at hf
        obtain ⟨rfl, rfl⟩ := hf
        obtain ⟨L, h1, h2, h3, h4⟩ := hv j rfl hk
        have hp1 : PsAt w1 pb g (j + 1) ts en (-1) := by have := hp; simp only [stOf, takeT, hk, if_true] at this; exact this.1
        exact ⟨by omega, by rw [fieldR_kind e1]; exact hkx, _, hz.setR hS hij hb h1 h2 h3 h4 hp1⟩

theorem StY.lowS {base pb g : Nat} {ts : List Tok} {gs : List (Nat × Nat)} {en : Int} {w0 : World} {i0 p s : Nat} {k : Int} {w w1 : World} {V : XV} {r : ResX} (h : StY pb g ts gs en w0 i0 p s k w V r) (hS : SsX base pb g ts gs w0 p s) {a : Option Addr} {n c : Nat} (hb : Bt pb w.heap.size w w1) (hp : PsY w1 pb g ts en (takeT ts en 2 (stOf r))) (hv : ∀ j, stOf r = .at' j → isI ts 2 j = true → ∃ L, OwS w1 (.slice a n c) (wordI ts j) L ∧ (L.map (·.1)).Nodup ∧ (∀ x ∈ L, w1.frozen? x.1 = false) ∧ Use ts gs j (j + 1) w.heap.size w1.heap.size L) :
    BoxX w1 p k V ∧ StY pb g ts gs en w0 i0 p s k (w1.setCell ⟨p, 10, none⟩ (.slice a n c)) { V with s := .slice a n c } (stepF ts en 83 r) := by
  have hplt := hS.plt
  have hp0 := hS.p0
  have hB1 : BoxX w1 p k V := h.box.of (hb.block _ h.box.lt (by omega))
  obtain ⟨ck, c1a, c1n, c1c, c2a, c2n, c2c, c3a, c3n, c3c, dk, d1a, d1n, d1c, d2a, d2n, d2c, d3a, d3n, d3c, ra, rn, rc, sa, sn, sc, aa, an, ac, ba, bn, bc, rfl⟩ := h.fm
  refine ⟨hB1, (h.bt.trans (hb.mono h.bt.size)).set (.inl (by show w0.heap.size ≤ p; omega)) _, hB1.setS _, by have := h.le; have := hb.size; simp; omega, ⟨_, _, _, _, _, _, _, _, _, _, _, _, _, _, _, _, _, _, _, _, _, _, _, _, _, _, _, _, _, _, _, _, rfl⟩, ?_, fun x' j' hr => ?_⟩
  · have h2 := hp.of (W' := w1.setCell ⟨p, 10, none⟩ (.slice a n c)) (heap_set1 _ _ _ _ (by omega))
    cases r with
    | bad q => exact h2
    | ok x j =>
      simp only [stOf, takeT] at h2
      simp only [stepF, fieldR]
      cases hk : isI ts 2 j
      · simp only [hk] at h2 ⊢; exact h2
      · simp only [hk, if_true] at h2 ⊢; exact h2
  · cases r with
    | bad q => simp [stepF] at hr
    | ok x j =>
      obtain ⟨hij, hkx, Ls, hz⟩ := h.ok x j rfl
      have hf : fieldR ts en 83 x j = .ok x' j' := hr
      cases hk : isI ts 2 j
      · simp [fieldR, hk] at hf
      · have e1 : fieldR ts en 83 x j = .ok (putB x 83 (wordI ts j)) (j + 1) := by simp [fieldR, hk]
        rw [e1] at hf
        simp only [ResX.ok.injEq] at hf
        obtain ⟨rfl, rfl⟩ := hf
        obtain ⟨L, h1, h2, h3, h4⟩ := hv j rfl hk
        have hp1 : PsAt w1 pb g (j + 1) ts en (-1) := by have := hp; simp only [stOf, takeT, hk, if_true] at this; exact this.1
        exact ⟨by omega, by rw [fieldR_kind e1]; exact hkx, _, hz.setS hS hij hb h1 h2 h3 h4 hp1⟩

theorem StY.lowA {base pb g : Nat} {ts : List Tok} {gs : List (Nat × Nat)} {en : Int} {w0 : World} {i0 p s : Nat} {k : Int} {w w1 : World} {V : XV} {r : ResX} (h : StY pb g ts gs en w0 i0 p s k w V r) (hS : SsX base pb g ts gs w0 p s) {a : Option Addr} {n c : Nat} (hb : Bt pb w.heap.size w w1) (hp : PsY w1 pb g ts en (takeT ts en 2 (stOf r))) (hv : ∀ j, stOf r = .at' j → isI ts 2 j = true → ∃ L, OwS w1 (.slice a n c) (wordI ts j) L ∧ (L.map (·.1)).Nodup ∧ (∀ x ∈ L, w1.frozen? x.1 = false) ∧ Use ts gs j (j + 1) w.heap.size w1.heap.size L) :
    BoxX w1 p k V ∧ StY pb g ts gs en w0 i0 p s k (w1.setCell ⟨p, 11, none⟩ (.slice a n c)) { V with a := .slice a n c } (stepF ts en 65 r) := by
  have hplt := hS.plt
  have hp0 := hS.p0
  have hB1 : BoxX w1 p k V := h.box.of (hb.block _ h.box.lt (by omega))
  obtain ⟨ck, c1a, c1n, c1c, c2a, c2n, c2c, c3a, c3n, c3c, dk, d1a, d1n, d1c, d2a, d2n, d2c, d3a, d3n, d3c, ra, rn, rc, sa, sn, sc, aa, an, ac, ba, bn, bc, rfl⟩ := h.fm
  refine ⟨hB1, (h.bt.trans (hb.mono h.bt.size)).set (.inl (by show w0.heap.size ≤ p; omega)) _, hB1.setA _, by have := h.le; have := hb.size; simp; omega, ⟨_, _, _, _, _, _, _, _, _, _, _, _, _, _, _, _, _, _, _, _, _, _, _, _, _, _, _, _, _, _, _, _, rfl⟩, ?_, fun x' j' hr => ?_⟩
  · have h2 := hp.of (W' := w1.setCell ⟨p, 11, none⟩ (.slice a n c)) (heap_set1 _ _ _ _ (by omega))
    cases r with
    | bad q => exact h2
    | ok x j =>
      simp only [stOf, takeT] at h2
      simp only [stepF, fieldR]
      cases hk : isI ts 2 j
      · simp only [hk] at h2 ⊢; exact h2
      · simp only [hk, if_true] at h2 ⊢; exact h2
  · cases r with
    | bad q => simp [stepF] at hr
    | ok x j =>
      obtain ⟨hij, hkx, Ls, hz⟩ := h.ok x j rfl
      have hf : fieldR ts en 65 x j = .ok x' j' := hr
      cases hk : isI ts 2 j
      · simp [fieldR, hk] at hf
      · have e1 : fieldR ts en 65 x j = .ok (putB x 65 (wordI ts j)) (j + 1) := by simp [fieldR, hk]
        rw [e1] at hf
        simp only [ResX.ok.injEq] at hf
        obtain ⟨rfl, rfl⟩ := hf
        obtain ⟨L, h1, h2, h3, h4⟩ := hv j rfl hk
        have hp1 : PsAt w1 pb g (j + 1) ts en (-1) := by have := hp; simp only [stOf, takeT, hk, if_true] at this; exact this.1
        exact ⟨by omega, by rw [fieldR_kind e1]; exact hkx, _, hz.setA hS hij hb h1 h2 h3 h4 hp1⟩

theorem StY.lowB {base pb g : Nat} {ts : List Tok} {gs : List (Nat × Nat)} {en : Int} {w0 : World} {i0 p s : Nat} {k : Int} {w w1 : World} {V : XV} {r : ResX} (h : StY pb g ts gs en w0 i0 p s k w V r) (hS : SsX base pb g ts gs w0 p s) {a : Option Addr} {n c : Nat} (hb : Bt pb w.heap.size w w1) (hp : PsY w1 pb g ts en (takeT ts en 2 (stOf r))) (hv : ∀ j, stOf r = .at' j → isI ts 2 j = true → ∃ L, OwS w1 (.slice a n c) (wordI ts j) L ∧ (L.map (·.1)).Nodup ∧ (∀ x ∈ L, w1.frozen? x.1 = false) ∧ Use ts gs j (j + 1) w.heap.size w1.heap.size L) :
    BoxX w1 p k V ∧ StY pb g ts gs en w0 i0 p s k (w1.setCell ⟨p, 12, none⟩ (.slice a n c)) { V with b := .slice a n c } (stepF ts en 66 r) := by
  have hplt := hS.plt
  have hp0 := hS.p0
  have hB1 : BoxX w1 p k V := h.box.of (hb.block _ h.box.lt (by omega))
  obtain ⟨ck, c1a, c1n, c1c, c2a, c2n, c2c, c3a, c3n, c3c, dk, d1a, d1n, d1c, d2a, d2n, d2c, d3a, d3n, d3c, ra, rn, rc, sa, sn, sc, aa, an, ac, ba, bn, bc, rfl⟩ := h.fm
  refine ⟨hB1, (h.bt.trans (hb.mono h.bt.size)).set (.inl (by show w0.heap.size ≤ p; omega)) _, hB1.setB _, by have := h.le; have := hb.size; simp; omega, ⟨_, _, _, _, _, _, _, _, _, _, _, _, _, _, _, _, _, _, _, _, _, _, _, _, _, _, _, _, _, _, _, _, rfl⟩, ?_, fun x' j' hr => ?_⟩
  · have h2 := hp.of (W' := w1.setCell ⟨p, 12, none⟩ (.slice a n c)) (heap_set1 _ _ _ _ (by omega))
    cases r with
    | bad q => exact h2
    | ok x j =>
      simp only [stOf, takeT] at h2
      simp only [stepF, fieldR]
      cases hk : isI ts 2 j
      · simp only [hk] at h2 ⊢; exact h2
      · simp only [hk, if_true] at h2 ⊢; exact h2
  · cases r with
    | bad q => simp [stepF] at hr
    | ok x j =>
      obtain ⟨hij, hkx, Ls, hz⟩ := h.ok x j rfl
      have hf : fieldR ts en 66 x j = .ok x' j' := hr
      cases hk : isI ts 2 j
      · simp [fieldR, hk] at hf
      · have e1 : fieldR ts en 66 x j = .ok (putB x 66 (wordI ts j)) (j + 1) := by simp [fieldR, hk]
        rw [e1] at hf
        simp only [ResX.ok.injEq] at hf
        obtain ⟨rfl, rfl⟩ := hf
        obtain ⟨L, h1, h2, h3, h4⟩ := hv j rfl hk
        have hp1 : PsAt w1 pb g (j + 1) ts en (-1) := by have := hp; simp only [stOf, takeT, hk, if_true] at this; exact this.1
        exact ⟨by omega, by rw [fieldR_kind e1]; exact hkx, _, hz.setB hS hij hb h1 h2 h3 h4 hp1⟩

theorem StY.conC {base pb g : Nat} {ts : List Tok} {gs : List (Nat × Nat)} {en : Int} {w0 : World} {i0 p s : Nat} {k : Int} {w w1 : World} {V : XV} {r : ResX} (h : StY pb g ts gs en w0 i0 p s k w V r) (hS : SsX base pb g ts gs w0 p s) {zk : Int} {a1 : Option Addr} {n1 c1 : Nat} {a2 : Option Addr} {n2 c2 : Nat} {a3 : Option Addr} {n3 c3 : Nat} (hb : Bt pb w.heap.size w w1) (hp : PsY w1 pb g ts en (conT ts en (stOf r))) (hv : ∀ j c j', stOf r = .at' j → conR ts en 6 j = .ok c j' → ∃ L, OwnR ts gs j j' w.heap.size w1 6 (.agg #[.int .i64 zk, .slice a1 n1 c1, .slice a2 n2 c2, .slice a3 n3 c3]) c L) :
    BoxX w1 p k V ∧ StY pb g ts gs en w0 i0 p s k ((((w1.setCell ⟨p, 1, none⟩ (.int .i64 zk)).setCell ⟨p, 2, none⟩ (.slice a1 n1 c1)).setCell ⟨p, 3, none⟩ (.slice a2 n2 c2)).setCell ⟨p, 4, none⟩ (.slice a3 n3 c3)) { V with c0 := .int .i64 zk, c1 := .slice a1 n1 c1, c2 := .slice a2 n2 c2, c3 := .slice a3 n3 c3 } (stepF ts en 67 r) := by
  have hplt := hS.plt
  have hp0 := hS.p0
  have hB1 : BoxX w1 p k V := h.box.of (hb.block _ h.box.lt (by omega))
  have hq : ((((w1.setCell ⟨p, 1, none⟩ (.int .i64 zk)).setCell ⟨p, 2, none⟩ (.slice a1 n1 c1)).setCell ⟨p, 3, none⟩ (.slice a2 n2 c2)).setCell ⟨p, 4, none⟩ (.slice a3 n3 c3)).heap[pb]? = w1.heap[pb]? := by
    rw [heap_set1 _ _ _ _ (by omega), heap_set1 _ _ _ _ (by omega), heap_set1 _ _ _ _ (by omega), heap_set1 _ _ _ _ (by omega)]
  obtain ⟨ck, c1a, c1n, c1c, c2a, c2n, c2c, c3a, c3n, c3c, dk, d1a, d1n, d1c, d2a, d2n, d2c, d3a, d3n, d3c, ra, rn, rc, sa, sn, sc, aa, an, ac, ba, bn, bc, rfl⟩ := h.fm
  refine ⟨hB1, ((((h.bt.trans (hb.mono h.bt.size)).set (.inl (by show w0.heap.size ≤ p; omega)) _).set (.inl (by show w0.heap.size ≤ p; omega)) _).set (.inl (by show w0.heap.size ≤ p; omega)) _).set (.inl (by show w0.heap.size ≤ p; omega)) _, hB1.setC _ _ _ _, by have := h.le; have := hb.size; simp; omega, ⟨_, _, _, _, _, _, _, _, _, _, _, _, _, _, _, _, _, _, _, _, _, _, _, _, _, _, _, _, _, _, _, _, rfl⟩, ?_, fun x' j' hr => ?_⟩
  · have h2 := hp.of hq
    cases r with
    | bad q => exact h2
    | ok x j =>
      simp only [stOf, conT] at h2
      simp only [stepF, fieldR]
      cases hk : conR ts en 6 j with
      | bad q => rw [hk] at h2; exact h2
      | ok c j' => rw [hk] at h2; exact h2
  · cases r with
    | bad q => simp [stepF] at hr
    | ok x j =>
      obtain ⟨hij, hkx, Ls, hz⟩ := h.ok x j rfl
      have hf : fieldR ts en 67 x j = .ok x' j' := hr
      cases hk : conR ts en 6 j with
      | bad q => simp [fieldR, hk] at hf
      | ok c j1 =>
        have e1 : fieldR ts en 67 x j = .ok { x with c := c } j1 := by simp [fieldR, hk]
        rw [e1] at hf
        simp only [ResX.ok.injEq] at hf
        obtain ⟨rfl, rfl⟩ := hf
        obtain ⟨L, hO⟩ := hv j c j1 rfl hk
        have hjj := (conR_end ts en 6 j c j1 hk).1
        have hp1 : PsAt w1 pb g j1 ts en (-1) := by have := hp; simp only [stOf, conT, hk] at this; exact this.1
        exact ⟨by omega, hkx, _, hz.setC hS hij (Nat.le_of_lt hjj) hb hO hp1⟩

theorem StY.conD {base pb g : Nat} {ts : List Tok} {gs : List (Nat × Nat)} {en : Int} {w0 : World} {i0 p s : Nat} {k : Int} {w w1 : World} {V : XV} {r : ResX} (h : StY pb g ts gs en w0 i0 p s k w V r) (hS : SsX base pb g ts gs w0 p s) {zk : Int} {a1 : Option Addr} {n1 c1 : Nat} {a2 : Option Addr} {n2 c2 : Nat} {a3 : Option Addr} {n3 c3 : Nat} (hb : Bt pb w.heap.size w w1) (hp : PsY w1 pb g ts en (conT ts en (stOf r))) (hv : ∀ j c j', stOf r = .at' j → conR ts en 6 j = .ok c j' → ∃ L, OwnR ts gs j j' w.heap.size w1 6 (.agg #[.int .i64 zk, .slice a1 n1 c1, .slice a2 n2 c2, .slice a3 n3 c3]) c L) :
    BoxX w1 p k V ∧ StY pb g ts gs en w0 i0 p s k ((((w1.setCell ⟨p, 5, none⟩ (.int .i64 zk)).setCell ⟨p, 6, none⟩ (.slice a1 n1 c1)).setCell ⟨p, 7, none⟩ (.slice a2 n2 c2)).setCell ⟨p, 8, none⟩ (.slice a3 n3 c3)) { V with d0 := .int .i64 zk, d1 := .slice a1 n1 c1, d2 := .slice a2 n2 c2, d3 := .slice a3 n3 c3 } (stepF ts en 68 r) := by
  have hplt := hS.plt
  have hp0 := hS.p0
  have hB1 : BoxX w1 p k V := h.box.of (hb.block _ h.box.lt (by omega))
  have hq : ((((w1.setCell ⟨p, 5, none⟩ (.int .i64 zk)).setCell ⟨p, 6, none⟩ (.slice a1 n1 c1)).setCell ⟨p, 7, none⟩ (.slice a2 n2 c2)).setCell ⟨p, 8, none⟩ (.slice a3 n3 c3)).heap[pb]? = w1.heap[pb]? := by
    rw [heap_set1 _ _ _ _ (by omega), heap_set1 _ _ _ _ (by omega), heap_set1 _ _ _ _ (by omega), heap_set1 _ _ _ _ (by omega)]
  obtain ⟨ck, c1a, c1n, c1c, c2a, c2n, c2c, c3a, c3n, c3c, dk, d1a, d1n, d1c, d2a, d2n, d2c, d3a, d3n, d3c, ra, rn, rc, sa, sn, sc, aa, an, ac, ba, bn, bc, rfl⟩ := h.fm
  refine ⟨hB1, ((((h.bt.trans (hb.mono h.bt.size)).set (.inl (by show w0.heap.size ≤ p; omega)) _).set (.inl (by show w0.heap.size ≤ p; omega)) _).set (.inl (by show w0.heap.size ≤ p; omega)) _).set (.inl (by show w0.heap.size ≤ p; omega)) _, hB1.setD _ _ _ _, by have := h.le; have := hb.size; simp; omega, ⟨_, _, _, _, _, _, _, _, _, _, _, _, _, _, _, _, _, _, _, _, _, _, _, _, _, _, _, _, _, _, _, _, rfl⟩, ?_, fun x' j' hr => ?_⟩
  · have h2 := hp.of hq
    cases r with
    | bad q => exact h2
    | ok x j =>
      simp only [stOf, conT] at h2
      simp only [stepF, fieldR]
      cases hk : conR ts en 6 j with
      | bad q => rw [hk] at h2; exact h2
      | ok c j' => rw [hk] at h2; exact h2
  · cases r with
    | bad q => simp [stepF] at hr
    | ok x j =>
      obtain ⟨hij, hkx, Ls, hz⟩ := h.ok x j rfl
      have hf : fieldR ts en 68 x j = .ok x' j' := hr
      cases hk : conR ts en 6 j with
      | bad q => simp [fieldR, hk] at hf
      | ok c j1 =>
        have e1 : fieldR ts en 68 x j = .ok { x with d := c } j1 := by simp [fieldR, hk]
        rw [e1] at hf
        simp only [ResX.ok.injEq] at hf
        obtain ⟨rfl, rfl⟩ := hf
        obtain ⟨L, hO⟩ := hv j c j1 rfl hk
        have hjj := (conR_end ts en 6 j c j1 hk).1
        have hp1 : PsAt w1 pb g j1 ts en (-1) := by have := hp; simp only [stOf, conT, hk] at this; exact this.1
        exact ⟨by omega, hkx, _, hz.setD hS hij (Nat.le_of_lt hjj) hb hO hp1⟩

/-- The bracket ahead of the fields. -/
theorem StY.opened {base pb g : Nat} {ts : List Tok} {gs : List (Nat × Nat)} {en : Int} {w0 : World} {i0 p s : Nat} {k : Int} {w w1 : World} {V : XV} {r : ResX} (h : StY pb g ts gs en w0 i0 p s k w V r) (hS : SsX base pb g ts gs w0 p s) (hb : Bt pb w.heap.size w w1) (hp : PsY w1 pb g ts en (takeT ts en 3 (stOf r))) : StY pb g ts gs en w0 i0 p s k w1 V (openX ts en r) := by
  have hplt := hS.plt
  have hp0 := hS.p0
  refine ⟨h.bt.trans (hb.mono h.bt.size), h.box.of (hb.block _ h.box.lt (by omega)), Nat.le_trans h.le hb.size, h.fm, ?_, fun x' j' hr => ?_⟩
  · cases r with
    | bad q => exact hp
    | ok x j =>
      simp only [stOf, takeT] at hp
      simp only [openX]
      cases hk : isI ts 3 j
      · simp only [hk] at hp ⊢; exact hp
      · simp only [hk, if_true] at hp ⊢; exact hp
  · cases r with
    | bad q => simp [openX] at hr
    | ok x j =>
      obtain ⟨hij, hkx, Ls, hz⟩ := h.ok x j rfl
      cases hk : isI ts 3 j
      · simp [openX, hk] at hr
      · simp only [openX, hk, if_true, ResX.ok.injEq] at hr
        obtain ⟨rfl, rfl⟩ := hr
        have hp1 : PsAt w1 pb g (j + 1) ts en (-1) := by have := hp; simp only [stOf, takeT, hk, if_true] at this; exact this.1
        exact ⟨by omega, hkx, Ls, hz.next hS hb (Nat.le_succ _) hp1⟩

/-- What the parser of one thing told leaves. -/
def SxP (pb g : Nat) (ts : List Tok) (gs : List (Nat × Nat)) (en : Int) (i : Nat) (w : World) (r : ResX) (e : Ending) (w' : World) : Prop :=
  Bt pb w.heap.size w w' ∧ ∃ k V, VFm V ∧ e = .returned (.agg (V.arr k)) ∧ match r with
  | .bad q => PsBad w' pb q ∧ 0 ≤ q
  | .ok x j => k = x.kind ∧ j ≤ ts.length ∧ ∃ Ls, PaX w' 6 V x Ls ∧ Se6 ts gs i j w.heap.size w'.heap.size w' Ls ∧ PsAt w' pb g j ts en (-1)

/-- Done: the bracket behind the fields, the result laid down. -/
theorem StY.fin {base pb g : Nat} {ts : List Tok} {gs : List (Nat × Nat)} {en : Int} {w : World} {i i0 p s : Nat} {k : Int} {w5 w1 : World} {V : XV} {r : ResX} (h : StY pb g ts gs en w i0 p s k w5 V r) (hS : SsX base pb g ts gs w p s) (hi : i ≤ i0) (hpw : w.heap.size < p) (hb : Bt pb w5.heap.size w5 w1) (hp : PsY w1 pb g ts en (takeT ts en 4 (stOf r))) {r' : ResX} (hr : r' = closeX ts en r) (cs : Array Value) (hcs : cs = V.arr k) :
    BoxX w1 p k V ∧ SxP pb g ts gs en i w r' (.returned (.agg cs)) (w1.setRow w.heap.size cs) := by
  subst hr hcs
  have hplt := hS.plt
  have hp0 := hS.p0
  have hp1 := hS.p1
  have hle := h.le
  have hsz5 := hb.size
  have hn : ∀ c, c ≠ w.heap.size → (w1.setRow w.heap.size (V.arr k)).heap[c]? = w1.heap[c]? := fun c hc => setRow_other w1 w.heap.size c _ hc
  have hsz : (w1.setRow w.heap.size (V.arr k)).heap.size = w1.heap.size := setRow_size _ _ _
  have hbt := h.bt.trans (hb.mono h.bt.size)
  refine ⟨h.box.of (hb.block _ h.box.lt (by omega)), ⟨hbt.os, hbt.tape, hbt.output, by rw [hsz]; exact hbt.size, fun c hc hcp => (hn c (by omega)).trans (hbt.block c hc hcp)⟩, k, V, h.fm, rfl, ?_⟩
  cases r with
  | bad q => exact ⟨hp.1.of (hn pb (by omega)), hp.2⟩
  | ok x j =>
    obtain ⟨hij, hkx, Ls, hz⟩ := h.ok x j rfl
    simp only [stOf, takeT] at hp
    simp only [closeX]
    cases hk : isI ts 4 j
    · simp only [hk] at hp ⊢
      exact ⟨hp.1.of (hn pb (by omega)), hp.2⟩
    · simp only [hk, if_true] at hp ⊢
      have hz1 := hz.next hS hb (Nat.le_succ _) hp.1
      have hkk : ∀ c, ∀ y ∈ Ls c, (w1.setRow w.heap.size (V.arr k)).heap[y.1.block]? = w1.heap[y.1.block]? := fun c y hy => hn _ ((hz1.se.us c).ne hS.t (by omega) (by omega) y hy)
      refine ⟨hkx.symm, hp.2, Ls, hz1.pa.keep hkk, ?_, hp.1.of (hn pb (by omega))⟩
      rw [hsz]
      exact (hz1.se.keep hkk).mono hi (Nat.le_refl _) (by omega) (Nat.le_refl _)

end Go.Proofs.YtckhjoancfbkfaaGreat
