/- Several texts in one: ConTell, ConAdd, ConClone, NnfMath. -/
import Derived.Test.YtckhjoancfbkfaaGreatNG6
import Derived.Test.YtckhjoancfbkfaaGreatNG7
import Derived.Test.YtckhjoancfbkfaaGreatConOwn
namespace Go.Proofs.YtckhjoancfbkfaaGreat

section
open Go.RowKit Go.Shelf

attribute [local go_sem] Oper.semAt_some

theorem yieldAt_wide {m : Nat} (m' : Nat) {P : Program} {l : Nat} {args : Array Value} {W : World} {R : Ending → World → Prop} (h : YieldAt Fence.wide m P l args W R) : YieldAt Fence.wide m' P l args W R := by
  obtain ⟨fn, tmps, assign, body, hy, hR⟩ := h
  exact ⟨fn, tmps, assign, body, hy, ⟨hR.1, fun c cs _ => hR.2 c cs (fun d h => by cases h)⟩⟩

/-- A part that is told: its depth, its value, what it reads as. -/
structure Item (lo hi : Nat) (w0 : World) where
  deep : Nat
  v : Value
  c : CN
  d : Nat
  rd : RdC lo hi w0 d v c

def Item.m {lo hi : Nat} {w0 : World} (x : Item lo hi w0) : Nat × CN := (x.deep, x.c)
def encI {lo hi : Nat} {w0 : World} (x : Item lo hi w0) : Array Value := #[.int .i64 x.deep, x.v]

/-- What a round keeps: all that lay below B; and the cells that lie from n1 on. -/
def KpC (B n1 : Nat) (W W' : World) : Prop := Below B W W' ∧ ∀ (b : Nat) (o : Obj), n1 ≤ b → W.heap[b]? = some o → o.isCells = true → W'.heap[b]? = some o
theorem KpC.refl (B n1 : Nat) (W : World) : KpC B n1 W W := ⟨Below.refl _ _, fun _ _ _ h _ => h⟩
theorem KpC.trans {B n1 : Nat} {A C D : World} (h : KpC B n1 A C) (k : KpC B n1 C D) : KpC B n1 A D := ⟨h.1.trans k.1, fun b o h1 h2 h3 => k.2 b o h1 (h.2 b o h1 h2 h3) h3⟩
theorem KpC.of_below {B n1 : Nat} {W W' : World} (h : Below W.heap.size W W') (hB : B ≤ W.heap.size) : KpC B n1 W W' := ⟨h.mono hB, fun b _ _ h2 _ => (h.block b (Array.getElem?_eq_some_iff.1 h2).1).trans h2⟩
theorem KpC.putObj {B n1 : Nat} (W : World) (l : Nat) (o o' : Obj) (hB : B ≤ l) (hl : W.heap[l]? = some o) (ho : o.isCells = false) : KpC B n1 W (W.putObj l o') :=
  ⟨(Below.refl B W).grown (grownBy_putObj' W l o') (by have := (Array.getElem?_eq_some_iff.1 hl).1; omega) (fun k e => by cases e; exact hB), fun b o2 _ hb hc => (World.putObj_heap_other (fun e => by subst e; rw [hl] at hb; cases hb; rw [ho] at hc; cases hc)).trans hb⟩

theorem abides_below {β : Type} {B : Nat} {J : β → World → Prop} (hJ : AbidesFrom B J) {s : β} {W W' : World} (h : J s W) (hb : Below W.heap.size W W') : J s W' :=
  hJ s W W' none h ⟨hb.os, hb.tape, hb.output, hb.size, fun k hk _ => hb.block k hk⟩ (fun r e => by cases e)

theorem BoxC.kept {B n1 : Nat} {W W' : World} {b : Nat} {v0 v1 v2 v3 : Value} (h : BoxC W b v0 v1 v2 v3) (hk : KpC B n1 W W') (hb : n1 ≤ b) : BoxC W' b v0 v1 v2 v3 := hk.2 b _ hb h rfl

/-- The box of what a walk over parts is made of. -/
def BoxT (W : World) (b : Nat) (k : Int) (na : Option Addr) (nn nc : Nat) (ra : Option Addr) (rn rc : Nat) (ka : Option Addr) (kn kc : Nat) : Prop :=
  W.heap[b]? = some (.cells #[.int .i64 k, .slice na nn nc, .slice ra rn rc, .slice ka kn kc, .func (.func 148) #[] #[]] 151 (0, 0))

theorem BoxT.cells {W : World} {b : Nat} {k : Int} {na : Option Addr} {nn nc : Nat} {ra : Option Addr} {rn rc : Nat} {ka : Option Addr} {kn kc : Nat} (h : BoxT W b k na nn nc ra rn rc ka kn kc) :
    W.cell? ⟨b, 0, none⟩ = some (.int .i64 k) ∧ W.cell? ⟨b, 1, none⟩ = some (.slice na nn nc) ∧ W.cell? ⟨b, 2, none⟩ = some (.slice ra rn rc) ∧ W.cell? ⟨b, 3, none⟩ = some (.slice ka kn kc) ∧ W.cell? ⟨b, 4, none⟩ = some (.func (.func 148) #[] #[]) := by
  unfold BoxT at h
  refine ⟨?_, ?_, ?_, ?_, ?_⟩ <;> simp [World.cell?, h]
theorem BoxT.kept {B n1 : Nat} {W W' : World} {b : Nat} {k : Int} {na : Option Addr} {nn nc : Nat} {ra : Option Addr} {rn rc : Nat} {ka : Option Addr} {kn kc : Nat} (h : BoxT W b k na nn nc ra rn rc ka kn kc) (hk : KpC B n1 W W') (hb : n1 ≤ b) : BoxT W' b k na nn nc ra rn rc ka kn kc := hk.2 b _ hb h rfl

theorem RdC.form4 {lo hi d : Nat} {w : World} {v0 v1 v2 v3 : Value} {c : CN} (h : RdC lo hi w d (.agg #[v0, v1, v2, v3]) c) : ∃ k na nn nc ra rn rc ka kn kc, v0 = .int .i64 k ∧ v1 = .slice na nn nc ∧ v2 = .slice ra rn rc ∧ v3 = .slice ka kn kc := by
  cases d with
  | zero => exact h.elim
  | succ d =>
    obtain ⟨na, nn, nc, ra, rn, rc, ka, kn, kc, hv, _⟩ := h
    simp only [Value.agg.injEq, Array.mk.injEq, List.cons.injEq, and_true] at hv
    exact ⟨_, _, _, _, _, _, _, _, _, _, hv.1, hv.2.1, hv.2.2.1, hv.2.2.2⟩

def TellOk (lo hi B n1 N l : Nat) (w0 : World) (J Jx : List (Item lo hi w0) → World → Prop) (tk : Int) (ta : Option Addr) (tn tc : Nat) (sa : Option Addr) (sn sc : Nat) (ua : Option Addr) (un uc : Nat) (d : Nat) : Prop :=
  ∀ (n deep : Nat) (v : Value) (c : CN) (pre : List (Item lo hi w0)) (W : World), RdC lo hi w0 d v c → Below B w0 W → n1 ≤ W.heap.size → J pre W → pre.length + (parts c deep).length ≤ N → deep + c.bulk ≤ 1099511627776 →
    CallsIn Fence.wide n Tryz.prog 150 #[.agg #[.int .i64 tk, .slice ta tn tc, .slice sa sn sc, .slice ua un uc, .func (.func 148) #[] #[]], .int .i64 deep, v, .func (.yield l) #[] #[]] W fun e W' =>
      (e = .returned (.bool true) ∧ (∃ ys, ys.map Item.m = parts c deep ∧ J (pre ++ ys) W') ∧ KpC B n1 W W') ∨ (e = .returned (.bool false) ∧ ∃ q, q.map Item.m <+: parts c deep ∧ Jx (pre ++ q) W')

set_option maxRecDepth 100000 in
set_option maxHeartbeats 2000000 in
theorem tell_of {lo hi B n1 N l : Nat} {w0 : World} {J Jx : List (Item lo hi w0) → World → Prop} {B' : Nat} (hJ : AbidesFrom B' J) (hhi : hi ≤ B) (hB1 : B ≤ n1)
    (hY : ∀ m pre x W, J pre W → pre.length < N → YieldAt Fence.wide m Tryz.prog l (encI x) W fun e W' =>
      (e = .returned (.bool true) ∧ J (pre ++ [x]) W' ∧ KpC B n1 W W') ∨ (e = .returned (.bool false) ∧ Jx (pre ++ [x]) W'))
    {tk : Int} {ta : Option Addr} {tn tc : Nat} {sa : Option Addr} {sn sc : Nat} {ua : Option Addr} {un uc : Nat} {d : Nat} (ih : TellOk lo hi B n1 N l w0 J Jx tk ta tn tc sa sn sc ua un uc d) : TellOk lo hi B n1 N l w0 J Jx tk ta tn tc sa sn sc ua un uc (d + 1) := by
  intro n deep v c pre W hR hW hn1 hJ0 hN hdp
  have HRd : Hid (RdC lo hi w0 (d + 1) v c) := hR
  obtain ⟨na, nn, nc, ra, rn, rc, ka, kn, kc, rfl, _, _, hk⟩ := hR
  obtain ⟨k, hkd⟩ : ∃ k, k = c.kind := ⟨_, rfl⟩
  rw [← hkd] at HRd ⊢
  have HKL : Hid (c.kids.length = kn) := hk.len
  have hkf := hk.fits
  have hP := parts_eq c deep
  have hbk := c.bulk_eq
  have HP : Hid (parts c deep = (deep, c) :: partsL c.kids (deep + 1)) := hP
  have HBk : Hid (c.bulk = c.name.length + c.role.length + bulks c.kids) := hbk
  have HN : Hid (pre.length + 1 + (partsL c.kids (deep + 1)).length ≤ N) := by rw [hP] at hN; simp at hN; unfold Hid; omega
  have HK : Hid (RdL (RdC lo hi w0 d) lo hi w0 ka kn kc c.kids) := hk
  obtain ⟨W1, hW1⟩ : ∃ W1, W1 = (W.alloc (.cells #[.int .i64 tk, .slice ta tn tc, .slice sa sn sc, .slice ua un uc, .func (.func 148) #[] #[]] 151)).alloc (.cells #[.int .i64 k, .slice na nn nc, .slice ra rn rc, .slice ka kn kc] 37) := ⟨_, rfl⟩
  have hb1 : Below W.heap.size W W1 := by rw [hW1]; exact ((Below.refl _ _).alloc (Nat.le_refl _) _).alloc (by simp) _
  have HB1 : Hid (Below W.heap.size W W1) := hb1
  have HBT : Hid (BoxT W1 W.heap.size tk ta tn tc sa sn sc ua un uc) := by unfold Hid; rw [hW1]; exact (Below.heap_alloc _ _ _ (by simp)).trans (World.alloc_heap_new W _)
  have HBC : Hid (BoxC W1 (W.heap.size + 1) (.int .i64 k) (.slice na nn nc) (.slice ra rn rc) (.slice ka kn kc)) := by unfold Hid; rw [hW1]; have := BoxC.new (W.alloc (.cells #[.int .i64 tk, .slice ta tn tc, .slice sa sn sc, .slice ua un uc, .func (.func 148) #[] #[]] 151)) (.int .i64 k) (.slice na nn nc) (.slice ra rn rc) (.slice ka kn kc); rwa [World.size_alloc] at this
  have HW1 : Hid (W1 = (W.alloc (.cells #[.int .i64 tk, .slice ta tn tc, .slice sa sn sc, .slice ua un uc, .func (.func 148) #[] #[]] 151)).alloc (.cells #[.int .i64 k, .slice na nn nc, .slice ra rn rc, .slice ka kn kc] 37)) := hW1
  have hJ1 := abides_below hJ hJ0 hb1
  have hyy := hY (n - 1) pre ⟨deep, .agg #[.int .i64 k, .slice na nn nc, .slice ra rn rc, .slice ka kn kc], c, d + 1, HRd.out⟩ W1 hJ1 (by have := HN.out; omega)
  unfold encI at hyy
  dsimp only at hyy
  rw [hW1] at hyy
  obtain ⟨fn, tmps, assign, body, hy, hRr⟩ := hyy
  have HRr : Hid (RoundIn Fence.wide (n - 1) Tryz.prog l fn tmps assign body ((W.alloc (.cells #[.int .i64 tk, .slice ta tn tc, .slice sa sn sc, .slice ua un uc, .func (.func 148) #[] #[]] 151)).alloc (.cells #[.int .i64 k, .slice na nn nc, .slice ra rn rc, .slice ka kn kc] 37)) fun e W' =>
      (e = .returned (.bool true) ∧ J (pre ++ [⟨deep, .agg #[.int .i64 k, .slice na nn nc, .slice ra rn rc, .slice ka kn kc], c, d + 1, HRd.out⟩]) W' ∧ KpC B n1 ((W.alloc (.cells #[.int .i64 tk, .slice ta tn tc, .slice sa sn sc, .slice ua un uc, .func (.func 148) #[] #[]] 151)).alloc (.cells #[.int .i64 k, .slice na nn nc, .slice ra rn rc, .slice ka kn kc] 37)) W') ∨ (e = .returned (.bool false) ∧ Jx (pre ++ [⟨deep, .agg #[.int .i64 k, .slice na nn nc, .slice ra rn rc, .slice ka kn kc], c, d + 1, HRd.out⟩]) W')) := hRr
  clear hRr hJ1 hW1 hb1 hk hkd hP hbk hN hJ0 hY
  refine callsIn_of_wp Tryz.func150 rfl trivial ?_ rfl
  simp only [Tryz.ntmps150, List.size_toArray, List.length_cons, List.length_nil, Nat.reduceAdd, Nat.reduceSub, Array.replicate_succ, Array.replicate_zero, List.push_toArray, List.append_toArray, List.nil_append, List.cons_append]
  gi_wp2_with fail
  refine ⟨fun h => (by cases h), ?_⟩
  refine HRr.out.mono ?_
  rintro e W2 (⟨rfl, hJ2, hk2⟩ | ⟨rfl, hx2⟩)
  · rw [← HW1.out] at hk2
    have hBT2 := HBT.out.kept hk2 hn1
    have hBC2 := HBC.out.kept hk2 (Nat.le_succ_of_le hn1)
    have HBT2 : Hid (BoxT W2 W.heap.size tk ta tn tc sa sn sc ua un uc) := hBT2
    have HBC2 : Hid (BoxC W2 (W.heap.size + 1) (.int .i64 k) (.slice na nn nc) (.slice ra rn rc) (.slice ka kn kc)) := hBC2
    obtain ⟨p0, p1, p2, p3, p4⟩ := hBT2.cells
    obtain ⟨q0, q1, q2, q3⟩ := hBC2.cells
    have HKp2 : Hid (KpC B n1 W W2) := (KpC.of_below HB1.out (Nat.le_trans hB1 hn1)).trans hk2
    have HJ2 : Hid (J (pre ++ [⟨deep, .agg #[.int .i64 k, .slice na nn nc, .slice ra rn rc, .slice ka kn kc], c, d + 1, HRd.out⟩]) W2) := hJ2
    have hs1 : W.heap.size + 1 < W2.heap.size := HBC2.out.lt
    clear hk2 hBT2 hBC2 hJ2 HRr hy
    gi_wp2_with fail
    refine ⟨trivial, fun h => (by cases h), ?_⟩
    refine (kidsOf_in _ _ _ _ _ _).mono ?_
    rintro e W3 ⟨rfl, hw3⟩
    have hb3 : Below W2.heap.size W2 W3 := by rw [hw3]; exact (Below.refl _ _).alloc (Nat.le_refl _) _
    have hs3 := hb3.size
    have HKp3 : Hid (KpC B n1 W W3) := HKp2.out.trans (KpC.of_below hb3 (by have := HKp2.out.1.size; omega))
    have HBT3 : Hid (BoxT W3 W.heap.size tk ta tn tc sa sn sc ua un uc) := HBT2.out.kept (KpC.of_below (B := 0) (n1 := 0) hb3 (Nat.zero_le _)) (Nat.zero_le _)
    have HJ3 : Hid (J (pre ++ [⟨deep, .agg #[.int .i64 k, .slice na nn nc, .slice ra rn rc, .slice ka kn kc], c, d + 1, HRd.out⟩]) W3) := abides_below hJ HJ2.out hb3
    clear hw3 hb3 p0 p1 p2 p3 p4 q0 q1 q2 q3
    gi_wp2_with fail
    gi_loopw [21] (fun i wr => ∃ (j : Nat) (ys : List (Item lo hi w0)), j ≤ kn ∧ i = .int .i64 j ∧ ys.map Item.m = (deep, c) :: partsL (c.kids.take j) (deep + 1) ∧ J (pre ++ ys) wr ∧ KpC B n1 W wr ∧ BoxT wr W.heap.size tk ta tn tc sa sn sc ua un uc ∧ W.heap.size + 1 < wr.heap.size) (fun i _ => kn - (intOf i).toNat)
    case atStart => exact ⟨0, _, Nat.zero_le _, rfl, by simp [partsL, Item.m], HJ3.out, HKp3.out, HBT3.out, by omega⟩
    case round =>
      obtain ⟨j, ys, hj, rfl, hys, hJr, hKr, hBr, hsr⟩ := hrel
      have HYs : Hid (ys.map Item.m = (deep, c) :: partsL (c.kids.take j) (deep + 1)) := hys
      have HJr : Hid (J (pre ++ ys) wr) := hJr
      have HKr : Hid (KpC B n1 W wr) := hKr
      have HBr : Hid (BoxT wr W.heap.size tk ta tn tc sa sn sc ua un uc) := hBr
      have hbw : Below B w0 wr := hW.trans hKr.1
      by_cases hlt : j < kn
      · have hjl : j < c.kids.length := by rw [HKL.out]; exact hlt
        rcases HK.out.cells with hz | ⟨b, off, e1, _, hbhi, hc⟩
        · omega
        · subst e1
          obtain ⟨v0, v1, v2, v3, c0', c1', c2', c3', hrd⟩ := hc j hlt
          have c0 := (hbw.cell (p := ⟨b, off + j * 4, none⟩) (Nat.lt_of_lt_of_le hbhi hhi)).trans c0'
          have c1 := (hbw.cell (p := ⟨b, off + j * 4 + 1, none⟩) (Nat.lt_of_lt_of_le hbhi hhi)).trans c1'
          have c2 := (hbw.cell (p := ⟨b, off + j * 4 + 2, none⟩) (Nat.lt_of_lt_of_le hbhi hhi)).trans c2'
          have c3 := (hbw.cell (p := ⟨b, off + j * 4 + 3, none⟩) (Nat.lt_of_lt_of_le hbhi hhi)).trans c3'
          obtain ⟨kk, kna, knn, knc, kra, krn, krc, kka, kkn, kkc, rfl, rfl, rfl, rfl⟩ := hrd.form4
          have HKid : Hid (RdC lo hi w0 d (.agg #[.int .i64 kk, .slice kna knn knc, .slice kra krn krc, .slice kka kkn kkc]) (c.kids.getD j CN.zero)) := hrd
          obtain ⟨p0, p1, p2, p3, p4⟩ := hBr.cells
          have hji : (j : Int) < (kn : Int) := by omega
          have hsw : W.heap.size < wr.heap.size := by omega
          have HT : Hid (partsL (c.kids.take (j + 1)) (deep + 1) = partsL (c.kids.take j) (deep + 1) ++ parts (c.kids.getD j CN.zero) (deep + 1)) := partsL_take_succ _ _ _ hjl
          have HTD : Hid (partsL c.kids (deep + 1) = partsL (c.kids.take (j + 1)) (deep + 1) ++ partsL (c.kids.drop (j + 1)) (deep + 1)) := partsL_take_drop _ _ _
          have hkb := getD_bulk_le c.kids j hjl
          have HKb : Hid (deep + 1 + (c.kids.getD j CN.zero).bulk ≤ 1099511627776) := by have := HBk.out; unfold Hid; omega
          obtain ⟨W4, hW4⟩ : ∃ W4, W4 = wr.alloc (.cells #[.int .i64 kk, .slice kna knn knc, .slice kra krn krc, .slice kka kkn kkc] 37) := ⟨_, rfl⟩
          have hb4 : Below wr.heap.size wr W4 := by rw [hW4]; exact (Below.refl _ _).alloc (Nat.le_refl _) _
          have HB4 : Hid (Below wr.heap.size wr W4) := hb4
          have HW4 : Hid (W4 = wr.alloc (.cells #[.int .i64 kk, .slice kna knn knc, .slice kra krn krc, .slice kka kkn kkc] 37)) := hW4
          have HK4 : Hid (KpC B n1 W W4) := HKr.out.trans (KpC.of_below hb4 (by omega))
          have HBT4 : Hid (BoxT W4 W.heap.size tk ta tn tc sa sn sc ua un uc) := HBr.out.kept (KpC.of_below (B := 0) (n1 := 0) hb4 (Nat.zero_le _)) (Nat.zero_le _)
          have HJ4 : Hid (J (pre ++ ys) W4) := abides_below hJ HJr.out hb4
          have hs4 := hb4.size
          have HLen : Hid ((pre ++ ys).length + (parts (c.kids.getD j CN.zero) (deep + 1)).length ≤ N) := by
            have e1 := congrArg List.length HYs.out
            have e2 := congrArg List.length HT.out
            have e3 := congrArg List.length HTD.out
            simp only [List.length_map, List.length_cons, List.length_append] at e1 e2 e3
            have := HN.out
            unfold Hid; rw [List.length_append]; omega
          clear hys hJr hKr hBr hc hrd c0' c1' c2' c3' hb4 hW4 hkb hjl
          gi_wp2_with fail
          rw [← HW4.out]
          refine ⟨trivial, fun h => (by cases h), ?_⟩
          refine (ih (n - 1) (deep + 1) _ (c.kids.getD j CN.zero) (pre ++ ys) W4 HKid.out (hbw.trans ?_) (by omega) HJ4.out HLen.out HKb.out).mono ?_
          · exact HB4.out.mono (by omega)
          rintro e W5 (⟨rfl, ⟨zs, hzs, hJ5⟩, hK5⟩ | ⟨rfl, q, hq, hx5⟩)
          · have HE : Hid ((ys ++ zs).map Item.m = (deep, c) :: partsL (c.kids.take (j + 1)) (deep + 1)) := by unfold Hid; rw [List.map_append, HYs.out, hzs, HT.out]; rfl
            have HJ5 : Hid (J (pre ++ (ys ++ zs)) W5) := by unfold Hid; rw [← List.append_assoc]; exact hJ5
            have HK5 : Hid (KpC B n1 W W5) := HK4.out.trans hK5
            have HBT5 : Hid (BoxT W5 W.heap.size tk ta tn tc sa sn sc ua un uc) := HBT4.out.kept hK5 hn1
            have hs5 := hK5.1.size
            clear hzs hJ5 hK5
            gi_wp2_with fail
            go_roundw
            case rel => exact ⟨j + 1, _, by omega, by go_num, HE.out, HJ5.out, HK5.out, HBT5.out, by omega⟩
            case measure => simp [intOf]; omega
          · have HQ : Hid ((ys ++ q).map Item.m <+: parts c deep) := by
              obtain ⟨t, ht⟩ := hq
              refine ⟨t ++ partsL (c.kids.drop (j + 1)) (deep + 1), ?_⟩
              rw [HP.out, HTD.out, HT.out, ← ht, List.map_append, HYs.out]
              simp
            have HX : Hid (Jx (pre ++ (ys ++ q)) W5) := by unfold Hid; rw [← List.append_assoc]; exact hx5
            clear hq hx5
            gi_wp2_with fail
            go_ret
            exact .inr ⟨rfl, _, HQ.out, HX.out⟩
      · have HE : Hid (ys.map Item.m = parts c deep) := by unfold Hid; rw [HYs.out, HP.out, List.take_of_length_le (by rw [HKL.out]; omega)]
        clear hys hJr hKr hBr
        gi_wp2_with fail
        go_ret
        exact .inl ⟨rfl, ⟨ys, HE.out, HJr.out⟩, HKr.out⟩
  · gi_wp2_with fail
    go_ret
    exact .inr ⟨rfl, _, ⟨partsL c.kids (deep + 1), by rw [HP.out]; rfl⟩, hx2⟩

theorem tell_any {lo hi B n1 N l : Nat} {w0 : World} {J Jx : List (Item lo hi w0) → World → Prop} {B' : Nat} (hJ : AbidesFrom B' J) (hhi : hi ≤ B) (hB1 : B ≤ n1)
    (hY : ∀ m pre x W, J pre W → pre.length < N → YieldAt Fence.wide m Tryz.prog l (encI x) W fun e W' =>
      (e = .returned (.bool true) ∧ J (pre ++ [x]) W' ∧ KpC B n1 W W') ∨ (e = .returned (.bool false) ∧ Jx (pre ++ [x]) W'))
    {tk : Int} {ta : Option Addr} {tn tc : Nat} {sa : Option Addr} {sn sc : Nat} {ua : Option Addr} {un uc : Nat} : ∀ d, TellOk lo hi B n1 N l w0 J Jx tk ta tn tc sa sn sc ua un uc d
  | 0 => fun _ _ _ _ _ _ h => h.elim
  | d + 1 => tell_of hJ hhi hB1 hY (tell_any hJ hhi hB1 hY d)

set_option maxHeartbeats 1000000 in
theorem all1_in {lo hi B n1 l : Nat} {w0 : World} {J Jx : List (Item lo hi w0) → World → Prop} {B' : Nat} (hJ : AbidesFrom B' J) (hhi : hi ≤ B) (hB1 : B ≤ n1) (n Bt : Nat) (c : CN) {d : Nat}
    {k : Int} {na : Option Addr} {nn nc : Nat} {ra : Option Addr} {rn rc : Nat} {ka : Option Addr} {kn kc : Nat} (hR : RdC lo hi w0 d (.agg #[.int .i64 k, .slice na nn nc, .slice ra rn rc, .slice ka kn kc]) c) (hbk : c.bulk ≤ 1073741824)
    (hY : ∀ m pre x W, J pre W → pre.length < (parts c 1).length → YieldAt Fence.wide m Tryz.prog l (encI x) W fun e W' =>
      (e = .returned (.bool true) ∧ J (pre ++ [x]) W' ∧ KpC B n1 W W') ∨ (e = .returned (.bool false) ∧ Jx (pre ++ [x]) W'))
    (W : World) (hW : Below B w0 W) (hn1 : n1 ≤ W.heap.size) (hBt : BoxT W Bt k na nn nc ra rn rc ka kn kc) (h0 : J [] W) :
    CallsIn Fence.wide n Tryz.prog 149 #[.func (.yield l) #[] #[], .pointer (some ⟨Bt, 0, none⟩)] W fun e W' => (∃ v, e = .returned v) ∧
      ((∃ ys, ys.map Item.m = parts c 1 ∧ J ys W') ∨ (∃ pre, pre.map Item.m <+: parts c 1 ∧ Jx pre W')) := by
  obtain ⟨p0, p1, p2, p3, p4⟩ := hBt.cells
  have HT : Hid (TellOk lo hi B n1 (parts c 1).length l w0 J Jx k na nn nc ra rn rc ka kn kc d) := tell_any hJ hhi hB1 hY d
  have HR : Hid (RdC lo hi w0 d (.agg #[.int .i64 k, .slice na nn nc, .slice ra rn rc, .slice ka kn kc]) c) := hR
  clear hY hR
  refine callsIn_of_wp Tryz.func149 rfl trivial ?_ rfl
  simp only [Tryz.ntmps149, List.size_toArray, List.length_cons, List.length_nil, Nat.reduceAdd, Nat.reduceSub, Array.replicate_succ, Array.replicate_zero, List.push_toArray, List.append_toArray, List.nil_append, List.cons_append]
  gi_wp2_with fail
  refine ⟨trivial, fun h => (by cases h), ?_⟩
  refine (HT.out (n - 1) 1 _ c [] W HR.out hW hn1 h0 (by simp) (by omega)).mono ?_
  rintro e W1 (⟨rfl, ⟨ys, hys, hJ1⟩, _⟩ | ⟨rfl, q, hq, hx⟩)
  · gi_wp2_with fail
    go_end0
    exact ⟨⟨_, rfl⟩, .inl ⟨ys, hys, by simpa using hJ1⟩⟩
  · gi_wp2_with fail
    go_end0
    exact ⟨⟨_, rfl⟩, .inr ⟨q, hq, by simpa using hx⟩⟩

/-- The parts of a concept, one by one. -/
theorem parts_stops {lo hi B n1 : Nat} (n Bt : Nat) {w0 w : World} (hhi : hi ≤ B) (hB1 : B ≤ n1) (c : CN) {d : Nat}
    {k : Int} {na : Option Addr} {nn nc : Nat} {ra : Option Addr} {rn rc : Nat} {ka : Option Addr} {kn kc : Nat} (hR : RdC lo hi w0 d (.agg #[.int .i64 k, .slice na nn nc, .slice ra rn rc, .slice ka kn kc]) c) (hbk : c.bulk ≤ 1073741824)
    (hb : Below B w0 w) (hn1 : n1 ≤ w.heap.size) (hBt : BoxT w Bt k na nn nc ra rn rc ka kn kc) :
    SeqStopsK Fence.wide n Tryz.prog 149 #[.pointer (some ⟨Bt, 0, none⟩)] (encI (lo := lo) (hi := hi) (w0 := w0)) (KpC B n1) (fun ys => ys.map Item.m = parts c 1) (fun pre => pre.map Item.m <+: parts c 1) (parts c 1).length w := fun _ _ _ W hW hJ _ hY h0 =>
  all1_in hJ hhi hB1 n Bt c hR hbk (fun m pre x W hj hl => yieldAt_wide m (hY pre x W hj hl)) W (hb.trans (hW.mono (Nat.le_trans hB1 hn1))) (Nat.le_trans hn1 hW.size) ((hW.block Bt (Array.getElem?_eq_some_iff.1 hBt).1).trans hBt) h0
end

section
open Go.RowKit

set_option maxHeartbeats 400000 in
theorem conWord_any (k : Int) (w : World) : Calls Tryz.prog 136 #[.int .i64 k] w fun e w' => e = .returned (.string (wordB k)) ∧ w' = w := by
  go_enter Tryz.func136, Tryz.ntmps136
  go_wp2
  all_goals
    go_ret
    refine ⟨?_, rfl⟩
    simp_all [wordB]
end

section
open Go.RowKit

theorem ownB_made (w : World) {base : Nat} (hb : base ≤ w.heap.size) : OwnB base (w.alloc (.cells #[] 5)) (.slice (some ⟨w.heap.size, 0, none⟩) 0 0) [] := World.ownsRow_made w #[] 0 hb (by unfold maxLen; omega) rfl

theorem BoxC.set3 {W : World} {b : Nat} {v0 v1 v2 v3 : Value} (h : BoxC W b v0 v1 v2 v3) (v : Value) : BoxC (W.setCell ⟨b, 3, none⟩ v) b v0 v1 v2 v := by
  unfold BoxC
  rw [heap_setCell_same W b 3 _ _ v h]
  rfl

theorem BoxC.set0 {W : World} {b : Nat} {v0 v1 v2 v3 : Value} (h : BoxC W b v0 v1 v2 v3) (v : Value) : BoxC (W.setCell ⟨b, 0, none⟩ v) b v v1 v2 v3 := by
  unfold BoxC
  rw [heap_setCell_same W b 0 _ _ v h]
  rfl

theorem BoxC.other {W : World} {b o i : Nat} {v0 v1 v2 v3 : Value} (h : BoxC W b v0 v1 v2 v3) (v : Value) (hne : b ≠ o) : BoxC (W.setCell ⟨o, i, none⟩ v) b v0 v1 v2 v3 := (Below.heap_setCell W ⟨o, i, none⟩ v b hne).trans h

theorem RowK.set {base : Nat} {w : World} {d : Nat} {u : Value} {cs : List CN} {Ls : List (List (Addr × IntKind))} {xs : List Value} (h : RowK base w d u cs Ls xs) {o : Nat} (i : Nat) (v : Value) (h1 : ∀ x ∈ Ls.flatten, x.1.block ≠ o) (h2 : u.ownBlock ≠ some o) : RowK base (w.setCell ⟨o, i, none⟩ v) d u cs Ls xs := by
  obtain ⟨g1, g2, g3, g4, g5⟩ := h
  refine ⟨g1, ?_, fun j hj => ?_, fun x hx => by have := g4 x hx; simpa using this, g5⟩
  · obtain ⟨q1, q2⟩ := g2
    refine ⟨q1, ?_⟩
    rcases q2 with q | ⟨g, cap, cur, rfl, hg, hh, r⟩
    · exact .inl q
    · refine .inr ⟨g, cap, cur, rfl, hg, ?_, r⟩
      rw [Below.heap_setCell w ⟨o, i, none⟩ v g (fun e => h2 (by simp only [Value.ownBlock]; rw [e]))]
      exact hh
  · obtain ⟨v0, v1, v2, v3, c0, c1, c2, c3, hr⟩ := g3 j hj
    exact ⟨v0, v1, v2, v3, c0, c1, c2, c3, hr.keep (fun x hx => Below.heap_setCell w ⟨o, i, none⟩ v _ (h1 x (getD_mem_flatten hx)))⟩

theorem SepK.set {base : Nat} {w : World} {Ls : List (List (Addr × IntKind))} (h : SepK base w Ls) (a : Addr) (v : Value) : SepK base (w.setCell a v) Ls :=
  ⟨h.nd, fun x hx => by have := h.fr x hx; simpa using this, h.ge⟩

theorem OwnB.setCon {base : Nat} {w : World} {u : Value} {zs : List Int} {o i : Nat} {v0 v1 v2 v3 : Value} (h : OwnB base w u zs) (hb : BoxC w o v0 v1 v2 v3) (v : Value) : OwnB base (w.setCell ⟨o, i, none⟩ v) u zs := by
  obtain ⟨q1, q2⟩ := h
  refine ⟨q1, ?_⟩
  rcases q2 with q | ⟨g, cap, cur, rfl, hg, hh, r⟩
  · exact .inl q
  · refine .inr ⟨g, cap, cur, rfl, hg, ?_, r⟩
    rw [Below.heap_setCell w ⟨o, i, none⟩ v g (fun e => by rw [show g = o from e] at hh; rw [show w.heap[o]? = _ from hb] at hh; simp at hh)]
    exact hh
end

section
open Go.RowKit
end

end Go.Proofs.YtckhjoancfbkfaaGreat
