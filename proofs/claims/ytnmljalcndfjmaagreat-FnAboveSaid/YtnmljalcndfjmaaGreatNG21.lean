/- Several texts in one: DrawAx4, DrawAx9. -/
import Derived.Test.YtnmljalcndfjmaaGreatRegInv2
namespace Go.Proofs.YtnmljalcndfjmaaGreat

section
open Go.RowKit

abbrev opA4_0 : Oper := { dst := some 10, op := Op.buildSlice 83 2 #[(0, Operand.const (Value.string { data := #[114] })), (1, Operand.const (Value.string { data := #[115] }))], type := 83, pos := "l03_kb.go:260", after := #[], guard := none }
abbrev opA4_1 : Oper := { dst := some 11, op := Op.move (Operand.tmp 0), type := 57, pos := "l03_kb.go:260", after := #[], guard := none }
abbrev opA4_2 : Oper := { dst := some 12, op := Op.call { callee := Callee.value (Operand.func 46), args := #[Operand.tmp 11, Operand.const (Value.int IntKind.i64 2)], argTypes := #[57, 3] }, type := 3, pos := "l03_kb.go:260", after := #[{ on := 1, ground := Ground.data }], guard := none }
abbrev opA4_3 : Oper := { dst := some 13, op := Op.indexAddr 83 (Operand.tmp 10) (Operand.tmp 12), type := 0, pos := "l03_kb.go:260", after := #[{ on := 0, ground := Ground.data }, { on := 2, ground := Ground.data }], guard := none }
abbrev opA4_4 : Oper := { dst := some 14, op := Op.load 9 (Operand.tmp 13), type := 9, pos := "l03_kb.go:260", after := #[{ on := 3, ground := Ground.data }], guard := none }
abbrev opA4_5 : Oper := { dst := some 15, op := Op.convert 9 22 (Operand.tmp 14), type := 22, pos := "l03_kb.go:260", after := #[{ on := 4, ground := Ground.data }], guard := none }
abbrev opA4_6 : Oper := { dst := some 16, op := Op.buildSlice 83 2 #[(0, Operand.const (Value.string { data := #[114] })), (1, Operand.const (Value.string { data := #[115] }))], type := 83, pos := "l03_kb.go:260", after := #[], guard := none }
abbrev opA4_7 : Oper := { dst := some 17, op := Op.move (Operand.tmp 0), type := 57, pos := "l03_kb.go:260", after := #[], guard := none }
abbrev opA4_8 : Oper := { dst := some 18, op := Op.call { callee := Callee.value (Operand.func 46), args := #[Operand.tmp 17, Operand.const (Value.int IntKind.i64 2)], argTypes := #[57, 3] }, type := 3, pos := "l03_kb.go:260", after := #[{ on := 7, ground := Ground.data }, { on := 2, ground := Ground.chain }], guard := none }
abbrev opA4_9 : Oper := { dst := some 19, op := Op.indexAddr 83 (Operand.tmp 16) (Operand.tmp 18), type := 0, pos := "l03_kb.go:260", after := #[{ on := 6, ground := Ground.data }, { on := 8, ground := Ground.data }], guard := none }
abbrev opA4_10 : Oper := { dst := some 20, op := Op.load 9 (Operand.tmp 19), type := 9, pos := "l03_kb.go:260", after := #[{ on := 9, ground := Ground.data }], guard := none }
abbrev opA4_11 : Oper := { dst := some 21, op := Op.convert 9 22 (Operand.tmp 20), type := 22, pos := "l03_kb.go:260", after := #[{ on := 10, ground := Ground.data }], guard := none }
abbrev opA4_12 : Oper := { dst := some 22, op := Op.build 49 #[(0, Operand.const (Value.int IntKind.i64 3)), (3, Operand.tmp 15), (4, Operand.tmp 21)], type := 49, pos := "l03_kb.go:260", after := #[{ on := 5, ground := Ground.data }, { on := 11, ground := Ground.data }], guard := none }
abbrev opA4_13 : Oper := { dst := none, op := Op.store 49 (Operand.tmp 2) (Operand.tmp 22), type := 0, pos := "l03_kb.go:260", after := #[{ on := 12, ground := Ground.data }, { on := 8, ground := Ground.chain }, { on := 0, ground := Ground.phase }, { on := 1, ground := Ground.phase }, { on := 2, ground := Ground.phase }, { on := 3, ground := Ground.phase }, { on := 4, ground := Ground.phase }, { on := 5, ground := Ground.phase }, { on := 6, ground := Ground.phase }, { on := 7, ground := Ground.phase }, { on := 8, ground := Ground.phase }, { on := 9, ground := Ground.phase }, { on := 10, ground := Ground.phase }, { on := 11, ground := Ground.phase }, { on := 12, ground := Ground.phase }], guard := none }
def opsA4 : Array Oper := #[opA4_0, opA4_1, opA4_2, opA4_3, opA4_4, opA4_5, opA4_6, opA4_7, opA4_8, opA4_9, opA4_10, opA4_11, opA4_12, opA4_13]
def tag4 : Nat → RK
  | 0 => .row
  | 1 => .cur
  | 2 => .idx
  | 3 => .adr
  | 4 => .str
  | 5 => .word
  | 6 => .row
  | 7 => .cur
  | 8 => .idx
  | 9 => .adr
  | 10 => .str
  | 11 => .word
  | 12 => .axm 3
  | _ => .cur

/-- What it leaves. -/
def AxF (B : Nat) (da : Option Addr) (n cap : Nat) (zs : List Int) (hi : Nat) (w0 : World) (kd : Int) (a : Act) (w : World) : Prop :=
  ∃ (cs : Array Value) (V : World), DgM (.cells zeroA 49) B da n cap zs hi w0 V ∧ w = V.setRow w0.heap.size cs ∧ AxV (w0.heap.size + 1) V kd (.agg cs) ∧ cs.size = 13 ∧ a.tmps[2]?.getD undef = .pointer (some ⟨w0.heap.size, 0, none⟩) ∧ a.defers = []
theorem infoAx13 : (Tryz.prog.info? 49).map (·.size) = some 13 := by kernel_rfl

set_option maxRecDepth 100000 in
set_option maxHeartbeats 4000000 in
theorem stepA4 {B : Nat} {da : Option Addr} {n cap : Nat} {zs : List Int} {hi : Nat} {w0 : World} (hB : B < w0.heap.size) {Q : Exit → Act → World → Prop} (l : Array Bool) (a : Act) (w : World) (i : Nat) (hI : DI 13 10 tag4 B da n cap zs hi w0 (AxF B da n cap zs hi w0 3) l a w) (hi' : i ∈ Region.ready .any opsA4 l) : wpOp Tryz.prog opsA4 Q i (DI 13 10 tag4 B da n cap zs hi w0 (AxF B da n cap zs hi w0 3) (l.setIfInBounds i true)) a w := by
  obtain ⟨hn, hlt, _⟩ := ready_false hi'
  have hlt' : i < 14 := hlt
  obtain ⟨hM, t0, t2, t3, hf⟩ := hI.mem (hI.open hn hlt')
  have hwB := hM.lt
  have : i = 0 ∨ i = 1 ∨ i = 2 ∨ i = 3 ∨ i = 4 ∨ i = 5 ∨ i = 6 ∨ i = 7 ∨ i = 8 ∨ i = 9 ∨ i = 10 ∨ i = 11 ∨ i = 12 ∨ i = 13 := by omega
  rcases this with rfl | rfl | rfl | rfl | rfl | rfl | rfl | rfl | rfl | rfl | rfl | rfl | rfl | rfl
  · refine wpOp_of (o := opA4_0) rfl rfl ?_
    go_simp
    have hb : Below w.heap.size w (w.alloc (.cells #[.string { data := #[114] }, .string { data := #[115] }] 9)) := (Below.refl _ _).alloc (Nat.le_refl _) _
    exact hI.step hB (by omega) (by omega) hn (hM.below hB hb) (Bt.of_below hb) ⟨w.heap.size, rfl, by omega, _, _, allocAtA rfl, by decide, by decide⟩
  · refine wpOp_of (o := opA4_1) rfl rfl ?_
    go_simp
    exact hI.step hB (by omega) (by omega) hn hM (Bt.refl _ _ _) rfl
  · have d1 := dep_done hi' (o := opA4_2) rfl (k := 1) (by decide)
    have r1 := hf 1 (by omega) d1
    have c1 : a.tmps[11]?.getD undef = .pointer (some ⟨B, 0, none⟩) := r1
    refine wpOp_of (o := opA4_2) rfl rfl ?_
    go_simp
    refine (l1Below_any hM.cur 2 (by omega)).mono ?_
    rintro e w2 ⟨x, rfl, ⟨hx0, hx1⟩, hc, ho⟩
    exact hI.step hB (by omega) (by omega) hn (hM.only hB hc ho) ho.bt ⟨x.toNat, by omega, by rw [Int.toNat_of_nonneg hx0]⟩
  · have d0 := dep_done hi' (o := opA4_3) rfl (k := 0) (by decide)
    have r0 := hf 0 (by omega) d0
    have d2 := dep_done hi' (o := opA4_3) rfl (k := 2) (by decide)
    have r2 := hf 2 (by omega) d2
    obtain ⟨g, hg, hs⟩ := r0
    obtain ⟨j, hj, hv⟩ := r2
    have c0 : a.tmps[10]?.getD undef = .slice (some ⟨g, 0, none⟩) 2 2 := hg
    have c1 : a.tmps[12]?.getD undef = .int .i64 j := hv
    have hji : (j : Int) < 2 := by omega
    refine wpOp_of (o := opA4_3) rfl rfl ?_
    go_simp
    exact hI.step hB (by omega) (by omega) hn hM (Bt.refl _ _ _) ⟨g, j, rfl, hj, hs⟩
  · have d3 := dep_done hi' (o := opA4_4) rfl (k := 3) (by decide)
    have r3 := hf 3 (by omega) d3
    obtain ⟨g, j, hg, hj, hs⟩ := r3
    have c0 : a.tmps[13]?.getD undef = .pointer (some ⟨g, j, none⟩) := hg
    obtain ⟨_, s1, s2, hh, l1, l2⟩ := hs
    obtain ⟨s, hc, hl⟩ : ∃ s : ByteArray, w.cell? ⟨g, j, none⟩ = some (.string s) ∧ s.size ≤ 1 := by
      match j, hj with
      | 0, _ => exact ⟨s1, by simp [World.cell?, hh], l1⟩
      | 1, _ => exact ⟨s2, by simp [World.cell?, hh], l2⟩
    refine wpOp_of (o := opA4_4) rfl rfl ?_
    go_simp
    exact hI.step hB (by omega) (by omega) hn hM (Bt.refl _ _ _) ⟨s, rfl, hl⟩
  · have d4 := dep_done hi' (o := opA4_5) rfl (k := 4) (by decide)
    have r4 := hf 4 (by omega) d4
    obtain ⟨s, hs, hl⟩ := r4
    have c0 : a.tmps[14]?.getD undef = .string s := hs
    have hcv : (convert 9 22 (.string s)).run Tryz.prog w = .ok (.slice (some ⟨w.heap.size, 0, none⟩) s.size (grownCap w s.size 0 5)) (Lib.bytesWorld w 5 s) := Lib.run_convert_string_bytes w 9 22 5 s Tryz.underlying9 Tryz.underlying22 Tryz.underlying5
    refine wpOp_of (o := opA4_5) rfl rfl ?_
    go_simp
    have hb := bytes_below w 5 s
    exact hI.step hB (by omega) (by omega) hn (hM.below hB hb) (Bt.of_below hb) ⟨_, _, _, _, rfl, (bw_rd w s (by omega)).mono (by omega) (Nat.le_refl _), by rw [numsOf_len]; exact hl⟩
  · refine wpOp_of (o := opA4_6) rfl rfl ?_
    go_simp
    have hb : Below w.heap.size w (w.alloc (.cells #[.string { data := #[114] }, .string { data := #[115] }] 9)) := (Below.refl _ _).alloc (Nat.le_refl _) _
    exact hI.step hB (by omega) (by omega) hn (hM.below hB hb) (Bt.of_below hb) ⟨w.heap.size, rfl, by omega, _, _, allocAtA rfl, by decide, by decide⟩
  · refine wpOp_of (o := opA4_7) rfl rfl ?_
    go_simp
    exact hI.step hB (by omega) (by omega) hn hM (Bt.refl _ _ _) rfl
  · have d7 := dep_done hi' (o := opA4_8) rfl (k := 7) (by decide)
    have r7 := hf 7 (by omega) d7
    have c7 : a.tmps[17]?.getD undef = .pointer (some ⟨B, 0, none⟩) := r7
    refine wpOp_of (o := opA4_8) rfl rfl ?_
    go_simp
    refine (l1Below_any hM.cur 2 (by omega)).mono ?_
    rintro e w2 ⟨x, rfl, ⟨hx0, hx1⟩, hc, ho⟩
    exact hI.step hB (by omega) (by omega) hn (hM.only hB hc ho) ho.bt ⟨x.toNat, by omega, by rw [Int.toNat_of_nonneg hx0]⟩
  · have d6 := dep_done hi' (o := opA4_9) rfl (k := 6) (by decide)
    have r6 := hf 6 (by omega) d6
    have d8 := dep_done hi' (o := opA4_9) rfl (k := 8) (by decide)
    have r8 := hf 8 (by omega) d8
    obtain ⟨g, hg, hs⟩ := r6
    obtain ⟨j, hj, hv⟩ := r8
    have c0 : a.tmps[16]?.getD undef = .slice (some ⟨g, 0, none⟩) 2 2 := hg
    have c1 : a.tmps[18]?.getD undef = .int .i64 j := hv
    have hji : (j : Int) < 2 := by omega
    refine wpOp_of (o := opA4_9) rfl rfl ?_
    go_simp
    exact hI.step hB (by omega) (by omega) hn hM (Bt.refl _ _ _) ⟨g, j, rfl, hj, hs⟩
  · have d9 := dep_done hi' (o := opA4_10) rfl (k := 9) (by decide)
    have r9 := hf 9 (by omega) d9
    obtain ⟨g, j, hg, hj, hs⟩ := r9
    have c0 : a.tmps[19]?.getD undef = .pointer (some ⟨g, j, none⟩) := hg
    obtain ⟨_, s1, s2, hh, l1, l2⟩ := hs
    obtain ⟨s, hc, hl⟩ : ∃ s : ByteArray, w.cell? ⟨g, j, none⟩ = some (.string s) ∧ s.size ≤ 1 := by
      match j, hj with
      | 0, _ => exact ⟨s1, by simp [World.cell?, hh], l1⟩
      | 1, _ => exact ⟨s2, by simp [World.cell?, hh], l2⟩
    refine wpOp_of (o := opA4_10) rfl rfl ?_
    go_simp
    exact hI.step hB (by omega) (by omega) hn hM (Bt.refl _ _ _) ⟨s, rfl, hl⟩
  · have d10 := dep_done hi' (o := opA4_11) rfl (k := 10) (by decide)
    have r10 := hf 10 (by omega) d10
    obtain ⟨s, hs, hl⟩ := r10
    have c0 : a.tmps[20]?.getD undef = .string s := hs
    have hcv : (convert 9 22 (.string s)).run Tryz.prog w = .ok (.slice (some ⟨w.heap.size, 0, none⟩) s.size (grownCap w s.size 0 5)) (Lib.bytesWorld w 5 s) := Lib.run_convert_string_bytes w 9 22 5 s Tryz.underlying9 Tryz.underlying22 Tryz.underlying5
    refine wpOp_of (o := opA4_11) rfl rfl ?_
    go_simp
    have hb := bytes_below w 5 s
    exact hI.step hB (by omega) (by omega) hn (hM.below hB hb) (Bt.of_below hb) ⟨_, _, _, _, rfl, (bw_rd w s (by omega)).mono (by omega) (Nat.le_refl _), by rw [numsOf_len]; exact hl⟩
  · have d5 := dep_done hi' (o := opA4_12) rfl (k := 5) (by decide)
    have r5 := hf 5 (by omega) d5
    have d11 := dep_done hi' (o := opA4_12) rfl (k := 11) (by decide)
    have r11 := hf 11 (by omega) d11
    obtain ⟨b5, k5, c5, z5, hv5, hr5, hz5⟩ := r5
    have e5 : a.tmps[15]?.getD undef = .slice b5 k5 c5 := hv5
    obtain ⟨b11, k11, c11, z11, hv11, hr11, hz11⟩ := r11
    have e11 : a.tmps[21]?.getD undef = .slice b11 k11 c11 := hv11
    refine wpOp_of (o := opA4_12) rfl rfl ?_
    go_simp
    exact hI.step hB (by omega) (by omega) hn hM (Bt.refl _ _ _) (AxV.words 3 hr5 hr11 (rdNil _ _ _) (rdNil _ _ _) hz5 hz11 (Nat.zero_le _) (Nat.zero_le _))
  · have hall : ∀ k, k < 13 → Dn l k := by
      intro k hk
      have : k = 0 ∨ k = 1 ∨ k = 2 ∨ k = 3 ∨ k = 4 ∨ k = 5 ∨ k = 6 ∨ k = 7 ∨ k = 8 ∨ k = 9 ∨ k = 10 ∨ k = 11 ∨ k = 12 := by omega
      rcases this with rfl | rfl | rfl | rfl | rfl | rfl | rfl | rfl | rfl | rfl | rfl | rfl | rfl <;> exact dep_done hi' (o := opA4_13) rfl (by decide)
    have r12 := hf 12 (by omega) (hall 12 (by omega))
    obtain ⟨cs, hcs, hsz, hone⟩ := AxV.one r12
    have hax : AxV (w0.heap.size + 1) w 3 (.agg cs) := by rw [← hcs]; exact r12
    refine wpOp_of (o := opA4_13) rfl rfl ?_
    refine wp_store_row 49 (.tmp 2) (.tmp 22) rfl w0.heap.size cs (by simpa [Act.eval] using t2) (by simpa [Act.eval] using hcs) 49 zeroA hM.box (by rw [hsz]; exact infoAx13) (by rw [hsz]; rfl) hone ?_
    exact hI.stop hall ⟨cs, w, hM, rfl, hax, hsz, t2, hI.df⟩

theorem ordA4 : ∀ (i : Nat) (o : Oper), opsA4[i]? = some o → ∀ e ∈ o.after.toList, e.on < i := by
  intro i o ho e he
  have hi : i < 14 := (Array.getElem?_eq_some_iff.1 ho).1
  have : i = 0 ∨ i = 1 ∨ i = 2 ∨ i = 3 ∨ i = 4 ∨ i = 5 ∨ i = 6 ∨ i = 7 ∨ i = 8 ∨ i = 9 ∨ i = 10 ∨ i = 11 ∨ i = 12 ∨ i = 13 := by omega
  rcases this with rfl | rfl | rfl | rfl | rfl | rfl | rfl | rfl | rfl | rfl | rfl | rfl | rfl | rfl <;> (obtain rfl : _ = o := Option.some.inj ho; revert e; decide)

theorem regA4 {B : Nat} {da : Option Addr} {n cap : Nat} {zs : List Int} {hi : Nat} {w0 : World} (hB : B < w0.heap.size) {Q : Exit → Act → World → Prop} {id : Nat} {a : Act} {w : World} (htz : 23 ≤ a.tmps.size) (hdf : a.defers = []) (hM : DgM (.cells zeroA 49) B da n cap zs hi w0 w) (t0 : a.tmps[0]?.getD undef = .pointer (some ⟨B, 0, none⟩)) (t2 : a.tmps[2]?.getD undef = .pointer (some ⟨w0.heap.size, 0, none⟩)) (t3 : RV (w0.heap.size + 1) B .word w (a.tmps[3]?.getD undef))
    (hQ : ∀ a w, AxF B da n cap zs hi w0 3 a w → Q .normal a w) : (Code.region id opsA4 true).wp Tryz.prog Q a w := by
  refine wp_region_any (by kernel_rfl) ?_
  have hrep : ∀ k, ¬ Dn (Array.replicate 14 false) k := by
    intro k hk
    unfold Dn at hk
    rw [Array.getD_eq_getD_getElem?, Array.getElem?_replicate] at hk
    split at hk <;> simp at hk
  refine wpAny_inv (DI 13 10 tag4 B da n cap zs hi w0 (AxF B da n cap zs hi w0 3) ) (fun l a w i hI hi => stepA4 hB l a w i hI hi) (fun l a w hI hr => hQ a w (hI.fin (all_done (by rw [hI.sz]; rfl) hr ordA4 13 (by decide)))) 14 _ _ _ (by decide) ?_
  exact ⟨by simp; rfl, htz, hdf, fun q => absurd q (hrep _), fun q => absurd q (hrep _), fun _ => ⟨hM.drew, t0, t2, RV.next (w' := w.drew) t3 (by omega) (Bt.refl _ _ _).drew, fun k _ q => absurd q (hrep _)⟩⟩
end

section
open Go.RowKit

abbrev opA9_0 : Oper := { dst := some 32, op := Op.buildSlice 83 2 #[(0, Operand.const (Value.string { data := #[114] })), (1, Operand.const (Value.string { data := #[115] }))], type := 83, pos := "l03_kb.go:264", after := #[], guard := none }
abbrev opA9_1 : Oper := { dst := some 33, op := Op.move (Operand.tmp 0), type := 57, pos := "l03_kb.go:264", after := #[], guard := none }
abbrev opA9_2 : Oper := { dst := some 34, op := Op.call { callee := Callee.value (Operand.func 46), args := #[Operand.tmp 33, Operand.const (Value.int IntKind.i64 2)], argTypes := #[57, 3] }, type := 3, pos := "l03_kb.go:264", after := #[{ on := 1, ground := Ground.data }], guard := none }
abbrev opA9_3 : Oper := { dst := some 35, op := Op.indexAddr 83 (Operand.tmp 32) (Operand.tmp 34), type := 0, pos := "l03_kb.go:264", after := #[{ on := 0, ground := Ground.data }, { on := 2, ground := Ground.data }], guard := none }
abbrev opA9_4 : Oper := { dst := some 36, op := Op.load 9 (Operand.tmp 35), type := 9, pos := "l03_kb.go:264", after := #[{ on := 3, ground := Ground.data }], guard := none }
abbrev opA9_5 : Oper := { dst := some 37, op := Op.convert 9 22 (Operand.tmp 36), type := 22, pos := "l03_kb.go:264", after := #[{ on := 4, ground := Ground.data }], guard := none }
abbrev opA9_6 : Oper := { dst := some 38, op := Op.move (Operand.tmp 3), type := 22, pos := "l03_kb.go:264", after := #[], guard := none }
abbrev opA9_7 : Oper := { dst := some 39, op := Op.move (Operand.tmp 0), type := 57, pos := "l03_kb.go:264", after := #[], guard := none }
abbrev opA9_8 : Oper := { dst := some 40, op := Op.call { callee := Callee.value (Operand.func 118), args := #[Operand.tmp 39], argTypes := #[57] }, type := 22, pos := "l03_kb.go:264", after := #[{ on := 7, ground := Ground.data }, { on := 2, ground := Ground.chain }], guard := none }
abbrev opA9_9 : Oper := { dst := some 41, op := Op.build 49 #[(0, Operand.const (Value.int IntKind.i64 5)), (3, Operand.tmp 37), (5, Operand.tmp 38), (6, Operand.tmp 40)], type := 49, pos := "l03_kb.go:264", after := #[{ on := 5, ground := Ground.data }, { on := 6, ground := Ground.data }, { on := 8, ground := Ground.data }], guard := none }
abbrev opA9_10 : Oper := { dst := none, op := Op.store 49 (Operand.tmp 2) (Operand.tmp 41), type := 0, pos := "l03_kb.go:264", after := #[{ on := 9, ground := Ground.data }, { on := 8, ground := Ground.chain }, { on := 0, ground := Ground.phase }, { on := 1, ground := Ground.phase }, { on := 2, ground := Ground.phase }, { on := 3, ground := Ground.phase }, { on := 4, ground := Ground.phase }, { on := 5, ground := Ground.phase }, { on := 6, ground := Ground.phase }, { on := 7, ground := Ground.phase }, { on := 8, ground := Ground.phase }, { on := 9, ground := Ground.phase }], guard := none }
def opsA9 : Array Oper := #[opA9_0, opA9_1, opA9_2, opA9_3, opA9_4, opA9_5, opA9_6, opA9_7, opA9_8, opA9_9, opA9_10]
def tag9 : Nat → RK
  | 0 => .row
  | 1 => .cur
  | 2 => .idx
  | 3 => .adr
  | 4 => .str
  | 5 => .word
  | 6 => .word
  | 7 => .cur
  | 8 => .word
  | 9 => .axm 5
  | _ => .cur

set_option maxRecDepth 100000 in
set_option maxHeartbeats 4000000 in
theorem stepA9 {B : Nat} {da : Option Addr} {n cap : Nat} {zs : List Int} {hi : Nat} {w0 : World} (hB : B < w0.heap.size) {Q : Exit → Act → World → Prop} (l : Array Bool) (a : Act) (w : World) (i : Nat) (hI : DI 10 32 tag9 B da n cap zs hi w0 (AxF B da n cap zs hi w0 5) l a w) (hi' : i ∈ Region.ready .any opsA9 l) : wpOp Tryz.prog opsA9 Q i (DI 10 32 tag9 B da n cap zs hi w0 (AxF B da n cap zs hi w0 5) (l.setIfInBounds i true)) a w := by
  obtain ⟨hn, hlt, _⟩ := ready_false hi'
  have hlt' : i < 11 := hlt
  obtain ⟨hM, t0, t2, t3, hf⟩ := hI.mem (hI.open hn hlt')
  have hwB := hM.lt
  have : i = 0 ∨ i = 1 ∨ i = 2 ∨ i = 3 ∨ i = 4 ∨ i = 5 ∨ i = 6 ∨ i = 7 ∨ i = 8 ∨ i = 9 ∨ i = 10 := by omega
  rcases this with rfl | rfl | rfl | rfl | rfl | rfl | rfl | rfl | rfl | rfl | rfl
  · refine wpOp_of (o := opA9_0) rfl rfl ?_
    go_simp
    have hb : Below w.heap.size w (w.alloc (.cells #[.string { data := #[114] }, .string { data := #[115] }] 9)) := (Below.refl _ _).alloc (Nat.le_refl _) _
    exact hI.step hB (by omega) (by omega) hn (hM.below hB hb) (Bt.of_below hb) ⟨w.heap.size, rfl, by omega, _, _, allocAtA rfl, by decide, by decide⟩
  · refine wpOp_of (o := opA9_1) rfl rfl ?_
    go_simp
    exact hI.step hB (by omega) (by omega) hn hM (Bt.refl _ _ _) rfl
  · have d1 := dep_done hi' (o := opA9_2) rfl (k := 1) (by decide)
    have r1 := hf 1 (by omega) d1
    have c1 : a.tmps[33]?.getD undef = .pointer (some ⟨B, 0, none⟩) := r1
    refine wpOp_of (o := opA9_2) rfl rfl ?_
    go_simp
    refine (l1Below_any hM.cur 2 (by omega)).mono ?_
    rintro e w2 ⟨x, rfl, ⟨hx0, hx1⟩, hc, ho⟩
    exact hI.step hB (by omega) (by omega) hn (hM.only hB hc ho) ho.bt ⟨x.toNat, by omega, by rw [Int.toNat_of_nonneg hx0]⟩
  · have d0 := dep_done hi' (o := opA9_3) rfl (k := 0) (by decide)
    have r0 := hf 0 (by omega) d0
    have d2 := dep_done hi' (o := opA9_3) rfl (k := 2) (by decide)
    have r2 := hf 2 (by omega) d2
    obtain ⟨g, hg, hs⟩ := r0
    obtain ⟨j, hj, hv⟩ := r2
    have c0 : a.tmps[32]?.getD undef = .slice (some ⟨g, 0, none⟩) 2 2 := hg
    have c1 : a.tmps[34]?.getD undef = .int .i64 j := hv
    have hji : (j : Int) < 2 := by omega
    refine wpOp_of (o := opA9_3) rfl rfl ?_
    go_simp
    exact hI.step hB (by omega) (by omega) hn hM (Bt.refl _ _ _) ⟨g, j, rfl, hj, hs⟩
  · have d3 := dep_done hi' (o := opA9_4) rfl (k := 3) (by decide)
    have r3 := hf 3 (by omega) d3
    obtain ⟨g, j, hg, hj, hs⟩ := r3
    have c0 : a.tmps[35]?.getD undef = .pointer (some ⟨g, j, none⟩) := hg
    obtain ⟨_, s1, s2, hh, l1, l2⟩ := hs
    obtain ⟨s, hc, hl⟩ : ∃ s : ByteArray, w.cell? ⟨g, j, none⟩ = some (.string s) ∧ s.size ≤ 1 := by
      match j, hj with
      | 0, _ => exact ⟨s1, by simp [World.cell?, hh], l1⟩
      | 1, _ => exact ⟨s2, by simp [World.cell?, hh], l2⟩
    refine wpOp_of (o := opA9_4) rfl rfl ?_
    go_simp
    exact hI.step hB (by omega) (by omega) hn hM (Bt.refl _ _ _) ⟨s, rfl, hl⟩
  · have d4 := dep_done hi' (o := opA9_5) rfl (k := 4) (by decide)
    have r4 := hf 4 (by omega) d4
    obtain ⟨s, hs, hl⟩ := r4
    have c0 : a.tmps[36]?.getD undef = .string s := hs
    have hcv : (convert 9 22 (.string s)).run Tryz.prog w = .ok (.slice (some ⟨w.heap.size, 0, none⟩) s.size (grownCap w s.size 0 5)) (Lib.bytesWorld w 5 s) := Lib.run_convert_string_bytes w 9 22 5 s Tryz.underlying9 Tryz.underlying22 Tryz.underlying5
    refine wpOp_of (o := opA9_5) rfl rfl ?_
    go_simp
    have hb := bytes_below w 5 s
    exact hI.step hB (by omega) (by omega) hn (hM.below hB hb) (Bt.of_below hb) ⟨_, _, _, _, rfl, (bw_rd w s (by omega)).mono (by omega) (Nat.le_refl _), by rw [numsOf_len]; exact hl⟩
  · refine wpOp_of (o := opA9_6) rfl rfl ?_
    go_simp
    exact hI.step hB (by omega) (by omega) hn hM (Bt.refl _ _ _) t3
  · refine wpOp_of (o := opA9_7) rfl rfl ?_
    go_simp
    exact hI.step hB (by omega) (by omega) hn hM (Bt.refl _ _ _) rfl
  · have d7 := dep_done hi' (o := opA9_8) rfl (k := 7) (by decide)
    have r7 := hf 7 (by omega) d7
    have c7 : a.tmps[39]?.getD undef = .pointer (some ⟨B, 0, none⟩) := r7
    refine wpOp_of (o := opA9_8) rfl rfl ?_
    go_simp
    refine (l3ind_any hM.cur).mono ?_
    rintro e w2 hP
    obtain ⟨b, k, c, z, rfl, hr, hz, hc, hb⟩ := hP
    exact hI.step hB (by omega) (by omega) hn (hM.next hB hc hb) hb ⟨b, k, c, z, rfl, hr.mono (by omega) (Nat.le_refl _), hz⟩
  · have d5 := dep_done hi' (o := opA9_9) rfl (k := 5) (by decide)
    have r5 := hf 5 (by omega) d5
    have d6 := dep_done hi' (o := opA9_9) rfl (k := 6) (by decide)
    have r6 := hf 6 (by omega) d6
    have d8 := dep_done hi' (o := opA9_9) rfl (k := 8) (by decide)
    have r8 := hf 8 (by omega) d8
    obtain ⟨b5, k5, c5, z5, hv5, hr5, hz5⟩ := r5
    have e5 : a.tmps[37]?.getD undef = .slice b5 k5 c5 := hv5
    obtain ⟨b6, k6, c6, z6, hv6, hr6, hz6⟩ := r6
    have e6 : a.tmps[38]?.getD undef = .slice b6 k6 c6 := hv6
    obtain ⟨b8, k8, c8, z8, hv8, hr8, hz8⟩ := r8
    have e8 : a.tmps[40]?.getD undef = .slice b8 k8 c8 := hv8
    refine wpOp_of (o := opA9_9) rfl rfl ?_
    go_simp
    exact hI.step hB (by omega) (by omega) hn hM (Bt.refl _ _ _) (AxV.words 5 hr5 (rdNil _ _ _) hr6 hr8 hz5 (Nat.zero_le _) hz6 hz8)
  · have hall : ∀ k, k < 10 → Dn l k := by
      intro k hk
      have : k = 0 ∨ k = 1 ∨ k = 2 ∨ k = 3 ∨ k = 4 ∨ k = 5 ∨ k = 6 ∨ k = 7 ∨ k = 8 ∨ k = 9 := by omega
      rcases this with rfl | rfl | rfl | rfl | rfl | rfl | rfl | rfl | rfl | rfl <;> exact dep_done hi' (o := opA9_10) rfl (by decide)
    have r9 := hf 9 (by omega) (hall 9 (by omega))
    obtain ⟨cs, hcs, hsz, hone⟩ := AxV.one r9
    have hax : AxV (w0.heap.size + 1) w 5 (.agg cs) := by rw [← hcs]; exact r9
    refine wpOp_of (o := opA9_10) rfl rfl ?_
    refine wp_store_row 49 (.tmp 2) (.tmp 41) rfl w0.heap.size cs (by simpa [Act.eval] using t2) (by simpa [Act.eval] using hcs) 49 zeroA hM.box (by rw [hsz]; exact infoAx13) (by rw [hsz]; rfl) hone ?_
    exact hI.stop hall ⟨cs, w, hM, rfl, hax, hsz, t2, hI.df⟩

theorem ordA9 : ∀ (i : Nat) (o : Oper), opsA9[i]? = some o → ∀ e ∈ o.after.toList, e.on < i := by
  intro i o ho e he
  have hi : i < 11 := (Array.getElem?_eq_some_iff.1 ho).1
  have : i = 0 ∨ i = 1 ∨ i = 2 ∨ i = 3 ∨ i = 4 ∨ i = 5 ∨ i = 6 ∨ i = 7 ∨ i = 8 ∨ i = 9 ∨ i = 10 := by omega
  rcases this with rfl | rfl | rfl | rfl | rfl | rfl | rfl | rfl | rfl | rfl | rfl <;> (obtain rfl : _ = o := Option.some.inj ho; revert e; decide)

theorem regA9 {B : Nat} {da : Option Addr} {n cap : Nat} {zs : List Int} {hi : Nat} {w0 : World} (hB : B < w0.heap.size) {Q : Exit → Act → World → Prop} {id : Nat} {a : Act} {w : World} (htz : 42 ≤ a.tmps.size) (hdf : a.defers = []) (hM : DgM (.cells zeroA 49) B da n cap zs hi w0 w) (t0 : a.tmps[0]?.getD undef = .pointer (some ⟨B, 0, none⟩)) (t2 : a.tmps[2]?.getD undef = .pointer (some ⟨w0.heap.size, 0, none⟩)) (t3 : RV (w0.heap.size + 1) B .word w (a.tmps[3]?.getD undef))
    (hQ : ∀ a w, AxF B da n cap zs hi w0 5 a w → Q .normal a w) : (Code.region id opsA9 true).wp Tryz.prog Q a w := by
  refine wp_region_any (by kernel_rfl) ?_
  have hrep : ∀ k, ¬ Dn (Array.replicate 11 false) k := by
    intro k hk
    unfold Dn at hk
    rw [Array.getD_eq_getD_getElem?, Array.getElem?_replicate] at hk
    split at hk <;> simp at hk
  refine wpAny_inv (DI 10 32 tag9 B da n cap zs hi w0 (AxF B da n cap zs hi w0 5) ) (fun l a w i hI hi => stepA9 hB l a w i hI hi) (fun l a w hI hr => hQ a w (hI.fin (all_done (by rw [hI.sz]; rfl) hr ordA9 10 (by decide)))) 11 _ _ _ (by decide) ?_
  exact ⟨by simp; rfl, htz, hdf, fun q => absurd q (hrep _), fun q => absurd q (hrep _), fun _ => ⟨hM.drew, t0, t2, RV.next (w' := w.drew) t3 (by omega) (Bt.refl _ _ _).drew, fun k _ q => absurd q (hrep _)⟩⟩
end

end Go.Proofs.YtnmljalcndfjmaaGreat
