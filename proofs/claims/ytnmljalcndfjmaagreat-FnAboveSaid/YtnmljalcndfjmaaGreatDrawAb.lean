/- A drawn list of axioms and a drawn role. -/
import Derived.Test.YtnmljalcndfjmaaGreatDrawKb2
namespace Go.Proofs.YtnmljalcndfjmaaGreat
open Go.RowKit

/-- What it leaves. -/
def DaP (w : World) (e : Ending) (w' : World) : Prop :=
  ∃ (va : Option Addr) (m vc : Nat) (ra : Option Addr) (rn rc : Nat) (xs : List AX) (role : List Int), e = .returned (.tuple #[.agg #[.slice va m vc], .slice ra rn rc]) ∧ RdK w.heap.size w'.heap.size w' 20 va m vc xs ∧ (∀ x ∈ xs, AxSm x) ∧ m ≤ 9 ∧ Rd w.heap.size w'.heap.size w' ra rn rc role ∧ role.length ≤ 1 ∧ Below w.heap.size w w'

def strAt (j : Nat) : ByteArray := [{ data := #[114] }, { data := #[115] }, { data := #[116] }, { data := #[82] }].getD j { data := #[114] }
theorem strAt_small (j : Nat) : (strAt j).size ≤ 1 := by
  unfold strAt
  match j with
  | 0 | 1 | 2 | 3 => decide
  | j + 4 => simp [List.getD]; decide
theorem size_setC (W : World) (a : Addr) (v : Value) : (W.setCell a v).heap.size = W.heap.size := by simp
theorem size_allocS (W : World) (o : Obj) : (W.alloc o).heap.size = W.heap.size + 1 := by simp
theorem strAt_list {j : Nat} (hj : j < 4) : ([.string { data := #[114] }, .string { data := #[115] }, .string { data := #[116] }, .string { data := #[82] }] : List Value)[j]'hj = .string (strAt j) := by
  match j, hj with
  | 0, _ | 1, _ | 2, _ | 3, _ => rfl
theorem strAt_cell {W : World} {g j : Nat} (h : W.heap[g]? = some (.cells #[.string { data := #[114] }, .string { data := #[115] }, .string { data := #[116] }, .string { data := #[82] }] 9)) (hj : j < 4) : W.cell? ⟨g, j, none⟩ = some (.string (strAt j)) := by
  unfold World.cell?
  simp only []
  rw [h]
  match j, hj with
  | 0, _ | 1, _ | 2, _ | 3, _ => rfl

theorem strAt_kept {B : Nat} {W w6 : World} {g j : Nat} (ho : Only B W w6) (h : W.heap[g]? = some (.cells #[.string { data := #[114] }, .string { data := #[115] }, .string { data := #[116] }, .string { data := #[82] }] 9)) (hne : g ≠ B) (hj : j < 4) {s : ByteArray} (hs : s = strAt j) : w6.cell? ⟨g, j, none⟩ = some (.string s) := by
  rw [hs]
  exact strAt_cell ((ho.other g (Array.getElem?_eq_some_iff.1 h).1 hne).trans h) hj
theorem dz_cell {V : World} {w : World} {s : ByteArray} {c : Value} (h : V.heap[w.heap.size]? = some (.cells #[c] 42 (0, 0))) (hl : w.heap.size < V.heap.size) : (Lib.bytesWorld V 5 s).cell? ⟨w.heap.size, 0, none⟩ = some c ∧ (Lib.bytesWorld V 5 s).frozen? ⟨w.heap.size, 0, none⟩ = false := by
  have hh : (Lib.bytesWorld V 5 s).heap[w.heap.size]? = some (.cells #[c] 42 (0, 0)) := ((bytes_below V 5 s).block _ hl).trans h
  constructor
  · simp [World.cell?, hh]
  · simp [World.frozen?, hh]

/-- The end: at V all is there but the last text. -/
theorem da_fin {m vc lo : Nat} {va : Option Addr} {vs : List Value} {p : Nat} {w V : World} {s : ByteArray} (hown : OwnAx lo p V (.slice va m vc) m vs) (hm : m ≤ 9) (hlo : w.heap.size < lo) (hs : s.size ≤ 1) (hb : Below w.heap.size w V) (hlt : w.heap.size < V.heap.size) :
    DaP w (.returned (.tuple #[.agg #[.slice va m vc], .slice (some ⟨V.heap.size, 0, none⟩) s.size (grownCap V s.size 0 5)])) ((Lib.bytesWorld V 5 s).setCell ⟨w.heap.size, 0, none⟩ (.slice va m vc)) := by
  have hbb := bytes_below V 5 s
  have hr := bw_rd V s (by omega)
  have hsz : ((Lib.bytesWorld V 5 s).setCell ⟨w.heap.size, 0, none⟩ (.slice va m vc)).heap.size = (Lib.bytesWorld V 5 s).heap.size := by simp
  have ho : ∀ q, q ≠ w.heap.size → ((Lib.bytesWorld V 5 s).setCell ⟨w.heap.size, 0, none⟩ (.slice va m vc)).heap[q]? = (Lib.bytesWorld V 5 s).heap[q]? := fun q hq => Below.heap_setCell _ _ _ _ (by show q ≠ w.heap.size; exact hq)
  have hown2 := (hown.same (fun b _ h2 _ => hbb.block b h2) hbb.size).same (w' := (Lib.bytesWorld V 5 s).setCell ⟨w.heap.size, 0, none⟩ (.slice va m vc)) (fun b h1 _ _ => ho b (by omega)) (by rw [hsz]; exact Nat.le_refl _)
  obtain ⟨a', c', xs, e, hk, hx⟩ := hown2.rd
  injection e with e1 _ e3
  subst e1 e3
  refine ⟨va, m, vc, _, _, _, xs, numsOf s, rfl, ?_, hx, hm, ?_, by rw [numsOf_len]; exact hs, ?_⟩
  · exact ⟨hk.len, hk.fits, by
      rcases hk.cells with h0 | ⟨b, off, e, h1, h2, h3⟩
      · exact .inl h0
      · refine .inr ⟨b, off, e, by omega, h2, fun i hi => ?_⟩
        obtain ⟨c0, c1, c2, c3, d0, d1, d2, d3, ra, rn, rc, sa, sn, sc, aa, an, ac, ba, bn, bc, q0, q1, q2, q3, q4, q5, q6, q7, q8, q9, q10, q11, q12, hr⟩ := h3 i hi
        exact ⟨c0, c1, c2, c3, d0, d1, d2, d3, ra, rn, rc, sa, sn, sc, aa, an, ac, ba, bn, bc, q0, q1, q2, q3, q4, q5, q6, q7, q8, q9, q10, q11, q12, ⟨RdC.mono (by omega) (Nat.le_refl _) hr.c, RdC.mono (by omega) (Nat.le_refl _) hr.d, hr.r.mono (by omega) (Nat.le_refl _), hr.s.mono (by omega) (Nat.le_refl _), hr.a.mono (by omega) (Nat.le_refl _), hr.b.mono (by omega) (Nat.le_refl _)⟩⟩⟩
  · rw [hsz]
    exact (hr.same (fun q h1 _ => ho q (by omega))).mono (by omega) (Nat.le_refl _)
  · exact (hb.trans (hbb.mono hb.size)).setCell (p := ⟨w.heap.size, 0, none⟩) (Nat.le_refl _) _

/-- The same, the list stored before. -/
theorem da_fin2 {m vc lo : Nat} {va : Option Addr} {vs : List Value} {p : Nat} {w V : World} {s : ByteArray} (hown : OwnAx lo p V (.slice va m vc) m vs) (hm : m ≤ 9) (hlo : w.heap.size < lo) (hs : s.size ≤ 1) (hb : Below w.heap.size w V) (hlt : w.heap.size < V.heap.size) :
    DaP w (.returned (.tuple #[.agg #[.slice va m vc], .slice (some ⟨V.heap.size, 0, none⟩) s.size (grownCap V s.size 0 5)])) (Lib.bytesWorld V 5 s) := by
  have hbb := bytes_below V 5 s
  have hr := bw_rd V s (by omega)
  have hown2 := hown.same (fun b _ h2 _ => hbb.block b h2) hbb.size
  obtain ⟨a', c', xs, e, hk, hx⟩ := hown2.rd
  injection e with e1 _ e3
  subst e1 e3
  refine ⟨va, m, vc, _, _, _, xs, numsOf s, rfl, ?_, hx, hm, ?_, by rw [numsOf_len]; exact hs, ?_⟩
  · exact ⟨hk.len, hk.fits, by
      rcases hk.cells with h0 | ⟨b, off, e, h1, h2, h3⟩
      · exact .inl h0
      · refine .inr ⟨b, off, e, by omega, h2, fun i hi => ?_⟩
        obtain ⟨c0, c1, c2, c3, d0, d1, d2, d3, ra, rn, rc, sa, sn, sc, aa, an, ac, ba, bn, bc, q0, q1, q2, q3, q4, q5, q6, q7, q8, q9, q10, q11, q12, hr⟩ := h3 i hi
        exact ⟨c0, c1, c2, c3, d0, d1, d2, d3, ra, rn, rc, sa, sn, sc, aa, an, ac, ba, bn, bc, q0, q1, q2, q3, q4, q5, q6, q7, q8, q9, q10, q11, q12, ⟨RdC.mono (by omega) (Nat.le_refl _) hr.c, RdC.mono (by omega) (Nat.le_refl _) hr.d, hr.r.mono (by omega) (Nat.le_refl _), hr.s.mono (by omega) (Nat.le_refl _), hr.a.mono (by omega) (Nat.le_refl _), hr.b.mono (by omega) (Nat.le_refl _)⟩⟩⟩
  · exact hr.mono (by omega) (Nat.le_refl _)
  · exact hb.trans (hbb.mono hb.size)

/-- All that is there once the last call is made: at V. -/
def DaF (w V : World) (va : Option Addr) (m vc : Nat) (s : ByteArray) : Prop :=
  DaP w (.returned (.tuple #[.agg #[.slice va m vc], .slice (some ⟨V.heap.size, 0, none⟩) s.size (grownCap V s.size 0 5)])) ((Lib.bytesWorld V 5 s).setCell ⟨w.heap.size, 0, none⟩ (.slice va m vc)) ∧
  (Lib.bytesWorld V 5 s).cell? ⟨w.heap.size, 0, none⟩ = some (.slice none 0 0) ∧ (Lib.bytesWorld V 5 s).frozen? ⟨w.heap.size, 0, none⟩ = false ∧ ((Lib.bytesWorld V 5 s).setCell ⟨w.heap.size, 0, none⟩ (.slice va m vc)).cell? ⟨w.heap.size, 0, none⟩ = some (.slice va m vc)
theorem da_of {m vc lo : Nat} {va : Option Addr} {vs : List Value} {p : Nat} {w V : World} {s : ByteArray} (hown : OwnAx lo p V (.slice va m vc) m vs) (hm : m ≤ 9) (hlo : w.heap.size < lo) (hs : s.size ≤ 1) (hb : Below w.heap.size w V) (hx : V.heap[w.heap.size]? = some (.cells #[.slice none 0 0] 42 (0, 0))) : DaF w V va m vc s := by
  have hlt : w.heap.size < V.heap.size := (Array.getElem?_eq_some_iff.1 hx).1
  obtain ⟨z, zf⟩ := dz_cell (s := s) hx hlt
  exact ⟨da_fin hown hm hlo hs hb hlt, z, zf, World.cell?_setCell_same _ _ _ z⟩
/-- The same with the list stored first. -/
def DaG (w V : World) (va : Option Addr) (m vc : Nat) (s : ByteArray) : Prop :=
  DaP w (.returned (.tuple #[.agg #[.slice va m vc], .slice (some ⟨V.heap.size, 0, none⟩) s.size (grownCap V s.size 0 5)])) (Lib.bytesWorld V 5 s) ∧ (Lib.bytesWorld V 5 s).cell? ⟨w.heap.size, 0, none⟩ = some (.slice va m vc)
theorem da_of2 {m vc lo : Nat} {va : Option Addr} {vs : List Value} {p : Nat} {w V : World} {s : ByteArray} (hown : OwnAx lo p V (.slice va m vc) m vs) (hm : m ≤ 9) (hlo : w.heap.size < lo) (hs : s.size ≤ 1) (hb : Below w.heap.size w V) (hx : V.heap[w.heap.size]? = some (.cells #[.slice va m vc] 42 (0, 0))) : DaG w V va m vc s := by
  have hlt : w.heap.size < V.heap.size := (Array.getElem?_eq_some_iff.1 hx).1
  exact ⟨da_fin2 hown hm hlo hs hb hlt, (dz_cell (s := s) hx hlt).1⟩
theorem da_after2 {B m vc lo : Nat} {va : Option Addr} {vs : List Value} {p : Nat} {w W5 w6 : World} {s : ByteArray} (hown : OwnAx lo p W5 (.slice va m vc) m vs) (hm : m ≤ 9) (hlo : w.heap.size < lo) (hBlo : B < lo) (hb5 : Below w.heap.size w W5) (hx5 : W5.heap[w.heap.size]? = some (.cells #[.slice none 0 0] 42 (0, 0))) (hwB : w.heap.size < B) (ho : Only B W5 w6) (hs : s.size ≤ 1) :
    DaG w (w6.setCell ⟨w.heap.size, 0, none⟩ (.slice va m vc)) va m vc s ∧ DaG w ((w6.setCell ⟨w.heap.size, 0, none⟩ (.slice va m vc)).alloc (.cells #[.string { data := #[114] }, .string { data := #[115] }, .string { data := #[116] }, .string { data := #[82] }] 9)) va m vc s := by
  have h5 : w.heap.size < W5.heap.size := (Array.getElem?_eq_some_iff.1 hx5).1
  have hx6 : w6.heap[w.heap.size]? = some (.cells #[.slice none 0 0] 42 (0, 0)) := (ho.other _ h5 (by omega)).trans hx5
  have hb6 : Below w.heap.size w w6 := hb5.trans (ho.below.mono (by omega))
  have hown6 : OwnAx lo p w6 (.slice va m vc) m vs := hown.same (fun b h1 h2 _ => ho.other b h2 (by omega)) ho.below.size
  obtain ⟨W7, hW7⟩ : ∃ W, W = w6.setCell ⟨w.heap.size, 0, none⟩ (.slice va m vc) := ⟨_, rfl⟩
  have hx7 : W7.heap[w.heap.size]? = some (.cells #[.slice va m vc] 42 (0, 0)) := by rw [hW7]; exact heap_setCell_same w6 w.heap.size 0 _ _ _ hx6
  have hb7 : Below w.heap.size w W7 := by rw [hW7]; exact hb6.setCell (p := ⟨w.heap.size, 0, none⟩) (Nat.le_refl _) _
  have hown7 : OwnAx lo p W7 (.slice va m vc) m vs := by rw [hW7]; exact hown6.same (fun b h1 _ _ => Below.heap_setCell _ _ _ _ (by show b ≠ w.heap.size; omega)) (by simp)
  have h7 : w.heap.size < W7.heap.size := (Array.getElem?_eq_some_iff.1 hx7).1
  have hbS : Below W7.heap.size W7 (W7.alloc (.cells #[.string { data := #[114] }, .string { data := #[115] }, .string { data := #[116] }, .string { data := #[82] }] 9)) := (Below.refl _ _).alloc (Nat.le_refl _) _
  rw [← hW7]
  exact ⟨da_of2 hown7 hm hlo hs hb7 hx7, da_of2 (hown7.same (fun b _ h2 _ => hbS.block b h2) hbS.size) hm hlo hs (hb7.trans (hbS.mono (by omega))) ((hbS.block _ h7).trans hx7)⟩
theorem da_after {B m vc lo : Nat} {va : Option Addr} {vs : List Value} {p : Nat} {w W5 w6 : World} {s : ByteArray} (hown : OwnAx lo p W5 (.slice va m vc) m vs) (hm : m ≤ 9) (hlo : w.heap.size < lo) (hBlo : B < lo) (hb5 : Below w.heap.size w W5) (hx5 : W5.heap[w.heap.size]? = some (.cells #[.slice none 0 0] 42 (0, 0))) (hwB : w.heap.size < B) (ho : Only B W5 w6) (hs : s.size ≤ 1) :
    DaF w w6 va m vc s ∧ DaF w (w6.alloc (.cells #[.string { data := #[114] }, .string { data := #[115] }, .string { data := #[116] }, .string { data := #[82] }] 9)) va m vc s := by
  have h5 : w.heap.size < W5.heap.size := (Array.getElem?_eq_some_iff.1 hx5).1
  have hx6 : w6.heap[w.heap.size]? = some (.cells #[.slice none 0 0] 42 (0, 0)) := (ho.other _ h5 (by omega)).trans hx5
  have h6 : w.heap.size < w6.heap.size := (Array.getElem?_eq_some_iff.1 hx6).1
  have hb6 : Below w.heap.size w w6 := hb5.trans (ho.below.mono (by omega))
  have hown6 : OwnAx lo p w6 (.slice va m vc) m vs := hown.same (fun b h1 h2 _ => ho.other b h2 (by omega)) ho.below.size
  have hbS : Below w6.heap.size w6 (w6.alloc (.cells #[.string { data := #[114] }, .string { data := #[115] }, .string { data := #[116] }, .string { data := #[82] }] 9)) := (Below.refl _ _).alloc (Nat.le_refl _) _
  exact ⟨da_of hown6 hm hlo hs hb6 hx6, da_of (hown6.same (fun b _ h2 _ => hbS.block b h2) hbS.size) hm hlo hs (hb6.trans (hbS.mono (by omega))) ((hbS.block _ h6).trans hx6)⟩

theorem da_six {B : Nat} {w W5 w6 : World} (hx5 : W5.heap[w.heap.size]? = some (.cells #[.slice none 0 0] 42 (0, 0))) (hwB : w.heap.size < B) (ho : Only B W5 w6) : w6.cell? ⟨w.heap.size, 0, none⟩ = some (.slice none 0 0) ∧ w6.frozen? ⟨w.heap.size, 0, none⟩ = false ∧ w.heap.size < w6.heap.size := by
  have h5 : w.heap.size < W5.heap.size := (Array.getElem?_eq_some_iff.1 hx5).1
  have hx6 : w6.heap[w.heap.size]? = some (.cells #[.slice none 0 0] 42 (0, 0)) := (ho.other _ h5 (by omega)).trans hx5
  refine ⟨?_, ?_, (Array.getElem?_eq_some_iff.1 hx6).1⟩
  · simp [World.cell?, hx6]
  · simp [World.frozen?, hx6]

set_option maxRecDepth 100000 in
set_option maxHeartbeats 4000000 in
theorem drawAbove_any {a : Option Addr} {n cap : Nat} {zs : List Int} {w : World} (h : Rd 0 w.heap.size w a n cap zs) :
    Calls Tryz.prog 15 #[.slice a n cap] w (DaP w) := by
  obtain ⟨W0, HW0⟩ : ∃ W, Hid (W = w.alloc (.cells #[.slice none 0 0] 42)) := ⟨_, rfl⟩
  have HB0 : Hid (Below w.heap.size w W0) := by unfold Hid; rw [HW0.out]; exact (Below.refl _ _).alloc (Nat.le_refl _) _
  have HX0 : Hid (W0.heap[w.heap.size]? = some (.cells #[.slice none 0 0] 42 (0, 0))) := by unfold Hid; rw [HW0.out]; exact allocAtA rfl
  have HR0 : Hid (Rd 0 w.heap.size W0 a n cap zs) := h.below HB0.out (Nat.le_refl _)
  have hs0 : w.heap.size < W0.heap.size := (Array.getElem?_eq_some_iff.1 HX0.out).1
  clear h
  go_enter Tryz.func15, Tryz.ntmps15
  go_wp2_with fail
  rw [← HW0.out]
  refine (l1New_any HR0.out (by omega)).mono ?_
  rintro e w1 ⟨rfl, hc1, hb1⟩
  obtain ⟨B, hBe⟩ : ∃ B, B = W0.heap.size := ⟨_, rfl⟩
  rw [← hBe] at hc1 ⊢
  have hB1 : B < w1.heap.size := hc1.lt
  have hwB : w.heap.size < B := by omega
  have HB1 : Hid (Below w.heap.size w w1) := HB0.out.trans (hb1.mono (by omega))
  have HX1 : Hid (w1.heap[w.heap.size]? = some (.cells #[.slice none 0 0] 42 (0, 0))) := (hb1.block _ hs0).trans HX0.out
  have hw1 : w.heap.size < w1.heap.size := by omega
  -- the two worlds at which the list may be drawn
  have HCd : Hid (Cur w1.drew B a n cap zs w.heap.size) := hc1.keepB (w' := w1.drew) (fun _ _ => rfl)
  obtain ⟨W2, HW2⟩ : ∃ W, Hid (W = (w1.alloc (.cells #[.string { data := #[114] }, .string { data := #[115] }, .string { data := #[116] }, .string { data := #[82] }] 9)).drew) := ⟨_, rfl⟩
  have hbA : Below w1.heap.size w1 W2 := by rw [HW2.out]; exact ((Below.refl _ _).alloc (Nat.le_refl _) _).drew
  have HCa : Hid (Cur W2 B a n cap zs w.heap.size) := hc1.of (hbA.mono hB1)
  have HBA : Hid (Below w1.heap.size w1 W2) := hbA
  have HSa : Hid (W2.heap[w1.heap.size]? = some (.cells #[.string { data := #[114] }, .string { data := #[115] }, .string { data := #[116] }, .string { data := #[82] }] 9)) := by unfold Hid; rw [HW2.out]; exact allocAtA (W := w1) rfl
  have hA2 : w1.heap.size < W2.heap.size := (Array.getElem?_eq_some_iff.1 HSa.out).1
  have hcv : ∀ (W : World) (s : ByteArray), (convert 9 22 (.string s)).run Tryz.prog W = .ok (.slice (some ⟨W.heap.size, 0, none⟩) s.size (grownCap W s.size 0 5)) (Lib.bytesWorld W 5 s) := fun W s => Lib.run_convert_string_bytes W 9 22 5 s Tryz.underlying9 Tryz.underlying22 Tryz.underlying5
  have Hdr : Hid (Below w1.heap.size w1 w1.drew) := (Below.refl _ _).drew
  clear hc1 hb1 hbA hBe
  go_upto_region 2 with fail
  first
  | go_region_with (first
    | (go_at_call 45; rw [← HW2.out]; refine (l3bent_any (w := W2) HCa.out).mono ?_; rintro e w5 hP; obtain ⟨va, m, vc, vs, rfl, hown, hm, hc5, hb5⟩ := hP; have HO5 : Hid (OwnAx W2.heap.size w5.heap.size w5 (.slice va m vc) m vs ∧ m ≤ 9) := ⟨hown, hm⟩; have HC5 : Hid (Cur w5 B a n cap zs w.heap.size) := hc5; have hlo5 : w1.heap.size ≤ W2.heap.size := HBA.out.size; have hs5 : W2.heap.size ≤ w5.heap.size := hb5.size; have HB5 : Hid (Below w.heap.size w w5) := (HB1.out.trans (HBA.out.mono (by omega))).trans (hb5.below (by omega) (by omega)); have HX5 : Hid (w5.heap[w.heap.size]? = some (.cells #[.slice none 0 0] 42 (0, 0))) := (hb5.block _ (by omega) (by omega)).trans ((HBA.out.block _ hw1).trans HX1.out); have HS5 : Hid (w5.heap[w1.heap.size]? = some (.cells #[.string { data := #[114] }, .string { data := #[115] }, .string { data := #[116] }, .string { data := #[82] }] 9)) := (hb5.block _ hA2 (by omega)).trans HSa.out; have hS5 : Below w5.heap.size w5 (w5.alloc (.cells #[.string { data := #[114] }, .string { data := #[115] }, .string { data := #[116] }, .string { data := #[82] }] 9)) := (Below.refl _ _).alloc (Nat.le_refl _) _; have HCS5 : Hid (Cur (w5.alloc (.cells #[.string { data := #[114] }, .string { data := #[115] }, .string { data := #[116] }, .string { data := #[82] }] 9)) B a n cap zs w.heap.size) := hc5.of (hS5.mono hc5.lt); have HOS5 : Hid (OwnAx W2.heap.size w5.heap.size (w5.alloc (.cells #[.string { data := #[114] }, .string { data := #[115] }, .string { data := #[116] }, .string { data := #[82] }] 9)) (.slice va m vc) m vs) := HO5.out.1.same (fun b _ h2 _ => hS5.block b h2) hS5.size; have HBS5 : Hid (Below w.heap.size w (w5.alloc (.cells #[.string { data := #[114] }, .string { data := #[115] }, .string { data := #[116] }, .string { data := #[82] }] 9))) := HB5.out.trans (hS5.mono (by omega)); have HXS5 : Hid ((w5.alloc (.cells #[.string { data := #[114] }, .string { data := #[115] }, .string { data := #[116] }, .string { data := #[82] }] 9)).heap[w.heap.size]? = some (.cells #[.slice none 0 0] 42 (0, 0))) := (hS5.block _ (by omega)).trans HX5.out; have HsS5 : Hid (w5.heap.size < (w5.alloc (.cells #[.string { data := #[114] }, .string { data := #[115] }, .string { data := #[116] }, .string { data := #[82] }] 9)).heap.size) := Nat.lt_of_lt_of_le (Nat.lt_succ_self _) (Nat.le_of_eq (by simp)); clear hS5 hown hm hc5 hb5)
    | (go_at_call 45; refine (l3bent_any (w := w1.drew) HCd.out).mono ?_; rintro e w5 hP; obtain ⟨va, m, vc, vs, rfl, hown, hm, hc5, hb5⟩ := hP; have HO5 : Hid (OwnAx w1.drew.heap.size w5.heap.size w5 (.slice va m vc) m vs ∧ m ≤ 9) := ⟨hown, hm⟩; have HC5 : Hid (Cur w5 B a n cap zs w.heap.size) := hc5; have hlo5 : w1.heap.size ≤ w1.drew.heap.size := Hdr.out.size; have hs5 : w1.drew.heap.size ≤ w5.heap.size := hb5.size; have HB5 : Hid (Below w.heap.size w w5) := (HB1.out.trans (Hdr.out.mono (by omega))).trans (hb5.below (by omega) (by omega)); have HX5 : Hid (w5.heap[w.heap.size]? = some (.cells #[.slice none 0 0] 42 (0, 0))) := (hb5.block _ (by omega) (by omega)).trans ((Hdr.out.block _ hw1).trans HX1.out); have hS5 : Below w5.heap.size w5 (w5.alloc (.cells #[.string { data := #[114] }, .string { data := #[115] }, .string { data := #[116] }, .string { data := #[82] }] 9)) := (Below.refl _ _).alloc (Nat.le_refl _) _; have HCS5 : Hid (Cur (w5.alloc (.cells #[.string { data := #[114] }, .string { data := #[115] }, .string { data := #[116] }, .string { data := #[82] }] 9)) B a n cap zs w.heap.size) := hc5.of (hS5.mono hc5.lt); have HOS5 : Hid (OwnAx w1.drew.heap.size w5.heap.size (w5.alloc (.cells #[.string { data := #[114] }, .string { data := #[115] }, .string { data := #[116] }, .string { data := #[82] }] 9)) (.slice va m vc) m vs) := HO5.out.1.same (fun b _ h2 _ => hS5.block b h2) hS5.size; have HBS5 : Hid (Below w.heap.size w (w5.alloc (.cells #[.string { data := #[114] }, .string { data := #[115] }, .string { data := #[116] }, .string { data := #[82] }] 9))) := HB5.out.trans (hS5.mono (by omega)); have HXS5 : Hid ((w5.alloc (.cells #[.string { data := #[114] }, .string { data := #[115] }, .string { data := #[116] }, .string { data := #[82] }] 9)).heap[w.heap.size]? = some (.cells #[.slice none 0 0] 42 (0, 0))) := (hS5.block _ (by omega)).trans HX5.out; have HsS5 : Hid (w5.heap.size < (w5.alloc (.cells #[.string { data := #[114] }, .string { data := #[115] }, .string { data := #[116] }, .string { data := #[82] }] 9)).heap.size) := Nat.lt_of_lt_of_le (Nat.lt_succ_self _) (Nat.le_of_eq (by simp)); clear hS5 hown hm hc5 hb5)
    | (go_at_call 46; refine (l1Below_any (w := w5) HC5.out 4 (by omega)).mono ?_; rintro e w6 ⟨x, rfl, ⟨hx0, hx1⟩, hc6, ho6⟩; obtain ⟨j, hj⟩ : ∃ j : Nat, x = (j : Int) := ⟨x.toNat, by omega⟩; subst hj; have hj4 : j < 4 := (by omega); have hji : (j : Int) < 4 := (by omega); obtain ⟨s, hs⟩ : ∃ s, s = strAt j := ⟨_, rfl⟩; have HFx : Hid (DaF w w6 va m vc s ∧ DaF w (w6.alloc (.cells #[.string { data := #[114] }, .string { data := #[115] }, .string { data := #[116] }, .string { data := #[82] }] 9)) va m vc s) := da_after HO5.out.1 HO5.out.2 (by omega) (by omega) HB5.out HX5.out hwB ho6 (by rw [hs]; exact strAt_small j); have hlj : ([.string { data := #[114] }, .string { data := #[115] }, .string { data := #[116] }, .string { data := #[82] }] : List Value)[j]'hj4 = .string s := (by rw [hs]; exact strAt_list hj4); obtain ⟨zA, zfA, eA⟩ := HFx.out.1.2; obtain ⟨zB, zfB, eB⟩ := HFx.out.2.2; have HGx : Hid (DaG w (w6.setCell ⟨w.heap.size, 0, none⟩ (.slice va m vc)) va m vc s ∧ DaG w ((w6.setCell ⟨w.heap.size, 0, none⟩ (.slice va m vc)).alloc (.cells #[.string { data := #[114] }, .string { data := #[115] }, .string { data := #[116] }, .string { data := #[82] }] 9)) va m vc s) := da_after2 HO5.out.1 HO5.out.2 (by omega) (by omega) HB5.out HX5.out hwB ho6 (by rw [hs]; exact strAt_small j); have eC := HGx.out.1.2; have eD := HGx.out.2.2; obtain ⟨z6, zf6, hw6⟩ := da_six HX5.out hwB ho6; have hcB : (w6.alloc (.cells #[.string { data := #[114] }, .string { data := #[115] }, .string { data := #[116] }, .string { data := #[82] }] 9)).cell? ⟨w6.heap.size, j, none⟩ = some (.string s) := (by rw [hs]; exact strAt_cell (allocAtA rfl) hj4); (first | (have hcA : w6.cell? ⟨w1.heap.size, j, none⟩ = some (.string s) := strAt_kept ho6 HS5.out (by omega) hj4 hs) | skip); clear ho6 hc6 hs hx0 hx1)
    | (go_at_call 46; refine (l1Below_any (w := w5.alloc (.cells #[.string { data := #[114] }, .string { data := #[115] }, .string { data := #[116] }, .string { data := #[82] }] 9)) HCS5.out 4 (by omega)).mono ?_; rintro e w6 ⟨x, rfl, ⟨hx0, hx1⟩, hc6, ho6⟩; obtain ⟨j, hj⟩ : ∃ j : Nat, x = (j : Int) := ⟨x.toNat, by omega⟩; subst hj; have hj4 : j < 4 := (by omega); have hji : (j : Int) < 4 := (by omega); obtain ⟨s, hs⟩ : ∃ s, s = strAt j := ⟨_, rfl⟩; have HFx : Hid (DaF w w6 va m vc s ∧ DaF w (w6.alloc (.cells #[.string { data := #[114] }, .string { data := #[115] }, .string { data := #[116] }, .string { data := #[82] }] 9)) va m vc s) := da_after HOS5.out HO5.out.2 (by omega) (by omega) HBS5.out HXS5.out hwB ho6 (by rw [hs]; exact strAt_small j); have hlj : ([.string { data := #[114] }, .string { data := #[115] }, .string { data := #[116] }, .string { data := #[82] }] : List Value)[j]'hj4 = .string s := (by rw [hs]; exact strAt_list hj4); obtain ⟨zA, zfA, eA⟩ := HFx.out.1.2; obtain ⟨zB, zfB, eB⟩ := HFx.out.2.2; have HGx : Hid (DaG w (w6.setCell ⟨w.heap.size, 0, none⟩ (.slice va m vc)) va m vc s ∧ DaG w ((w6.setCell ⟨w.heap.size, 0, none⟩ (.slice va m vc)).alloc (.cells #[.string { data := #[114] }, .string { data := #[115] }, .string { data := #[116] }, .string { data := #[82] }] 9)) va m vc s) := da_after2 HOS5.out HO5.out.2 (by omega) (by omega) HBS5.out HXS5.out hwB ho6 (by rw [hs]; exact strAt_small j); have eC := HGx.out.1.2; have eD := HGx.out.2.2; obtain ⟨z6, zf6, hw6⟩ := da_six HXS5.out hwB ho6; have hcB : (w6.alloc (.cells #[.string { data := #[114] }, .string { data := #[115] }, .string { data := #[116] }, .string { data := #[82] }] 9)).cell? ⟨w6.heap.size, j, none⟩ = some (.string s) := (by rw [hs]; exact strAt_cell (allocAtA rfl) hj4); have hcA : w6.cell? ⟨w5.heap.size, j, none⟩ = some (.string s) := strAt_kept ho6 (allocAtA rfl) (by omega) hj4 hs; clear ho6 hc6 hs hx0 hx1))
  | fail
  all_goals
    go_wp2_with fail
    try simp only [List.getElem_toArray, List.getElem_cons_succ, List.getElem_cons_zero, Act.put]
    first
    | (refine bodyPost_ret (v := .tuple #[.agg #[.slice va m vc], .slice (some ⟨w6.heap.size, 0, none⟩) s.size (grownCap w6 s.size 0 5)]) (by first | (simp [results, Tryz.results15, go_sem, eA]; done) | fail) rfl ?_; first | exact HFx.out.1.1 | (have hq := HFx.out.1.1; simp only [size_setC] at hq; exact hq))
    | (refine bodyPost_ret (v := .tuple #[.agg #[.slice va m vc], .slice (some ⟨w6.heap.size, 0, none⟩) s.size (grownCap (w6.setCell ⟨w.heap.size, 0, none⟩ (.slice va m vc)) s.size 0 5)]) (by first | (simp [results, Tryz.results15, go_sem, eC]; done) | fail) rfl ?_; first | exact HGx.out.1.1 | (have hq := HGx.out.1.1; simp only [size_setC] at hq; exact hq))
    | (refine bodyPost_ret (v := .tuple #[.agg #[.slice va m vc], .slice (some ⟨w6.heap.size + 1, 0, none⟩) s.size (grownCap (w6.alloc (.cells #[.string { data := #[114] }, .string { data := #[115] }, .string { data := #[116] }, .string { data := #[82] }] 9)) s.size 0 5)]) (by first | (simp [results, Tryz.results15, go_sem, eB]; done) | fail) rfl ?_; first | exact HFx.out.2.1 | (have hq := HFx.out.2.1; simp only [size_allocS] at hq; exact hq))
    | (refine bodyPost_ret (v := .tuple #[.agg #[.slice va m vc], .slice (some ⟨w6.heap.size + 1, 0, none⟩) s.size (grownCap ((w6.setCell ⟨w.heap.size, 0, none⟩ (.slice va m vc)).alloc (.cells #[.string { data := #[114] }, .string { data := #[115] }, .string { data := #[116] }, .string { data := #[82] }] 9)) s.size 0 5)]) (by first | (simp [results, Tryz.results15, go_sem, eD]; done) | fail) rfl ?_; first | exact HGx.out.2.1 | (have hq := HGx.out.2.1; simp only [size_setC, size_allocS] at hq; exact hq))

end Go.Proofs.YtnmljalcndfjmaaGreat
