/- A drawn part: a contract of each function. -/
import Derived.Test.YtjnmfjfikldiiaaDraw1
import Derived.Test.YtjnmfjfikldiiaaClMem
namespace Go.Proofs.Ytjnmfjfikldiiaa
open Go.RowKit

theorem Only.boxP {B : Nat} {w w' : World} (h : Only B w w') {t q : Nat} {p n : Int} (hb : BoxP t w q p n) (hq : q ≠ B) : BoxP t w' q p n := (h.other q hb.lt hq).trans hb
theorem BoxP.frz {t : Nat} {W : World} {b : Nat} {p n : Int} (h : BoxP t W b p n) (o : Nat) : W.frozen? ⟨b, o, none⟩ = false := by
  unfold BoxP at h
  simp [World.frozen?, h]
theorem BoxP.set0 {t : Nat} {W : World} {b : Nat} {p n : Int} (h : BoxP t W b p n) (p' : Int) : BoxP t (W.setCell ⟨b, 0, none⟩ (.int .i64 p')) b p' n := heap_setCell_same W b 0 _ _ _ h
theorem BoxP.set1 {t : Nat} {W : World} {b : Nat} {p n : Int} (h : BoxP t W b p n) (n' : Int) : BoxP t (W.setCell ⟨b, 1, none⟩ (.int .i64 n')) b p n' := heap_setCell_same W b 1 _ _ _ h
theorem BoxP.setO {t : Nat} {W : World} {b c o : Nat} {p n : Int} (h : BoxP t W b p n) (hc : b ≠ c) (v : Value) : BoxP t (W.setCell ⟨c, o, none⟩ v) b p n := (Below.heap_setCell W ⟨c, o, none⟩ v b hc).trans h

/-- What stays while a part is drawn: the cursor, the box of the answer, that of the part. -/
structure DrP (w : World) (B : Nat) (a : Option Addr) (n cap : Nat) (zs : List Int) (hi : Nat) (V : World) (p q : Int) : Prop where
  cur : Cur V B a n cap zs hi
  res : BoxP 24 V w.heap.size 0 0
  par : BoxP 24 V (w.heap.size + 1) p q
  only : Only B w V

theorem DrP.go {w : World} {B : Nat} {a : Option Addr} {n cap : Nat} {zs : List Int} {hi : Nat} {V V' : World} {p q : Int} (hB : B < w.heap.size) (h : DrP w B a n cap zs hi V p q) (c : Cur V' B a n cap zs hi) (o : Only B V V') : DrP w B a n cap zs hi V' p q :=
  ⟨c, o.boxP h.res (by omega), o.boxP h.par (by omega), h.only.trans o⟩

/-- A cell of the part is laid anew. -/
theorem DrP.lay {w : World} {B : Nat} {a : Option Addr} {n cap : Nat} {zs : List Int} {hi : Nat} {V : World} {p q : Int} (hB : B < w.heap.size) (h : DrP w B a n cap zs hi V p q) (o : Nat) (v : Value) {p' q' : Int} (hb : BoxP 24 (V.setCell ⟨w.heap.size + 1, o, none⟩ v) (w.heap.size + 1) p' q') : DrP w B a n cap zs hi (V.setCell ⟨w.heap.size + 1, o, none⟩ v) p' q' := by
  have hn : ∀ b, b ≠ w.heap.size + 1 → (V.setCell ⟨w.heap.size + 1, o, none⟩ v).heap[b]? = V.heap[b]? := fun b hb => Below.heap_setCell V ⟨w.heap.size + 1, o, none⟩ v b hb
  refine ⟨?_, (hn _ (by omega)).trans h.res, hb, ⟨h.only.below.setCell (by show B ≤ w.heap.size + 1; omega) v, fun b h1 h2 => (hn b (by omega)).trans (h.only.other b h1 h2)⟩⟩
  obtain ⟨⟨i, hh, h1, h2⟩, h3, h4⟩ := h.cur
  exact ⟨⟨i, hh, h1, (hn _ (by omega)).trans h2⟩, h3.same (fun b _ hb => hn b (by omega)), h4⟩

set_option maxRecDepth 100000 in
set_option maxHeartbeats 4000000 in
theorem l5drawPart_any {w : World} {B : Nat} {a : Option Addr} {n cap : Nat} {zs : List Int} {hi : Nat} (c : Cur w B a n cap zs hi) :
    Calls Try.prog 62 #[.pointer (some ⟨B, 0, none⟩)] w fun e w' => ∃ p q : Int, e = .returned (.agg #[.int .i64 p, .int .i64 q]) ∧ Cur w' B a n cap zs hi ∧ Only B w w' := by
  obtain ⟨W, hW⟩ : ∃ W, W = (w.alloc (.cells #[.int .i64 0, .int .i64 0] 24)).alloc (.cells #[.int .i64 0, .int .i64 0] 24) := ⟨_, rfl⟩
  have HW : Hid (W = (w.alloc (.cells #[.int .i64 0, .int .i64 0] 24)).alloc (.cells #[.int .i64 0, .int .i64 0] 24)) := hW
  have hBl : B < w.heap.size := by obtain ⟨_, _, _, q⟩ := c.box; exact q.lt
  have hb0 : Below w.heap.size w W := by rw [hW]; exact ((Below.refl _ _).alloc (Nat.le_refl _) _).alloc (by simp) _
  have hp0 : BoxP 24 W w.heap.size 0 0 := by rw [hW]; exact (BoxP.new _ w _ _).below ((Below.refl _ _).alloc (Nat.le_refl _) _) (by simp)
  have hp1 : BoxP 24 W (w.heap.size + 1) 0 0 := by
    have e := BoxP.new 24 (w.alloc (.cells #[.int .i64 0, .int .i64 0] 24)) 0 0
    rw [World.size_alloc] at e
    rw [hW]; exact e
  have hcur : Cur W B a n cap zs hi := by
    obtain ⟨⟨i, hh, h1, h2⟩, h3, h4⟩ := c
    exact ⟨⟨i, hh, h1, (hb0.block B hBl).trans h2⟩, h3.below hb0 (by omega), h4⟩
  have HD : Hid (DrP w B a n cap zs hi W 0 0) := ⟨hcur, hp0, hp1, ⟨⟨hb0.os, hb0.tape, hb0.output, hb0.size, fun k hk => hb0.block k (by omega)⟩, fun b h1 _ => hb0.block b h1⟩⟩
  clear hW hb0 hp0 hp1 hcur c
  go_enter Try.func62, Try.ntmps62
  go_upto_region 2 with fail
  rw [← HW.out]
  go_wp2_with fail
  refine (l1Below_any HD.out.cur 4 ⟨by omega, by omega⟩).mono ?_
  rintro e w1 ⟨m, rfl, hm, hc, ho⟩
  have HD1 : Hid (DrP w B a n cap zs hi w1 0 0) := HD.out.go hBl hc ho
  clear hc ho
  obtain ⟨mm, rfl⟩ : ∃ mm : Nat, m = (mm : Int) := ⟨m.toNat, by omega⟩
  go_wp2_with fail
  go_loopw [5] (fun i wr => ∃ (k : Nat) (p q : Int), k ≤ mm ∧ i = .int .i64 k ∧ DrP w B a n cap zs hi wr p q) (fun i _ => mm - (intOf i).toNat)
  case atStart => exact ⟨0, 0, 0, Nat.zero_le _, rfl, HD1.out⟩
  case round =>
    obtain ⟨k, p, q, hk, rfl, hd⟩ := hrel
    have HR : Hid (DrP w B a n cap zs hi wr p q) := hd
    clear hd
    by_cases hlt : k < mm
    · have hki : (k : Int) < (mm : Int) := by omega
      go_wp2_with fail
      refine (l1Once_any HR.out.cur 2 ⟨by omega, by omega⟩).mono ?_
      rintro e w2 ⟨x, rfl, hc, ho⟩
      have HR2 : Hid (DrP w B a n cap zs hi w2 p q) := HR.out.go hBl hc ho
      clear hc ho
      obtain ⟨z0, z1⟩ := HR2.out.par.cells
      have HC2d : Hid (Cur w2.drew B a n cap zs hi) := by
        obtain ⟨⟨i, hh, h1, h2⟩, h3, h4⟩ := HR2.out.cur
        exact ⟨⟨i, hh, h1, h2⟩, h3.same (fun _ _ _ => rfl), h4⟩
      cases x with
      | true =>
        go_wp2_with fail
        first | go_region_with (go_at_call 129; refine (l1Below_any HC2d.out 5 ⟨by omega, by omega⟩).mono ?_; rintro e w3 ⟨s, rfl, hs, hc, ho⟩; have HR3 : Hid (DrP w B a n cap zs hi w3 p q) := HR2.out.go hBl hc ((Only.refl _ _).drew.trans ho); obtain ⟨y0, y1⟩ := HR3.out.par.cells; have yf := HR3.out.par.frz 0; obtain ⟨hs0, hs1⟩ := hs; clear hc ho z0 z1) | fail
        all_goals
          go_wp2_with fail
          go_roundw
          case rel => exact ⟨k + 1, _, _, by omega, by go_num, HR3.out.lay hBl 0 _ (HR3.out.par.set0 _)⟩
          case measure => simp [intOf]; omega
      | false =>
        go_wp2_with fail
        first | go_region_with (go_at_call 129; refine (l1Below_any HC2d.out 5 ⟨by omega, by omega⟩).mono ?_; rintro e w3 ⟨s, rfl, hs, hc, ho⟩; have HR3 : Hid (DrP w B a n cap zs hi w3 p q) := HR2.out.go hBl hc ((Only.refl _ _).drew.trans ho); obtain ⟨y0, y1⟩ := HR3.out.par.cells; have yf := HR3.out.par.frz 1; obtain ⟨hs0, hs1⟩ := hs; clear hc ho z0 z1) | fail
        all_goals
          go_wp2_with fail
          go_roundw
          case rel => exact ⟨k + 1, _, _, by omega, by go_num, HR3.out.lay hBl 1 _ (HR3.out.par.set1 _)⟩
          case measure => simp [intOf]; omega
    · have hd : decide ((k : Int) < (mm : Int)) = false := by simp; omega
      obtain ⟨z0, z1⟩ := HR.out.par.cells
      obtain ⟨y0, y1⟩ := HR.out.res.cells
      have f0 := HR.out.res.frz 0
      have f1 := HR.out.res.frz 1
      have hr1 : BoxP 24 (wr.setCell ⟨w.heap.size, 0, none⟩ (.int .i64 p)) w.heap.size p 0 := HR.out.res.set0 p
      have hr2 : BoxP 24 ((wr.setCell ⟨w.heap.size, 0, none⟩ (.int .i64 p)).setCell ⟨w.heap.size, 1, none⟩ (.int .i64 q)) w.heap.size p q := hr1.set1 q
      obtain ⟨s0, s1⟩ := hr2.cells
      have HFin : Hid (Cur ((wr.setCell ⟨w.heap.size, 0, none⟩ (.int .i64 p)).setCell ⟨w.heap.size, 1, none⟩ (.int .i64 q)) B a n cap zs hi ∧ Only B w ((wr.setCell ⟨w.heap.size, 0, none⟩ (.int .i64 p)).setCell ⟨w.heap.size, 1, none⟩ (.int .i64 q))) := by
        have hn : ∀ b, b ≠ w.heap.size → ((wr.setCell ⟨w.heap.size, 0, none⟩ (.int .i64 p)).setCell ⟨w.heap.size, 1, none⟩ (.int .i64 q)).heap[b]? = wr.heap[b]? := fun b hb => (Below.heap_setCell _ ⟨w.heap.size, 1, none⟩ _ b hb).trans (Below.heap_setCell _ ⟨w.heap.size, 0, none⟩ _ b hb)
        obtain ⟨⟨i, hh, h1, h2⟩, h3, h4⟩ := HR.out.cur
        refine ⟨⟨⟨i, hh, h1, (hn _ (by omega)).trans h2⟩, h3.same (fun b _ hb => hn b (by omega)), h4⟩, ⟨(HR.out.only.below.setCell (by show B ≤ w.heap.size; omega) _).setCell (by show B ≤ w.heap.size; omega) _, fun b h1 h2 => (hn b (by omega)).trans (HR.out.only.other b h1 h2)⟩⟩
      clear hr1 hr2
      go_wp2_with fail
      refine bodyPost_ret (v := .agg #[.int .i64 p, .int .i64 q]) (by simp [results, Try.results62, go_sem, s0, s1]) rfl ⟨p, q, rfl, HFin.out⟩

end Go.Proofs.Ytjnmfjfikldiiaa
