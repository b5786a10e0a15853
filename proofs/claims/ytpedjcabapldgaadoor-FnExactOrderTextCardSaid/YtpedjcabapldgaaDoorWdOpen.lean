/- A world that comes in, opened: what it reads as. -/
import Derived.Test.YtpedjcabapldgaaDoorWdMem
import Derived.Test.YtpedjcabapldgaaDoorOpenB
import Derived.Deep.Slices
namespace Go.Proofs.YtpedjcabapldgaaDoor
open Go.RowKit Go.Deep Go.ChangeShapes Go.WideShapes

theorem open_list {H : Type} {enc : TypeId × Value → H} {w : World} {α : Type} [Inhabited α] (d : α) (R : Value → α → Prop) {T E : TypeId} (ht : Tryd.prog.underlying T = some (.slice E)) (h1 : Tryd.prog.cellsOf E = 1)
    (hel : ∀ (fuel : Nat) (v : Value) (x : DataW H × List MemPlace), DataW.trod enc Tryd.prog w 0 (fun _ => true) true fuel E [v] = some x → ∃ c, R v c) {fuel : Nat} {v : Value} {x : DataW H × List MemPlace} (h : DataW.trod enc Tryd.prog w 0 (fun _ => true) true fuel T [v] = some x) :
    ∃ a len cap xs, v = .slice a len cap ∧ RdN d R 0 w.heap.size w a len cap xs := by
  rcases DataW.trod_slice ht h with ⟨hcs, _⟩ | ⟨ad, len, cap, elems, rest, n', hn', hcs, _, _, hle, hcm, hel', hx, _, _⟩
  · simp only [List.cons.injEq, and_true] at hcs
    exact ⟨none, 0, 0, [], hcs, ⟨rfl, by omega, .inl rfl⟩⟩
  · simp only [List.cons.injEq, and_true] at hcs
    rw [h1] at hx
    have key : ∀ i, i < len → ∃ c : α, ∃ u, w.cell? (ad.add (i * 1)) = some u ∧ R u c := by
      intro i hi
      have hxi := hx i hi
      rw [List.getElem?_eq_getElem (by omega)] at hxi
      obtain ⟨cs', q1, q2⟩ := Option.bind_eq_some_iff.1 hxi
      obtain ⟨_, hlen', hcell⟩ := World.cells?_some q1
      match cs', hlen' with
      | [u], _ =>
        obtain ⟨c, hc⟩ := hel _ _ _ q2
        have e0 := hcell 0 (by omega)
        rw [show (ad.add (i * 1)).add 0 = ad.add (i * 1) from by simp [Addr.add]] at e0
        exact ⟨c, u, e0, hc⟩
    obtain ⟨T', hT⟩ := choose_lt key
    refine ⟨some ad, len, cap, (List.range len).map T', hcs, ⟨by simp, ⟨hle, by unfold maxLen at hcm; exact hcm⟩, ?_⟩⟩
    by_cases h0 : len = 0
    · exact .inl h0
    · obtain ⟨b, off, spot⟩ := ad
      obtain ⟨_, q0, _⟩ := hT 0 (by omega)
      have hspot : spot = none := by simpa [Addr.add] using World.cell?_spot q0
      subst hspot
      have hblk : b < w.heap.size := by simpa [Addr.add] using block_lt_of_cell q0
      refine .inr ⟨b, off, rfl, Nat.zero_le _, hblk, fun i hi => ?_⟩
      obtain ⟨u, e0, hr⟩ := hT i hi
      have eT : ((List.range len).map T').getD i d = T' i := by simp [List.getD, hi]
      rw [eT]
      rw [Nat.mul_one] at e0
      simp only [Addr.add_lit] at e0
      exact ⟨u, e0, hr⟩

theorem trod_seven {H : Type} {enc : TypeId × Value → H} {P : Program} {w : World} {base : Nat} {spare : Nat → Bool} {held : Bool} {t : TypeId} {f0 f1 f2 f3 f4 f5 f6 : Field} {fuel : Nat} {cs : List Value} {x : DataW H × List MemPlace} (ht : P.underlying t = some (.struct #[f0, f1, f2, f3, f4, f5, f6])) (h : DataW.trod enc P w base spare held fuel t cs = some x) :
    ∃ y0 y1 y2 y3 y4 y5 y6 n, fuel = n + 1 ∧ cs.length = P.cellsOf t ∧ DataW.trod enc P w base spare held n f0.type ((cs.drop f0.offset).take (P.cellsOf f0.type)) = some y0 ∧ DataW.trod enc P w base spare held n f1.type ((cs.drop f1.offset).take (P.cellsOf f1.type)) = some y1 ∧
      DataW.trod enc P w base spare held n f2.type ((cs.drop f2.offset).take (P.cellsOf f2.type)) = some y2 ∧ DataW.trod enc P w base spare held n f3.type ((cs.drop f3.offset).take (P.cellsOf f3.type)) = some y3 ∧ DataW.trod enc P w base spare held n f4.type ((cs.drop f4.offset).take (P.cellsOf f4.type)) = some y4 ∧
      DataW.trod enc P w base spare held n f5.type ((cs.drop f5.offset).take (P.cellsOf f5.type)) = some y5 ∧ DataW.trod enc P w base spare held n f6.type ((cs.drop f6.offset).take (P.cellsOf f6.type)) = some y6 := by
  obtain ⟨xs, n, hn, _, hl, hlen, hf⟩ := DataW.trod_struct ht h
  match xs, hlen with
  | [y0, y1, y2, y3, y4, y5, y6], _ => exact ⟨y0, y1, y2, y3, y4, y5, y6, n, hn, hl, by simpa using hf 0 f0 rfl, by simpa using hf 1 f1 rfl, by simpa using hf 2 f2 rfl, by simpa using hf 3 f3 rfl, by simpa using hf 4 f4 rfl, by simpa using hf 5 f5 rfl, by simpa using hf 6 f6 rfl⟩

theorem open_nums {H : Type} {enc : TypeId × Value → H} {w : World} {fuel : Nat} {v : Value} {x : DataW H × List MemPlace} (h : DataW.trod enc Tryd.prog w 0 (fun _ => true) true fuel 74 [v] = some x) :
    ∃ a len cap xs, v = .slice a len cap ∧ RI 0 w.heap.size w a len cap xs :=
  open_list 0 (fun v z => v = .int .i64 z) Tryd.underlying74 (by kernel_rfl) (fun _ v _ h => by obtain ⟨b, hb, _, _⟩ := DataW.trod_int Tryd.underlying3 h; exact ⟨b, by simpa using hb⟩) h

theorem open_words {H : Type} {enc : TypeId × Value → H} {w : World} {fuel : Nat} {v : Value} {x : DataW H × List MemPlace} (h : DataW.trod enc Tryd.prog w 0 (fun _ => true) true fuel 42 [v] = some x) :
    ∃ a len cap xs, v = .slice a len cap ∧ RSS 0 w.heap.size w a len cap xs :=
  open_list [] (SlB 0 w.heap.size w) Tryd.underlying42 (by kernel_rfl) (fun _ v _ h => by obtain ⟨a, n, c, zs, hv, hr⟩ := open_bytes h; exact ⟨zs, a, n, c, hv, hr⟩) h

end Go.Proofs.YtpedjcabapldgaaDoor
