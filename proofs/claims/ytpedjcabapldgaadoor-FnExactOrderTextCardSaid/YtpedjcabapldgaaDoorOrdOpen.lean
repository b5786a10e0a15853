/- An order that comes in, opened: what it reads as. -/
import Derived.Test.YtpedjcabapldgaaDoorOrdMem
import Derived.Test.YtpedjcabapldgaaDoorWdOpen
namespace Go.Proofs.YtpedjcabapldgaaDoor
open Go.RowKit Go.Deep Go.ChangeShapes Go.WideShapes

set_option maxRecDepth 100000 in
theorem open_edge {H : Type} {enc : TypeId × Value → H} {w : World} {fuel : Nat} {cs : List Value} {y : DataW H × List MemPlace} (h : DataW.trod enc Tryd.prog w 0 (fun _ => true) true fuel 56 cs = some y) :
    ∃ p n, cs = [.int .i64 p, .int .i64 n] := by
  have c2 : Tryd.prog.cellsOf 56 = 2 := by kernel_rfl
  have ci : Tryd.prog.cellsOf 3 = 1 := by kernel_rfl
  obtain ⟨y0, y1, m, _, hl, t0, t1⟩ := trod_struct2 Tryd.underlying56 h
  rw [c2] at hl
  match cs, hl with
  | [a0, a1], _ =>
    simp only [ci, List.drop_zero, List.drop_succ_cons, List.take_succ_cons, List.take_zero] at t0 t1
    obtain ⟨p, hp, _, _⟩ := DataW.trod_int Tryd.underlying3 t0
    obtain ⟨n, hn, _, _⟩ := DataW.trod_int Tryd.underlying3 t1
    simp only [List.cons.injEq, and_true] at hp hn
    exact ⟨p, n, by rw [hp, hn]⟩

set_option maxRecDepth 100000 in
theorem open_edges {H : Type} {enc : TypeId × Value → H} {w : World} {fuel : Nat} {v : Value} {x : DataW H × List MemPlace} (h : DataW.trod enc Tryd.prog w 0 (fun _ => true) true fuel 23 [v] = some x) :
    ∃ a len cap xs, v = .slice a len cap ∧ RP 0 w.heap.size w a len cap xs := by
  have c2 : Tryd.prog.cellsOf 56 = 2 := by kernel_rfl
  rcases open_slice Tryd.underlying23 h with ⟨hcs, _⟩ | ⟨ad, len, cap, m, n, D, Pl, hcs, _, hl, hm, hmm, _, hx⟩
  · simp at hcs
    exact ⟨none, 0, 0, [], hcs, ⟨rfl, by omega, .inl rfl⟩⟩
  · simp at hcs
    simp only [if_true] at hmm
    subst hmm
    rw [c2] at hx
    have key : ∀ i, i < len → ∃ t : Int × Int, w.cell? (ad.add (i * 2)) = some (.int .i64 t.1) ∧ w.cell? ((ad.add (i * 2)).add 1) = some (.int .i64 t.2) := by
      intro i hi
      obtain ⟨cs, h1, h2⟩ := hx i (by omega)
      obtain ⟨_, hlen, hcell⟩ := World.cells?_some h1
      obtain ⟨p, q, hc⟩ := open_edge h2
      subst hc
      have e0 := hcell 0 (by omega)
      have e1 := hcell 1 (by omega)
      rw [show (ad.add (i * 2)).add 0 = ad.add (i * 2) from by simp [Addr.add]] at e0
      exact ⟨(p, q), e0, e1⟩
    obtain ⟨T, hT⟩ := choose_lt key
    refine ⟨some ad, len, m, (List.range len).map T, hcs, ⟨by simp, ⟨hl, by unfold maxLen at hm; exact hm⟩, ?_⟩⟩
    by_cases h0 : len = 0
    · exact .inl h0
    · obtain ⟨b, off, spot⟩ := ad
      obtain ⟨q0, _⟩ := hT 0 (by omega)
      have hspot : spot = none := by simpa [Addr.add] using World.cell?_spot q0
      subst hspot
      have hblk : b < w.heap.size := by simpa [Addr.add] using block_lt_of_cell q0
      refine .inr ⟨b, off, rfl, Nat.zero_le _, hblk, fun i hi => ?_⟩
      obtain ⟨e0, e1⟩ := hT i hi
      have eT : ((List.range len).map T).getD i (0, 0) = T i := by simp [List.getD, hi]
      rw [eT]
      simp only [Addr.add_lit] at e0 e1
      exact ⟨e0, e1⟩

theorem open_classes {H : Type} {enc : TypeId × Value → H} {w : World} {fuel : Nat} {v : Value} {x : DataW H × List MemPlace} (h : DataW.trod enc Tryd.prog w 0 (fun _ => true) true fuel 22 [v] = some x) :
    ∃ a len cap xs, v = .slice a len cap ∧ RSSS 0 w.heap.size w a len cap xs :=
  open_list [] (SlSS 0 w.heap.size w) Tryd.underlying22 (by kernel_rfl) (fun _ v _ h => by obtain ⟨a, n, c, zs, hv, hr⟩ := open_words h; exact ⟨zs, a, n, c, hv, hr⟩) h

theorem open_order {H : Type} {enc : TypeId × Value → H} {w : World} {fuel : Nat} {cs : List Value} {y : DataW H × List MemPlace} (h : DataW.trod enc Tryd.prog w 0 (fun _ => true) true fuel 25 cs = some y) :
    ∃ ca cn cc ea en ec kx x, cs = [.slice ca cn cc, .slice ea en ec, .int .i64 kx] ∧ OD.code x = kx ∧ RdO 0 w.heap.size w ca cn cc ea en ec x := by
  have c3 : Tryd.prog.cellsOf 25 = 3 := by kernel_rfl
  have ci : Tryd.prog.cellsOf 3 = 1 := by kernel_rfl
  have cb : Tryd.prog.cellsOf 22 = 1 := by kernel_rfl
  have ce : Tryd.prog.cellsOf 23 = 1 := by kernel_rfl
  obtain ⟨xs, n, hn, _, hl, hlen, hf⟩ := DataW.trod_struct Tryd.underlying25 h
  rw [c3] at hl
  match xs, hlen, cs, hl with
  | [y0, y1, y2], _, [a0, a1, a2], _ =>
    have t0 := hf 0 _ rfl
    have t1 := hf 1 _ rfl
    have t2 := hf 2 _ rfl
    obtain ⟨ca, cn, cc, x1, e1, r1⟩ := open_classes (by simpa [cb] using t0)
    obtain ⟨ea, en, ec, x2, e2, r2⟩ := open_edges (by simpa [ce] using t1)
    obtain ⟨k, hk, _, _⟩ := DataW.trod_int Tryd.underlying3 (by simpa [ci] using t2)
    simp only [List.cons.injEq, and_true] at hk
    subst hk e1 e2
    exact ⟨ca, cn, cc, ea, en, ec, k, ⟨x1, x2, k⟩, rfl, rfl, ⟨r1, r2⟩⟩

end Go.Proofs.YtpedjcabapldgaaDoor
