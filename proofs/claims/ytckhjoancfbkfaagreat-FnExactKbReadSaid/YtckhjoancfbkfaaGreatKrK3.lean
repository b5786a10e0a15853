/- An answer's leaves: where the laws' marks go, each once, all in blocks of the call's own. -/
import Derived.Test.YtckhjoancfbkfaaGreatKrK
namespace Go.Proofs.YtckhjoancfbkfaaGreat
open Go.RowKit
set_option linter.unusedVariables false

theorem OwB.leafX {w : World} {a : Option Addr} {n cap : Nat} {zs : List Int} {b off : Nat} (h : OwB w a n cap zs b off) : ∀ x ∈ leafB b off n, ∃ m, w.cell? x.1 = some (.int x.2 m) := by
  intro x hx
  obtain ⟨j, hj, rfl⟩ := mem_leafB.1 hx
  rcases h.cells with h0 | ⟨_, hc⟩
  · omega
  · exact ⟨_, hc j hj⟩
theorem OwS.leafX {w : World} {v : Value} {zs : List Int} {L : List (Addr × IntKind)} (h : OwS w v zs L) : ∀ x ∈ L, ∃ m, w.cell? x.1 = some (.int x.2 m) := by
  obtain ⟨a, c, b, _, h2, rfl⟩ := h
  exact h2.leafX
theorem OwS.bulkX {w : World} {v : Value} {zs : List Int} {L : List (Addr × IntKind)} (h : OwS w v zs L) : L.length = zs.length := by
  obtain ⟨a, c, b, _, h2, rfl⟩ := h
  rw [leafB_length]
theorem OwS.lvX {w : World} {v : Value} {zs : List Int} {L : List (Addr × IntKind)} {p : Addr} (h : OwS w v zs L) (hc : w.cell? p = some v) : BsL w p L := by
  obtain ⟨a, c, b, h1, h2, rfl⟩ := h
  refine ⟨a, zs.length, c, b, 0, by rw [hc, h1], ?_, rfl⟩
  rcases h2.cells with h0 | ⟨h0, _⟩
  · exact .inl h0
  · exact .inr h0

theorem SeB.get {w : World} {g o : Nat} {k : Int} {V : XV} {x : AX} {M : Nat → List (Addr × IntKind)} (hpa : PaX w 6 V x M) (hc : ∀ j, j < 13 → ∀ u, (V.arr k)[j]? = some u → w.cell? ⟨g, o + j, none⟩ = some u) :
    ∃ S : Nat → List (Addr × IntKind), LvX w 5 g o S ∧ leafX g o S = [(⟨g, o, none⟩, .i64), (⟨g, o + 1, none⟩, .i64)] ++ (M 0 ++ ([(⟨g, o + 5, none⟩, .i64)] ++ (M 1 ++ (M 2 ++ (M 3 ++ (M 4 ++ M 5)))))) := by
  obtain ⟨na, nn, nc, ra, rn, rc, ka, kn, kc, bn, on, br, or, bk, ok, Ls, e1, e2, e3, h1, h2, h3, h4⟩ := hpa.c.lv
  obtain ⟨na', nn', nc', ra', rn', rc', ka', kn', kc', bn', on', br', or', bk', ok', Ls', e1', e2', e3', h1', h2', h3', h4'⟩ := hpa.d.lv
  refine ⟨fun q => if q = 0 then leafB bn on nn else if q = 1 then leafB br or rn else if q = 2 then leafK bk ok Ls kn else if q = 3 then leafB bn' on' nn' else if q = 4 then leafB br' or' rn' else if q = 5 then leafK bk' ok' Ls' kn' else if q = 6 then M 2 else if q = 7 then M 3 else if q = 8 then M 4 else M 5, ⟨?_, ?_, ?_, ?_, ?_, ?_, ?_, ?_, ?_, ?_⟩, ?_⟩
  · exact ⟨na, nn, nc, bn, on, by rw [hc 2 (by omega) V.c1 rfl, e1], h1, rfl⟩
  · exact ⟨ra, rn, rc, br, or, by rw [hc 3 (by omega) V.c2 rfl, e2], h2, rfl⟩
  · exact ⟨ka, kn, kc, bk, ok, Ls, by rw [hc 4 (by omega) V.c3 rfl, e3], h3, rfl⟩
  · exact ⟨na', nn', nc', bn', on', by rw [hc 6 (by omega) V.d1 rfl, e1'], h1', rfl⟩
  · exact ⟨ra', rn', rc', br', or', by rw [hc 7 (by omega) V.d2 rfl, e2'], h2', rfl⟩
  · exact ⟨ka', kn', kc', bk', ok', Ls', by rw [hc 8 (by omega) V.d3 rfl, e3'], h3', rfl⟩
  · exact hpa.r.lvX (hc 9 (by omega) V.r rfl)
  · exact hpa.s.lvX (hc 10 (by omega) V.s rfl)
  · exact hpa.a.lvX (hc 11 (by omega) V.a rfl)
  · exact hpa.b.lvX (hc 12 (by omega) V.b rfl)
  · unfold leafX
    simp only [if_true, reduceIte, Nat.reduceEqDiff]
    rw [h4, h4']
    simp only [List.append_assoc]

/-- Where the marks go. -/
structure LvKb (base : Nat) (w : World) (a : Option Addr) (n b : Nat) (SS : Nat → Nat → List (Addr × IntKind)) : Prop where
  lv : LvXs w 5 a n b 0 SS
  ok : LeafOk w (leafXs b 0 SS n)
  nd : ((leafXs b 0 SS n).map (·.1)).Nodup
  bl : ∀ x ∈ leafXs b 0 SS n, base ≤ x.1.block ∧ x.1.block < w.heap.size
  len : (leafXs b 0 SS n).length ≤ n * 10503

theorem OwnKb.lv {base : Nat} {w : World} {v : Value} {vs : List Value} {xs : List AX} {Vs : Nat → XV} {LL : Nat → Nat → List (Addr × IntKind)} (h : OwnKb base w v vs xs Vs LL) (hb : ∀ x ∈ xs, x.bulkR ≤ 10500) :
    ∃ a cap b SS, v = .slice a xs.length cap ∧ LvKb base w a xs.length b SS := by
  have hrow := h.ow.row
  rcases hrow.2 with ⟨e1, e2⟩ | ⟨g, cap, cur, e1, hg, hh, hc1, hc2, _⟩
  · refine ⟨_, 0, 0, fun _ _ => [], by rw [e1, e2], ?_⟩
    rw [e2]
    exact ⟨.inl rfl, fun x hx => by simp [leafXs] at hx, by simp [leafXs], fun x hx => by simp [leafXs] at hx, by simp [leafXs]⟩
  · have cell : ∀ i, i < xs.length → ∀ j, j < 13 → ∀ u, ((Vs i).arr (xs.getD i AX.zero).kind)[j]? = some u → w.cell? ⟨g, 0 + i * 13 + j, none⟩ = some u := by
      intro i hi j hj u hu
      rw [← hu, ← h.ow.at' i hi j hj, Nat.zero_add]
      subst e1
      exact hrow.cellAt (i * 13 + j) (by omega)
    have hex : ∀ i, ∃ S : Nat → List (Addr × IntKind), i < xs.length → LvX w 5 g (0 + i * 13) S ∧ leafX g (0 + i * 13) S = [(⟨g, 0 + i * 13, none⟩, .i64), (⟨g, 0 + i * 13 + 1, none⟩, .i64)] ++ (LL i 0 ++ ([(⟨g, 0 + i * 13 + 5, none⟩, .i64)] ++ (LL i 1 ++ (LL i 2 ++ (LL i 3 ++ (LL i 4 ++ LL i 5)))))) := by
      intro i
      by_cases hi : i < xs.length
      · obtain ⟨S, h1, h2⟩ := SeB.get (h.ow.pa i hi) (cell i hi)
        exact ⟨S, fun _ => ⟨h1, h2⟩⟩
      · exact ⟨fun _ => [], fun h => absurd h hi⟩
    obtain ⟨SS, hSS⟩ : ∃ SS : Nat → Nat → List (Addr × IntKind), ∀ i, i < xs.length → LvX w 5 g (0 + i * 13) (SS i) ∧ leafX g (0 + i * 13) (SS i) = [(⟨g, 0 + i * 13, none⟩, .i64), (⟨g, 0 + i * 13 + 1, none⟩, .i64)] ++ (LL i 0 ++ ([(⟨g, 0 + i * 13 + 5, none⟩, .i64)] ++ (LL i 1 ++ (LL i 2 ++ (LL i 3 ++ (LL i 4 ++ LL i 5)))))) := ⟨fun i => (hex i).choose, fun i hi => (hex i).choose_spec hi⟩
    have hmemX : ∀ i, i < xs.length → ∀ x ∈ leafX g (0 + i * 13) (SS i), (∃ c, (c = 0 ∨ c = 1 ∨ c = 5) ∧ x = (⟨g, 0 + i * 13 + c, none⟩, .i64)) ∨ ∃ p, x ∈ LL i p := by
      intro i hi x hx
      rw [(hSS i hi).2] at hx
      simp only [List.mem_append, List.mem_cons, List.not_mem_nil, or_false] at hx
      rcases hx with (rfl | rfl) | hx | rfl | hx | hx | hx | hx | hx
      · exact .inl ⟨0, by omega, rfl⟩
      · exact .inl ⟨1, by omega, rfl⟩
      · exact .inr ⟨0, hx⟩
      · exact .inl ⟨5, by omega, rfl⟩
      · exact .inr ⟨1, hx⟩
      · exact .inr ⟨2, hx⟩
      · exact .inr ⟨3, hx⟩
      · exact .inr ⟨4, hx⟩
      · exact .inr ⟨5, hx⟩
    have hmem : ∀ n, n ≤ xs.length → ∀ x ∈ leafXs g 0 SS n, ∃ i, i < n ∧ x ∈ leafX g (0 + i * 13) (SS i) := by
      intro n
      induction n with
      | zero => intro _ x hx; simp [leafXs] at hx
      | succ n ih =>
        intro hn x hx
        rw [leafXs, List.mem_append] at hx
        rcases hx with hx | hx
        · obtain ⟨i, h1, h2⟩ := ih (by omega) x hx
          exact ⟨i, by omega, h2⟩
        · exact ⟨n, by omega, hx⟩
    have hfz : ∀ o, w.frozen? ⟨g, o, none⟩ = false := fun o => by simp [World.frozen?, hh]
    have hoff : ∀ i p, ∀ x ∈ LL i p, x.1.block ≠ g := fun i p x hx e => h.off i p x hx (by rw [e1]; simp [Value.ownBlock, e])
    have hcl : ∀ i, i < xs.length → ∀ c, (c = 0 ∨ c = 1 ∨ c = 5) → ∃ m, w.cell? ⟨g, 0 + i * 13 + c, none⟩ = some (.int .i64 m) := by
      intro i hi c hc
      obtain ⟨_, _, _, _, _, _, _, _, _, ec⟩ := (h.ow.pa i hi).c.agg
      obtain ⟨_, _, _, _, _, _, _, _, _, ed⟩ := (h.ow.pa i hi).d.agg
      simp only [Value.agg.injEq, Array.mk.injEq, List.cons.injEq, and_true] at ec ed
      rcases hc with rfl | rfl | rfl
      · exact ⟨_, cell i hi 0 (by omega) _ rfl⟩
      · exact ⟨_, by rw [cell i hi 1 (by omega) (Vs i).c0 rfl, ec.1]⟩
      · exact ⟨_, by rw [cell i hi 5 (by omega) (Vs i).d0 rfl, ed.1]⟩
    have hLL : ∀ i, i < xs.length → ∀ p, p < 6 → ∀ x ∈ LL i p, ∃ m, w.cell? x.1 = some (.int x.2 m) := by
      intro i hi p hp x hx
      have hpa := h.ow.pa i hi
      match p, hp with
      | 0, _ => exact hpa.c.leaf x hx
      | 1, _ => exact hpa.d.leaf x hx
      | 2, _ => exact hpa.r.leafX x hx
      | 3, _ => exact hpa.s.leafX x hx
      | 4, _ => exact hpa.a.leafX x hx
      | 5, _ => exact hpa.b.leafX x hx
    have hmemP : ∀ i, i < xs.length → ∀ x ∈ leafX g (0 + i * 13) (SS i), (∃ c, (c = 0 ∨ c = 1 ∨ c = 5) ∧ x = (⟨g, 0 + i * 13 + c, none⟩, .i64)) ∨ ∃ p, p < 6 ∧ x ∈ LL i p := by
      intro i hi x hx
      rw [(hSS i hi).2] at hx
      simp only [List.mem_append, List.mem_cons, List.not_mem_nil, or_false] at hx
      rcases hx with (rfl | rfl) | hx | rfl | hx | hx | hx | hx | hx
      · exact .inl ⟨0, by omega, rfl⟩
      · exact .inl ⟨1, by omega, rfl⟩
      · exact .inr ⟨0, by omega, hx⟩
      · exact .inl ⟨5, by omega, rfl⟩
      · exact .inr ⟨1, by omega, hx⟩
      · exact .inr ⟨2, by omega, hx⟩
      · exact .inr ⟨3, by omega, hx⟩
      · exact .inr ⟨4, by omega, hx⟩
      · exact .inr ⟨5, by omega, hx⟩
    refine ⟨_, cap, g, SS, e1, ⟨.inr ⟨rfl, fun i hi => (hSS i hi).1⟩, fun x hx => ?_, ?_, fun x hx => ?_, ?_⟩⟩
    · obtain ⟨i, hi, hx⟩ := hmem _ (Nat.le_refl _) x hx
      rcases hmemP i hi x hx with ⟨c, hc, rfl⟩ | ⟨p, hp, hx⟩
      · exact ⟨hcl i hi c hc, hfz _⟩
      · exact ⟨hLL i hi p hp x hx, h.fr i p x hx⟩
    · have key : ∀ n, n ≤ xs.length → ((leafXs g 0 SS n).map (·.1)).Nodup := by
        intro n
        induction n with
        | zero => intro _; simp [leafXs]
        | succ n ih =>
          intro hn
          rw [leafXs, List.map_append, List.nodup_append]
          refine ⟨ih (by omega), ?_, fun p hp q hq e => ?_⟩
          · rw [(hSS n hn).2]
            have dj : ∀ p q, p ≠ q → ∀ a ∈ (LL n p).map (·.1), ∀ b ∈ (LL n q).map (·.1), a ≠ b := by
              intro p q hpq a ha b hb e
              simp only [List.mem_map] at ha hb
              obtain ⟨x, hx, rfl⟩ := ha
              obtain ⟨y, hy, rfl⟩ := hb
              exact h.dj n p n q (.inr hpq) x hx y hy (by rw [e])
            have ndr : ∀ c p, ∀ b ∈ (LL n p).map (·.1), (⟨g, 0 + n * 13 + c, none⟩ : Addr) ≠ b := by
              intro c p b hb e
              simp only [List.mem_map] at hb
              obtain ⟨y, hy, rfl⟩ := hb
              exact hoff n p y hy (by rw [← e])
            simp only [List.map_append, List.map_cons, List.map_nil]
            simp only [List.nodup_append, List.mem_append, List.mem_cons, List.not_mem_nil, or_false]
            refine ⟨by simp, ⟨h.nd n 0, ⟨by simp, ⟨h.nd n 1, ⟨h.nd n 2, ⟨h.nd n 3, ⟨h.nd n 4, h.nd n 5, dj 4 5 (by omega)⟩, ?_⟩, ?_⟩, ?_⟩, ?_⟩, ?_⟩, ?_⟩
            · rintro a ha b (hb | hb)
              · exact dj 3 4 (by omega) a ha b hb
              · exact dj 3 5 (by omega) a ha b hb
            · rintro a ha b (hb | hb | hb)
              · exact dj 2 3 (by omega) a ha b hb
              · exact dj 2 4 (by omega) a ha b hb
              · exact dj 2 5 (by omega) a ha b hb
            · rintro a ha b (hb | hb | hb | hb)
              · exact dj 1 2 (by omega) a ha b hb
              · exact dj 1 3 (by omega) a ha b hb
              · exact dj 1 4 (by omega) a ha b hb
              · exact dj 1 5 (by omega) a ha b hb
            · rintro a rfl b (hb | hb | hb | hb | hb)
              · exact ndr 5 1 b hb
              · exact ndr 5 2 b hb
              · exact ndr 5 3 b hb
              · exact ndr 5 4 b hb
              · exact ndr 5 5 b hb
            · rintro a ha b (rfl | hb | hb | hb | hb | hb)
              · exact fun e => ndr 5 0 a ha e.symm
              · exact dj 0 1 (by omega) a ha b hb
              · exact dj 0 2 (by omega) a ha b hb
              · exact dj 0 3 (by omega) a ha b hb
              · exact dj 0 4 (by omega) a ha b hb
              · exact dj 0 5 (by omega) a ha b hb
            · rintro a (rfl | rfl) b (hb | rfl | hb | hb | hb | hb | hb)
              · exact ndr 0 0 b hb
              · simp
              · exact ndr 0 1 b hb
              · exact ndr 0 2 b hb
              · exact ndr 0 3 b hb
              · exact ndr 0 4 b hb
              · exact ndr 0 5 b hb
              · exact ndr 1 0 b hb
              · simp
              · exact ndr 1 1 b hb
              · exact ndr 1 2 b hb
              · exact ndr 1 3 b hb
              · exact ndr 1 4 b hb
              · exact ndr 1 5 b hb
          · subst e
            simp only [List.mem_map] at hp hq
            obtain ⟨x, hx, rfl⟩ := hp
            obtain ⟨y, hy, e⟩ := hq
            obtain ⟨i, hi, hx⟩ := hmem n (by omega) x hx
            rcases hmemP i (by omega) x hx with ⟨c, hc, rfl⟩ | ⟨p, hp, hx⟩ <;> rcases hmemP n hn y hy with ⟨c', hc', rfl⟩ | ⟨p', hp', hy⟩
            · simp only [Addr.mk.injEq, and_true, true_and] at e
              omega
            · exact hoff n p' y hy (by rw [e])
            · exact hoff i p x hx (by rw [← e])
            · exact h.dj i p n p' (.inl (by omega)) x hx y hy (by rw [e])
      exact key _ (Nat.le_refl _)
    · obtain ⟨i, hi, hx⟩ := hmem _ (Nat.le_refl _) x hx
      rcases hmemP i hi x hx with ⟨c, hc, rfl⟩ | ⟨p, hp, hx⟩
      · exact ⟨hg, (Array.getElem?_eq_some_iff.1 hh).1⟩
      · exact h.bl i p x hx
    · have key : ∀ n, n ≤ xs.length → (leafXs g 0 SS n).length ≤ n * 10503 := by
        intro n
        induction n with
        | zero => intro _; simp [leafXs]
        | succ n ih =>
          intro hn
          have hpa := h.ow.pa n hn
          have hxm : xs.getD n AX.zero ∈ xs := by simp [List.getD, show n < xs.length from hn]
          have hbk := hb _ hxm
          unfold AX.bulkR at hbk
          rw [leafXs, (hSS n hn).2]
          simp only [List.length_append, List.length_cons, List.length_nil]
          have := ih (by omega)
          rw [hpa.c.bulk, hpa.d.bulk, hpa.r.bulkX, hpa.s.bulkX, hpa.a.bulkX, hpa.b.bulkX]
          omega
      exact key _ (Nat.le_refl _)

end Go.Proofs.YtckhjoancfbkfaaGreat
