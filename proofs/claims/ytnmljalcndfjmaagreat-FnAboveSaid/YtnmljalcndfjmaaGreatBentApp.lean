/- A kid more: append onto y's kids, in place or not. -/
import Derived.Test.YtnmljalcndfjmaaGreatNG16
import Derived.Laws.OwnMore
namespace Go.Proofs.YtnmljalcndfjmaaGreat
open Go.RowKit

/-- append, and what it leaves as it was where it makes a new block. -/
theorem run_append_keep {P : Program} (w : World) (t ty : TypeId) (base : Nat) (e : TypeId) (i : TypeInfo) (z : Value) (size bytes : Nat) (ht : P.underlying t = some (.slice e)) (hi : P.info? e = some i) (hz : i.zero = some z)
    (hsize : i.size = size) (hby : i.bytes = bytes) (hzs : z.cells.size = size) (hsz : 0 < size)
    (v : Value) (n : Nat) (xs : List Value) (hown : w.ownsRow base e size v n xs)
    (ad : Addr) (m c : Nat) (news : List Value) (hl : news.length = m * size) (hnews : ∀ j u, news[j]? = some u → w.cell? (ad.add j) = some u) (h1 : ∀ u ∈ news, u.oneCell' = true)
    (hm : 0 < m) (h63 : n + m ≤ maxLen) (hbytes : (n + m) * bytes ≤ 140737488355328) (hbase : base ≤ w.heap.size) :
    ∃ g cap w', (Builtin.append_ #[t, t] ty #[v, .slice (some ad) m c]).run P w = .ok (.slice (some ⟨g, 0, none⟩) (n + m) cap) w' ∧
      w'.ownsRow base e size (.slice (some ⟨g, 0, none⟩) (n + m) cap) (n + m) (xs ++ news) ∧ w.grownBy w' v.ownBlock ∧ (v.ownBlock = some g ∨ (g = w.heap.size ∧ ∀ k, k < w.heap.size → w'.heap[k]? = w.heap[k]?)) ∧ g < w'.heap.size := by
  obtain ⟨g, cap, w', hr, h2, h3, h4, h5⟩ := run_append_lies (P := P) w t ty base e i z size bytes ht hi hz hsize hby hzs hsz v n xs hown ad m c news hl hnews h1 hm h63 hbytes hbase _ rfl
  refine ⟨g, cap, w', hr, h2, h3, ?_, h5⟩
  rcases h4 with h4 | h4
  · exact .inl h4
  · refine .inr ⟨h4, fun k hk => ?_⟩
    rcases hown.2 with ⟨rfl, _⟩ | ⟨g0, cap0, cur, rfl, hb0, hg0, hnc, hcm, hcs, ht0⟩
    · exact h3.block k hk (by simp [Value.ownBlock])
    · have hlt : g0 < w.heap.size := (Array.getElem?_eq_some_iff.1 hg0).1
      subst hsize
      subst hby
      by_cases hroom : n + m ≤ cap0
      · have hfit : n * i.size + news.length ≤ cur.size := by rw [hl, hcs, ← Nat.add_mul]; exact Nat.mul_le_mul_right _ hroom
        rw [run_append_room (P := P) w t ty e i ht hi g0 n cap0 cur hg0 ad m c news hl hnews h1 hroom hfit] at hr
        simp only [Result.ok.injEq, Value.slice.injEq, Option.some.injEq, Addr.mk.injEq, and_true] at hr
        omega
      · rw [run_append_grow (P := P) w t ty e i z ht hi hz ⟨g0, 0, none⟩ n cap0 xs hown.1 (hown.cells (g := g0) rfl) ad m c news hl hnews (by omega) (by unfold maxLen at h63; omega) (growslice_fits (by omega) hbytes)] at hr
        simp only [Result.ok.injEq] at hr
        rw [← hr.2]
        exact heap_alloc_old w.drew _ hk

theorem step_append_keep {P : Program} {w : World} {ops : Array Oper} {o : Oper} {a : Act} {K : Act → World → Prop} {Q : Exit → Act → World → Prop} {E : Prop} (hgd : o.guard = none) (s x : Operand) (t : TypeId)
    (ho : o.op = .call { callee := .builtin .append, args := #[s, x], argTypes := #[t, t] })
    (base : Nat) (e : TypeId) (i : TypeInfo) (z : Value) (size bytes : Nat) (ht : P.underlying t = some (.slice e)) (hi : P.info? e = some i) (hz : i.zero = some z)
    (hsize : i.size = size) (hby : i.bytes = bytes) (hzs : z.cells.size = size) (hsz : 0 < size)
    (v : Value) (n : Nat) (xs : List Value) (hs : a.eval s = v) (hown : w.ownsRow base e size v n xs)
    (ad : Addr) (m c : Nat) (news : List Value) (hx : a.eval x = .slice (some ad) m c) (hl : news.length = m * size) (hnews : ∀ j u, news[j]? = some u → w.cell? (ad.add j) = some u) (h1 : ∀ u ∈ news, u.oneCell' = true)
    (hm : 0 < m) (h63 : n + m ≤ maxLen) (hbytes : (n + m) * bytes ≤ 140737488355328) (hbase : base ≤ w.heap.size)
    (h : ∀ g cap w', w'.ownsRow base e size (.slice (some ⟨g, 0, none⟩) (n + m) cap) (n + m) (xs ++ news) → w.grownBy w' v.ownBlock → (v.ownBlock = some g ∨ (g = w.heap.size ∧ ∀ k, k < w.heap.size → w'.heap[k]? = w.heap[k]?)) → g < w'.heap.size → K (a.put o.dst (.slice (some ⟨g, 0, none⟩) (n + m) cap)) w') :
    if Region.wanted o (yielded ops a.tmps) = true then Oper.wp P o a w K Q else E := by
  have hw : Region.wanted o (yielded ops a.tmps) = true := by simp [Region.wanted, hgd]
  rw [if_pos hw]
  obtain ⟨g, cap, w', hr, h2, h3, h4, h5⟩ := run_append_keep (P := P) w t o.type base e i z size bytes ht hi hz hsize hby hzs hsz v n xs hown ad m c news hl hnews h1 hm h63 hbytes hbase
  unfold Oper.wp execOp
  simp only [ho, resolve, invoke, builtin, Sem.run_bind, Sem.run_pure, Result.andThen_ok, List.map_toArray, List.map_cons, List.map_nil, hs, hx, hr]
  exact h g cap w' h2 h3 h4 h5

theorem setCell_self {w : World} {b o : Nat} {v : Value} (h : w.cell? ⟨b, o, none⟩ = some v) : w.setCell ⟨b, o, none⟩ v = w := by
  have hh : (w.setCell ⟨b, o, none⟩ v).heap = w.heap := by
    apply Array.ext_getElem?
    intro i
    by_cases hi : i = b
    · subst hi
      unfold World.cell? at h
      split at h
      · rename_i cs t fr hc
        have hc' : w.heap[i]? = some (.cells cs t fr) := hc
        simp only [World.setCell, Array.getElem?_modify, if_pos, hc', Option.map_some]
        simp at h
        simp
        apply Array.ext_getElem?
        intro j
        rw [Array.getElem?_setIfInBounds]
        split
        · rename_i e; subst e; rw [h]; have := (Array.getElem?_eq_some_iff.1 h).1; simp [this]
        · rfl
      · simp at h
    · exact Below.heap_setCell _ _ _ _ (by show i ≠ b; exact hi)
  exact congrArg (fun q => { w with heap := q }) hh

def zero4 : List Value := [.int .i64 0, .slice none 0 0, .slice none 0 0, .slice none 0 0]

/-- The kids of y with one more. -/
theorem put_kids {lo : Nat} {w w2 : World} {X D b o e : Nat} {c c' : CN} {L L' : List (Addr × IntKind)} (h : Bent w X D c L b o (e + 1) c' L') (hX : X < w.heap.size) (hlo : lo ≤ w.heap.size) (hL : ∀ x ∈ L, lo ≤ x.1.block ∧ x.1.block < w.heap.size) {ka : Option Addr} {kn kc : Nat} (h3 : w.cell? ⟨b, o + 3, none⟩ = some (.slice ka kn kc))
    {n : Nat} {xs : List Value} (hown : w.ownsRow 0 30 4 (.slice ka kn kc) n xs) (hob : ∀ g, (Value.slice ka kn kc).ownBlock = some g → ((⟨g, 0, none⟩, .i64) : Addr × IntKind) ∈ L ∧ ∀ x ∈ L, x.1.block = g → x.1.off + 4 ≤ n * 4)
    {g cap : Nat} (ho2 : w2.ownsRow 0 30 4 (.slice (some ⟨g, 0, none⟩) (n + 1) cap) (n + 1) (xs ++ zero4)) (hg : w.grownBy w2 (Value.slice ka kn kc).ownBlock) (hat : (Value.slice ka kn kc).ownBlock = some g ∨ (g = w.heap.size ∧ ∀ k, k < w.heap.size → w2.heap[k]? = w.heap[k]?)) (hgl : g < w2.heap.size) :
    ∃ c'', RdS lo w2.heap.size (w2.setCell ⟨b, o + 3, none⟩ (.slice (some ⟨g, 0, none⟩) (n + 1) cap)) (D + (e + 2)) X 0 c'' ∧ c''.bulk ≤ c.bulk + (c'.bulk + 1) := by
  have hb2 : ∀ q, q < w.heap.size → (∀ x ∈ L, x.1.block ≠ q) → w2.heap[q]? = w.heap[q]? := by
    intro q hq hn
    rcases hat with hat | ⟨_, hat⟩
    · exact hg.block q hq (fun e => hn _ (hob q e.symm).1 rfl)
    · exact hat q hq
  have hkn : kn = n := by
    rcases hown.2 with ⟨q, rfl⟩ | ⟨_, _, _, q, _⟩
    · simp only [Value.slice.injEq] at q; exact q.2.1
    · simp only [Value.slice.injEq] at q; exact q.2.1
  subst hkn
  have hxl := hown.1
  have hKL : KcL w w2 L := by
    intro x hx i hi v hv
    rcases hat with hat | ⟨_, hat⟩
    · by_cases hbl : x.1.block = g
      · have hoff := (hob g hat).2 x hx hbl
        have hsl : ∃ cc, ka = some ⟨g, 0, none⟩ ∧ cc = kc := by
          rcases hown.2 with ⟨q, _⟩ | ⟨g', _, _, q, _⟩
          · simp only [Value.slice.injEq] at q; rw [q.1] at hat; simp [Value.ownBlock] at hat
          · simp only [Value.slice.injEq] at q
            rw [q.1] at hat
            simp [Value.ownBlock] at hat
            exact ⟨kc, by rw [q.1, hat], rfl⟩
        obtain ⟨cc, hka, _⟩ := hsl
        subst hka
        rw [hbl] at hv ⊢
        rw [hown.cellAt (x.1.off + i) (by omega)] at hv
        rw [ho2.cellAt (x.1.off + i) (by omega), List.getElem?_append_left (by omega)]
        exact hv
      · rw [← hv]
        exact World.cell?_of_block (hg.block _ (hL x hx).2 (fun e => hbl (by rw [hat] at e; simpa using e)))
    · rw [← hv]
      exact World.cell?_of_block (hat _ (hL x hx).2)
  have hKX : KcS w w2 X 0 := fun i hi v hv => by rw [← hv]; exact World.cell?_of_block (hb2 X hX h.nm)
  have hKb : KcS w w2 b o := by
    rcases h.at_ with e | e
    · subst e
      intro i hi v hv
      rw [← hv]; exact World.cell?_of_block (hb2 _ hX h.nm)
    · exact fun i hi v hv => hKL _ e i hi v hv
  have hbw : b < w.heap.size := by
    rcases h.at_ with e | e
    · rw [e]; exact hX
    · exact (hL _ e).2
  have own2 := h.own.kc hKX hKL
  have path2 := h.path.kc h.own hKX hKL
  have sub2 := h.sub.kc hKb (fun x hx => hKL x (h.sin x hx))
  have hsz : w.heap.size ≤ w2.heap.size := hg.size
  obtain ⟨W, hW⟩ : ∃ W, W = w2.setCell ⟨b, o + 3, none⟩ (.slice (some ⟨g, 0, none⟩) (kn + 1) cap) := ⟨_, rfl⟩
  have hO : OffS w2 W b o := by rw [hW]; exact offS_set w2 b o 3 _ (by omega)
  have hWs : W.heap.size = w2.heap.size := by rw [hW]; simp
  rw [← hW, ← hWs]
  obtain ⟨na, nn, nc, ra, rn, rc, ka', kn', kc', c0, c1, c2, c3, hr⟩ := sub2.old hO h.snm (hi := W.heap.size) (fun x hx => by have := hL x (h.sin x hx); exact ⟨this.1, by omega⟩)
  have hfit : kn + 1 ≤ cap ∧ cap ≤ 9223372036854775807 := by
    rcases ho2.2 with ⟨q, _⟩ | ⟨_, _, _, q, _, _, q1, q2, _⟩
    · simp at q
    · simp only [Value.slice.injEq] at q
      obtain ⟨_, _, rfl⟩ := q
      exact ⟨q1, by unfold maxLen at q2; omega⟩
  -- the cells of the new row
  have hrow : ∀ j, j < (kn + 1) * 4 → (g ≠ b ∨ j ≠ o + 3) → W.cell? ⟨g, j, none⟩ = (xs ++ zero4)[j]? := by
    intro j hj hne
    rw [hW, World.cell?_setCell_other _ _ _ _ (fun e => by simp only [Addr.mk.injEq, and_true] at e; omega)]
    exact ho2.cellAt j hj
  have hgb : g = b → (Value.slice ka kn kc).ownBlock = some g ∧ o + 4 ≤ kn * 4 := by
    intro e
    rcases hat with hat | ⟨hat, _⟩
    · refine ⟨hat, ?_⟩
      rcases h.at_ with e' | e'
      · exact absurd (by show g = X; omega) (h.nm _ (hob g hat).1)
      · exact (hob g hat).2 _ e' e.symm
    · omega
  have hkl : c'.kids.length = kn := by
    obtain ⟨_, n', _, q, q2, _⟩ : ∃ a n k, w.cell? ⟨b, o + 3, none⟩ = some (.slice a n k) ∧ n = c'.kids.length ∧ True := by
      obtain ⟨v0, v1, v2, v3, _, _, _, c3, hr⟩ := h.sub
      obtain ⟨na, nn, nc, ra, rn, rc, ka, kn', kc', bn, on, br, or, bk', ok', Ls, hv, q1, q2, q3, rfl⟩ := hr
      simp only [Value.agg.injEq, Array.mk.injEq, List.cons.injEq, and_true] at hv
      obtain ⟨rfl, rfl, rfl, rfl⟩ := hv
      exact ⟨_, _, _, c3, q3.len.symm, trivial⟩
    rw [h3] at q
    simp only [Option.some.injEq, Value.slice.injEq] at q
    omega
  have hglo : lo ≤ g := by
    rcases hat with hat | ⟨hat, _⟩
    · exact (hL _ (hob g hat).1).1
    · omega
  have hkids : RdL (RdC lo W.heap.size W (e + 1)) lo W.heap.size W (some ⟨g, 0, none⟩) (kn + 1) cap (c'.kids ++ [CN.zero]) := by
    refine ⟨by simp [hkl], hfit, .inr ⟨g, 0, rfl, hglo, by omega, fun i hi => ?_⟩⟩
    by_cases hin : i < kn
    · obtain ⟨v0, v1, v2, v3, d0, d1, d2, d3, hs⟩ := h.sub
      have hsl := slot_of hs d0 d1 d2 d3
      obtain ⟨na, nn, nc, ra, rn, rc, ka1, kn1, kc1, bn, on, br, or, bk, ok, Ls, hv, q1, q2, q3, hLL⟩ := hs
      simp only [Value.agg.injEq, Array.mk.injEq, List.cons.injEq, and_true] at hv
      obtain ⟨rfl, rfl, rfl, rfl⟩ := hv
      rw [h3] at d3
      simp only [Option.some.injEq, Value.slice.injEq] at d3
      obtain ⟨rfl, rfl, rfl⟩ := d3
      rcases q3.cells with q | ⟨rfl, q⟩
      · omega
      · obtain ⟨u0, u1, u2, u3, f0, f1, f2, f3, hs⟩ := q i hin
        have hok : ok = 0 := by
          rcases hown.2 with ⟨q, _⟩ | ⟨_, _, _, q, _⟩
          · simp at q
          · simp only [Value.slice.injEq, Option.some.injEq, Addr.mk.injEq, and_true] at q; exact q.1.2
        subst hok
        have hmem : ((⟨bk, 0 + i * 4, none⟩, .i64) : Addr × IntKind) ∈ L' := by rw [hLL]; simp only [List.mem_append]; exact .inr (.inr (mem_leafK.2 ⟨i, hin, .inl rfl⟩))
        have hsi := slot_of hs f0 f1 f2 f3
        have hcell : ∀ t u, t < 4 → w.cell? ⟨bk, 0 + i * 4 + t, none⟩ = some u → W.cell? ⟨g, 0 + i * 4 + t, none⟩ = some u := by
          intro t u ht hu
          have hxs : xs[0 + i * 4 + t]? = some u := by rw [← hu]; exact (hown.cellAt _ (by omega)).symm
          rw [hrow _ (by omega) ?_, List.getElem?_append_left (by omega)]
          · exact hxs
          · by_cases e : g = b
            · right
              have hb' : bk = b := by have := (hgb e).1; simp [Value.ownBlock] at this; omega
              subst hb'
              have := hsl.apart hsi (fun e => h.snm (List.mem_map.2 ⟨_, hmem, by rw [e]⟩))
              omega
            · exact .inl e
        have hLi : ∀ x ∈ Ls i, x ∈ L' := fun x hx => by rw [hLL]; simp only [List.mem_append]; exact .inr (.inr (mem_leafK.2 ⟨i, hin, .inr hx⟩))
        have hs2 := OwC.off hO sub2.slot (hs.kc (fun x hx => hKL x (h.sin x (hLi x hx)))) (fun x hx e => h.snm (List.mem_map.2 ⟨x, hLi x hx, e⟩))
        refine ⟨u0, u1, u2, u3, hcell 0 u0 (by omega) f0, hcell 1 u1 (by omega) f1, hcell 2 u2 (by omega) f2, hcell 3 u3 (by omega) f3, ?_⟩
        have eg : (c'.kids ++ [CN.zero]).getD i CN.zero = c'.kids.getD i CN.zero := by
          simp only [List.getD]; rw [List.getElem?_append_left (by omega)]
        rw [eg]
        exact (hs2.rd (lo := lo) (hi := W.heap.size) (fun x hx => (by have := hL x (h.sin x (hLi x hx)); exact ⟨this.1, by omega⟩))).higher (by omega)
    · have hi' : i = kn := by omega
      subst hi'
      have hcell : ∀ t u, t < 4 → zero4[t]? = some u → W.cell? ⟨g, 0 + i * 4 + t, none⟩ = some u := by
        intro t u ht hu
        rw [hrow _ (by omega) ?_, List.getElem?_append_right (by omega)]
        · have : 0 + i * 4 + t - xs.length = t := by omega
          rw [this]; exact hu
        · by_cases e : g = b
          · right; have := (hgb e).2; omega
          · exact .inl e
      refine ⟨_, _, _, _, hcell 0 _ (by omega) rfl, hcell 1 _ (by omega) rfl, hcell 2 _ (by omega) rfl, hcell 3 _ (by omega) rfl, ?_⟩
      have eg : (c'.kids ++ [CN.zero]).getD i CN.zero = CN.zero := by
        simp only [List.getD]; rw [List.getElem?_append_right (by omega)]; simp [hkl]
      rw [eg]
      have h0 : Rd lo W.heap.size W none 0 0 [] := ⟨rfl, ⟨by simp, by omega⟩, by simp, .inl rfl⟩
      exact ⟨none, 0, 0, none, 0, 0, none, 0, 0, rfl, h0, h0, ⟨rfl, ⟨by simp, by omega⟩, .inl rfl⟩⟩
  have hR : RdS lo W.heap.size W (e + 2) b o (.mk c'.kind c'.name c'.role (c'.kids ++ [CN.zero])) := by
    refine ⟨_, _, _, _, ?_, ?_, ?_, ?_, (hr.higher (Nat.le_succ _)).setKids hkids⟩
    · rw [hW, World.cell?_setCell_other _ _ _ _ (by simp)]; exact c0
    · rw [hW, World.cell?_setCell_other _ _ _ _ (by simp)]; exact c1
    · rw [hW, World.cell?_setCell_other _ _ _ _ (by simp)]; exact c2
    · rw [hW]; exact World.cell?_setCell_same _ _ _ c3
  obtain ⟨c'', q1, q2⟩ := put_any own2 h.nd h.nm path2 sub2.slot hO (fun x hx => by have := hL x hx; exact ⟨this.1, by omega⟩) hR
  refine ⟨c'', q1, ?_⟩
  have := c'.bulk_eq
  rw [CN.bulk, bulks_append] at q2
  simp only [bulks, CN.zero, CN.bulk, List.length_nil] at q2
  omega

/-- What is where behind the append: the new kid's cells hold what is stored there. -/
theorem kid_facts {lo : Nat} {w w2 : World} {X D b o e : Nat} {c c' : CN} {L L' : List (Addr × IntKind)} (h : Bent w X D c L b o (e + 1) c' L') (hX : X < w.heap.size) (hL : ∀ x ∈ L, lo ≤ x.1.block ∧ x.1.block < w.heap.size) {ka : Option Addr} {kn kc : Nat} (h3 : w.cell? ⟨b, o + 3, none⟩ = some (.slice ka kn kc)) (hf : ∀ i, w.frozen? ⟨b, i, none⟩ = false)
    {n : Nat} {xs : List Value} (hown : w.ownsRow 0 30 4 (.slice ka kn kc) n xs) (hob : ∀ g, (Value.slice ka kn kc).ownBlock = some g → ((⟨g, 0, none⟩, .i64) : Addr × IntKind) ∈ L ∧ ∀ x ∈ L, x.1.block = g → x.1.off + 4 ≤ n * 4)
    {g cap : Nat} (ho2 : w2.ownsRow 0 30 4 (.slice (some ⟨g, 0, none⟩) (n + 1) cap) (n + 1) (xs ++ zero4)) (hg : w.grownBy w2 (Value.slice ka kn kc).ownBlock) (hat : (Value.slice ka kn kc).ownBlock = some g ∨ (g = w.heap.size ∧ ∀ k, k < w.heap.size → w2.heap[k]? = w.heap[k]?)) :
    (w2.cell? ⟨b, o + 3, none⟩ = some (.slice ka kn kc) ∧ w2.frozen? ⟨b, o + 3, none⟩ = false) ∧
    (w2.setCell ⟨g, n * 4, none⟩ (.int .i64 0) = w2 ∧ w2.setCell ⟨g, n * 4 + 1, none⟩ (.slice none 0 0) = w2 ∧ w2.setCell ⟨g, n * 4 + 2, none⟩ (.slice none 0 0) = w2 ∧ w2.setCell ⟨g, n * 4 + 3, none⟩ (.slice none 0 0) = w2) ∧
    (w2.cell? ⟨g, n * 4, none⟩ = some (.int .i64 0) ∧ w2.cell? ⟨g, n * 4 + 1, none⟩ = some (.slice none 0 0) ∧ w2.cell? ⟨g, n * 4 + 2, none⟩ = some (.slice none 0 0) ∧ w2.cell? ⟨g, n * 4 + 3, none⟩ = some (.slice none 0 0)) ∧
    (∀ i, w2.frozen? ⟨g, i, none⟩ = false) ∧ (g ≠ b ∨ o + 3 < n * 4) ∧ (b < w.heap.size) := by
  have hxl := hown.1
  have hbw : b < w.heap.size := by
    rcases h.at_ with e | e
    · rw [e]; exact hX
    · exact (hL _ e).2
  have hgb : g ≠ b ∨ o + 3 < n * 4 := by
    by_cases e : g = b
    · right
      rcases hat with hat | ⟨hat, _⟩
      · rcases h.at_ with e' | e'
        · exact absurd (by show g = X; omega) (h.nm _ (hob g hat).1)
        · have := (hob g hat).2 _ e' e.symm
          simp only at this
          omega
      · omega
    · exact .inl e
  have hq : ∀ t u, t < 4 → zero4[t]? = some u → w2.cell? ⟨g, n * 4 + t, none⟩ = some u := by
    intro t u ht hu
    rw [ho2.cellAt _ (by omega), List.getElem?_append_right (by omega)]
    have : n * 4 + t - xs.length = t := by omega
    rw [this]; exact hu
  have hfz : ∀ i, w2.frozen? ⟨g, i, none⟩ = false := by
    intro i
    rcases ho2.2 with ⟨q, _⟩ | ⟨g', _, cur, q, _, hg', _⟩
    · simp at q
    · simp only [Value.slice.injEq, Option.some.injEq, Addr.mk.injEq, and_true] at q
      obtain ⟨rfl, _⟩ := q
      simp [World.frozen?, hg']
  have hy : w2.cell? ⟨b, o + 3, none⟩ = some (.slice ka kn kc) ∧ w2.frozen? ⟨b, o + 3, none⟩ = false := by
    by_cases e : some b = (Value.slice ka kn kc).ownBlock ∧ w2.heap[b]? ≠ w.heap[b]?
    · have hgb' : (Value.slice ka kn kc).ownBlock = some g := by
        rcases hat with hat | ⟨_, hat⟩
        · exact hat
        · exact absurd (hat b hbw) e.2
      have hbg : g = b := by have := e.1; rw [hgb'] at this; simpa using this.symm
      subst hbg
      refine ⟨?_, hfz _⟩
      have hoff : o + 3 < n * 4 := by
        rcases hgb with q | q
        · exact absurd rfl q
        · exact q
      have hka : ka = some ⟨g, 0, none⟩ ∧ kn = n := by
        rcases hown.2 with ⟨q, _⟩ | ⟨g', _, _, q, _⟩
        · rw [q] at hgb'; simp [Value.ownBlock] at hgb'
        · simp only [Value.slice.injEq] at q
          rw [q.1] at hgb'
          simp [Value.ownBlock] at hgb'
          exact ⟨by rw [q.1, hgb'], q.2.1⟩
      obtain ⟨rfl, rfl⟩ := hka
      rw [ho2.cellAt _ (by omega), List.getElem?_append_left (by omega), ← h3]
      exact (hown.cellAt _ (by omega)).symm
    · have hh : w2.heap[b]? = w.heap[b]? := by
        by_cases e1 : some b = (Value.slice ka kn kc).ownBlock
        · exact Classical.byContradiction (fun q => e ⟨e1, q⟩)
        · exact hg.block b hbw e1
      exact ⟨(World.cell?_of_block (w := w) (by exact hh)).trans h3, (World.frozen?_of_block (w := w) (by exact hh)).trans (hf _)⟩
  have q0 := hq 0 _ (by omega) rfl
  have q1 := hq 1 _ (by omega) rfl
  have q2 := hq 2 _ (by omega) rfl
  have q3 := hq 3 _ (by omega) rfl
  exact ⟨hy, ⟨setCell_self q0, setCell_self q1, setCell_self q2, setCell_self q3⟩, ⟨q0, q1, q2, q3⟩, hfz, hgb, hbw⟩

theorem kid_facts2 {w2 : World} {g b o n : Nat} {v : Value} (hgb : g ≠ b ∨ o + 3 < n * 4) (h : w2.cell? ⟨g, n * 4, none⟩ = some (.int .i64 0) ∧ w2.cell? ⟨g, n * 4 + 1, none⟩ = some (.slice none 0 0) ∧ w2.cell? ⟨g, n * 4 + 2, none⟩ = some (.slice none 0 0) ∧ w2.cell? ⟨g, n * 4 + 3, none⟩ = some (.slice none 0 0)) :
    ((w2.setCell ⟨b, o + 3, none⟩ v).cell? ⟨g, n * 4, none⟩ = some (.int .i64 0) ∧ (w2.setCell ⟨b, o + 3, none⟩ v).cell? ⟨g, n * 4 + 1, none⟩ = some (.slice none 0 0) ∧ (w2.setCell ⟨b, o + 3, none⟩ v).cell? ⟨g, n * 4 + 2, none⟩ = some (.slice none 0 0) ∧ (w2.setCell ⟨b, o + 3, none⟩ v).cell? ⟨g, n * 4 + 3, none⟩ = some (.slice none 0 0)) ∧
    ((w2.setCell ⟨b, o + 3, none⟩ v).setCell ⟨g, n * 4, none⟩ (.int .i64 0) = w2.setCell ⟨b, o + 3, none⟩ v ∧ (w2.setCell ⟨b, o + 3, none⟩ v).setCell ⟨g, n * 4 + 1, none⟩ (.slice none 0 0) = w2.setCell ⟨b, o + 3, none⟩ v ∧ (w2.setCell ⟨b, o + 3, none⟩ v).setCell ⟨g, n * 4 + 2, none⟩ (.slice none 0 0) = w2.setCell ⟨b, o + 3, none⟩ v ∧ (w2.setCell ⟨b, o + 3, none⟩ v).setCell ⟨g, n * 4 + 3, none⟩ (.slice none 0 0) = w2.setCell ⟨b, o + 3, none⟩ v) := by
  have hk : ∀ t, (w2.setCell ⟨b, o + 3, none⟩ v).cell? ⟨g, n * 4 + t, none⟩ = w2.cell? ⟨g, n * 4 + t, none⟩ := fun t => World.cell?_setCell_other _ _ _ _ (fun e => by simp only [Addr.mk.injEq, and_true] at e; omega)
  have q0 := (hk 0).trans h.1
  have q1 := (hk 1).trans h.2.1
  have q2 := (hk 2).trans h.2.2.1
  have q3 := (hk 3).trans h.2.2.2
  exact ⟨⟨q0, q1, q2, q3⟩, setCell_self q0, setCell_self q1, setCell_self q2, setCell_self q3⟩

end Go.Proofs.YtnmljalcndfjmaaGreat
