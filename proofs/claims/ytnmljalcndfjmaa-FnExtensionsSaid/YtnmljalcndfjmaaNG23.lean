/- Several texts in one: BentOwn, BentPath. -/
import Derived.Test.YtnmljalcndfjmaaBentMem
namespace Go.Proofs.Ytnmljalcndfjmaa

section
open Go.RowKit

/-- Every row of kids below is owned; nothing of L lies in its block behind its members. -/
def Wh (w : World) (L : List (Addr × IntKind)) : Nat → Value → Prop
  | 0, _ => True
  | d + 1, kv => ∃ n xs, w.ownsRow 0 30 4 kv n xs ∧ (∀ g, kv.ownBlock = some g → ((⟨g, 0, none⟩, .i64) : Addr × IntKind) ∈ L ∧ ∀ x ∈ L, x.1.block = g → x.1.off + 4 ≤ n * 4) ∧ ∀ j u, xs[j * 4 + 3]? = some u → Wh w L d u

theorem ownsRow_keepW {w w' : World} {base e size n : Nat} {v : Value} {xs : List Value} (h : w.ownsRow base e size v n xs) (hk : ∀ g, v.ownBlock = some g → w'.heap[g]? = w.heap[g]?) : w'.ownsRow base e size v n xs := by
  refine ⟨h.1, ?_⟩
  rcases h.2 with q | ⟨g, cap, cur, rfl, hg, hh, r⟩
  · exact .inl q
  · exact .inr ⟨g, cap, cur, rfl, hg, (hk g rfl).trans hh, r⟩

theorem Wh.keep {w w' : World} {L : List (Addr × IntKind)} (hk : ∀ x ∈ L, w'.heap[x.1.block]? = w.heap[x.1.block]?) : ∀ {d : Nat} {kv : Value}, Wh w L d kv → Wh w' L d kv
  | 0, _, _ => trivial
  | _ + 1, _, ⟨n, xs, h1, h2, h3⟩ => ⟨n, xs, ownsRow_keepW h1 (fun g hg => hk _ (h2 g hg).1), h2, fun j u hu => Wh.keep hk (h3 j u hu)⟩

theorem Wh.mono {w : World} {L M : List (Addr × IntKind)} (h1 : ∀ x ∈ L, x ∈ M) (h2 : ∀ x ∈ M, x ∈ L ∨ ∀ y ∈ L, x.1.block ≠ y.1.block) : ∀ {d : Nat} {kv : Value}, Wh w L d kv → Wh w M d kv
  | 0, _, _ => trivial
  | _ + 1, _, ⟨n, xs, q1, q2, q3⟩ => ⟨n, xs, q1, fun g hg => ⟨h1 _ (q2 g hg).1, fun x hx e => by
      rcases h2 x hx with k | k
      · exact (q2 g hg).2 x k e
      · exact absurd e (k _ (q2 g hg).1)⟩, fun j u hu => Wh.mono h1 h2 (q3 j u hu)⟩

theorem Wh.nil (w : World) (L : List (Addr × IntKind)) (d : Nat) : Wh w L d (.slice none 0 0) := by
  cases d with
  | zero => trivial
  | succ d => exact ⟨0, [], World.ownsRow_nil _ _ _ _, fun g hg => by simp [Value.ownBlock] at hg, fun j u hu => by simp at hu⟩

/-- The kids so far are so. -/
def InvW (w : World) (L : List (Addr × IntKind)) (d : Nat) (xs : List Value) : Prop := ∀ j u, xs[j * 4 + 3]? = some u → Wh w L d u

theorem InvW.nil (w : World) (L : List (Addr × IntKind)) (d : Nat) : InvW w L d [] := fun j u hu => by simp at hu
theorem InvW.keep {w w' : World} {L : List (Addr × IntKind)} {d : Nat} {xs : List Value} (h : InvW w L d xs) (hk : ∀ x ∈ L, w'.heap[x.1.block]? = w.heap[x.1.block]?) : InvW w' L d xs := fun j u hu => (h j u hu).keep hk

theorem InvW.app {w : World} {Ls : List (List (Addr × IntKind))} {L : List (Addr × IntKind)} {d m : Nat} {xs : List Value} {v0 v1 v2 v3 : Value} (h : InvW w Ls.flatten d xs) (k : Wh w L d v3) (hx : xs.length = m * 4) (hd : ∀ x ∈ Ls.flatten, ∀ y ∈ L, x.1.block ≠ y.1.block) :
    InvW w (Ls ++ [L]).flatten d (xs ++ [v0, v1, v2, v3]) := by
  have hf : (Ls ++ [L]).flatten = Ls.flatten ++ L := by simp
  rw [hf]
  intro j u hu
  by_cases hj : j * 4 + 3 < xs.length
  · rw [List.getElem?_append_left hj] at hu
    refine (h j u hu).mono (fun x hx => List.mem_append.2 (.inl hx)) (fun x hx => ?_)
    rcases List.mem_append.1 hx with q | q
    · exact .inl q
    · exact .inr (fun y hy e => hd y hy x q e.symm)
  · rw [List.getElem?_append_right (by omega)] at hu
    have e : j * 4 + 3 - xs.length = (j - m) * 4 + 3 := by omega
    rw [e] at hu
    by_cases hjm : j = m
    · subst hjm
      simp at hu
      subst hu
      refine k.mono (fun x hx => List.mem_append.2 (.inr hx)) (fun x hx => ?_)
      rcases List.mem_append.1 hx with q | q
      · exact .inr (fun y hy e => hd x q y hy e)
      · exact .inl q
    · rw [List.getElem?_eq_none (by simp; omega)] at hu
      simp at hu

/-- Whole: of its role and its kids, and every row below is whole. -/
theorem whole_rows {base pb g0 : Nat} {ts : List Tok} {gs : List (Nat × Nat)} {i i0 s : Nat} {w w0 : World} {B ob d : Nat} {k : Int} {rv : Value} {role : List Int} {br : Nat} {wr : World} {kv : Value} {cs : List CN} {Ls : List (List (Addr × IntKind))} {xs : List Value} {j : Nat}
    (h : InvR pb ts gs i0 w B ob d k rv role br wr kv cs Ls xs j) (hT : TkM base pb w0 g0 ts gs) (hsp : pb ≤ s) (hsB : s ≤ B) (hij : i ≤ i0) (hjj : i0 ≤ j) (hru : Use ts gs i i0 s B (leafB br 0 role.length))  (hW : InvW wr Ls.flatten d xs) (hz : cs.length = 0 → kv = .slice none 0 0) (hpb : ∀ x ∈ leafB br 0 role.length, x.1.block < B) :
    ∃ L, OwnR ts gs i j s wr (d + 1) (.agg #[.int .i64 k, .slice none 0 0, rv, kv]) (.mk k [] role cs) L ∧ Wh wr L (d + 1) kv := by
  have sz := h.sz
  obtain ⟨ka, kc, bk, hkv, ok, fk⟩ := h.row.owL
  obtain ⟨ra, rc, hrv, or, hrf⟩ := h.rol
  subst hkv
  subst hrv
  have hlen := h.row.len
  have hsep : SepK 0 wr Ls := ⟨h.nd, h.fr, fun _ _ => Nat.zero_le _⟩
  have hoff : cs.length = 0 ∨ ∀ x ∈ Ls.flatten, bk ≠ x.1.block := by
    rcases fk with h0 | ⟨h0, _⟩
    · exact .inl h0
    · exact .inr (fun x hx e => h.row.off x hx (by rw [h0, e]))
  have mK : ∀ x ∈ leafK bk 0 (fun i => Ls.getD i []) cs.length, (x.1.block = bk ∧ B ≤ bk ∧ bk < wr.heap.size ∨ x ∈ Ls.flatten) ∧ wr.frozen? x.1 = false := by
    intro x hx
    obtain ⟨i, hi, hx⟩ := mem_leafK.1 hx
    rcases fk with h0 | ⟨h0, q1, q2, q3⟩
    · omega
    · rcases hx with rfl | hx
      · exact ⟨.inl ⟨rfl, q1, q2⟩, q3 _⟩
      · exact ⟨.inr (getD_mem_flatten hx), h.fr x (getD_mem_flatten hx)⟩
  have hdis := hru.disj h.us hT (Nat.le_refl i0) (Nat.le_refl B) hsp hsB
  have hrl : ∀ x ∈ leafB br 0 role.length, x.1.block < B := hru.lt hT (by omega)
  refine ⟨_, ⟨⟨none, 0, 0, ra, role.length, rc, ka, cs.length, kc, 0, 0, br, 0, bk, 0, _, rfl, ⟨rfl, ⟨by simp, by omega⟩, by intro i; simp [CN.name], .inl rfl⟩, or, ok, rfl⟩, ?_, ?_, ?_⟩, ?_⟩
  · rw [List.map_append, List.map_append]
    have e0 : leafB 0 0 0 = [] := rfl
    rw [e0, List.map_nil, List.nil_append, List.nodup_append]
    refine ⟨leafB_nodup _ _ _, ?_, ?_⟩
    · rcases hoff with h0 | h0
      · rw [h0]; simp [leafK]
      · exact leafK_nodup hsep h0 _ (by omega)
    · intro p hp q hq e
      subst e
      simp only [List.mem_map] at hp hq
      obtain ⟨x, hx, rfl⟩ := hp
      obtain ⟨y, hy, e⟩ := hq
      rcases (mK y hy).1 with ⟨e1, e2, _⟩ | hy
      · have := hrl x hx; rw [e] at e1; omega
      · exact hdis x hx y hy (by rw [e])
  · intro x hx
    have e0 : leafB 0 0 0 = [] := rfl
    rw [e0, List.nil_append, List.mem_append] at hx
    rcases hx with hx | hx
    · obtain ⟨j, hj, rfl⟩ := mem_leafB.1 hx
      exact hrf (fun e => by rw [e] at hj; simp at hj) _ (by omega)
    · exact (mK x hx).2
  · intro x hx
    have e0 : leafB 0 0 0 = [] := rfl
    rw [e0, List.nil_append, List.mem_append] at hx
    rcases hx with hx | hx
    · exact (hru.mono (Nat.le_refl _) hjj (Nat.le_refl _) sz) x hx
    · rcases (mK x hx).1 with ⟨e1, e2, e3⟩ | hx
      · exact .inl ⟨by omega, by omega⟩
      · exact (h.us.mono hij (Nat.le_refl _) hsB (Nat.le_refl _)) x hx
  · have hcl : ∀ i, cs.length ≤ i → Ls.getD i [] = [] := fun i hi => by simp [List.getD, List.getElem?_eq_none (by omega : Ls.length ≤ i)]
    have e0 : leafB 0 0 0 = [] := rfl
    have hin : ∀ x ∈ Ls.flatten, x ∈ leafB 0 0 0 ++ (leafB br 0 role.length ++ leafK bk 0 (fun i => Ls.getD i []) cs.length) := by
      intro x hx
      obtain ⟨l, hl, hxl⟩ := List.mem_flatten.1 hx
      obtain ⟨q, hq, rfl⟩ := List.getElem_of_mem hl
      refine List.mem_append.2 (.inr (List.mem_append.2 (.inr (mem_leafK.2 ⟨q, by omega, .inr ?_⟩))))
      simpa [List.getD, hq] using hxl
    refine ⟨cs.length, xs, ?_, fun g hg => ?_, fun q u hu => (hW q u hu).mono hin (fun x hx => ?_)⟩
    · refine ⟨h.row.row.1, ?_⟩
      rcases h.row.row.2 with q | ⟨g, cap, cur, e, hg, r⟩
      · exact .inl q
      · exact .inr ⟨g, cap, cur, e, Nat.zero_le _, r⟩
    · rcases fk with h0 | ⟨h0, q1, q2, q3⟩
      · exfalso; rw [hz h0] at hg; simp [Value.ownBlock] at hg
      · rw [h0] at hg
        simp only [Option.some.injEq] at hg
        subst hg
        refine ⟨List.mem_append.2 (.inr (List.mem_append.2 (.inr (mem_leafK.2 ⟨0, Nat.pos_of_ne_zero (fun e => by rw [hz e] at h0; simp [Value.ownBlock] at h0), .inl rfl⟩)))), fun x hx e => ?_⟩
        rw [e0, List.nil_append, List.mem_append] at hx
        rcases hx with hx | hx
        · have := hpb x hx; omega
        · obtain ⟨i, hi, hx⟩ := mem_leafK.1 hx
          rcases hx with rfl | hx
          · show 0 + i * 4 + 4 ≤ cs.length * 4; omega
          · exact absurd (h0.trans (by rw [← e])) (h.row.off x (getD_mem_flatten hx))
    · rw [e0, List.nil_append, List.mem_append] at hx
      rcases hx with hx | hx
      · exact .inr (fun y hy => hdis x hx y hy)
      · obtain ⟨i, hi, hx⟩ := mem_leafK.1 hx
        rcases hx with rfl | hx
        · refine .inr (fun y hy e => ?_)
          rcases hoff with h0 | h0
          · omega
          · exact h0 y hy e
        · exact .inl (getD_mem_flatten hx)

theorem tkm_nil (pb : Nat) (w : World) : TkM 0 pb w 0 [] [] :=
  ⟨.inl rfl, fun i hi => absurd hi (by simp), fun i hi => absurd hi (by simp), fun i hi => absurd hi (by simp), fun i j _ hj => absurd hj (by simp)⟩

theorem InvW.bt {pb B ob d : Nat} {k : Int} {rv : Value} {role : List Int} {br : Nat} {w wr w' : World} {kv : Value} {cs : List CN} {Ls : List (List (Addr × IntKind))} {xs : List Value} (hV : InvW wr Ls.flatten d xs)
    (h : InvR pb [] [] 0 w B ob d k rv role br wr kv cs Ls xs 0) (hS : StatR pb w B ob br role) (hb : Bt pb wr.heap.size wr w') : InvW w' Ls.flatten d xs := by
  have o0 := hS.o0
  have o1 := hS.o1
  have p := hS.p
  exact hV.keep (fun x hx => hb.block _ (h.row.lt x hx) (h.us.ne (tkm_nil pb w) (Nat.le_refl _) (by omega) x hx))

theorem InvW.step {pb B ob d : Nat} {k : Int} {rv : Value} {role : List Int} {br : Nat} {w W w6 : World} {kv : Value} {cs : List CN} {Ls : List (List (Addr × IntKind))} {xs : List Value} {c : CN} {L : List (Addr × IntKind)} {v0 v1 v2 v3 : Value} {Bk : Nat}
    (hV : InvW W Ls.flatten d xs) (hS : StatR pb w B ob br role) (h : InvR pb [] [] 0 w B ob d k rv role br W kv cs Ls xs 0) (hBk : B ≤ Bk) (hu : Use [] [] 0 0 B Bk Ls.flatten) (hkB : ∀ g, kv.ownBlock = some g → g < Bk)
    (hc : OwnR [] [] 0 0 Bk W d (.agg #[v0, v1, v2, v3]) c L) (hW : Wh W L d v3) (hgrow : W.grownBy w6 kv.ownBlock) (u : Value) : InvW (w6.setCell ⟨ob, 3, none⟩ u) (Ls ++ [L]).flatten d (xs ++ [v0, v1, v2, v3]) := by
  have o0 := hS.o0
  have o1 := hS.o1
  have p := hS.p
  have sz := h.sz
  have hcl := hc.us.lt (tkm_nil pb w) (by omega)
  have hdis := hu.disj hc.us (tkm_nil pb w) (Nat.le_refl 0) (Nat.le_refl Bk) (by omega) hBk
  have hf : (Ls ++ [L]).flatten = Ls.flatten ++ L := by simp
  refine (InvW.app hV hW h.row.row.1 hdis).keep (fun x hx => ?_)
  rw [hf] at hx
  rcases List.mem_append.1 hx with hx | hx
  · have hne := h.us.ne (tkm_nil pb w) (o := ob) (by omega) o1 x hx
    rw [Below.heap_setCell _ _ _ _ hne]
    exact hgrow.block _ (h.row.lt x hx) (fun e => h.row.off x hx e.symm)
  · have hge : Bk ≤ x.1.block := by
      rcases hc.us x hx with ⟨a, _⟩ | ⟨t, _, _, q, _⟩
      · exact a
      · simp at q
    rw [Below.heap_setCell _ _ _ _ (by show x.1.block ≠ ob; omega)]
    exact hgrow.block _ (hcl x hx) (fun e => by have := hkB _ e.symm; omega)
end

section
open Go.RowKit

theorem OwS.keep {w w' : World} {d b o : Nat} {c : CN} {L : List (Addr × IntKind)} (h : OwS w d b o c L) (hb : w'.heap[b]? = w.heap[b]?) (hk : ∀ x ∈ L, w'.heap[x.1.block]? = w.heap[x.1.block]?) : OwS w' d b o c L := by
  obtain ⟨v0, v1, v2, v3, c0, c1, c2, c3, hr⟩ := h
  exact ⟨v0, v1, v2, v3, (World.cell?_of_block (w := w) (by exact hb)).trans c0, (World.cell?_of_block (w := w) (by exact hb)).trans c1, (World.cell?_of_block (w := w) (by exact hb)).trans c2, (World.cell?_of_block (w := w) (by exact hb)).trans c3, hr.keep hk⟩

/-- The kid number j of a slot. -/
theorem OwS.kid {w : World} {d b o : Nat} {c : CN} {L : List (Addr × IntKind)} (hw : OwS w d b o c L) {bk ok kn kc j : Nat} (h1 : w.cell? ⟨b, o + 3, none⟩ = some (.slice (some ⟨bk, ok, none⟩) kn kc)) (h2 : j < kn) :
    ∃ e L', d = e + 1 ∧ kn = c.kids.length ∧ OwS w e bk (ok + j * 4) (c.kids.getD j CN.zero) L' ∧ ((⟨bk, ok + j * 4, none⟩, .i64) : Addr × IntKind) ∈ L ∧ (∀ x ∈ L', x ∈ L) ∧ ((L.map (·.1)).Nodup → (L'.map (·.1)).Nodup ∧ (⟨bk, ok + j * 4, none⟩ : Addr) ∉ L'.map (·.1)) := by
  obtain ⟨v0, v1, v2, v3, c0, c1, c2, c3, hr⟩ := hw
  cases d with
  | zero => exact hr.elim
  | succ d =>
    obtain ⟨na, nn, nc, ra, rn, rc, ka, kn', kc', bn, on, br, or, bk', ok', Ls, hv, q1, q2, q3, rfl⟩ := hr
    simp only [Value.agg.injEq, Array.mk.injEq, List.cons.injEq, and_true] at hv
    obtain ⟨rfl, rfl, rfl, rfl⟩ := hv
    rw [h1] at c3
    simp only [Option.some.injEq, Value.slice.injEq] at c3
    obtain ⟨e1, rfl, rfl⟩ := c3
    rcases q3.cells with q | ⟨e2, q⟩
    · omega
    · rw [← e1] at e2
      simp only [Option.some.injEq, Addr.mk.injEq, and_true] at e2
      obtain ⟨rfl, rfl⟩ := e2
      refine ⟨d, Ls j, rfl, q3.len.symm, q j h2, ?_, fun x hx => ?_, fun hnd => ?_⟩
      · simp only [List.mem_append]; exact .inr (.inr (mem_leafK.2 ⟨j, h2, .inl rfl⟩))
      · simp only [List.mem_append]; exact .inr (.inr (mem_leafK.2 ⟨j, h2, .inr hx⟩))
      · rw [List.map_append, List.map_append] at hnd
        exact (leafK_apart (List.nodup_append.1 (List.nodup_append.1 hnd).2.1).2.1).1 j h2

theorem Path.keep {w w' : World} {b o b' o' : Nat} (h : Path w b o b' o') : ∀ {d : Nat} {c : CN} {L : List (Addr × IntKind)}, OwS w d b o c L → w'.heap[b]? = w.heap[b]? → (∀ x ∈ L, w'.heap[x.1.block]? = w.heap[x.1.block]?) → Path w' b o b' o' := by
  induction h with
  | here b o => intro d c L _ _ _; exact .here b o
  | @kid b o bk ok kn kc j b' o' h1 h2 _ ih =>
    intro d c L hw hb hk
    obtain ⟨e, L', _, _, hs, hm, hsub, _⟩ := hw.kid h1 h2
    exact .kid ((World.cell?_of_block (w := w) (by exact hb)).trans h1) h2 (ih hs (hk _ hm) (fun x hx => hk x (hsub x hx)))

/-- y at (b, o), in the tree under x at (X, 0). -/
structure Bent (w : World) (X D : Nat) (c : CN) (L : List (Addr × IntKind)) (b o d : Nat) (c' : CN) (L' : List (Addr × IntKind)) : Prop where
  own : OwS w D X 0 c L
  nd : (L.map (·.1)).Nodup
  nm : ∀ x ∈ L, x.1.block ≠ X
  path : Path w X 0 b o
  sub : OwS w d b o c' L'
  sin : ∀ x ∈ L', x ∈ L
  snd : (L'.map (·.1)).Nodup
  snm : (⟨b, o, none⟩ : Addr) ∉ L'.map (·.1)
  at_ : b = X ∨ ((⟨b, o, none⟩, .i64) : Addr × IntKind) ∈ L
  wh : ∀ u, w.cell? ⟨b, o + 3, none⟩ = some u → Wh w L d u
  bulk : c'.bulk ≤ c.bulk

theorem Bent.keep {w w' : World} {X D : Nat} {c : CN} {L : List (Addr × IntKind)} {b o d : Nat} {c' : CN} {L' : List (Addr × IntKind)} (h : Bent w X D c L b o d c' L') (hX : w'.heap[X]? = w.heap[X]?) (hk : ∀ x ∈ L, w'.heap[x.1.block]? = w.heap[x.1.block]?) : Bent w' X D c L b o d c' L' := by
  have hb : w'.heap[b]? = w.heap[b]? := by
    rcases h.at_ with e | e
    · rw [e]; exact hX
    · exact hk _ e
  exact ⟨h.own.keep hX hk, h.nd, h.nm, h.path.keep h.own hX hk, h.sub.keep hb (fun x hx => hk x (h.sin x hx)), h.sin, h.snd, h.snm, h.at_, fun u hu => (h.wh u (by rw [← hu]; exact (World.cell?_of_block (w := w) (by exact hb)).symm)).keep hk, h.bulk⟩

/-- One step down. -/
theorem Bent.step {w : World} {X D : Nat} {c : CN} {L : List (Addr × IntKind)} {b o d : Nat} {c' : CN} {L' : List (Addr × IntKind)} (h : Bent w X D c L b o d c' L') {bk ok kn kc j : Nat} (h1 : w.cell? ⟨b, o + 3, none⟩ = some (.slice (some ⟨bk, ok, none⟩) kn kc)) (h2 : j < kn) :
    ∃ e L'', d = e + 1 ∧ kn = c'.kids.length ∧ Bent w X D c L bk (ok + j * 4) e (c'.kids.getD j CN.zero) L'' := by
  obtain ⟨e, L'', rfl, hl, hs, hm, hsub, hnd⟩ := h.sub.kid h1 h2
  obtain ⟨n1, n2⟩ := hnd h.snd
  refine ⟨e, L'', rfl, hl, h.own, h.nd, h.nm, h.path.snoc h1 h2, hs, fun x hx => h.sin x (hsub x hx), n1, n2, .inr (h.sin _ hm), fun u hu => ?_, ?_⟩
  · obtain ⟨n, xs, q1, q2, q3⟩ := h.wh _ h1
    have hok : ok = 0 ∧ n = kn := by
      rcases q1.2 with ⟨q, _⟩ | ⟨g, cap, cur, q, _⟩
      · simp at q
      · simp only [Value.slice.injEq, Option.some.injEq, Addr.mk.injEq, and_true] at q
        exact ⟨q.1.2, q.2.1.symm⟩
    obtain ⟨rfl, rfl⟩ := hok
    refine q3 j u ?_
    rw [← hu, Nat.zero_add]
    have hw : w.ownsRow 0 30 4 (.slice (some ⟨bk, 0, none⟩) n kc) n xs := q1
    exact (hw.cellAt (j * 4 + 3) (by omega)).symm
  · have hb := h.bulk
    have := getD_bulk_le c'.kids j (by omega)
    have := c'.bulk_eq
    omega

theorem least_of {P : Nat → Prop} : ∀ {n : Nat}, P n → ∃ k, P k ∧ ∀ m, P m → k ≤ m := by
  intro n
  induction n using Nat.strongRecOn with
  | _ n ih =>
    intro h
    by_cases hq : ∃ m, m < n ∧ P m
    · obtain ⟨m, hm, hp⟩ := hq
      exact ih m hm hp
    · exact ⟨n, h, fun m hm => Nat.le_of_not_lt (fun hl => hq ⟨m, hl, hm⟩)⟩

open Classical in
noncomputable def dmin (P : Nat → Prop) : Nat := if h : ∃ k, P k ∧ ∀ m, P m → k ≤ m then Classical.choose h else 0
theorem dmin_spec {P : Nat → Prop} {n : Nat} (h : P n) : P (dmin P) ∧ dmin P ≤ n := by
  have hl := least_of h
  unfold dmin
  rw [dif_pos hl]
  exact ⟨(Classical.choose_spec hl).1, (Classical.choose_spec hl).2 n h⟩

/-- How deep the tree is below where a pointer points: the measure of the walk down. -/
noncomputable def dep (X D : Nat) (c : CN) (L : List (Addr × IntKind)) (w : World) (v : Value) : Nat := dmin (fun d => ∃ b o c' L', v = .pointer (some ⟨b, o, none⟩) ∧ Bent w X D c L b o d c' L')

theorem dep_spec {X D : Nat} {c : CN} {L : List (Addr × IntKind)} {w : World} {b o d : Nat} {c' : CN} {L' : List (Addr × IntKind)} (h : Bent w X D c L b o d c' L') :
    (∃ c' L', Bent w X D c L b o (dep X D c L w (.pointer (some ⟨b, o, none⟩))) c' L') ∧ dep X D c L w (.pointer (some ⟨b, o, none⟩)) ≤ d := by
  have := dmin_spec (P := fun d => ∃ b' o' c' L', Value.pointer (some ⟨b, o, none⟩) = .pointer (some ⟨b', o', none⟩) ∧ Bent w X D c L b' o' d c' L') ⟨b, o, c', L', rfl, h⟩
  obtain ⟨⟨b', o', c1, L1, e, hB⟩, h2⟩ := this
  simp only [Value.pointer.injEq, Option.some.injEq, Addr.mk.injEq, and_true] at e
  obtain ⟨rfl, rfl⟩ := e
  exact ⟨⟨c1, L1, hB⟩, h2⟩
end

end Go.Proofs.Ytnmljalcndfjmaa
