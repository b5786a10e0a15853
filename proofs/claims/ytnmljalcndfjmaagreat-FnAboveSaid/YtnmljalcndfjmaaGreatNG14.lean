/- Several texts in one: ReadOwn, ReadS1, ReadS2, ReadS3, ReadS4, ReadS5. -/
import Derived.Test.YtnmljalcndfjmaaGreatNG13
import Derived.Test.YtnmljalcndfjmaaGreatNG5
import Derived.Deep.QuietTactic
import Derived.BigQuiet
import Derived.Test.YtnmljalcndfjmaaGreatConSpec2
import Derived.Test.YtnmljalcndfjmaaGreatNG12
import Derived.Deep.RegionHeld
import Derived.Deep.RegionLaw
import Derived.Deep.AppendLies
namespace Go.Proofs.YtnmljalcndfjmaaGreat

section
open Go.RowKit

/-- Its blocks lie from s on, below s', or are those of the texts of the tokens from i on, ahead of j. -/
def Use (ts : List Tok) (gs : List (Nat × Nat)) (i j s s' : Nat) (L : List (Addr × IntKind)) : Prop :=
  ∀ x ∈ L, (s ≤ x.1.block ∧ x.1.block < s') ∨ ∃ t, i ≤ t ∧ t < j ∧ t < ts.length ∧ (ts.getD t Tok.zero).text ≠ [] ∧ x.1.block = (gs.getD t (0, 0)).1

theorem Use.nil (ts : List Tok) (gs : List (Nat × Nat)) (i j s s' : Nat) : Use ts gs i j s s' [] := fun x hx => by simp at hx
theorem Use.mono {ts : List Tok} {gs : List (Nat × Nat)} {i j s s' i' j' r r' : Nat} {L : List (Addr × IntKind)} (h : Use ts gs i j s s' L) (h1 : i' ≤ i) (h2 : j ≤ j') (h3 : r ≤ s) (h4 : s' ≤ r') : Use ts gs i' j' r r' L := by
  intro x hx
  rcases h x hx with ⟨a, b⟩ | ⟨t, a, b, c⟩
  · exact .inl ⟨by omega, by omega⟩
  · exact .inr ⟨t, by omega, by omega, c⟩
theorem Use.append {ts : List Tok} {gs : List (Nat × Nat)} {i j s s' : Nat} {L M : List (Addr × IntKind)} (h : Use ts gs i j s s' L) (k : Use ts gs i j s s' M) : Use ts gs i j s s' (L ++ M) := by
  intro x hx
  rcases List.mem_append.1 hx with hx | hx
  · exact h x hx
  · exact k x hx

theorem Use.lt {base pb : Nat} {w : World} {g : Nat} {ts : List Tok} {gs : List (Nat × Nat)} {i j s s' : Nat} {L : List (Addr × IntKind)} (h : Use ts gs i j s s' L) (hT : TkM base pb w g ts gs) (hs : pb ≤ s') : ∀ x ∈ L, x.1.block < s' := by
  intro x hx
  rcases h x hx with ⟨a, b⟩ | ⟨t, a, b, c, d, e⟩
  · exact b
  · have := (hT.txt t c d).1; omega
theorem Use.ge {base pb : Nat} {w : World} {g : Nat} {ts : List Tok} {gs : List (Nat × Nat)} {i j s s' : Nat} {L : List (Addr × IntKind)} (h : Use ts gs i j s s' L) (hT : TkM base pb w g ts gs) (hs : base ≤ s) : ∀ x ∈ L, base ≤ x.1.block := by
  intro x hx
  rcases h x hx with ⟨a, b⟩ | ⟨t, a, b, c, d, e⟩
  · omega
  · have := (hT.txt t c d).1; omega
theorem Use.ne {base pb : Nat} {w : World} {g : Nat} {ts : List Tok} {gs : List (Nat × Nat)} {i j s s' : Nat} {L : List (Addr × IntKind)} (h : Use ts gs i j s s' L) (hT : TkM base pb w g ts gs) {o : Nat} (h1 : pb ≤ o) (h2 : o < s) : ∀ x ∈ L, x.1.block ≠ o := by
  intro x hx
  rcases h x hx with ⟨a, b⟩ | ⟨t, a, b, c, d, e⟩
  · omega
  · have := (hT.txt t c d).1; omega
theorem Use.disj {base pb : Nat} {w : World} {g : Nat} {ts : List Tok} {gs : List (Nat × Nat)} {i j s s' i' j' r r' : Nat} {L M : List (Addr × IntKind)} (h : Use ts gs i j s s' L) (k : Use ts gs i' j' r r' M) (hT : TkM base pb w g ts gs) (h1 : j ≤ i') (h2 : s' ≤ r) (h3 : pb ≤ s) (h4 : s ≤ r) :
    ∀ x ∈ L, ∀ y ∈ M, x.1.block ≠ y.1.block := by
  intro x hx y hy
  rcases h x hx with ⟨a, b⟩ | ⟨t, a, b, c, d, e⟩ <;> rcases k y hy with ⟨a', b'⟩ | ⟨t', a', b', c', d', e'⟩
  · omega
  · have := (hT.txt t' c' d').1; omega
  · have := (hT.txt t c d).1; omega
  · rw [e, e']; exact hT.dist t t' (by omega) c' d d'

structure OwnR (ts : List Tok) (gs : List (Nat × Nat)) (i j s : Nat) (w : World) (d : Nat) (v : Value) (c : CN) (L : List (Addr × IntKind)) : Prop where
  ow : OwC w d v c L
  nd : (L.map (·.1)).Nodup
  fr : ∀ x ∈ L, w.frozen? x.1 = false
  us : Use ts gs i j s w.heap.size L

theorem OwnR.bt {base pb : Nat} {g : Nat} {ts : List Tok} {gs : List (Nat × Nat)} {i j s : Nat} {w w' w0 : World} {d : Nat} {v : Value} {c : CN} {L : List (Addr × IntKind)} (h : OwnR ts gs i j s w d v c L) (hT : TkM base pb w0 g ts gs) (hs : pb < s) (hb : Bt pb w.heap.size w w') (hp : pb ≤ w.heap.size) : OwnR ts gs i j s w' d v c L := by
  have h1 := h.us.lt hT hp
  have h2 := h.us.ne hT (Nat.le_refl pb) hs
  exact ⟨h.ow.keep (fun x hx => hb.block _ (h1 x hx) (h2 x hx)), h.nd, fun x hx => (World.frozen?_of_block (w := w) (hb.block _ (h1 x hx) (h2 x hx))).trans (h.fr x hx), h.us.mono (Nat.le_refl _) (Nat.le_refl _) (Nat.le_refl _) hb.size⟩

theorem RowK.keepG {base pb : Nat} {w w' : World} {d : Nat} {v : Value} {cs : List CN} {Ls : List (List (Addr × IntKind))} {xs : List Value} (h : RowK base w d v cs Ls xs) (hb : Bt pb w.heap.size w w') (h1 : ∀ x ∈ Ls.flatten, x.1.block ≠ pb) (h2 : pb < base) : RowK base w' d v cs Ls xs := by
  have hlt := h.row.lt
  obtain ⟨g1, g2, g3, g4, g5⟩ := h
  refine ⟨g1, ?_, fun j hj => ?_, fun x hx => Nat.lt_of_lt_of_le (g4 x hx) hb.size, g5⟩
  · obtain ⟨q1, q2⟩ := g2
    refine ⟨q1, ?_⟩
    rcases q2 with q | ⟨g, cap, cur, rfl, hg, hh, r⟩
    · exact .inl q
    · exact .inr ⟨g, cap, cur, rfl, hg, by rw [hb.block g (hlt g rfl).2 (by omega)]; exact hh, r⟩
  · obtain ⟨v0, v1, v2, v3, c0, c1, c2, c3, hr⟩ := g3 j hj
    exact ⟨v0, v1, v2, v3, c0, c1, c2, c3, hr.keep (fun x hx => hb.block _ (g4 x (getD_mem_flatten hx)) (h1 x (getD_mem_flatten hx)))⟩

/-- The role of what is under way. -/
def RolR (w : World) (rv : Value) (role : List Int) (br : Nat) : Prop := ∃ a c, rv = .slice a role.length c ∧ OwB w a role.length c role br 0 ∧ (role ≠ [] → ∀ o, o < role.length → w.frozen? ⟨br, o, none⟩ = false)

theorem OwB.keepN {w w' : World} {a : Option Addr} {n cap : Nat} {zs : List Int} {b off : Nat} (h : OwB w a n cap zs b off) (hk : zs ≠ [] → w'.heap[b]? = w.heap[b]?) : OwB w' a n cap zs b off := by
  refine h.keep (fun x hx => ?_)
  obtain ⟨j, hj, rfl⟩ := mem_leafB.1 hx
  exact hk (fun e => by have := h.len; rw [e] at this; simp at this; omega)

theorem RolR.keep {w w' : World} {rv : Value} {role : List Int} {br : Nat} (h : RolR w rv role br) (hk : role ≠ [] → w'.heap[br]? = w.heap[br]?) : RolR w' rv role br := by
  obtain ⟨a, c, h1, h2, h3⟩ := h
  exact ⟨a, c, h1, h2.keepN hk, fun hn o ho => (World.frozen?_of_block (w := w) (by exact hk hn)).trans (h3 hn o ho)⟩

theorem RolR.nil (w : World) (br : Nat) : RolR w (.slice none 0 0) [] br := ⟨none, 0, rfl, ⟨rfl, ⟨by simp, by omega⟩, by simp, .inl rfl⟩, fun h => absurd rfl h⟩
theorem RolR.isSlice {w : World} {rv : Value} {role : List Int} {br : Nat} (h : RolR w rv role br) : ∃ a n c, rv = .slice a n c := by
  obtain ⟨a, c, h, _⟩ := h
  exact ⟨_, _, _, h⟩

/-- What is under way: its box, its role, and the kids so far. -/
structure InvR (pb : Nat) (ts : List Tok) (gs : List (Nat × Nat)) (i0 : Nat) (w : World) (B ob d : Nat) (k : Int) (rv : Value) (role : List Int) (br : Nat) (wr : World) (kv : Value) (cs : List CN) (Ls : List (List (Addr × IntKind))) (xs : List Value) (j : Nat) : Prop where
  row : RowK B wr d kv cs Ls xs
  nd : (Ls.flatten.map (·.1)).Nodup
  fr : ∀ x ∈ Ls.flatten, wr.frozen? x.1 = false
  us : Use ts gs i0 j B wr.heap.size Ls.flatten
  box : BoxC wr ob (.int .i64 k) (.slice none 0 0) rv kv
  rol : RolR wr rv role br
  bt : Bt pb w.heap.size w wr
  sz : B ≤ wr.heap.size

structure StatR (pb : Nat) (w : World) (B ob br : Nat) (role : List Int) : Prop where
  o0 : w.heap.size ≤ ob
  o1 : ob < B
  p : pb < w.heap.size
  br : role ≠ [] → br < B ∧ br ≠ ob ∧ br ≠ pb

theorem InvR.keep {base pb g : Nat} {ts : List Tok} {gs : List (Nat × Nat)} {i0 : Nat} {w w0 : World} {B ob d : Nat} {k : Int} {rv : Value} {role : List Int} {br : Nat} {wr w' : World} {kv : Value} {cs : List CN} {Ls : List (List (Addr × IntKind))} {xs : List Value} {j : Nat}
    (h : InvR pb ts gs i0 w B ob d k rv role br wr kv cs Ls xs j) (hS : StatR pb w B ob br role) (hT : TkM base pb w0 g ts gs) (hb : Bt pb wr.heap.size wr w') : InvR pb ts gs i0 w B ob d k rv role br w' kv cs Ls xs j := by
  have o0 := hS.o0
  have o1 := hS.o1
  have p := hS.p
  have sz := h.sz
  have hlt := h.row.lt
  have hne := h.us.ne hT (Nat.le_refl pb) (by omega)
  refine ⟨h.row.keepG hb hne (by omega), h.nd, fun x hx => (World.frozen?_of_block (w := wr) (hb.block _ (hlt x hx) (hne x hx))).trans (h.fr x hx), h.us.mono (Nat.le_refl _) (Nat.le_refl _) (Nat.le_refl _) hb.size, (hb.block ob (by omega) (by omega)).trans h.box, h.rol.keep (fun hn => hb.block _ ?_ (hS.br hn).2.2), h.bt.trans (hb.mono h.bt.size), Nat.le_trans sz hb.size⟩
  have := (hS.br hn).1; omega

/-- One kid more, appended and stored. -/
theorem InvR.app {base pb g0 : Nat} {ts : List Tok} {gs : List (Nat × Nat)} {i0 : Nat} {w w0 : World} {B ob d : Nat} {k : Int} {rv : Value} {role : List Int} {br : Nat} {W w6 : World} {kv : Value} {cs : List CN} {Ls : List (List (Addr × IntKind))} {xs : List Value} {j j' : Nat}
    (hS : StatR pb w B ob br role) (hT : TkM base pb w0 g0 ts gs) (h : InvR pb ts gs i0 w B ob d k rv role br W kv cs Ls xs j) {Bk : Nat} (hu : Use ts gs i0 j B Bk Ls.flatten) (hkB : ∀ g, kv.ownBlock = some g → g < Bk) (hBk : B ≤ Bk)
    {c : CN} {L : List (Addr × IntKind)} {v0 v1 v2 v3 : Value} {g cap n : Nat} (hc : OwnR ts gs j j' Bk W d (.agg #[v0, v1, v2, v3]) c L) (hij : i0 ≤ j) (hjj : j ≤ j') (hn : n = cs.length + 1)
    (hown : w6.ownsRow B 30 4 (.slice (some ⟨g, 0, none⟩) n cap) n (xs ++ [v0, v1, v2, v3])) (hgrow : W.grownBy w6 kv.ownBlock) (hat : kv.ownBlock = some g ∨ g = W.heap.size) :
    BoxC w6 ob (.int .i64 k) (.slice none 0 0) rv kv ∧ InvR pb ts gs i0 w B ob d k rv role br (w6.setCell ⟨ob, 3, none⟩ (.slice (some ⟨g, 0, none⟩) n cap)) (.slice (some ⟨g, 0, none⟩) n cap) (cs ++ [c]) (Ls ++ [L]) (xs ++ [v0, v1, v2, v3]) j' := by
  subst hn
  have o0 := hS.o0
  have o1 := hS.o1
  have p := hS.p
  have sz := h.sz
  have hkl := h.row.row.lt
  have hkne : ∀ b, b < B → kv.ownBlock ≠ some b := fun b hb e => by have := hkl b e; omega
  have hcl := hc.us.lt hT (by omega)
  have hbox6 : BoxC w6 ob (.int .i64 k) (.slice none 0 0) rv kv := (hgrow.block ob h.box.lt (fun e => hkne ob o1 e.symm)).trans h.box
  have hoffL : ∀ x ∈ L, kv.ownBlock ≠ some x.1.block := by
    intro x hx e
    have h1 := hkB _ e
    have h2 := (hkl _ e).1
    rcases hc.us x hx with ⟨a, b⟩ | ⟨t, a, b, c, d, e⟩
    · omega
    · have := (hT.txt t c d).1; omega
  have hrow6 : RowK B w6 d (.slice (some ⟨g, 0, none⟩) (cs.length + 1) cap) (cs ++ [c]) (Ls ++ [L]) (xs ++ [v0, v1, v2, v3]) :=
    h.row.snoc hc.ow hcl hoffL hown hgrow (by
      rcases hat with e | e
      · exact .inl (by rw [e]; rfl)
      · exact .inr (by rw [← e]; rfl))
  have hfl : (Ls ++ [L]).flatten = Ls.flatten ++ L := by simp
  have hdis := hu.disj hc.us hT (Nat.le_refl j) (Nat.le_refl Bk) (by omega) hBk
  have hall : ∀ x ∈ Ls.flatten ++ L, w6.heap[x.1.block]? = W.heap[x.1.block]? := by
    intro x hx
    rcases List.mem_append.1 hx with hx | hx
    · exact hgrow.block _ (h.row.lt x hx) (fun e => h.row.off x hx e.symm)
    · exact hgrow.block _ (hcl x hx) (fun e => hoffL x hx e.symm)
  have hus : Use ts gs i0 j' B w6.heap.size (Ls.flatten ++ L) := (h.us.mono (Nat.le_refl _) hjj (Nat.le_refl _) hgrow.size).append (hc.us.mono hij (Nat.le_refl _) hBk hgrow.size)
  have hgl := hown.lt g rfl
  have hrol6 : RolR w6 rv role br := h.rol.keep (fun hn => hgrow.block br (by have := (hS.br hn).1; omega) (fun e => hkne br (hS.br hn).1 e.symm))
  have hneo : ∀ x ∈ Ls.flatten ++ L, x.1.block ≠ ob := hus.ne hT (by omega) o1
  refine ⟨hbox6, ⟨hrow6.set 3 _ (fun x hx => by rw [hfl] at hx; exact hneo x hx) (fun e => by simp only [Value.ownBlock, Option.some.injEq] at e; omega), ?_, ?_, ?_, hbox6.set3 _, hrol6.keep (fun hn => Below.heap_setCell _ _ _ _ (hS.br hn).2.1), (h.bt.grown hgrow h.bt.size (fun x hx => by have := hkl x hx; omega)).set (.inl o0) _, ?_⟩⟩
  · rw [hfl, List.map_append, List.nodup_append]
    refine ⟨h.nd, hc.nd, fun p hp q hq e => ?_⟩
    subst e
    simp only [List.mem_map] at hp hq
    obtain ⟨x, hx, rfl⟩ := hp
    obtain ⟨y, hy, e⟩ := hq
    exact hdis x hx y hy (by rw [e])
  · intro x hx
    rw [hfl] at hx
    have h1 : w6.frozen? x.1 = false := by
      rw [World.frozen?_of_block (w := W) (hall x hx)]
      rcases List.mem_append.1 hx with hx | hx
      · exact h.fr x hx
      · exact hc.fr x hx
    simpa using h1
  · rw [hfl]; exact hus.mono (Nat.le_refl _) (Nat.le_refl _) (Nat.le_refl _) (by simp)
  · have := hgrow.size
    simp; omega

/-- Whole: of its role and its kids. -/
theorem InvR.whole {base pb g0 : Nat} {ts : List Tok} {gs : List (Nat × Nat)} {i i0 s : Nat} {w w0 : World} {B ob d : Nat} {k : Int} {rv : Value} {role : List Int} {br : Nat} {wr : World} {kv : Value} {cs : List CN} {Ls : List (List (Addr × IntKind))} {xs : List Value} {j : Nat}
    (h : InvR pb ts gs i0 w B ob d k rv role br wr kv cs Ls xs j) (hT : TkM base pb w0 g0 ts gs) (hsp : pb ≤ s) (hsB : s ≤ B) (hij : i ≤ i0) (hjj : i0 ≤ j) (hru : Use ts gs i i0 s B (leafB br 0 role.length)) :
    ∃ L, OwnR ts gs i j s wr (d + 1) (.agg #[.int .i64 k, .slice none 0 0, rv, kv]) (.mk k [] role cs) L := by
  have sz := h.sz
  obtain ⟨ka, kc, bk, hkv, ok, fk⟩ := h.row.owL
  obtain ⟨ra, rc, hrv, or, hrf⟩ := h.rol
  subst hkv
  subst hrv
  have hlen := h.row.len
  have hsep : SepK 0 wr Ls := ⟨h.nd, h.fr, fun _ _ => Nat.zero_le _⟩
  have hoff : cs.length = 0 ∨ ∀ x ∈ Ls.flatten, bk ≠ x.1.block := by
    rcases fk with h0 | ⟨h0, _⟩
    · exact .inl h0
    · exact .inr (fun x hx e => h.row.off x hx (by rw [h0, e]))
  have mK : ∀ x ∈ leafK bk 0 (fun i => Ls.getD i []) cs.length, (x.1.block = bk ∧ B ≤ bk ∧ bk < wr.heap.size ∨ x ∈ Ls.flatten) ∧ wr.frozen? x.1 = false := by
    intro x hx
    obtain ⟨i, hi, hx⟩ := mem_leafK.1 hx
    rcases fk with h0 | ⟨h0, q1, q2, q3⟩
    · omega
    · rcases hx with rfl | hx
      · exact ⟨.inl ⟨rfl, q1, q2⟩, q3 _⟩
      · exact ⟨.inr (getD_mem_flatten hx), h.fr x (getD_mem_flatten hx)⟩
  have hdis := hru.disj h.us hT (Nat.le_refl i0) (Nat.le_refl B) hsp hsB
  have hrl : ∀ x ∈ leafB br 0 role.length, x.1.block < B := hru.lt hT (by omega)
  refine ⟨_, ⟨⟨none, 0, 0, ra, role.length, rc, ka, cs.length, kc, 0, 0, br, 0, bk, 0, _, rfl, ⟨rfl, ⟨by simp, by omega⟩, by intro i; simp [CN.name], .inl rfl⟩, or, ok, rfl⟩, ?_, ?_, ?_⟩⟩
  · rw [List.map_append, List.map_append]
    have e0 : leafB 0 0 0 = [] := rfl
    rw [e0, List.map_nil, List.nil_append, List.nodup_append]
    refine ⟨leafB_nodup _ _ _, ?_, ?_⟩
    · rcases hoff with h0 | h0
      · rw [h0]; simp [leafK]
      · exact leafK_nodup hsep h0 _ (by omega)
    · intro p hp q hq e
      subst e
      simp only [List.mem_map] at hp hq
      obtain ⟨x, hx, rfl⟩ := hp
      obtain ⟨y, hy, e⟩ := hq
      rcases (mK y hy).1 with ⟨e1, e2, _⟩ | hy
      · have := hrl x hx; rw [e] at e1; omega
      · exact hdis x hx y hy (by rw [e])
  · intro x hx
    have e0 : leafB 0 0 0 = [] := rfl
    rw [e0, List.nil_append, List.mem_append] at hx
    rcases hx with hx | hx
    · obtain ⟨j, hj, rfl⟩ := mem_leafB.1 hx
      exact hrf (fun e => by rw [e] at hj; simp at hj) _ (by omega)
    · exact (mK x hx).2
  · intro x hx
    have e0 : leafB 0 0 0 = [] := rfl
    rw [e0, List.nil_append, List.mem_append] at hx
    rcases hx with hx | hx
    · exact (hru.mono (Nat.le_refl _) hjj (Nat.le_refl _) sz) x hx
    · rcases (mK x hx).1 with ⟨e1, e2, e3⟩ | hx
      · exact .inl ⟨by omega, by omega⟩
      · exact (h.us.mono hij (Nat.le_refl _) hsB (Nat.le_refl _)) x hx
end

section
open Go.RowKit

/-- The parser's box. -/
def BoxQ (W : World) (b : Nat) (lv : Value) (i en bad : Int) : Prop := W.heap[b]? = some (.cells #[lv, .int .i64 i, .int .i64 en, .int .i64 bad] 166 (0, 0))

theorem BoxQ.cells {W : World} {b : Nat} {lv : Value} {i en bad : Int} (h : BoxQ W b lv i en bad) : W.cell? ⟨b, 0, none⟩ = some lv ∧ W.cell? ⟨b, 1, none⟩ = some (.int .i64 i) ∧ W.cell? ⟨b, 2, none⟩ = some (.int .i64 en) ∧ W.cell? ⟨b, 3, none⟩ = some (.int .i64 bad) := by
  unfold BoxQ at h
  refine ⟨?_, ?_, ?_, ?_⟩ <;> simp [World.cell?, h]
theorem BoxQ.frz {W : World} {b : Nat} {lv : Value} {i en bad : Int} (h : BoxQ W b lv i en bad) (o : Nat) : W.frozen? ⟨b, o, none⟩ = false := by
  unfold BoxQ at h
  simp [World.frozen?, h]
theorem BoxQ.lt {W : World} {b : Nat} {lv : Value} {i en bad : Int} (h : BoxQ W b lv i en bad) : b < W.heap.size := (Array.getElem?_eq_some_iff.1 h).1
theorem BoxQ.of {W W' : World} {b : Nat} {lv : Value} {i en bad : Int} (h : BoxQ W b lv i en bad) (e : W'.heap[b]? = W.heap[b]?) : BoxQ W' b lv i en bad := e.trans h
theorem BoxQ.set3 {W : World} {b : Nat} {lv : Value} {i en bad : Int} (h : BoxQ W b lv i en bad) (j : Int) : BoxQ (W.setCell ⟨b, 3, none⟩ (.int .i64 j)) b lv i en j := by
  unfold BoxQ
  rw [heap_setCell_same W b 3 _ _ _ h]
  rfl
theorem BoxQ.new (W : World) (lv : Value) (i en bad : Int) : BoxQ (W.alloc (.cells #[lv, .int .i64 i, .int .i64 en, .int .i64 bad] 166)) W.heap.size lv i en bad := by
  show (W.heap.push _)[W.heap.size]? = _
  simp

/-- The parser stands at the token i; nothing is wrong yet where bad is -1. -/
def PsAt (W : World) (pb g i : Nat) (ts : List Tok) (en bad : Int) : Prop := ∃ a c, BoxQ W pb (.slice a ts.length c) i en bad ∧ (ts.length = 0 ∨ a = some ⟨g, 0, none⟩) ∧ ts.length ≤ c ∧ c ≤ 9223372036854775807

/-- What is wrong is laid down. -/
def PsBad (W : World) (pb : Nat) (p : Int) : Prop := ∃ lv i en, BoxQ W pb lv i en p

theorem PsAt.of {W W' : World} {pb g i : Nat} {ts : List Tok} {en bad : Int} (h : PsAt W pb g i ts en bad) (e : W'.heap[pb]? = W.heap[pb]?) : PsAt W' pb g i ts en bad := by
  obtain ⟨a, c, h1, h2⟩ := h
  exact ⟨a, c, h1.of e, h2⟩
theorem PsAt.lt {W : World} {pb g i : Nat} {ts : List Tok} {en bad : Int} (h : PsAt W pb g i ts en bad) : pb < W.heap.size := by
  obtain ⟨a, c, h1, h2⟩ := h
  exact h1.lt
theorem PsAt.below {W W' : World} {pb g i : Nat} {ts : List Tok} {en bad : Int} (h : PsAt W pb g i ts en bad) (hb : Below W.heap.size W W') : PsAt W' pb g i ts en bad := h.of (hb.block _ h.lt)
theorem PsAt.fell {W : World} {pb g i : Nat} {ts : List Tok} {en bad : Int} (h : PsAt W pb g i ts en bad) : PsBad W pb bad := by
  obtain ⟨a, c, h1, h2⟩ := h
  exact ⟨_, _, _, h1⟩
theorem PsBad.of {W W' : World} {pb : Nat} {p : Int} (h : PsBad W pb p) (e : W'.heap[pb]? = W.heap[pb]?) : PsBad W' pb p := by
  obtain ⟨lv, i, en, h⟩ := h
  exact ⟨lv, i, en, h.of e⟩
theorem PsBad.lt {W : World} {pb : Nat} {p : Int} (h : PsBad W pb p) : pb < W.heap.size := by
  obtain ⟨lv, i, en, h⟩ := h
  exact h.lt
theorem PsBad.below {W W' : World} {pb : Nat} {p : Int} (h : PsBad W pb p) (hb : Below W.heap.size W W') : PsBad W' pb p := h.of (hb.block _ h.lt)
end

section
open Go.RowKit

/-- What the parser leaves. -/
def SP (ts : List Tok) (gs : List (Nat × Nat)) (en : Int) (g pb i : Nat) (w : World) (d : Nat) (r : Res) (e : Ending) (w' : World) : Prop :=
  Bt pb w.heap.size w w' ∧ match r with
    | .bad p => PsBad w' pb p ∧ ∃ k a1 n1 c1 a2 n2 c2 a3 n3 c3, e = .returned (.agg #[.int .i64 k, .slice a1 n1 c1, .slice a2 n2 c2, .slice a3 n3 c3])
    | .ok c j => ∃ v L, e = .returned v ∧ OwnR ts gs i j w.heap.size w' d v c L ∧ PsAt w' pb g j ts en (-1)

theorem SP.fell {ts : List Tok} {gs : List (Nat × Nat)} {en : Int} {g pb i : Nat} {w : World} {d : Nat} {r : Res} {p : Int} {w' : World} {k : Int} {a1 : Option Addr} {n1 c1 : Nat} {a2 : Option Addr} {n2 c2 : Nat} {a3 : Option Addr} {n3 c3 : Nat} (hb : Bt pb w.heap.size w w') (hr : r = .bad p) (hp : PsBad w' pb p) :
    SP ts gs en g pb i w d r (.returned (.agg #[.int .i64 k, .slice a1 n1 c1, .slice a2 n2 c2, .slice a3 n3 c3])) w' := by
  subst hr; exact ⟨hb, hp, _, _, _, _, _, _, _, _, _, _, rfl⟩
theorem SP.good {ts : List Tok} {gs : List (Nat × Nat)} {en : Int} {g pb i : Nat} {w : World} {d : Nat} {r : Res} {c : CN} {j : Nat} {v : Value} {L : List (Addr × IntKind)} {w' : World} (hb : Bt pb w.heap.size w w') (hr : r = .ok c j) (hO : OwnR ts gs i j w.heap.size w' d v c L) (hP : PsAt w' pb g j ts en (-1)) : SP ts gs en g pb i w d r (.returned v) w' := by
  subst hr; exact ⟨hb, v, L, rfl, hO, hP⟩

theorem set4_mem {W : World} {vb : Nat} {v0 v1 v2 v3 : Value} (hv : BoxC W vb v0 v1 v2 v3) (x0 x1 x2 x3 : Value) {pb B : Nat} {w : World} (hb : Bt pb B w W) (hB : B ≤ vb) :
    BoxC ((((W.setCell ⟨vb, 0, none⟩ x0).setCell ⟨vb, 1, none⟩ x1).setCell ⟨vb, 2, none⟩ x2).setCell ⟨vb, 3, none⟩ x3) vb x0 x1 x2 x3 ∧ Bt pb B w ((((W.setCell ⟨vb, 0, none⟩ x0).setCell ⟨vb, 1, none⟩ x1).setCell ⟨vb, 2, none⟩ x2).setCell ⟨vb, 3, none⟩ x3) :=
  ⟨hv.set4 x0 x1 x2 x3, (((hb.set (.inl hB) _).set (.inl hB) _).set (.inl hB) _).set (.inl hB) _⟩

theorem OwnR.toS {ts : List Tok} {gs : List (Nat × Nat)} {i j s : Nat} {w w' : World} {d : Nat} {v : Value} {c : CN} {L : List (Addr × IntKind)} (h : OwnR ts gs i j s w d v c L) (hk : ∀ x ∈ L, w'.heap[x.1.block]? = w.heap[x.1.block]?) (hs : w.heap.size ≤ w'.heap.size) : OwnR ts gs i j s w' d v c L :=
  ⟨h.ow.keep hk, h.nd, fun x hx => (World.frozen?_of_block (w := w) (hk x hx)).trans (h.fr x hx), h.us.mono (Nat.le_refl _) (Nat.le_refl _) (Nat.le_refl _) hs⟩
end

section
open Go.RowKit

/-- What is under way behind a fault: nothing is known of its kids but that their row is the call's own. -/
structure JunkR (pb : Nat) (w : World) (B ob : Nat) (k : Int) (rv : Value) (wr : World) (kv : Value) (m : Nat) : Prop where
  row : ∃ xs, wr.ownsRow B 30 4 kv m xs
  box : BoxC wr ob (.int .i64 k) (.slice none 0 0) rv kv
  bt : Bt pb w.heap.size w wr
  sz : B ≤ wr.heap.size

theorem ownsRow_bt {w w' : World} {pb base e size n : Nat} {v : Value} {xs : List Value} (h : w.ownsRow base e size v n xs) (hb : Bt pb w.heap.size w w') (hp : pb < base) : w'.ownsRow base e size v n xs := by
  have hl := h.lt
  obtain ⟨h1, h2⟩ := h
  refine ⟨h1, ?_⟩
  rcases h2 with h2 | ⟨g, cap, cur, rfl, hg, hh, r⟩
  · exact .inl h2
  · exact .inr ⟨g, cap, cur, rfl, hg, by rw [hb.block g (hl g rfl).2 (by omega)]; exact hh, r⟩

theorem ownsRow_set {w : World} {base e size n o i : Nat} {v x : Value} {xs : List Value} (h : w.ownsRow base e size v n xs) (ho : o < base) : (w.setCell ⟨o, i, none⟩ x).ownsRow base e size v n xs := ownsRow_setCell_below h (a := ⟨o, i, none⟩) ho x

theorem JunkR.keep {pb : Nat} {w : World} {B ob : Nat} {k : Int} {rv : Value} {wr w' : World} {kv : Value} {m : Nat} (h : JunkR pb w B ob k rv wr kv m) (hb : Bt pb wr.heap.size wr w') (h1 : pb < ob) (h2 : ob < B) : JunkR pb w B ob k rv w' kv m := by
  have sz := h.sz
  obtain ⟨xs, hx⟩ := h.row
  exact ⟨⟨xs, ownsRow_bt hx hb (by omega)⟩, (hb.block ob (by omega) (by omega)).trans h.box, h.bt.trans (hb.mono h.bt.size), Nat.le_trans sz hb.size⟩

theorem JunkR.app {pb : Nat} {w : World} {B ob : Nat} {k : Int} {rv : Value} {W w6 : World} {kv : Value} {m g cap : Nat} {xs ys : List Value} (h : JunkR pb w B ob k rv W kv m) (h2 : ob < B) (h3 : w.heap.size ≤ ob) (hrow : W.ownsRow B 30 4 kv m xs)
    (hown : w6.ownsRow B 30 4 (.slice (some ⟨g, 0, none⟩) (m + 1) cap) (m + 1) ys) (hgrow : W.grownBy w6 kv.ownBlock) :
    BoxC w6 ob (.int .i64 k) (.slice none 0 0) rv kv ∧ JunkR pb w B ob k rv (w6.setCell ⟨ob, 3, none⟩ (.slice (some ⟨g, 0, none⟩) (m + 1) cap)) (.slice (some ⟨g, 0, none⟩) (m + 1) cap) (m + 1) := by
  have hl := hrow.lt
  have sz := h.sz
  have hbox6 : BoxC w6 ob (.int .i64 k) (.slice none 0 0) rv kv := (hgrow.block ob h.box.lt (fun e => by have := (hl ob e.symm).1; omega)).trans h.box
  refine ⟨hbox6, ⟨⟨ys, ownsRow_set hown h2⟩, hbox6.set3 _, (h.bt.grown hgrow h.bt.size (fun x hx => by have := hl x hx; omega)).set (.inl h3) _, ?_⟩⟩
  have := hgrow.size
  simp; omega
end

section
open Go.RowKit
end

section
open Go.RowKit

theorem BoxC.set2S {W : World} {b : Nat} {v0 v1 v2 v3 : Value} (h : BoxC W b v0 v1 v2 v3) (v : Value) : BoxC (W.setCell ⟨b, 2, none⟩ v) b v0 v1 v v3 := by
  unfold BoxC
  rw [heap_setCell_same W b 2 _ _ v h]
  rfl
end

end Go.Proofs.YtnmljalcndfjmaaGreat
