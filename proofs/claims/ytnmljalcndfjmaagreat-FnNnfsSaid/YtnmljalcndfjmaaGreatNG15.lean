/- Several texts in one: ReadOwn, ReadI1. -/
import Derived.Test.YtnmljalcndfjmaaGreatNG13
import Derived.Test.YtnmljalcndfjmaaGreatNG10
namespace Go.Proofs.YtnmljalcndfjmaaGreat

section
open Go.RowKit

/-- Its blocks lie from s on, below s', or are those of the texts of the tokens from i on, ahead of j. -/
def Use (ts : List Tok) (gs : List (Nat × Nat)) (i j s s' : Nat) (L : List (Addr × IntKind)) : Prop :=
  ∀ x ∈ L, (s ≤ x.1.block ∧ x.1.block < s') ∨ ∃ t, i ≤ t ∧ t < j ∧ t < ts.length ∧ (ts.getD t Tok.zero).text ≠ [] ∧ x.1.block = (gs.getD t (0, 0)).1

theorem Use.nil (ts : List Tok) (gs : List (Nat × Nat)) (i j s s' : Nat) : Use ts gs i j s s' [] := fun x hx => by simp at hx
theorem Use.mono {ts : List Tok} {gs : List (Nat × Nat)} {i j s s' i' j' r r' : Nat} {L : List (Addr × IntKind)} (h : Use ts gs i j s s' L) (h1 : i' ≤ i) (h2 : j ≤ j') (h3 : r ≤ s) (h4 : s' ≤ r') : Use ts gs i' j' r r' L := by
  intro x hx
  rcases h x hx with ⟨a, b⟩ | ⟨t, a, b, c⟩
  · exact .inl ⟨by omega, by omega⟩
  · exact .inr ⟨t, by omega, by omega, c⟩
theorem Use.append {ts : List Tok} {gs : List (Nat × Nat)} {i j s s' : Nat} {L M : List (Addr × IntKind)} (h : Use ts gs i j s s' L) (k : Use ts gs i j s s' M) : Use ts gs i j s s' (L ++ M) := by
  intro x hx
  rcases List.mem_append.1 hx with hx | hx
  · exact h x hx
  · exact k x hx

theorem Use.lt {base pb : Nat} {w : World} {g : Nat} {ts : List Tok} {gs : List (Nat × Nat)} {i j s s' : Nat} {L : List (Addr × IntKind)} (h : Use ts gs i j s s' L) (hT : TkM base pb w g ts gs) (hs : pb ≤ s') : ∀ x ∈ L, x.1.block < s' := by
  intro x hx
  rcases h x hx with ⟨a, b⟩ | ⟨t, a, b, c, d, e⟩
  · exact b
  · have := (hT.txt t c d).1; omega
theorem Use.ge {base pb : Nat} {w : World} {g : Nat} {ts : List Tok} {gs : List (Nat × Nat)} {i j s s' : Nat} {L : List (Addr × IntKind)} (h : Use ts gs i j s s' L) (hT : TkM base pb w g ts gs) (hs : base ≤ s) : ∀ x ∈ L, base ≤ x.1.block := by
  intro x hx
  rcases h x hx with ⟨a, b⟩ | ⟨t, a, b, c, d, e⟩
  · omega
  · have := (hT.txt t c d).1; omega
theorem Use.ne {base pb : Nat} {w : World} {g : Nat} {ts : List Tok} {gs : List (Nat × Nat)} {i j s s' : Nat} {L : List (Addr × IntKind)} (h : Use ts gs i j s s' L) (hT : TkM base pb w g ts gs) {o : Nat} (h1 : pb ≤ o) (h2 : o < s) : ∀ x ∈ L, x.1.block ≠ o := by
  intro x hx
  rcases h x hx with ⟨a, b⟩ | ⟨t, a, b, c, d, e⟩
  · omega
  · have := (hT.txt t c d).1; omega
theorem Use.disj {base pb : Nat} {w : World} {g : Nat} {ts : List Tok} {gs : List (Nat × Nat)} {i j s s' i' j' r r' : Nat} {L M : List (Addr × IntKind)} (h : Use ts gs i j s s' L) (k : Use ts gs i' j' r r' M) (hT : TkM base pb w g ts gs) (h1 : j ≤ i') (h2 : s' ≤ r) (h3 : pb ≤ s) (h4 : s ≤ r) :
    ∀ x ∈ L, ∀ y ∈ M, x.1.block ≠ y.1.block := by
  intro x hx y hy
  rcases h x hx with ⟨a, b⟩ | ⟨t, a, b, c, d, e⟩ <;> rcases k y hy with ⟨a', b'⟩ | ⟨t', a', b', c', d', e'⟩
  · omega
  · have := (hT.txt t' c' d').1; omega
  · have := (hT.txt t c d).1; omega
  · rw [e, e']; exact hT.dist t t' (by omega) c' d d'

structure OwnR (ts : List Tok) (gs : List (Nat × Nat)) (i j s : Nat) (w : World) (d : Nat) (v : Value) (c : CN) (L : List (Addr × IntKind)) : Prop where
  ow : OwC w d v c L
  nd : (L.map (·.1)).Nodup
  fr : ∀ x ∈ L, w.frozen? x.1 = false
  us : Use ts gs i j s w.heap.size L

theorem OwnR.bt {base pb : Nat} {g : Nat} {ts : List Tok} {gs : List (Nat × Nat)} {i j s : Nat} {w w' w0 : World} {d : Nat} {v : Value} {c : CN} {L : List (Addr × IntKind)} (h : OwnR ts gs i j s w d v c L) (hT : TkM base pb w0 g ts gs) (hs : pb < s) (hb : Bt pb w.heap.size w w') (hp : pb ≤ w.heap.size) : OwnR ts gs i j s w' d v c L := by
  have h1 := h.us.lt hT hp
  have h2 := h.us.ne hT (Nat.le_refl pb) hs
  exact ⟨h.ow.keep (fun x hx => hb.block _ (h1 x hx) (h2 x hx)), h.nd, fun x hx => (World.frozen?_of_block (w := w) (hb.block _ (h1 x hx) (h2 x hx))).trans (h.fr x hx), h.us.mono (Nat.le_refl _) (Nat.le_refl _) (Nat.le_refl _) hb.size⟩

theorem RowK.keepG {base pb : Nat} {w w' : World} {d : Nat} {v : Value} {cs : List CN} {Ls : List (List (Addr × IntKind))} {xs : List Value} (h : RowK base w d v cs Ls xs) (hb : Bt pb w.heap.size w w') (h1 : ∀ x ∈ Ls.flatten, x.1.block ≠ pb) (h2 : pb < base) : RowK base w' d v cs Ls xs := by
  have hlt := h.row.lt
  obtain ⟨g1, g2, g3, g4, g5⟩ := h
  refine ⟨g1, ?_, fun j hj => ?_, fun x hx => Nat.lt_of_lt_of_le (g4 x hx) hb.size, g5⟩
  · obtain ⟨q1, q2⟩ := g2
    refine ⟨q1, ?_⟩
    rcases q2 with q | ⟨g, cap, cur, rfl, hg, hh, r⟩
    · exact .inl q
    · exact .inr ⟨g, cap, cur, rfl, hg, by rw [hb.block g (hlt g rfl).2 (by omega)]; exact hh, r⟩
  · obtain ⟨v0, v1, v2, v3, c0, c1, c2, c3, hr⟩ := g3 j hj
    exact ⟨v0, v1, v2, v3, c0, c1, c2, c3, hr.keep (fun x hx => hb.block _ (g4 x (getD_mem_flatten hx)) (h1 x (getD_mem_flatten hx)))⟩

/-- The role of what is under way. -/
def RolR (w : World) (rv : Value) (role : List Int) (br : Nat) : Prop := ∃ a c, rv = .slice a role.length c ∧ OwB w a role.length c role br 0 ∧ (role ≠ [] → ∀ o, o < role.length → w.frozen? ⟨br, o, none⟩ = false)

theorem OwB.keepN {w w' : World} {a : Option Addr} {n cap : Nat} {zs : List Int} {b off : Nat} (h : OwB w a n cap zs b off) (hk : zs ≠ [] → w'.heap[b]? = w.heap[b]?) : OwB w' a n cap zs b off := by
  refine h.keep (fun x hx => ?_)
  obtain ⟨j, hj, rfl⟩ := mem_leafB.1 hx
  exact hk (fun e => by have := h.len; rw [e] at this; simp at this; omega)

theorem RolR.keep {w w' : World} {rv : Value} {role : List Int} {br : Nat} (h : RolR w rv role br) (hk : role ≠ [] → w'.heap[br]? = w.heap[br]?) : RolR w' rv role br := by
  obtain ⟨a, c, h1, h2, h3⟩ := h
  exact ⟨a, c, h1, h2.keepN hk, fun hn o ho => (World.frozen?_of_block (w := w) (by exact hk hn)).trans (h3 hn o ho)⟩

theorem RolR.nil (w : World) (br : Nat) : RolR w (.slice none 0 0) [] br := ⟨none, 0, rfl, ⟨rfl, ⟨by simp, by omega⟩, by simp, .inl rfl⟩, fun h => absurd rfl h⟩
theorem RolR.isSlice {w : World} {rv : Value} {role : List Int} {br : Nat} (h : RolR w rv role br) : ∃ a n c, rv = .slice a n c := by
  obtain ⟨a, c, h, _⟩ := h
  exact ⟨_, _, _, h⟩

/-- What is under way: its box, its role, and the kids so far. -/
structure InvR (pb : Nat) (ts : List Tok) (gs : List (Nat × Nat)) (i0 : Nat) (w : World) (B ob d : Nat) (k : Int) (rv : Value) (role : List Int) (br : Nat) (wr : World) (kv : Value) (cs : List CN) (Ls : List (List (Addr × IntKind))) (xs : List Value) (j : Nat) : Prop where
  row : RowK B wr d kv cs Ls xs
  nd : (Ls.flatten.map (·.1)).Nodup
  fr : ∀ x ∈ Ls.flatten, wr.frozen? x.1 = false
  us : Use ts gs i0 j B wr.heap.size Ls.flatten
  box : BoxC wr ob (.int .i64 k) (.slice none 0 0) rv kv
  rol : RolR wr rv role br
  bt : Bt pb w.heap.size w wr
  sz : B ≤ wr.heap.size

structure StatR (pb : Nat) (w : World) (B ob br : Nat) (role : List Int) : Prop where
  o0 : w.heap.size ≤ ob
  o1 : ob < B
  p : pb < w.heap.size
  br : role ≠ [] → br < B ∧ br ≠ ob ∧ br ≠ pb

theorem InvR.keep {base pb g : Nat} {ts : List Tok} {gs : List (Nat × Nat)} {i0 : Nat} {w w0 : World} {B ob d : Nat} {k : Int} {rv : Value} {role : List Int} {br : Nat} {wr w' : World} {kv : Value} {cs : List CN} {Ls : List (List (Addr × IntKind))} {xs : List Value} {j : Nat}
    (h : InvR pb ts gs i0 w B ob d k rv role br wr kv cs Ls xs j) (hS : StatR pb w B ob br role) (hT : TkM base pb w0 g ts gs) (hb : Bt pb wr.heap.size wr w') : InvR pb ts gs i0 w B ob d k rv role br w' kv cs Ls xs j := by
  have o0 := hS.o0
  have o1 := hS.o1
  have p := hS.p
  have sz := h.sz
  have hlt := h.row.lt
  have hne := h.us.ne hT (Nat.le_refl pb) (by omega)
  refine ⟨h.row.keepG hb hne (by omega), h.nd, fun x hx => (World.frozen?_of_block (w := wr) (hb.block _ (hlt x hx) (hne x hx))).trans (h.fr x hx), h.us.mono (Nat.le_refl _) (Nat.le_refl _) (Nat.le_refl _) hb.size, (hb.block ob (by omega) (by omega)).trans h.box, h.rol.keep (fun hn => hb.block _ ?_ (hS.br hn).2.2), h.bt.trans (hb.mono h.bt.size), Nat.le_trans sz hb.size⟩
  have := (hS.br hn).1; omega

/-- One kid more, appended and stored. -/
theorem InvR.app {base pb g0 : Nat} {ts : List Tok} {gs : List (Nat × Nat)} {i0 : Nat} {w w0 : World} {B ob d : Nat} {k : Int} {rv : Value} {role : List Int} {br : Nat} {W w6 : World} {kv : Value} {cs : List CN} {Ls : List (List (Addr × IntKind))} {xs : List Value} {j j' : Nat}
    (hS : StatR pb w B ob br role) (hT : TkM base pb w0 g0 ts gs) (h : InvR pb ts gs i0 w B ob d k rv role br W kv cs Ls xs j) {Bk : Nat} (hu : Use ts gs i0 j B Bk Ls.flatten) (hkB : ∀ g, kv.ownBlock = some g → g < Bk) (hBk : B ≤ Bk)
    {c : CN} {L : List (Addr × IntKind)} {v0 v1 v2 v3 : Value} {g cap n : Nat} (hc : OwnR ts gs j j' Bk W d (.agg #[v0, v1, v2, v3]) c L) (hij : i0 ≤ j) (hjj : j ≤ j') (hn : n = cs.length + 1)
    (hown : w6.ownsRow B 30 4 (.slice (some ⟨g, 0, none⟩) n cap) n (xs ++ [v0, v1, v2, v3])) (hgrow : W.grownBy w6 kv.ownBlock) (hat : kv.ownBlock = some g ∨ g = W.heap.size) :
    BoxC w6 ob (.int .i64 k) (.slice none 0 0) rv kv ∧ InvR pb ts gs i0 w B ob d k rv role br (w6.setCell ⟨ob, 3, none⟩ (.slice (some ⟨g, 0, none⟩) n cap)) (.slice (some ⟨g, 0, none⟩) n cap) (cs ++ [c]) (Ls ++ [L]) (xs ++ [v0, v1, v2, v3]) j' := by
  subst hn
  have o0 := hS.o0
  have o1 := hS.o1
  have p := hS.p
  have sz := h.sz
  have hkl := h.row.row.lt
  have hkne : ∀ b, b < B → kv.ownBlock ≠ some b := fun b hb e => by have := hkl b e; omega
  have hcl := hc.us.lt hT (by omega)
  have hbox6 : BoxC w6 ob (.int .i64 k) (.slice none 0 0) rv kv := (hgrow.block ob h.box.lt (fun e => hkne ob o1 e.symm)).trans h.box
  have hoffL : ∀ x ∈ L, kv.ownBlock ≠ some x.1.block := by
    intro x hx e
    have h1 := hkB _ e
    have h2 := (hkl _ e).1
    rcases hc.us x hx with ⟨a, b⟩ | ⟨t, a, b, c, d, e⟩
    · omega
    · have := (hT.txt t c d).1; omega
  have hrow6 : RowK B w6 d (.slice (some ⟨g, 0, none⟩) (cs.length + 1) cap) (cs ++ [c]) (Ls ++ [L]) (xs ++ [v0, v1, v2, v3]) :=
    h.row.snoc hc.ow hcl hoffL hown hgrow (by
      rcases hat with e | e
      · exact .inl (by rw [e]; rfl)
      · exact .inr (by rw [← e]; rfl))
  have hfl : (Ls ++ [L]).flatten = Ls.flatten ++ L := by simp
  have hdis := hu.disj hc.us hT (Nat.le_refl j) (Nat.le_refl Bk) (by omega) hBk
  have hall : ∀ x ∈ Ls.flatten ++ L, w6.heap[x.1.block]? = W.heap[x.1.block]? := by
    intro x hx
    rcases List.mem_append.1 hx with hx | hx
    · exact hgrow.block _ (h.row.lt x hx) (fun e => h.row.off x hx e.symm)
    · exact hgrow.block _ (hcl x hx) (fun e => hoffL x hx e.symm)
  have hus : Use ts gs i0 j' B w6.heap.size (Ls.flatten ++ L) := (h.us.mono (Nat.le_refl _) hjj (Nat.le_refl _) hgrow.size).append (hc.us.mono hij (Nat.le_refl _) hBk hgrow.size)
  have hgl := hown.lt g rfl
  have hrol6 : RolR w6 rv role br := h.rol.keep (fun hn => hgrow.block br (by have := (hS.br hn).1; omega) (fun e => hkne br (hS.br hn).1 e.symm))
  have hneo : ∀ x ∈ Ls.flatten ++ L, x.1.block ≠ ob := hus.ne hT (by omega) o1
  refine ⟨hbox6, ⟨hrow6.set 3 _ (fun x hx => by rw [hfl] at hx; exact hneo x hx) (fun e => by simp only [Value.ownBlock, Option.some.injEq] at e; omega), ?_, ?_, ?_, hbox6.set3 _, hrol6.keep (fun hn => Below.heap_setCell _ _ _ _ (hS.br hn).2.1), (h.bt.grown hgrow h.bt.size (fun x hx => by have := hkl x hx; omega)).set (.inl o0) _, ?_⟩⟩
  · rw [hfl, List.map_append, List.nodup_append]
    refine ⟨h.nd, hc.nd, fun p hp q hq e => ?_⟩
    subst e
    simp only [List.mem_map] at hp hq
    obtain ⟨x, hx, rfl⟩ := hp
    obtain ⟨y, hy, e⟩ := hq
    exact hdis x hx y hy (by rw [e])
  · intro x hx
    rw [hfl] at hx
    have h1 : w6.frozen? x.1 = false := by
      rw [World.frozen?_of_block (w := W) (hall x hx)]
      rcases List.mem_append.1 hx with hx | hx
      · exact h.fr x hx
      · exact hc.fr x hx
    simpa using h1
  · rw [hfl]; exact hus.mono (Nat.le_refl _) (Nat.le_refl _) (Nat.le_refl _) (by simp)
  · have := hgrow.size
    simp; omega

/-- Whole: of its role and its kids. -/
theorem InvR.whole {base pb g0 : Nat} {ts : List Tok} {gs : List (Nat × Nat)} {i i0 s : Nat} {w w0 : World} {B ob d : Nat} {k : Int} {rv : Value} {role : List Int} {br : Nat} {wr : World} {kv : Value} {cs : List CN} {Ls : List (List (Addr × IntKind))} {xs : List Value} {j : Nat}
    (h : InvR pb ts gs i0 w B ob d k rv role br wr kv cs Ls xs j) (hT : TkM base pb w0 g0 ts gs) (hsp : pb ≤ s) (hsB : s ≤ B) (hij : i ≤ i0) (hjj : i0 ≤ j) (hru : Use ts gs i i0 s B (leafB br 0 role.length)) :
    ∃ L, OwnR ts gs i j s wr (d + 1) (.agg #[.int .i64 k, .slice none 0 0, rv, kv]) (.mk k [] role cs) L := by
  have sz := h.sz
  obtain ⟨ka, kc, bk, hkv, ok, fk⟩ := h.row.owL
  obtain ⟨ra, rc, hrv, or, hrf⟩ := h.rol
  subst hkv
  subst hrv
  have hlen := h.row.len
  have hsep : SepK 0 wr Ls := ⟨h.nd, h.fr, fun _ _ => Nat.zero_le _⟩
  have hoff : cs.length = 0 ∨ ∀ x ∈ Ls.flatten, bk ≠ x.1.block := by
    rcases fk with h0 | ⟨h0, _⟩
    · exact .inl h0
    · exact .inr (fun x hx e => h.row.off x hx (by rw [h0, e]))
  have mK : ∀ x ∈ leafK bk 0 (fun i => Ls.getD i []) cs.length, (x.1.block = bk ∧ B ≤ bk ∧ bk < wr.heap.size ∨ x ∈ Ls.flatten) ∧ wr.frozen? x.1 = false := by
    intro x hx
    obtain ⟨i, hi, hx⟩ := mem_leafK.1 hx
    rcases fk with h0 | ⟨h0, q1, q2, q3⟩
    · omega
    · rcases hx with rfl | hx
      · exact ⟨.inl ⟨rfl, q1, q2⟩, q3 _⟩
      · exact ⟨.inr (getD_mem_flatten hx), h.fr x (getD_mem_flatten hx)⟩
  have hdis := hru.disj h.us hT (Nat.le_refl i0) (Nat.le_refl B) hsp hsB
  have hrl : ∀ x ∈ leafB br 0 role.length, x.1.block < B := hru.lt hT (by omega)
  refine ⟨_, ⟨⟨none, 0, 0, ra, role.length, rc, ka, cs.length, kc, 0, 0, br, 0, bk, 0, _, rfl, ⟨rfl, ⟨by simp, by omega⟩, by intro i; simp [CN.name], .inl rfl⟩, or, ok, rfl⟩, ?_, ?_, ?_⟩⟩
  · rw [List.map_append, List.map_append]
    have e0 : leafB 0 0 0 = [] := rfl
    rw [e0, List.map_nil, List.nil_append, List.nodup_append]
    refine ⟨leafB_nodup _ _ _, ?_, ?_⟩
    · rcases hoff with h0 | h0
      · rw [h0]; simp [leafK]
      · exact leafK_nodup hsep h0 _ (by omega)
    · intro p hp q hq e
      subst e
      simp only [List.mem_map] at hp hq
      obtain ⟨x, hx, rfl⟩ := hp
      obtain ⟨y, hy, e⟩ := hq
      rcases (mK y hy).1 with ⟨e1, e2, _⟩ | hy
      · have := hrl x hx; rw [e] at e1; omega
      · exact hdis x hx y hy (by rw [e])
  · intro x hx
    have e0 : leafB 0 0 0 = [] := rfl
    rw [e0, List.nil_append, List.mem_append] at hx
    rcases hx with hx | hx
    · obtain ⟨j, hj, rfl⟩ := mem_leafB.1 hx
      exact hrf (fun e => by rw [e] at hj; simp at hj) _ (by omega)
    · exact (mK x hx).2
  · intro x hx
    have e0 : leafB 0 0 0 = [] := rfl
    rw [e0, List.nil_append, List.mem_append] at hx
    rcases hx with hx | hx
    · exact (hru.mono (Nat.le_refl _) hjj (Nat.le_refl _) sz) x hx
    · rcases (mK x hx).1 with ⟨e1, e2, e3⟩ | hx
      · exact .inl ⟨by omega, by omega⟩
      · exact (h.us.mono hij (Nat.le_refl _) hsB (Nat.le_refl _)) x hx
end

section
open Go.RowKit

/-- What a reader gives up with. -/
def gaveUp (p : Int) : Ending := .panicked [{ v := .iface 170 (.int .i64 p), recovered := false }]

theorem hereI_lt {ts : List Tok} {en : Int} {i : Nat} (h : i < ts.length) : hereI ts en i = (ts.getD i Tok.zero).place := if_pos h
theorem hereI_end {ts : List Tok} {en : Int} {i : Nat} (h : ts.length ≤ i) : hereI ts en i = en := if_neg (by omega)

set_option maxHeartbeats 400000 in
theorem here_any (base pb g i : Nat) (ts : List Tok) (gs : List (Nat × Nat)) (en : Int) (w : World) (hR : RdrAt w pb g i ts en) (hT : TkM base pb w g ts gs) (hi : i ≤ ts.length) :
    Calls Tryz.prog 139 #[.pointer (some ⟨pb, 0, none⟩)] w fun e w' => e = .returned (.int .i64 (hereI ts en i)) ∧ w' = w := by
  obtain ⟨a, c, hB, ha, hc1, hc2⟩ := hR
  obtain ⟨b0, b1⟩ := hB.cells
  by_cases hlt : i < ts.length
  · obtain ⟨c0, c1, c2⟩ := hT.cell i hlt
    have HE := hereI_lt (en := en) hlt
    rcases ha with ha | rfl
    · omega
    · obtain ⟨m, hm⟩ : ∃ m, ts.length - i = m + 1 := ⟨ts.length - i - 1, by omega⟩
      rw [hm] at b0 hc1
      rw [HE]
      obtain ⟨pl, hpl⟩ : ∃ pl, pl = (ts.getD i Tok.zero).place := ⟨_, rfl⟩
      rw [← hpl] at c1 ⊢
      obtain ⟨o, ho⟩ : ∃ o, o = i * 3 := ⟨_, rfl⟩
      rw [← ho] at c1 b0
      clear HE hpl ho hm hT hB hi hlt c0 c2
      go_enter Tryz.func139, Tryz.ntmps139
      go_wp2
      go_ret
      exact ⟨rfl, rfl⟩
  · have HE := hereI_end (en := en) (ts := ts) (i := i) (by omega)
    rw [show ts.length - i = 0 by omega] at b0
    rw [HE]
    clear HE hT hB hi hlt ha hc1
    go_enter Tryz.func139, Tryz.ntmps139
    go_wp2
    go_ret
    exact ⟨rfl, rfl⟩

set_option maxHeartbeats 400000 in
theorem take_bad (base pb g i : Nat) (ts : List Tok) (gs : List (Nat × Nat)) (en k : Int) (w : World) (hR : RdrAt w pb g i ts en) (hT : TkM base pb w g ts gs) (hi : i ≤ ts.length) (hk : isI ts k i = false) :
    Calls Tryz.prog 140 #[.pointer (some ⟨pb, 0, none⟩), .int .i64 k] w fun e w' => e = gaveUp (hereI ts en i) ∧ Below w.heap.size w w' := by
  have HR : Hid (RdrAt w pb g i ts en) := hR
  have HT : Hid (TkM base pb w g ts gs) := hT
  obtain ⟨a, c, hB, ha, hc1, hc2⟩ := hR
  have hl := hB.lt
  obtain ⟨b0, b1⟩ := hB.cells
  have hb0 : Below w.heap.size w (w.alloc (.cells #[.int .i64 0, .int .i64 0, .slice none 0 0] 176)) := (Below.refl _ _).alloc (Nat.le_refl _) _
  have HB0 : Hid (Below w.heap.size w (w.alloc (.cells #[.int .i64 0, .int .i64 0, .slice none 0 0] 176))) := hb0
  by_cases hlt : i < ts.length
  · obtain ⟨c0, c1, c2⟩ := hT.cell i hlt
    rcases ha with ha | rfl
    · omega
    · obtain ⟨m, hm⟩ : ∃ m, ts.length - i = m + 1 := ⟨ts.length - i - 1, by omega⟩
      rw [hm] at b0 hc1
      have hne : ((ts.getD i Tok.zero).kind != k) = true := by
        simp only [isI, hlt, decide_true, Bool.true_and, decide_eq_false_iff_not] at hk
        simpa using hk
      have hgl : g < w.heap.size := by rcases hT.glt with h | h <;> omega
      obtain ⟨kd, hkd⟩ : ∃ kd, kd = (ts.getD i Tok.zero).kind := ⟨_, rfl⟩
      rw [← hkd] at c0 hne
      obtain ⟨o, ho⟩ : ∃ o, o = i * 3 := ⟨_, rfl⟩
      rw [← ho] at c0 b0
      clear hkd ho hm hT hB hlt c1 c2 hk hb0
      go_enter Tryz.func140, Tryz.ntmps140
      go_wp2_with fail
      refine (here_any base pb g i ts gs en _ (HR.out.below HB0.out) (HT.out.below (HB0.out.mono (Nat.le_of_lt hl))) hi).mono ?_
      rintro e w' ⟨rfl, hw⟩
      rw [hw]; clear hw
      go_wp2
      exact ⟨rfl, rfl, HB0.out⟩
  · rw [show ts.length - i = 0 by omega] at b0
    clear hT hB hlt ha hc1 hk hb0
    go_enter Tryz.func140, Tryz.ntmps140
    go_wp2_with fail
    refine (here_any base pb g i ts gs en _ (HR.out.below HB0.out) (HT.out.below (HB0.out.mono (Nat.le_of_lt hl))) hi).mono ?_
    rintro e w' ⟨rfl, hw⟩
    rw [hw]; clear hw
    go_wp2
    exact ⟨rfl, rfl, HB0.out⟩

/-- A token's box. -/
def BoxK3 (W : World) (b : Nat) (v0 v1 v2 : Value) : Prop := W.heap[b]? = some (.cells #[v0, v1, v2] 176 (0, 0))

theorem BoxK3.cells {W : World} {b : Nat} {v0 v1 v2 : Value} (h : BoxK3 W b v0 v1 v2) : W.cell? ⟨b, 0, none⟩ = some v0 ∧ W.cell? ⟨b, 1, none⟩ = some v1 ∧ W.cell? ⟨b, 2, none⟩ = some v2 := by
  unfold BoxK3 at h
  refine ⟨?_, ?_, ?_⟩ <;> simp [World.cell?, h]
theorem BoxK3.frz {W : World} {b : Nat} {v0 v1 v2 : Value} (h : BoxK3 W b v0 v1 v2) (o : Nat) : W.frozen? ⟨b, o, none⟩ = false := by
  unfold BoxK3 at h
  simp [World.frozen?, h]
theorem BoxK3.new (W : World) (v0 v1 v2 : Value) : BoxK3 (W.alloc (.cells #[v0, v1, v2] 176)) W.heap.size v0 v1 v2 := by
  show (W.heap.push _)[W.heap.size]? = _
  simp
theorem BoxK3.of {W W' : World} {b : Nat} {v0 v1 v2 : Value} (h : BoxK3 W b v0 v1 v2) (e : W'.heap[b]? = W.heap[b]?) : BoxK3 W' b v0 v1 v2 := e.trans h
theorem BoxK3.set3 {W : World} {b : Nat} {v0 v1 v2 : Value} (h : BoxK3 W b v0 v1 v2) (x0 x1 x2 : Value) : BoxK3 (((W.setCell ⟨b, 0, none⟩ x0).setCell ⟨b, 1, none⟩ x1).setCell ⟨b, 2, none⟩ x2) b x0 x1 x2 := by
  unfold BoxK3 at h ⊢
  have e0 := heap_setCell_same W b 0 _ _ x0 h
  have e1 := heap_setCell_same _ b 1 _ _ x1 e0
  have e2 := heap_setCell_same _ b 2 _ _ x2 e1
  rw [e2]
  rfl

theorem box_step {w : World} {pb : Nat} {lv : Value} {en : Int} (h : BoxR w pb lv en) (v : Value) (o1 o2 : Obj) : BoxR (((w.setCell ⟨pb, 0, none⟩ v).alloc o1).alloc o2) pb v en := by
  have h1 := h.set0 v
  have h2 : BoxR ((w.setCell ⟨pb, 0, none⟩ v).alloc o1) pb v en := h1.of (Below.heap_alloc _ _ _ h1.lt)
  exact h2.of (Below.heap_alloc _ _ _ h2.lt)

theorem RdrAt.step {w : World} {pb g i' : Nat} {lv : Value} {en : Int} {ts : List Tok} (h : BoxR w pb lv en) (a' : Option Addr) (m' c' : Nat) (o1 o2 : Obj) (hm : m' = ts.length - i') (ha : ts.length = i' ∨ a' = some ⟨g, i' * 3, none⟩) (hc : m' ≤ c') (hc2 : c' ≤ 9223372036854775807) :
    RdrAt (((w.setCell ⟨pb, 0, none⟩ (.slice a' m' c')).alloc o1).alloc o2) pb g i' ts en := ⟨a', c', by rw [← hm]; exact box_step h _ _ _, ha, by omega, hc2⟩

theorem bt_step (w : World) (pb : Nat) (v : Value) (o1 o2 : Obj) : Bt pb w.heap.size w (((w.setCell ⟨pb, 0, none⟩ v).alloc o1).alloc o2) :=
  (((Bt.refl pb w.heap.size w).set (p := ⟨pb, 0, none⟩) (.inr rfl) v).alloc (by simp) o1).alloc (by simp) o2

set_option maxHeartbeats 800000 in
theorem take_ok (base pb g i : Nat) (ts : List Tok) (gs : List (Nat × Nat)) (en k : Int) (w : World) (hR : RdrAt w pb g i ts en) (hT : TkM base pb w g ts gs) (hk : isI ts k i = true) :
    Calls Tryz.prog 140 #[.pointer (some ⟨pb, 0, none⟩), .int .i64 k] w fun e w' => e = .returned (.agg #[.int .i64 k, .int .i64 (hereI ts en i), txv (ts.getD i Tok.zero) (gs.getD i (0, 0))]) ∧ RdrAt w' pb g (i + 1) ts en ∧ Bt pb w.heap.size w w' := by
  obtain ⟨a, c, hB, ha, hc1, hc2⟩ := hR
  have hl := hB.lt
  have hlt := isI_lt hk
  obtain ⟨c0, c1, c2⟩ := hT.cell i hlt
  rw [isI_kind hk] at c0
  rw [← hereI_lt (en := en) hlt] at c1
  obtain ⟨p, hp⟩ : ∃ p, p = hereI ts en i := ⟨_, rfl⟩
  obtain ⟨ta, tn, tc, htx⟩ : ∃ ta tn tc, txv (ts.getD i Tok.zero) (gs.getD i (0, 0)) = .slice ta tn tc := by
    obtain ⟨a, c, h⟩ := txv_form (ts.getD i Tok.zero) (gs.getD i (0, 0)); exact ⟨_, _, _, h⟩
  rw [htx] at c2 ⊢
  rw [← hp] at c1 ⊢
  have hgl : g < w.heap.size := by rcases hT.glt with h | h <;> omega
  have hgp : g ≠ pb := by rcases hT.glt with h | h <;> omega
  rcases ha with ha | rfl
  · omega
  · obtain ⟨m, hm⟩ : ∃ m, ts.length - i = m + 1 := ⟨ts.length - i - 1, by omega⟩
    rw [hm] at hB hc1
    obtain ⟨o, ho⟩ : ∃ o, o = i * 3 := ⟨_, rfl⟩
    rw [← ho] at c0 c1 c2 hB
    obtain ⟨b0, b1⟩ := hB.cells
    have bf := hB.frz 0
    have HB : Hid (BoxR w pb (.slice (some ⟨g, o, none⟩) (m + 1) c) en) := hB
    have HO : Hid (o = i * 3) := ho
    have HM : Hid (ts.length - i = m + 1) := hm
    have HLt : Hid (i < ts.length) := hlt
    clear ho hm hT hB hlt hk hp htx
    by_cases hc : c = 1
    · subst hc
      have HM0 : Hid (m = 0) := by unfold Hid; omega
      go_enter Tryz.func140, Tryz.ntmps140
      go_wp2
      refine bodyPost_ret (v := .agg #[.int .i64 k, .int .i64 p, .slice ta tn tc]) (by simp [results, Tryz.results140, go_sem]) rfl ?_
      exact ⟨rfl, RdrAt.step HB.out _ _ _ _ _ (by have := HM0.out; have := HM.out; omega) (.inl (by have := HM0.out; have := HM.out; omega)) (by have := HM0.out; omega) (by omega), bt_step _ _ _ _ _⟩
    · have HO3 : Hid (o + 3 = (i + 1) * 3) := by have := HO.out; unfold Hid; omega
      have HM1 : Hid (m = ts.length - (i + 1)) := by have := HM.out; unfold Hid; omega
      go_enter Tryz.func140, Tryz.ntmps140
      go_wp2
      refine bodyPost_ret (v := .agg #[.int .i64 k, .int .i64 p, .slice ta tn tc]) (by simp [results, Tryz.results140, go_sem]) rfl ?_
      exact ⟨rfl, RdrAt.step HB.out _ _ _ _ _ HM1.out (.inr (by rw [HO3.out])) (by omega) (by omega), bt_step _ _ _ _ _⟩

/-- The words of the kinds, one behind the other, as the program looks them up. -/
theorem kindW_no (l : List UInt8) (h : ∀ k : Nat, k ≤ 7 → ((wordB k).toList == l) = false) : kindW l = 2 := by
  have h0 := h 0 (by omega)
  have h1 := h 1 (by omega)
  have h3 := h 3 (by omega)
  have h4 := h 4 (by omega)
  have h5 := h 5 (by omega)
  have h6 := h 6 (by omega)
  have h7 := h 7 (by omega)
  simp [wordB, ByteArray.toList_eq] at h0 h1 h3 h4 h5 h6 h7
  unfold kindW
  rw [if_neg (fun e => h0 e.symm), if_neg (fun e => h1 e.symm), if_neg (fun e => h3 e.symm), if_neg (fun e => h4 e.symm), if_neg (fun e => h5 e.symm), if_neg (fun e => h6 e.symm), if_neg (fun e => h7 e.symm)]

theorem kindW_at (l : List UInt8) (k : Nat) (hk : k ≤ 7) (h : ((wordB k).toList == l) = true) : kindW l = k := by
  have hl : l = (wordB k).toList := (eq_of_beq h).symm
  subst hl
  rw [ByteArray.toList_eq]
  match k, hk with
  | 0, _ | 1, _ | 2, _ | 3, _ | 4, _ | 5, _ | 6, _ | 7, _ => rfl

set_option maxRecDepth 100000 in
set_option maxHeartbeats 1000000 in
theorem conKind_any (a : Option Addr) (n cap : Nat) (zs : List Int) (w : World) {lo hi : Nat} (h : Rd lo hi w a n cap zs) :
    Calls Tryz.prog 141 #[.slice a n cap] w fun e w' => e = .returned (.int .i64 (kindW (strOfNums zs).toList)) ∧ ∃ nd, w' = w.drewN nd := by
  have H : Hid (Rd lo hi w a n cap zs) := h
  clear h
  obtain ⟨s, HS⟩ : ∃ s, Hid (s = strOfNums zs) := ⟨_, rfl⟩
  rw [← HS.out]
  go_enter Tryz.func141, Tryz.ntmps141
  go_wp2_with fail
  go_loopw [3] (fun i wr => ∃ k nd : Nat, k ≤ 8 ∧ i = .int .i64 k ∧ wr = w.drewN nd ∧ ∀ j : Nat, j < k → ((wordB j).toList == s.toList) = false) (fun i _ => 8 - (intOf i).toNat)
  case atStart => exact ⟨0, 0, Nat.zero_le _, rfl, rfl, fun j hj => by omega⟩
  case round =>
    obtain ⟨k, nd, hk, rfl, hwr, hno⟩ := hrel
    have HNo : Hid (∀ j : Nat, j < k → ((wordB j).toList == s.toList) = false) := hno
    have HWr : Hid (wr = w.drewN nd) := hwr
    clear hno hwr
    by_cases hlt : k ≤ 7
    · have hki : (k : Int) ≤ 7 := by omega
      have hcv : ∀ m, (convert 22 9 (.slice a n cap)).run Tryz.prog (wr.drewN m) = .ok (.string s) (wr.drewN m) := by
        intro m; rw [HS.out, HWr.out]; exact conv_any (H.out.same (fun _ _ _ => rfl))
      have hcv1 : (convert 22 9 (.slice a n cap)).run Tryz.prog wr.drew = .ok (.string s) wr.drew := hcv 1
      clear hcv
      obtain ⟨t, HT⟩ : ∃ t, Hid (t = wordB k) := ⟨_, rfl⟩
      cases hb : (t.toList == s.toList)
      · have HF : Hid (∀ j : Nat, j < k + 1 → ((wordB j).toList == s.toList) = false) := by
          intro j hj
          by_cases e : j = k
          · subst e; rw [← HT.out]; exact hb
          · exact HNo.out j (by omega)
        go_wp2_with fail
        go_region_with (go_at_call 144; refine (conWord_any _ _).mono ?_; rintro e w' ⟨rfl, hw⟩; rw [hw, ← HT.out]; clear hw)
        all_goals
          go_wp2
          go_roundw
          case rel => exact ⟨k + 1, nd + 1, by omega, by go_num, by rw [HWr.out]; rfl, HF.out⟩
          case measure => simp [intOf]; omega
      · have HF : Hid (kindW s.toList = k) := kindW_at _ k hlt (by rw [← HT.out]; exact hb)
        go_wp2_with fail
        go_region_with (go_at_call 144; refine (conWord_any _ _).mono ?_; rintro e w' ⟨rfl, hw⟩; rw [hw, ← HT.out]; clear hw)
        all_goals
          go_wp2
          go_ret
          exact ⟨ri HF.out.symm, nd + 1, by rw [HWr.out]; rfl⟩
    · have HF : Hid (kindW s.toList = 2) := kindW_no _ (fun j hj => HNo.out j (by omega))
      go_wp2
      go_ret
      exact ⟨ri HF.out.symm, nd, HWr.out⟩
end

end Go.Proofs.YtnmljalcndfjmaaGreat
