/- Several texts in one: KrI1, ReadOwn. -/
import Derived.Test.YtckhjoancfbkfaaGreatNG17
import Derived.Test.YtckhjoancfbkfaaGreatNG16
namespace Go.Proofs.YtckhjoancfbkfaaGreat

section
open Go.RowKit

theorem kindX_no (l : List UInt8) (h : ∀ k : Nat, k ≤ 5 → ((axWordB k).toList == l) = false) : kindX l = -1 := by
  have h0 := h 0 (by omega)
  have h1 := h 1 (by omega)
  have h2 := h 2 (by omega)
  have h3 := h 3 (by omega)
  have h4 := h 4 (by omega)
  have h5 := h 5 (by omega)
  simp [axWordB, ByteArray.toList_eq] at h0 h1 h2 h3 h4 h5
  unfold kindX
  rw [if_neg (fun e => h0 e.symm), if_neg (fun e => h1 e.symm), if_neg (fun e => h2 e.symm), if_neg (fun e => h3 e.symm), if_neg (fun e => h4 e.symm), if_neg (fun e => h5 e.symm)]

theorem kindX_at (l : List UInt8) (k : Nat) (hk : k ≤ 5) (h : ((axWordB k).toList == l) = true) : kindX l = k := by
  have hl : l = (axWordB k).toList := (eq_of_beq h).symm
  subst hl
  rw [ByteArray.toList_eq]
  match k, hk with
  | 0, _ | 1, _ | 2, _ | 3, _ | 4, _ | 5, _ => rfl

set_option maxRecDepth 100000 in
set_option maxHeartbeats 1000000 in
theorem axiomKind_any (a : Option Addr) (n cap : Nat) (zs : List Int) (w : World) {lo hi : Nat} (h : Rd lo hi w a n cap zs) :
    Calls Tryz.prog 128 #[.slice a n cap] w fun e w' => e = .returned (.int .i64 (kindX (strOfNums zs).toList)) ∧ ∃ nd, w' = w.drewN nd := by
  have H : Hid (Rd lo hi w a n cap zs) := h
  clear h
  obtain ⟨s, HS⟩ : ∃ s, Hid (s = strOfNums zs) := ⟨_, rfl⟩
  rw [← HS.out]
  go_enter Tryz.func128, Tryz.ntmps128
  go_wp2_with fail
  go_loopw [3] (fun i wr => ∃ k nd : Nat, k ≤ 6 ∧ i = .int .i64 k ∧ wr = w.drewN nd ∧ ∀ j : Nat, j < k → ((axWordB j).toList == s.toList) = false) (fun i _ => 6 - (intOf i).toNat)
  case atStart => exact ⟨0, 0, Nat.zero_le _, rfl, rfl, fun j hj => by omega⟩
  case round =>
    obtain ⟨k, nd, hk, rfl, hwr, hno⟩ := hrel
    have HNo : Hid (∀ j : Nat, j < k → ((axWordB j).toList == s.toList) = false) := hno
    have HWr : Hid (wr = w.drewN nd) := hwr
    clear hno hwr
    by_cases hlt : k ≤ 5
    · have hki : (k : Int) ≤ 5 := by omega
      have hcv : ∀ m, (convert 22 9 (.slice a n cap)).run Tryz.prog (wr.drewN m) = .ok (.string s) (wr.drewN m) := by
        intro m; rw [HS.out, HWr.out]; exact conv_any (H.out.same (fun _ _ _ => rfl))
      have hcv1 : (convert 22 9 (.slice a n cap)).run Tryz.prog wr.drew = .ok (.string s) wr.drew := hcv 1
      clear hcv
      obtain ⟨t, HT⟩ : ∃ t, Hid (t = axWordB k) := ⟨_, rfl⟩
      cases hb : (t.toList == s.toList)
      · have HF : Hid (∀ j : Nat, j < k + 1 → ((axWordB j).toList == s.toList) = false) := by
          intro j hj
          by_cases e : j = k
          · subst e; rw [← HT.out]; exact hb
          · exact HNo.out j (by omega)
        go_wp2_with fail
        go_region_with (go_at_call 70; refine (axiomWord_any _ _).mono ?_; rintro e w' ⟨rfl, hw⟩; rw [hw, ← HT.out]; clear hw)
        all_goals
          go_wp2
          go_roundw
          case rel => exact ⟨k + 1, nd + 1, by omega, by go_num, by rw [HWr.out]; rfl, HF.out⟩
          case measure => simp [intOf]; omega
      · have HF : Hid (kindX s.toList = k) := kindX_at _ k hlt (by rw [← HT.out]; exact hb)
        go_wp2_with fail
        go_region_with (go_at_call 70; refine (axiomWord_any _ _).mono ?_; rintro e w' ⟨rfl, hw⟩; rw [hw, ← HT.out]; clear hw)
        all_goals
          go_wp2
          go_ret
          exact ⟨ri HF.out.symm, nd + 1, by rw [HWr.out]; rfl⟩
    · have HF : Hid (kindX s.toList = -1) := kindX_no _ (fun j hj => HNo.out j (by omega))
      go_wp2
      go_ret
      exact ⟨ri HF.out.symm, nd, HWr.out⟩
end

section
open Go.RowKit

/-- Its blocks lie from s on, below s', or are those of the texts of the tokens from i on, ahead of j. -/
def Use (ts : List Tok) (gs : List (Nat × Nat)) (i j s s' : Nat) (L : List (Addr × IntKind)) : Prop :=
  ∀ x ∈ L, (s ≤ x.1.block ∧ x.1.block < s') ∨ ∃ t, i ≤ t ∧ t < j ∧ t < ts.length ∧ (ts.getD t Tok.zero).text ≠ [] ∧ x.1.block = (gs.getD t (0, 0)).1

theorem Use.nil (ts : List Tok) (gs : List (Nat × Nat)) (i j s s' : Nat) : Use ts gs i j s s' [] := fun x hx => by simp at hx
theorem Use.mono {ts : List Tok} {gs : List (Nat × Nat)} {i j s s' i' j' r r' : Nat} {L : List (Addr × IntKind)} (h : Use ts gs i j s s' L) (h1 : i' ≤ i) (h2 : j ≤ j') (h3 : r ≤ s) (h4 : s' ≤ r') : Use ts gs i' j' r r' L := by
  intro x hx
  rcases h x hx with ⟨a, b⟩ | ⟨t, a, b, c⟩
  · exact .inl ⟨by omega, by omega⟩
  · exact .inr ⟨t, by omega, by omega, c⟩
theorem Use.append {ts : List Tok} {gs : List (Nat × Nat)} {i j s s' : Nat} {L M : List (Addr × IntKind)} (h : Use ts gs i j s s' L) (k : Use ts gs i j s s' M) : Use ts gs i j s s' (L ++ M) := by
  intro x hx
  rcases List.mem_append.1 hx with hx | hx
  · exact h x hx
  · exact k x hx

theorem Use.lt {base pb : Nat} {w : World} {g : Nat} {ts : List Tok} {gs : List (Nat × Nat)} {i j s s' : Nat} {L : List (Addr × IntKind)} (h : Use ts gs i j s s' L) (hT : TkM base pb w g ts gs) (hs : pb ≤ s') : ∀ x ∈ L, x.1.block < s' := by
  intro x hx
  rcases h x hx with ⟨a, b⟩ | ⟨t, a, b, c, d, e⟩
  · exact b
  · have := (hT.txt t c d).1; omega
theorem Use.ge {base pb : Nat} {w : World} {g : Nat} {ts : List Tok} {gs : List (Nat × Nat)} {i j s s' : Nat} {L : List (Addr × IntKind)} (h : Use ts gs i j s s' L) (hT : TkM base pb w g ts gs) (hs : base ≤ s) : ∀ x ∈ L, base ≤ x.1.block := by
  intro x hx
  rcases h x hx with ⟨a, b⟩ | ⟨t, a, b, c, d, e⟩
  · omega
  · have := (hT.txt t c d).1; omega
theorem Use.ne {base pb : Nat} {w : World} {g : Nat} {ts : List Tok} {gs : List (Nat × Nat)} {i j s s' : Nat} {L : List (Addr × IntKind)} (h : Use ts gs i j s s' L) (hT : TkM base pb w g ts gs) {o : Nat} (h1 : pb ≤ o) (h2 : o < s) : ∀ x ∈ L, x.1.block ≠ o := by
  intro x hx
  rcases h x hx with ⟨a, b⟩ | ⟨t, a, b, c, d, e⟩
  · omega
  · have := (hT.txt t c d).1; omega
theorem Use.disj {base pb : Nat} {w : World} {g : Nat} {ts : List Tok} {gs : List (Nat × Nat)} {i j s s' i' j' r r' : Nat} {L M : List (Addr × IntKind)} (h : Use ts gs i j s s' L) (k : Use ts gs i' j' r r' M) (hT : TkM base pb w g ts gs) (h1 : j ≤ i') (h2 : s' ≤ r) (h3 : pb ≤ s) (h4 : s ≤ r) :
    ∀ x ∈ L, ∀ y ∈ M, x.1.block ≠ y.1.block := by
  intro x hx y hy
  rcases h x hx with ⟨a, b⟩ | ⟨t, a, b, c, d, e⟩ <;> rcases k y hy with ⟨a', b'⟩ | ⟨t', a', b', c', d', e'⟩
  · omega
  · have := (hT.txt t' c' d').1; omega
  · have := (hT.txt t c d).1; omega
  · rw [e, e']; exact hT.dist t t' (by omega) c' d d'

structure OwnR (ts : List Tok) (gs : List (Nat × Nat)) (i j s : Nat) (w : World) (d : Nat) (v : Value) (c : CN) (L : List (Addr × IntKind)) : Prop where
  ow : OwC w d v c L
  nd : (L.map (·.1)).Nodup
  fr : ∀ x ∈ L, w.frozen? x.1 = false
  us : Use ts gs i j s w.heap.size L

theorem OwnR.bt {base pb : Nat} {g : Nat} {ts : List Tok} {gs : List (Nat × Nat)} {i j s : Nat} {w w' w0 : World} {d : Nat} {v : Value} {c : CN} {L : List (Addr × IntKind)} (h : OwnR ts gs i j s w d v c L) (hT : TkM base pb w0 g ts gs) (hs : pb < s) (hb : Bt pb w.heap.size w w') (hp : pb ≤ w.heap.size) : OwnR ts gs i j s w' d v c L := by
  have h1 := h.us.lt hT hp
  have h2 := h.us.ne hT (Nat.le_refl pb) hs
  exact ⟨h.ow.keep (fun x hx => hb.block _ (h1 x hx) (h2 x hx)), h.nd, fun x hx => (World.frozen?_of_block (w := w) (hb.block _ (h1 x hx) (h2 x hx))).trans (h.fr x hx), h.us.mono (Nat.le_refl _) (Nat.le_refl _) (Nat.le_refl _) hb.size⟩

theorem RowK.keepG {base pb : Nat} {w w' : World} {d : Nat} {v : Value} {cs : List CN} {Ls : List (List (Addr × IntKind))} {xs : List Value} (h : RowK base w d v cs Ls xs) (hb : Bt pb w.heap.size w w') (h1 : ∀ x ∈ Ls.flatten, x.1.block ≠ pb) (h2 : pb < base) : RowK base w' d v cs Ls xs := by
  have hlt := h.row.lt
  obtain ⟨g1, g2, g3, g4, g5⟩ := h
  refine ⟨g1, ?_, fun j hj => ?_, fun x hx => Nat.lt_of_lt_of_le (g4 x hx) hb.size, g5⟩
  · obtain ⟨q1, q2⟩ := g2
    refine ⟨q1, ?_⟩
    rcases q2 with q | ⟨g, cap, cur, rfl, hg, hh, r⟩
    · exact .inl q
    · exact .inr ⟨g, cap, cur, rfl, hg, by rw [hb.block g (hlt g rfl).2 (by omega)]; exact hh, r⟩
  · obtain ⟨v0, v1, v2, v3, c0, c1, c2, c3, hr⟩ := g3 j hj
    exact ⟨v0, v1, v2, v3, c0, c1, c2, c3, hr.keep (fun x hx => hb.block _ (g4 x (getD_mem_flatten hx)) (h1 x (getD_mem_flatten hx)))⟩

/-- The role of what is under way. -/
def RolR (w : World) (rv : Value) (role : List Int) (br : Nat) : Prop := ∃ a c, rv = .slice a role.length c ∧ OwB w a role.length c role br 0 ∧ (role ≠ [] → ∀ o, o < role.length → w.frozen? ⟨br, o, none⟩ = false)

theorem OwB.keepN {w w' : World} {a : Option Addr} {n cap : Nat} {zs : List Int} {b off : Nat} (h : OwB w a n cap zs b off) (hk : zs ≠ [] → w'.heap[b]? = w.heap[b]?) : OwB w' a n cap zs b off := by
  refine h.keep (fun x hx => ?_)
  obtain ⟨j, hj, rfl⟩ := mem_leafB.1 hx
  exact hk (fun e => by have := h.len; rw [e] at this; simp at this; omega)

theorem RolR.keep {w w' : World} {rv : Value} {role : List Int} {br : Nat} (h : RolR w rv role br) (hk : role ≠ [] → w'.heap[br]? = w.heap[br]?) : RolR w' rv role br := by
  obtain ⟨a, c, h1, h2, h3⟩ := h
  exact ⟨a, c, h1, h2.keepN hk, fun hn o ho => (World.frozen?_of_block (w := w) (by exact hk hn)).trans (h3 hn o ho)⟩

theorem RolR.nil (w : World) (br : Nat) : RolR w (.slice none 0 0) [] br := ⟨none, 0, rfl, ⟨rfl, ⟨by simp, by omega⟩, by simp, .inl rfl⟩, fun h => absurd rfl h⟩
theorem RolR.isSlice {w : World} {rv : Value} {role : List Int} {br : Nat} (h : RolR w rv role br) : ∃ a n c, rv = .slice a n c := by
  obtain ⟨a, c, h, _⟩ := h
  exact ⟨_, _, _, h⟩

/-- What is under way: its box, its role, and the kids so far. -/
structure InvR (pb : Nat) (ts : List Tok) (gs : List (Nat × Nat)) (i0 : Nat) (w : World) (B ob d : Nat) (k : Int) (rv : Value) (role : List Int) (br : Nat) (wr : World) (kv : Value) (cs : List CN) (Ls : List (List (Addr × IntKind))) (xs : List Value) (j : Nat) : Prop where
  row : RowK B wr d kv cs Ls xs
  nd : (Ls.flatten.map (·.1)).Nodup
  fr : ∀ x ∈ Ls.flatten, wr.frozen? x.1 = false
  us : Use ts gs i0 j B wr.heap.size Ls.flatten
  box : BoxC wr ob (.int .i64 k) (.slice none 0 0) rv kv
  rol : RolR wr rv role br
  bt : Bt pb w.heap.size w wr
  sz : B ≤ wr.heap.size

structure StatR (pb : Nat) (w : World) (B ob br : Nat) (role : List Int) : Prop where
  o0 : w.heap.size ≤ ob
  o1 : ob < B
  p : pb < w.heap.size
  br : role ≠ [] → br < B ∧ br ≠ ob ∧ br ≠ pb

theorem InvR.keep {base pb g : Nat} {ts : List Tok} {gs : List (Nat × Nat)} {i0 : Nat} {w w0 : World} {B ob d : Nat} {k : Int} {rv : Value} {role : List Int} {br : Nat} {wr w' : World} {kv : Value} {cs : List CN} {Ls : List (List (Addr × IntKind))} {xs : List Value} {j : Nat}
    (h : InvR pb ts gs i0 w B ob d k rv role br wr kv cs Ls xs j) (hS : StatR pb w B ob br role) (hT : TkM base pb w0 g ts gs) (hb : Bt pb wr.heap.size wr w') : InvR pb ts gs i0 w B ob d k rv role br w' kv cs Ls xs j := by
  have o0 := hS.o0
  have o1 := hS.o1
  have p := hS.p
  have sz := h.sz
  have hlt := h.row.lt
  have hne := h.us.ne hT (Nat.le_refl pb) (by omega)
  refine ⟨h.row.keepG hb hne (by omega), h.nd, fun x hx => (World.frozen?_of_block (w := wr) (hb.block _ (hlt x hx) (hne x hx))).trans (h.fr x hx), h.us.mono (Nat.le_refl _) (Nat.le_refl _) (Nat.le_refl _) hb.size, (hb.block ob (by omega) (by omega)).trans h.box, h.rol.keep (fun hn => hb.block _ ?_ (hS.br hn).2.2), h.bt.trans (hb.mono h.bt.size), Nat.le_trans sz hb.size⟩
  have := (hS.br hn).1; omega

/-- One kid more, appended and stored. -/
theorem InvR.app {base pb g0 : Nat} {ts : List Tok} {gs : List (Nat × Nat)} {i0 : Nat} {w w0 : World} {B ob d : Nat} {k : Int} {rv : Value} {role : List Int} {br : Nat} {W w6 : World} {kv : Value} {cs : List CN} {Ls : List (List (Addr × IntKind))} {xs : List Value} {j j' : Nat}
    (hS : StatR pb w B ob br role) (hT : TkM base pb w0 g0 ts gs) (h : InvR pb ts gs i0 w B ob d k rv role br W kv cs Ls xs j) {Bk : Nat} (hu : Use ts gs i0 j B Bk Ls.flatten) (hkB : ∀ g, kv.ownBlock = some g → g < Bk) (hBk : B ≤ Bk)
    {c : CN} {L : List (Addr × IntKind)} {v0 v1 v2 v3 : Value} {g cap n : Nat} (hc : OwnR ts gs j j' Bk W d (.agg #[v0, v1, v2, v3]) c L) (hij : i0 ≤ j) (hjj : j ≤ j') (hn : n = cs.length + 1)
    (hown : w6.ownsRow B 37 4 (.slice (some ⟨g, 0, none⟩) n cap) n (xs ++ [v0, v1, v2, v3])) (hgrow : W.grownBy w6 kv.ownBlock) (hat : kv.ownBlock = some g ∨ g = W.heap.size) :
    BoxC w6 ob (.int .i64 k) (.slice none 0 0) rv kv ∧ InvR pb ts gs i0 w B ob d k rv role br (w6.setCell ⟨ob, 3, none⟩ (.slice (some ⟨g, 0, none⟩) n cap)) (.slice (some ⟨g, 0, none⟩) n cap) (cs ++ [c]) (Ls ++ [L]) (xs ++ [v0, v1, v2, v3]) j' := by
  subst hn
  have o0 := hS.o0
  have o1 := hS.o1
  have p := hS.p
  have sz := h.sz
  have hkl := h.row.row.lt
  have hkne : ∀ b, b < B → kv.ownBlock ≠ some b := fun b hb e => by have := hkl b e; omega
  have hcl := hc.us.lt hT (by omega)
  have hbox6 : BoxC w6 ob (.int .i64 k) (.slice none 0 0) rv kv := (hgrow.block ob h.box.lt (fun e => hkne ob o1 e.symm)).trans h.box
  have hoffL : ∀ x ∈ L, kv.ownBlock ≠ some x.1.block := by
    intro x hx e
    have h1 := hkB _ e
    have h2 := (hkl _ e).1
    rcases hc.us x hx with ⟨a, b⟩ | ⟨t, a, b, c, d, e⟩
    · omega
    · have := (hT.txt t c d).1; omega
  have hrow6 : RowK B w6 d (.slice (some ⟨g, 0, none⟩) (cs.length + 1) cap) (cs ++ [c]) (Ls ++ [L]) (xs ++ [v0, v1, v2, v3]) :=
    h.row.snoc hc.ow hcl hoffL hown hgrow (by
      rcases hat with e | e
      · exact .inl (by rw [e]; rfl)
      · exact .inr (by rw [← e]; rfl))
  have hfl : (Ls ++ [L]).flatten = Ls.flatten ++ L := by simp
  have hdis := hu.disj hc.us hT (Nat.le_refl j) (Nat.le_refl Bk) (by omega) hBk
  have hall : ∀ x ∈ Ls.flatten ++ L, w6.heap[x.1.block]? = W.heap[x.1.block]? := by
    intro x hx
    rcases List.mem_append.1 hx with hx | hx
    · exact hgrow.block _ (h.row.lt x hx) (fun e => h.row.off x hx e.symm)
    · exact hgrow.block _ (hcl x hx) (fun e => hoffL x hx e.symm)
  have hus : Use ts gs i0 j' B w6.heap.size (Ls.flatten ++ L) := (h.us.mono (Nat.le_refl _) hjj (Nat.le_refl _) hgrow.size).append (hc.us.mono hij (Nat.le_refl _) hBk hgrow.size)
  have hgl := hown.lt g rfl
  have hrol6 : RolR w6 rv role br := h.rol.keep (fun hn => hgrow.block br (by have := (hS.br hn).1; omega) (fun e => hkne br (hS.br hn).1 e.symm))
  have hneo : ∀ x ∈ Ls.flatten ++ L, x.1.block ≠ ob := hus.ne hT (by omega) o1
  refine ⟨hbox6, ⟨hrow6.set 3 _ (fun x hx => by rw [hfl] at hx; exact hneo x hx) (fun e => by simp only [Value.ownBlock, Option.some.injEq] at e; omega), ?_, ?_, ?_, hbox6.set3 _, hrol6.keep (fun hn => Below.heap_setCell _ _ _ _ (hS.br hn).2.1), (h.bt.grown hgrow h.bt.size (fun x hx => by have := hkl x hx; omega)).set (.inl o0) _, ?_⟩⟩
  · rw [hfl, List.map_append, List.nodup_append]
    refine ⟨h.nd, hc.nd, fun p hp q hq e => ?_⟩
    subst e
    simp only [List.mem_map] at hp hq
    obtain ⟨x, hx, rfl⟩ := hp
    obtain ⟨y, hy, e⟩ := hq
    exact hdis x hx y hy (by rw [e])
  · intro x hx
    rw [hfl] at hx
    have h1 : w6.frozen? x.1 = false := by
      rw [World.frozen?_of_block (w := W) (hall x hx)]
      rcases List.mem_append.1 hx with hx | hx
      · exact h.fr x hx
      · exact hc.fr x hx
    simpa using h1
  · rw [hfl]; exact hus.mono (Nat.le_refl _) (Nat.le_refl _) (Nat.le_refl _) (by simp)
  · have := hgrow.size
    simp; omega

/-- Whole: of its role and its kids. -/
theorem InvR.whole {base pb g0 : Nat} {ts : List Tok} {gs : List (Nat × Nat)} {i i0 s : Nat} {w w0 : World} {B ob d : Nat} {k : Int} {rv : Value} {role : List Int} {br : Nat} {wr : World} {kv : Value} {cs : List CN} {Ls : List (List (Addr × IntKind))} {xs : List Value} {j : Nat}
    (h : InvR pb ts gs i0 w B ob d k rv role br wr kv cs Ls xs j) (hT : TkM base pb w0 g0 ts gs) (hsp : pb ≤ s) (hsB : s ≤ B) (hij : i ≤ i0) (hjj : i0 ≤ j) (hru : Use ts gs i i0 s B (leafB br 0 role.length)) :
    ∃ L, OwnR ts gs i j s wr (d + 1) (.agg #[.int .i64 k, .slice none 0 0, rv, kv]) (.mk k [] role cs) L := by
  have sz := h.sz
  obtain ⟨ka, kc, bk, hkv, ok, fk⟩ := h.row.owL
  obtain ⟨ra, rc, hrv, or, hrf⟩ := h.rol
  subst hkv
  subst hrv
  have hlen := h.row.len
  have hsep : SepK 0 wr Ls := ⟨h.nd, h.fr, fun _ _ => Nat.zero_le _⟩
  have hoff : cs.length = 0 ∨ ∀ x ∈ Ls.flatten, bk ≠ x.1.block := by
    rcases fk with h0 | ⟨h0, _⟩
    · exact .inl h0
    · exact .inr (fun x hx e => h.row.off x hx (by rw [h0, e]))
  have mK : ∀ x ∈ leafK bk 0 (fun i => Ls.getD i []) cs.length, (x.1.block = bk ∧ B ≤ bk ∧ bk < wr.heap.size ∨ x ∈ Ls.flatten) ∧ wr.frozen? x.1 = false := by
    intro x hx
    obtain ⟨i, hi, hx⟩ := mem_leafK.1 hx
    rcases fk with h0 | ⟨h0, q1, q2, q3⟩
    · omega
    · rcases hx with rfl | hx
      · exact ⟨.inl ⟨rfl, q1, q2⟩, q3 _⟩
      · exact ⟨.inr (getD_mem_flatten hx), h.fr x (getD_mem_flatten hx)⟩
  have hdis := hru.disj h.us hT (Nat.le_refl i0) (Nat.le_refl B) hsp hsB
  have hrl : ∀ x ∈ leafB br 0 role.length, x.1.block < B := hru.lt hT (by omega)
  refine ⟨_, ⟨⟨none, 0, 0, ra, role.length, rc, ka, cs.length, kc, 0, 0, br, 0, bk, 0, _, rfl, ⟨rfl, ⟨by simp, by omega⟩, by intro i; simp [CN.name], .inl rfl⟩, or, ok, rfl⟩, ?_, ?_, ?_⟩⟩
  · rw [List.map_append, List.map_append]
    have e0 : leafB 0 0 0 = [] := rfl
    rw [e0, List.map_nil, List.nil_append, List.nodup_append]
    refine ⟨leafB_nodup _ _ _, ?_, ?_⟩
    · rcases hoff with h0 | h0
      · rw [h0]; simp [leafK]
      · exact leafK_nodup hsep h0 _ (by omega)
    · intro p hp q hq e
      subst e
      simp only [List.mem_map] at hp hq
      obtain ⟨x, hx, rfl⟩ := hp
      obtain ⟨y, hy, e⟩ := hq
      rcases (mK y hy).1 with ⟨e1, e2, _⟩ | hy
      · have := hrl x hx; rw [e] at e1; omega
      · exact hdis x hx y hy (by rw [e])
  · intro x hx
    have e0 : leafB 0 0 0 = [] := rfl
    rw [e0, List.nil_append, List.mem_append] at hx
    rcases hx with hx | hx
    · obtain ⟨j, hj, rfl⟩ := mem_leafB.1 hx
      exact hrf (fun e => by rw [e] at hj; simp at hj) _ (by omega)
    · exact (mK x hx).2
  · intro x hx
    have e0 : leafB 0 0 0 = [] := rfl
    rw [e0, List.nil_append, List.mem_append] at hx
    rcases hx with hx | hx
    · exact (hru.mono (Nat.le_refl _) hjj (Nat.le_refl _) sz) x hx
    · rcases (mK x hx).1 with ⟨e1, e2, e3⟩ | hx
      · exact .inl ⟨by omega, by omega⟩
      · exact (h.us.mono hij (Nat.le_refl _) hsB (Nat.le_refl _)) x hx
end

end Go.Proofs.YtckhjoancfbkfaaGreat
