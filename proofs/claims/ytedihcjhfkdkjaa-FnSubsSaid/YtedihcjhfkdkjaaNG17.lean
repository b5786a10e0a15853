/- Several texts in one: ConCmpFn, ImplTok3, WFin, WOwn, ConNmS. -/
import Derived.Test.YtedihcjhfkdkjaaNG15
import Derived.Test.YtedihcjhfkdkjaaNG1
import Derived.Deep.RegionWith
import Derived.Test.YtedihcjhfkdkjaaNG13
import Derived.Test.YtedihcjhfkdkjaaNG14
import Derived.WalkMore
import Derived.Test.YtedihcjhfkdkjaaNG16
import Derived.Test.YtedihcjhfkdkjaaNG7
namespace Go.Proofs.Ytedihcjhfkdkjaa

section
open Go.RowKit

/-- -1, 0, 1: by their texts; 0: one may not be. -/
def conCmpZ (a b : CN) : Int := if (conOk a && conOk b) = true then cmpZ (textC a) (textC b) else 0

theorem getD_byteC {zs : List Int} (h : ∀ x ∈ zs, 0 ≤ x ∧ x ≤ 255) : ∀ i, 0 ≤ zs.getD i 0 ∧ zs.getD i 0 ≤ 255 := by
  intro i
  by_cases hi : i < zs.length
  · have := h _ (List.getElem_mem hi)
    simpa [List.getD, hi] using this
  · rw [List.getD, List.getElem?_eq_none (by omega)]; simp

theorem text_ok {d : Nat} {v : Value} {c : CN} {w : World} {lo hi : Nat} (h : RdC lo hi w d v c) (hhi : hi ≤ w.heap.size) (hbk : c.bulk ≤ 1048576) (hok : conOk c = true) :
    Calls Try.prog 24 #[v] w fun e w' => ∃ v', e = .returned v' ∧ OwnB w.heap.size w' v' (textC c) ∧ Below w.heap.size w w' := by
  have he : conText c = textC c := by unfold conText; rw [hok]; rfl
  have := implConText_any h hhi hbk
  rw [he] at this
  exact this

set_option maxRecDepth 100000 in
set_option maxHeartbeats 4000000 in
theorem implConCmp_any {dA dB : Nat} {vA vB : Value} {a b : CN} {w : World} {loA hiA loB hiB : Nat} (hA : RdC loA hiA w dA vA a) (hB : RdC loB hiB w dB vB b) (hhA : hiA ≤ w.heap.size) (hhB : hiB ≤ w.heap.size) (hbA : a.bulk ≤ 1048576) (hbB : b.bulk ≤ 1048576) :
    Calls Try.prog 12 #[vA, vB] w fun e w' => e = .returned (.int .i64 (conCmpZ a b)) ∧ Below w.heap.size w w' := by
  have HRA : Hid (RdC loA hiA w dA vA a) := hA
  have HRB : Hid (RdC loB hiB w dB vB b) := hB
  obtain ⟨kA, naA, nnA, ncA, raA, rnA, rcA, kaA, knA, kcA, rfl⟩ := hA.shape
  obtain ⟨kB, naB, nnB, ncB, raB, rnB, rcB, kaB, knB, kcB, rfl⟩ := hB.shape
  have HBkA : Hid (a.bulk ≤ 1048576) := hbA
  have HBkB : Hid (b.bulk ≤ 1048576) := hbB
  obtain ⟨W0, hW0⟩ : ∃ W0, W0 = (w.alloc (.cells #[.int .i64 kA, .slice naA nnA ncA, .slice raA rnA rcA, .slice kaA knA kcA] 25)).alloc (.cells #[.int .i64 kB, .slice naB nnB ncB, .slice raB rnB rcB, .slice kaB knB kcB] 25) := ⟨_, rfl⟩
  have HW0 : Hid (W0 = (w.alloc (.cells #[.int .i64 kA, .slice naA nnA ncA, .slice raA rnA rcA, .slice kaA knA kcA] 25)).alloc (.cells #[.int .i64 kB, .slice naB nnB ncB, .slice raB rnB rcB, .slice kaB knB kcB] 25)) := hW0
  have hb0 : Below w.heap.size w W0 := by rw [hW0]; exact ((Below.refl _ _).alloc (Nat.le_refl _) _).alloc (by simp) _
  have HB0 : Hid (Below w.heap.size w W0) := hb0
  have s0 : W0.heap.size = w.heap.size + 1 + 1 := by rw [hW0]; simp
  have HxA : Hid (BoxC W0 w.heap.size (.int .i64 kA) (.slice naA nnA ncA) (.slice raA rnA rcA) (.slice kaA knA kcA)) := by unfold Hid; rw [hW0]; exact (Below.heap_alloc _ _ _ (by simp)).trans (World.alloc_heap_new w _)
  have HxB : Hid (BoxC W0 (w.heap.size + 1) (.int .i64 kB) (.slice naB nnB ncB) (.slice raB rnB rcB) (.slice kaB knB kcB)) := by unfold Hid; rw [hW0]; have := BoxC.new (w.alloc (.cells #[.int .i64 kA, .slice naA nnA ncA, .slice raA rnA rcA, .slice kaA knA kcA] 25)) (.int .i64 kB) (.slice naB nnB ncB) (.slice raB rnB rcB) (.slice kaB knB kcB); rwa [World.size_alloc] at this
  obtain ⟨p0, p1, p2, p3⟩ := HxA.out.cells
  obtain ⟨q0, q1, q2, q3⟩ := HxB.out.cells
  clear hA hB hbA hbB hW0 hb0
  go_enter Try.func12, Try.ntmps12
  go_wp2_with fail
  rw [← HW0.out]
  refine (implConOk_any (HRA.out.below HB0.out hhA) (by omega) HBkA.out).mono ?_
  rintro e w1 ⟨rfl, hb1⟩
  have H1 : Hid (Below W0.heap.size W0 w1) := hb1
  have s1 := hb1.size
  have HxA1 : Hid (BoxC w1 w.heap.size (.int .i64 kA) (.slice naA nnA ncA) (.slice raA rnA rcA) (.slice kaA knA kcA)) := HxA.out.below hb1 (by omega)
  have HxB1 : Hid (BoxC w1 (w.heap.size + 1) (.int .i64 kB) (.slice naB nnB ncB) (.slice raB rnB rcB) (.slice kaB knB kcB)) := HxB.out.below hb1 (by omega)
  have HB1 : Hid (Below w.heap.size w w1) := HB0.out.trans (hb1.mono (by omega))
  clear hb1 p0 p1 p2 p3 q0 q1 q2 q3
  obtain ⟨p0, p1, p2, p3⟩ := HxA1.out.cells
  obtain ⟨q0, q1, q2, q3⟩ := HxB1.out.cells
  cases hokA : conOk a
  · have HE : Hid (conCmpZ a b = 0) := by unfold Hid conCmpZ; rw [hokA]; rfl
    go_wp2_with fail
    go_ret
    exact ⟨ri HE.out.symm, HB1.out⟩
  · go_wp2_with fail
    refine (implConOk_any (HRB.out.below HB1.out hhB) (by omega) HBkB.out).mono ?_
    rintro e w2 ⟨rfl, hb2⟩
    have s2 := hb2.size
    have HxA2 : Hid (BoxC w2 w.heap.size (.int .i64 kA) (.slice naA nnA ncA) (.slice raA rnA rcA) (.slice kaA knA kcA)) := HxA1.out.below hb2 (by omega)
    have HxB2 : Hid (BoxC w2 (w.heap.size + 1) (.int .i64 kB) (.slice naB nnB ncB) (.slice raB rnB rcB) (.slice kaB knB kcB)) := HxB1.out.below hb2 (by omega)
    have HB2 : Hid (Below w.heap.size w w2) := HB1.out.trans (hb2.mono (by omega))
    clear hb2 p0 p1 p2 p3 q0 q1 q2 q3
    obtain ⟨p0, p1, p2, p3⟩ := HxA2.out.cells
    obtain ⟨q0, q1, q2, q3⟩ := HxB2.out.cells
    cases hokB : conOk b
    · have HE : Hid (conCmpZ a b = 0) := by unfold Hid conCmpZ; rw [hokA, hokB]; rfl
      go_wp2_with fail
      go_ret
      exact ⟨ri HE.out.symm, HB2.out⟩
    · have HE : Hid (conCmpZ a b = cmpZ (textC a) (textC b)) := by unfold Hid conCmpZ; rw [hokA, hokB]; rfl
      have HOkA : Hid (conOk a = true) := hokA
      have HOkB : Hid (conOk b = true) := hokB
      have HTA : Hid (∀ i, 0 ≤ (textC a).getD i 0 ∧ (textC a).getD i 0 ≤ 255) := getD_byteC (textC_byte HRA.out)
      have HTB : Hid (∀ i, 0 ≤ (textC b).getD i 0 ∧ (textC b).getD i 0 ≤ 255) := getD_byteC (textC_byte HRB.out)
      clear hokA hokB
      go_wp2_with fail
      have HB2d : Hid (Below w.heap.size w w2.drew) := HB2.out.drew
      have hs2 : w.heap.size ≤ w2.drew.heap.size := HB2d.out.size
      have HxA2d : Hid (BoxC w2.drew w.heap.size (.int .i64 kA) (.slice naA nnA ncA) (.slice raA rnA rcA) (.slice kaA knA kcA)) := HxA2.out
      have HxB2d : Hid (BoxC w2.drew (w.heap.size + 1) (.int .i64 kB) (.slice naB nnB ncB) (.slice raB rnB rcB) (.slice kaB knB kcB)) := HxB2.out
      have l1 : w.heap.size + 1 + 1 ≤ w2.drew.heap.size := by show _ ≤ w2.heap.size; omega
      first | go_region_with (first
        | (go_at_call_of 24 kA; first | (refine (text_ok (w := w2.drew) (HRA.out.below HB2d.out hhA) (Nat.le_trans hhA hs2) HBkA.out HOkA.out).mono ?_; rintro e w3 ⟨u3, rfl, hO3, hb3⟩; obtain ⟨aA, cA, _, rfl, hrA, _, _, _⟩ := hO3.form HTA.out; have HA3 : Hid (Rd w2.drew.heap.size w3.heap.size w3 aA (textC a).length cA (textC a)) := hrA; have H3 : Hid (Below w.heap.size w w3) := HB2d.out.trans (hb3.mono hs2); have HxB3 : Hid (BoxC w3 (w.heap.size + 1) (.int .i64 kB) (.slice naB nnB ncB) (.slice raB rnB rcB) (.slice kaB knB kcB)) := HxB2d.out.below hb3 (by omega); obtain ⟨y0, y1, y2, y3⟩ := HxB3.out.cells; clear hO3 hrA hb3) | (refine (text_ok (w := w5) (HRA.out.below H5.out hhA) (Nat.le_trans hhA H5.out.size) HBkA.out HOkA.out).mono ?_; rintro e w6 ⟨u6, rfl, hO6, hb6⟩; obtain ⟨aA, cA, _, rfl, hrA, _, _, _⟩ := hO6.form HTA.out; have HAx : Hid (∃ lo hi, Rd lo hi w6 aA (textC a).length cA (textC a)) := ⟨_, _, hrA⟩; have HBx : Hid (∃ lo hi, Rd lo hi w6 aB (textC b).length cB (textC b)) := ⟨_, _, HB5.out.below hb6 (Nat.le_refl _)⟩; have HBz : Hid (Below w.heap.size w w6) := H5.out.trans (hb6.mono H5.out.size); clear hO6 hrA hb6))
        | (go_at_call_of 24 kB; first | (refine (text_ok (w := w3) (HRB.out.below H3.out hhB) (Nat.le_trans hhB H3.out.size) HBkB.out HOkB.out).mono ?_; rintro e w4 ⟨u4, rfl, hO4, hb4⟩; obtain ⟨aB, cB, _, rfl, hrB, _, _, _⟩ := hO4.form HTB.out; have HBx : Hid (∃ lo hi, Rd lo hi w4 aB (textC b).length cB (textC b)) := ⟨_, _, hrB⟩; have HAx : Hid (∃ lo hi, Rd lo hi w4 aA (textC a).length cA (textC a)) := ⟨_, _, HA3.out.below hb4 (Nat.le_refl _)⟩; have HBz : Hid (Below w.heap.size w w4) := H3.out.trans (hb4.mono H3.out.size); clear hO4 hrB hb4) | (refine (text_ok (w := w2.drew) (HRB.out.below HB2d.out hhB) (Nat.le_trans hhB hs2) HBkB.out HOkB.out).mono ?_; rintro e w5 ⟨u5, rfl, hO5, hb5⟩; obtain ⟨aB, cB, _, rfl, hrB, _, _, _⟩ := hO5.form HTB.out; have HB5 : Hid (Rd w2.drew.heap.size w5.heap.size w5 aB (textC b).length cB (textC b)) := hrB; have H5 : Hid (Below w.heap.size w w5) := HB2d.out.trans (hb5.mono hs2); have HxA5 : Hid (BoxC w5 w.heap.size (.int .i64 kA) (.slice naA nnA ncA) (.slice raA rnA rcA) (.slice kaA knA kcA)) := HxA2d.out.below hb5 (by omega); obtain ⟨y0, y1, y2, y3⟩ := HxA5.out.cells; clear hO5 hrB hb5))
        | (go_at_call 29; obtain ⟨_, _, hrx⟩ := HAx.out; obtain ⟨_, _, hry⟩ := HBx.out; refine (bytesCompare_any hrx hry).mono ?_; rintro e w9 ⟨rfl, hw9⟩; rw [hw9]; clear hw9 hrx hry)) | fail
      all_goals
        go_wp2_with fail
        go_ret
        exact ⟨ri HE.out.symm, HBz.out⟩
end

section
open Go.RowKit Go.Shelf

attribute [local go_sem] Oper.semAt_some

/-- Token by token over the places at which pieces begin. -/
def goToks (zs : List Int) : List (PosOf zs) → List Tok → List Tok × Int
  | [], acc => (acc, -1)
  | x :: xs, acc => if kindOf (piece zs x.1) = 0 then ([], (x.1 : Int)) else goToks zs xs (acc ++ [tokAt zs x.1])

theorem goToks_pos (zs : List Int) : ∀ (f i : Nat) (acc : List Tok), goToks zs (posFrom zs f i) acc = toksFrom zs f i acc
  | 0, _, _ => rfl
  | f + 1, i, acc => by
    by_cases h : i < zs.length
    · cases hb : blankB (zs.getD i 0)
      · rw [posFrom_piece zs f i h hb]
        by_cases hk : kindOf (piece zs i) = 0
        · rw [toksFrom_bad zs f i acc h hb hk]; simp only [goToks]; rw [if_pos hk]
        · rw [toksFrom_tok zs f i acc h hb hk]; simp only [goToks]; rw [if_neg hk]; exact goToks_pos zs f _ _
      · rw [posFrom_blank zs f i h hb, toksFrom_blank zs f i acc h hb]; exact goToks_pos zs f _ _
    · rw [posFrom_stop zs _ i (by omega), toksFrom_stop zs _ i acc (by omega)]; rfl

def Good (zs : List Int) (xs : List (PosOf zs)) : Prop := ∀ x ∈ xs, kindOf (piece zs x.1) ≠ 0

theorem goToks_good (zs : List Int) : ∀ (xs : List (PosOf zs)) (acc : List Tok), Good zs xs → goToks zs xs acc = (acc ++ xs.map (fun x => tokAt zs x.1), -1)
  | [], acc, _ => by simp [goToks]
  | x :: xs, acc, h => by
    rw [goToks, if_neg (h x (by simp)), goToks_good zs xs _ (fun y hy => h y (by simp [hy]))]
    simp

theorem goToks_bad (zs : List Int) : ∀ (xs : List (PosOf zs)) (x : PosOf zs) (rest : List (PosOf zs)) (acc : List Tok), Good zs xs → kindOf (piece zs x.1) = 0 → goToks zs (xs ++ x :: rest) acc = ([], (x.1 : Int))
  | [], x, rest, acc, _, hk => by simp only [List.nil_append, goToks]; rw [if_pos hk]
  | y :: xs, x, rest, acc, h, hk => by
    rw [List.cons_append, goToks, if_neg (h y (by simp))]
    exact goToks_bad zs xs x rest _ (fun z hz => h z (by simp [hz])) hk

theorem wpIn_scope_wide {n : Nat} {P : Program} {c : Code} {Q : Exit → Act → World → Prop} {a : Act} {w : World} (h : c.wpIn Fence.wide n P (Exit.noGoto Q) a w) : (Code.scope c).wpIn Fence.wide n P Q a w := wpIn_wide.2 (wp_scope_straight (wpIn_wide.1 h))

set_option maxHeartbeats 400000 in
theorem implTokens_big (a : Option Addr) (n cap : Nat) (zs : List Int) (w : World) {lo hi : Nat} (h : Rd lo hi w a n cap zs) (hbig : 1500 < n) :
    Calls Try.prog 64 #[.slice a n cap] w fun e w' => ∃ v gs, e = .returned (.tuple #[v, .int .i64 (toks zs).2]) ∧ OwnT w.heap.size w' v (toks zs).1 gs ∧ Below w.heap.size w w' := by
  have HT : Hid (toks zs = ([], 0)) := by unfold Hid toks; rw [if_pos (by rw [h.len]; exact hbig)]
  clear h
  go_enter Try.func64, Try.ntmps64
  go_wp2
  go_step3
  go_wp2
  rw [Exit.noGoto_ret]
  go_ret2
  exact ⟨_, [], by rw [HT.out]; rfl, by rw [HT.out]; exact OwnT.nil _ _, Below.refl _ _⟩

theorem OwnT.of_cells {base : Nat} {W W' : World} {v : Value} {ts : List Tok} {gs : List (Nat × Nat)} (h : OwnT base W v ts gs)
    (hk : ∀ (g : Nat) (c : Array Value) (t : Nat), (t = 94 ∨ t = 5) → W.heap[g]? = some (Obj.cells c t (0, 0)) → W'.heap[g]? = some (Obj.cells c t (0, 0))) : OwnT base W' v ts gs := by
  obtain ⟨h1, h2, h3, h4, h5⟩ := h
  refine ⟨h1, ⟨h2.1, ?_⟩, fun i hi ht => ?_, h4, h5⟩
  · rcases h2.2 with h2 | ⟨g, cap, cur, hv, hg, hh, r⟩
    · exact .inl h2
    · exact .inr ⟨g, cap, cur, hv, hg, hk g _ _ (.inl rfl) hh, r⟩
  · obtain ⟨a, ⟨c, hc, r⟩, b⟩ := h3 i hi ht
    exact ⟨a, ⟨c, hk _ _ _ (.inr rfl) hc, r⟩, b⟩

theorem OwnT.noncells {base : Nat} {W W' : World} {v : Value} {ts : List Tok} {gs : List (Nat × Nat)} {row : Option Nat} (h : OwnT base W v ts gs) (hg : W.grownBy W' row)
    (hr : ∀ r, row = some r → ∃ o : Obj, W.heap[r]? = some o ∧ o.isCells = false) : OwnT base W' v ts gs :=
  h.of_cells fun g c t _ hh => (hg.block g (Array.getElem?_eq_some_iff.1 hh).1 (fun e => by
    obtain ⟨o, ho, hc⟩ := hr g e.symm
    rw [hh] at ho; cases ho; cases hc)).trans hh

theorem OwnT.setBox {base : Nat} {W : World} {v : Value} {ts : List Tok} {gs : List (Nat × Nat)} {B t : Nat} {u : Value} (h : OwnT base W v ts gs) (hb : Boxed W B t u) (h1 : t ≠ 94) (h2 : t ≠ 5) (x : Value) : OwnT base (W.setCell ⟨B, 0, none⟩ x) v ts gs :=
  h.of_cells fun g c t' ht hh => by
    have hne : g ≠ B := fun e => by
      rw [e, show W.heap[B]? = _ from hb] at hh
      simp at hh
      rcases ht with rfl | rfl
      · exact h1 hh.2
      · exact h2 hh.2
    rw [Below.heap_setCell W ⟨B, 0, none⟩ x g hne]; exact hh

/-- What is so between two rounds: the box of the list, the box of the bad place, the box of the text, the tokens so far. -/
structure InvT (s : Nat) (w W : World) (zs : List Int) (sv v : Value) (xs : List (PosOf zs)) (gs : List (Nat × Nat)) : Prop where
  list : Boxed W s 74 v
  bad : Boxed W (s + 1) 3 (.int .i64 (-1))
  text : Boxed W (s + 1 + 1) 22 sv
  own : OwnT s W v (xs.map (fun x => tokAt zs x.1)) gs
  good : Good zs xs
  bel : Below s w W

theorem InvT.noncells {s : Nat} {w W W' : World} {zs : List Int} {sv v : Value} {xs : List (PosOf zs)} {gs : List (Nat × Nat)} {row : Option Nat} (h : InvT s w W zs sv v xs gs) (hs : s ≤ W.heap.size) (hg : W.grownBy W' row)
    (hr : ∀ r, row = some r → s ≤ r ∧ ∃ o : Obj, W.heap[r]? = some o ∧ o.isCells = false) : InvT s w W' zs sv v xs gs :=
  ⟨boxed_noncells h.list hg fun r e => (hr r e).2, boxed_noncells h.bad hg fun r e => (hr r e).2, boxed_noncells h.text hg fun r e => (hr r e).2, h.own.noncells hg fun r e => (hr r e).2, h.good, h.bel.grown hg hs fun k e => (hr k e).1⟩

/-- A round that has found a token. -/
theorem round_tok {s : Nat} {w W Wb w2 : World} {zs : List Int} {sv v v' : Value} {xs : List (PosOf zs)} {ts : List Tok} {gs : List (Nat × Nat)} {x : PosOf zs} {kd : Int} {tv : Value} {g : Nat × Nat}
    (hs : s = w.heap.size) (hts : ts = xs.map (fun x => tokAt zs x.1)) (hI : InvT s w W zs sv v xs gs) (hWb : Below W.heap.size W Wb) (hkind : kindOf (piece zs x.1) ≠ 0) (hG : kd = (tokAt zs x.1).kind ∧ tv = txv (tokAt zs x.1) g)
    (hM : (tokAt zs x.1).text ≠ [] → W.heap.size ≤ g.1 ∧ Row Wb g.1 g.2 (tokAt zs x.1).text ∧ g.2 ≤ 9223372036854775807) (hby : ∀ i, 0 ≤ zs.getD i 0 ∧ zs.getD i 0 ≤ 255)
    (hown : w2.ownsRow s 94 3 v' (ts.length + 1) (flatT ts gs ++ [.int .i64 kd, .int .i64 (x.1 : Nat), tv])) (hgrow : Wb.grownBy w2 v.ownBlock) :
    ∃ g' cap', v' = .slice (some ⟨g', 0, none⟩) (ts.length + 1) cap' ∧ Boxed w2 s 74 v ∧ KeepsOthers W (w2.setCell ⟨s, 0, none⟩ v') ∧ KpT s (s + 1 + 1) W (w2.setCell ⟨s, 0, none⟩ v') ∧ InvT s w (w2.setCell ⟨s, 0, none⟩ v') zs sv v' (xs ++ [x]) (gs ++ [g]) := by
  subst hs
  obtain ⟨bL, bB, bS, hO, hgd, hBel⟩ := hI
  have hO1 := hO.below hWb
  have hB1 : Below w.heap.size w Wb := hBel.trans (hWb.mono hBel.size)
  have hnotrow : ∀ {B t u}, Boxed Wb B t u → t ≠ 94 → some B ≠ v.ownBlock := fun hb ht => Boxed.not_row hb ht hO1.row
  have bL1 := boxed_below bL hWb (Boxed.lt bL)
  have bB1 := boxed_below bB hWb (Boxed.lt bB)
  have bS1 := boxed_below bS hWb (Boxed.lt bS)
  have bL2 := Boxed.kept bL1 hgrow (hnotrow bL1 (by decide))
  have bB2 := Boxed.kept bB1 hgrow (hnotrow bB1 (by decide))
  have bS2 := Boxed.kept bS1 hgrow (hnotrow bS1 (by decide))
  rw [← hts] at hO hO1
  have hM' : (tokAt zs x.1).text ≠ [] → w.heap.size ≤ g.1 ∧ W.heap.size ≤ g.1 ∧ Row Wb g.1 g.2 (tokAt zs x.1).text ∧ g.2 ≤ 9223372036854775807 := fun ht => ⟨Nat.le_trans hBel.size (hM ht).1, (hM ht).1, (hM ht).2.1, (hM ht).2.2⟩
  have hS' : ∀ i, i < ts.length → (ts.getD i Tok.zero).text ≠ [] → (gs.getD i (0, 0)).1 < W.heap.size := fun i hi ht => (hO.txt i hi ht).2.1.lt
  have hstep := step_tok (w0 := w) (wr := W) (W := Wb) (w2 := w2) (u := v) (v' := v') (ts := ts) (gs := gs) (zs := zs) (k := x.1) (kd := kd) (tv := tv) (g := g) hO1 hB1 hG hM' hS' hby hown hgrow
  obtain ⟨g', cap', hv', hO2, hB2⟩ := hstep
  have hKO : KeepsOthers W (w2.setCell ⟨w.heap.size, 0, none⟩ v') := by
    refine ((keepsOthers_below hWb).trans (KeepsOthers.of_grownBy hgrow fun j o ej hj => ?_)).trans (KeepsOthers.setCell _ _ _)
    rcases hO1.row.2 with ⟨e, _⟩ | ⟨g1, cap1, cur, e, _, hgb, _⟩
    · rw [e] at ej; simp [Value.ownBlock] at ej
    · rw [e] at ej
      obtain rfl : g1 = j := by simpa [Value.ownBlock] using ej
      rw [hgb] at hj; cases hj; rfl
  have bS3 := boxed_setOther bS2 (B' := w.heap.size) (by omega) v'
  have hBW : Below w.heap.size W (w2.setCell ⟨w.heap.size, 0, none⟩ v') := by
    refine ((hWb.mono hBel.size).grown hgrow hB1.size fun j ej => ?_).setCell (p := ⟨w.heap.size, 0, none⟩) (Nat.le_refl _) v'
    rcases hO1.row.2 with ⟨e, _⟩ | ⟨g1, cap1, cur, e, hg1, _⟩
    · rw [e] at ej; simp [Value.ownBlock] at ej
    · rw [e] at ej
      obtain rfl : g1 = j := by simpa [Value.ownBlock] using ej
      exact hg1
  refine ⟨g', cap', hv', bL2, hKO, ⟨hBW, (show _ = _ from bS3).trans (show _ = _ from bS).symm⟩, Boxed.set v' bL2, boxed_setOther bB2 (by omega) v', bS3, ?_, ?_, hBel.trans hBW⟩
  · rw [List.map_append, List.map_cons, List.map_nil, ← hts]; exact hO2.setBox bL2 (by decide) (by decide) v'
  · intro y hy
    rcases List.mem_append.1 hy with h | h
    · exact hgd y h
    · simp at h; subst h; exact hkind
end

section
open Go.RowKit

def wv (z : List Int) (g : Nat × Nat) : Value := .slice (some ⟨g.1, 0, none⟩) z.length g.2

/-- A row of bytes, none of them frozen. -/
def RowG (w : World) (g cap : Nat) (zs : List Int) : Prop := (∃ c f, w.heap[g]? = some (.cells c 5 f) ∧ zs.length ≤ cap ∧ ∀ i, i < zs.length → c[i]? = some (.int .u8 (zs.getD i 0))) ∧ ∀ i, i < zs.length → w.frozen? ⟨g, i, none⟩ = false

theorem RowG.of_block {w w' : World} {g cap : Nat} {zs : List Int} (h : RowG w g cap zs) (e : w'.heap[g]? = w.heap[g]?) : RowG w' g cap zs := by
  obtain ⟨⟨c, f, hb, r⟩, hf⟩ := h
  exact ⟨⟨c, f, e.trans hb, r⟩, fun i hi => (World.frozen?_of_block (w := w) (a := ⟨g, i, none⟩) e).trans (hf i hi)⟩
theorem RowG.lt {w : World} {g cap : Nat} {zs : List Int} (h : RowG w g cap zs) : g < w.heap.size := by
  obtain ⟨⟨c, f, hb, _⟩, _⟩ := h
  exact (Array.getElem?_eq_some_iff.1 hb).1
theorem RowG.cell {w : World} {g cap : Nat} {zs : List Int} (h : RowG w g cap zs) {i : Nat} (hi : i < zs.length) : w.cell? ⟨g, i, none⟩ = some (.int .u8 (zs.getD i 0)) := by
  obtain ⟨⟨c, f, hb, _, hc⟩, _⟩ := h
  simp [World.cell?, hb, hc i hi]
theorem RowG.rd {lo hi : Nat} {w : World} {g cap : Nat} {zs : List Int} (h : RowG w g cap zs) (hby : Byt zs) (hn : cap ≤ 9223372036854775807) (h1 : lo ≤ g) (h2 : g < hi) : Rd lo hi w (some ⟨g, 0, none⟩) zs.length cap zs := by
  have hle : zs.length ≤ cap := by obtain ⟨⟨c, f, _, h, _⟩, _⟩ := h; exact h
  refine ⟨rfl, ⟨hle, hn⟩, hby, .inr ⟨g, 0, rfl, h1, h2, fun i hi => ?_⟩⟩
  rw [Nat.zero_add]
  exact RowG.cell h hi

/-- Each word in a block of its own. -/
structure OwnW (base : Nat) (w : World) (v : Value) (L : List (List Int)) (gs : List (Nat × Nat)) : Prop where
  len : gs.length = L.length
  row : w.ownsRow base 22 1 v L.length (List.zipWith wv L gs)
  txt : ∀ i, i < L.length → base ≤ (gs.getD i (0, 0)).1 ∧ RowG w (gs.getD i (0, 0)).1 (gs.getD i (0, 0)).2 (L.getD i []) ∧ (gs.getD i (0, 0)).2 ≤ 9223372036854775807
  byt : ∀ i, i < L.length → Byt (L.getD i [])
  dist : ∀ i j, i < j → j < L.length → (gs.getD i (0, 0)).1 ≠ (gs.getD j (0, 0)).1

theorem OwnW.nil (base : Nat) (w : World) : OwnW base w (.slice none 0 0) [] [] :=
  ⟨rfl, World.ownsRow_nil _ _ _ _, fun i hi => by simp at hi, fun i hi => by simp at hi, fun i j _ hj => by simp at hj⟩

theorem ownsW_blocks {w w' : World} {base e size n : Nat} {v : Value} {xs : List Value} (h : w.ownsRow base e size v n xs) (hs : ∀ g, base ≤ g → g < w.heap.size → w'.heap[g]? = w.heap[g]?) : w'.ownsRow base e size v n xs := by
  obtain ⟨h1, h2⟩ := h
  refine ⟨h1, ?_⟩
  rcases h2 with h2 | ⟨g, cap, cur, hv, hg, hh, r⟩
  · exact .inl h2
  · exact .inr ⟨g, cap, cur, hv, hg, by rw [hs g hg (Array.getElem?_eq_some_iff.1 hh).1]; exact hh, r⟩

theorem OwnW.same {base : Nat} {w w' : World} {v : Value} {L : List (List Int)} {gs : List (Nat × Nat)} (h : OwnW base w v L gs) (hs : ∀ g, base ≤ g → g < w.heap.size → w'.heap[g]? = w.heap[g]?) : OwnW base w' v L gs := by
  obtain ⟨h1, h2, h3, h4, h5⟩ := h
  exact ⟨h1, ownsW_blocks h2 hs, fun i hi => ⟨(h3 i hi).1, (h3 i hi).2.1.of_block (hs _ (h3 i hi).1 (h3 i hi).2.1.lt), (h3 i hi).2.2⟩, h4, h5⟩
theorem OwnW.below {base : Nat} {w w' : World} {v : Value} {L : List (List Int)} {gs : List (Nat × Nat)} (h : OwnW base w v L gs) (hb : Below w.heap.size w w') : OwnW base w' v L gs := h.same (fun g _ hg => hb.block g hg)

theorem OwnW.base {base base' : Nat} {w : World} {v : Value} {L : List (List Int)} {gs : List (Nat × Nat)} (h : OwnW base w v L gs) (hb : base' ≤ base) : OwnW base' w v L gs := by
  obtain ⟨h1, ⟨r1, r2⟩, h3, h4, h5⟩ := h
  refine ⟨h1, ⟨r1, ?_⟩, fun i hi => ⟨Nat.le_trans hb (h3 i hi).1, (h3 i hi).2⟩, h4, h5⟩
  rcases r2 with r2 | ⟨g, cap, cur, hv, hg, r⟩
  · exact .inl r2
  · exact .inr ⟨g, cap, cur, hv, Nat.le_trans hb hg, r⟩

theorem getDw_lt {α : Type} (l : List α) (x d : α) (i : Nat) (h : i < l.length) : (l ++ [x]).getD i d = l.getD i d := by rw [List.getD, List.getElem?_append_left h, List.getD]
theorem getDw_eq {α : Type} (l : List α) (x d : α) : (l ++ [x]).getD l.length d = x := by simp [List.getD]

/-- One word more. -/
theorem OwnW.snoc {base : Nat} {w w1 : World} {v v' : Value} {L : List (List Int)} {gs : List (Nat × Nat)} (h : OwnW base w v L gs) (z : List Int) (g : Nat × Nat)
    (ht : base ≤ g.1 ∧ RowG w g.1 g.2 z ∧ g.2 ≤ 9223372036854775807) (hby : Byt z) (hd : ∀ i, i < L.length → (gs.getD i (0, 0)).1 ≠ g.1)
    (hown : w1.ownsRow base 22 1 v' (L.length + 1) (List.zipWith wv L gs ++ [wv z g])) (hgrow : w.grownBy w1 v.ownBlock) : OwnW base w1 v' (L ++ [z]) (gs ++ [g]) := by
  obtain ⟨h1, h2, h3, h4, h5⟩ := h
  have keep : ∀ x c zs, RowG w x c zs → RowG w1 x c zs := by
    intro x c zs hr
    refine hr.of_block (hgrow.block x hr.lt (fun e => ?_))
    obtain ⟨⟨c', f', hc', _⟩, _⟩ := hr
    rcases h2.2 with ⟨rfl, _⟩ | ⟨g', cap, cur, rfl, _, hh, _⟩
    · simp [Value.ownBlock] at e
    · simp [Value.ownBlock] at e
      rw [e, hh] at hc'
      simp at hc'
  refine ⟨by simp [h1], ?_, ?_, ?_, ?_⟩
  · rw [List.zipWith_append h1.symm]; simpa using hown
  · intro i hi
    simp only [List.length_append, List.length_cons, List.length_nil] at hi
    by_cases e : i < L.length
    · rw [getDw_lt _ _ _ _ e, getDw_lt _ _ _ _ (by omega)]
      exact ⟨(h3 i e).1, keep _ _ _ (h3 i e).2.1, (h3 i e).2.2⟩
    · have e' : i = L.length := by omega
      subst e'
      rw [getDw_eq, ← h1, getDw_eq]
      exact ⟨ht.1, keep _ _ _ ht.2.1, ht.2.2⟩
  · intro i hi
    simp only [List.length_append, List.length_cons, List.length_nil] at hi
    by_cases e : i < L.length
    · rw [getDw_lt _ _ _ _ e]; exact h4 i e
    · have e' : i = L.length := by omega
      subst e'
      rw [getDw_eq]; exact hby
  · intro i j hij hj
    simp only [List.length_append, List.length_cons, List.length_nil] at hj
    rw [getDw_lt _ _ _ i (by omega)]
    by_cases e : j < L.length
    · rw [getDw_lt _ _ _ _ (by omega)]
      exact h5 i j hij e
    · have e' : j = L.length := by omega
      subst e'
      rw [← h1, getDw_eq]
      exact hd i (by omega)

theorem zip_get (L : List (List Int)) (gs : List (Nat × Nat)) (h : gs.length = L.length) (i : Nat) (hi : i < L.length) : (List.zipWith wv L gs)[i]? = some (wv (L.getD i []) (gs.getD i (0, 0))) := by
  have e1 : L[i]? = some (L.getD i []) := by simp [List.getD, hi]
  have e2 : gs[i]? = some (gs.getD i (0, 0)) := by simp [List.getD, show i < gs.length by omega]
  rw [List.getElem?_zipWith, e1, e2]

/-- The row's cells. -/
def RowV (w : World) (v : Value) (L : List (List Int)) (gs : List (Nat × Nat)) : Prop := (v = .slice none 0 0 ∧ L.length = 0) ∨ ∃ b cap, v = .slice (some ⟨b, 0, none⟩) L.length cap ∧ L.length ≤ cap ∧ cap ≤ 9223372036854775807 ∧ b < w.heap.size ∧ (∀ i, i < L.length → b ≠ (gs.getD i (0, 0)).1) ∧ ∀ i, i < L.length → w.cell? ⟨b, i, none⟩ = some (wv (L.getD i []) (gs.getD i (0, 0)))

theorem OwnW.rowV {base : Nat} {w : World} {v : Value} {L : List (List Int)} {gs : List (Nat × Nat)} (h : OwnW base w v L gs) : RowV w v L gs := by
  obtain ⟨h1, h2, h3, h4, h5⟩ := h
  rcases h2.2 with h0 | ⟨g, cap, cur, hv, hg, hb, hn, hc, hs, ht⟩
  · exact .inl h0
  · refine .inr ⟨g, cap, hv, hn, by unfold maxLen at hc; omega, (Array.getElem?_eq_some_iff.1 hb).1, fun i hi e => ?_, fun i hi => ?_⟩
    · obtain ⟨⟨c, f, hc', _⟩, _⟩ := (h3 i hi).2.1
      rw [← e, hb] at hc'
      simp at hc'
    · have e := zip_get L gs h1 i hi
      rw [← ht, List.getElem?_take_of_lt (by omega)] at e
      simp only [Array.getElem?_toList] at e
      simp [World.cell?, hb, e]

theorem OwnW.rss {base : Nat} {w : World} {v : Value} {L : List (List Int)} {gs : List (Nat × Nat)} (h : OwnW base w v L gs) : ∃ a cap, v = .slice a L.length cap ∧ RSS base w.heap.size w a L.length cap L := by
  obtain ⟨h1, h2, h3, h4, h5⟩ := h
  have hr : RW base base w.heap.size w v L := by
    refine ⟨_, h2, fun i hi => ?_⟩
    have e := zip_get L gs h1 i hi
    have e' : (List.zipWith wv L gs).getD i undef = wv (L.getD i []) (gs.getD i (0, 0)) := by simp only [List.getD, e, Option.getD_some]
    rw [e']
    exact ⟨_, _, _, rfl, (h3 i hi).2.1.rd (h4 i hi) (h3 i hi).2.2 (h3 i hi).1 (h3 i hi).2.1.lt⟩
  exact hr.slice (Nat.le_refl _) (Nat.le_refl _)

def leafW (L : List (List Int)) (gs : List (Nat × Nat)) : Nat → List (Addr × IntKind)
  | 0 => []
  | n + 1 => leafW L gs n ++ leafB (gs.getD n (0, 0)).1 0 (L.getD n []).length

theorem leafW_mem {L : List (List Int)} {gs : List (Nat × Nat)} {x : Addr × IntKind} : ∀ {n : Nat}, x ∈ leafW L gs n → ∃ i, i < n ∧ x ∈ leafB (gs.getD i (0, 0)).1 0 (L.getD i []).length
  | 0, h => by simp [leafW] at h
  | n + 1, h => by
    rw [leafW] at h
    rcases List.mem_append.1 h with h | h
    · obtain ⟨i, hi, hx⟩ := leafW_mem h; exact ⟨i, by omega, hx⟩
    · exact ⟨n, by omega, h⟩

theorem leafBw_mem {b off n : Nat} {x : Addr × IntKind} (h : x ∈ leafB b off n) : x.1.block = b := by
  unfold leafB at h
  obtain ⟨j, _, rfl⟩ := List.mem_map.1 h
  rfl

theorem OwnW.leafOne {base : Nat} {w : World} {v : Value} {L : List (List Int)} {gs : List (Nat × Nat)} (h : OwnW base w v L gs) {i : Nat} (hi : i < L.length) : LeafOk w (leafB (gs.getD i (0, 0)).1 0 (L.getD i []).length) := by
  intro x hx
  unfold leafB at hx
  obtain ⟨j, hj, rfl⟩ := List.mem_map.1 hx
  have hr := (h.txt i hi).2.1
  have hj' : j < (L.getD i []).length := by simpa using hj
  refine ⟨⟨(L.getD i []).getD j 0, ?_⟩, by show w.frozen? ⟨(gs.getD i (0, 0)).1, 0 + j, none⟩ = _; rw [Nat.zero_add]; exact hr.2 j hj'⟩
  show w.cell? ⟨(gs.getD i (0, 0)).1, 0 + j, none⟩ = _
  rw [Nat.zero_add]
  exact hr.cell hj'

theorem OwnW.leaf {base : Nat} {w : World} {v : Value} {L : List (List Int)} {gs : List (Nat × Nat)} (h : OwnW base w v L gs) {n : Nat} (hn : n ≤ L.length) : LeafOk w (leafW L gs n) := by
  intro x hx
  obtain ⟨i, hi, hx⟩ := leafW_mem hx
  exact h.leafOne (by omega) x hx

theorem OwnW.ge {base : Nat} {w : World} {v : Value} {L : List (List Int)} {gs : List (Nat × Nat)} (h : OwnW base w v L gs) {n : Nat} (hn : n ≤ L.length) : ∀ x ∈ leafW L gs n, base ≤ x.1.block ∧ x.1.block < w.heap.size := by
  intro x hx
  obtain ⟨i, hi, hx⟩ := leafW_mem hx
  rw [leafBw_mem hx]
  exact ⟨(h.txt i (by omega)).1, (h.txt i (by omega)).2.1.lt⟩
end

section
open Go.RowKit Go.Maps Go.Shelf

theorem ownB_rowG {base : Nat} {w : World} {v : Value} {zs : List Int} (h : w.ownsRow base 5 1 v zs.length (zs.map (Value.int .u8))) (hne : zs ≠ []) : ∃ g cap, v = wv zs (g, cap) ∧ base ≤ g ∧ RowG w g cap zs ∧ cap ≤ 9223372036854775807 := by
  rcases h.2 with ⟨_, h0⟩ | ⟨g, cap, cur, rfl, hg, hb, hn, hc, hs, ht⟩
  · exact absurd (List.eq_nil_of_length_eq_zero h0) hne
  · refine ⟨g, cap, rfl, hg, ⟨⟨cur, _, hb, hn, fun i hi => ?_⟩, fun i hi => by simp [World.frozen?, hb]⟩, by unfold maxLen at hc; omega⟩
    have e : (zs.map (Value.int .u8))[i]? = some (.int .u8 (zs.getD i 0)) := by simp [List.getD, hi]
    rw [← ht, List.getElem?_take_of_lt (by omega)] at e
    simpa using e
end

section
open Go.RowKit Go.Maps Go.Shelf

/-- Words that are some, and short. -/
def WLen (l : List (List Int)) : Prop := ∀ z ∈ l, z ≠ [] ∧ z.length ≤ 6

theorem WLen.nil : WLen [] := fun _ h => absurd h (by simp)
theorem WLen.add {l : List (List Int)} {wd : List Int} (h : WLen l) (hg : GoodV l) (hw : Byt wd) (hl : wd.length ≤ 6) : WLen (addW l wd) := by
  unfold addW
  split
  · exact h
  · rename_i h0
    intro z hz
    rcases (insW_mem hw hg.srt hg.byt).1 hz with rfl | hz
    · exact ⟨fun e => h0 (by rw [e]; rfl), hl⟩
    · exact h z hz

theorem shape_lenN {c : CN} (h : shapeB c = true) : c.name.length ≤ 6 ∧ c.role.length ≤ 6 := by
  unfold shapeB at h
  simp only [Bool.and_eq_true] at h
  obtain ⟨h1, h2, _⟩ := h
  constructor
  · unfold nameFit at h1
    split at h1
    · rw [Bool.and_eq_true] at h1; exact (longB_of_up h1.1).2
    · have := of_decide_eq_true h1; omega
  · unfold roleFit at h2
    split at h2
    · exact (longB_of_low h2).2
    · have := of_decide_eq_true h2; omega

theorem conOk_shape {c : CN} (h : conOk c = true) : ∀ p ∈ parts c 1, shapeB p.2 = true := by
  intro p hp
  unfold conOk at h
  rw [Bool.and_eq_true, List.all_eq_true] at h
  have := h.2 p hp
  unfold okOne at this
  rw [Bool.and_eq_true] at this
  exact this.2

theorem WLen.at {l : List (List Int)} (h : WLen l) (i : Nat) : (l.getD i []).length ≤ 1000 := by
  by_cases hi : i < l.length
  · have := (h _ (by rw [List.getD_eq_getElem?_getD, List.getElem?_eq_getElem hi]; exact List.getElem_mem hi : l.getD i [] ∈ l)).2; omega
  · rw [List.getD_eq_getElem?_getD, List.getElem?_eq_none (by omega)]; simp

/-- The answer. -/
def ansCN (c : CN) : List (List Int) := if conOk c = true then namesC c [] else []

theorem conOk_len {c : CN} (h : conOk c = true) : (parts c 1).length ≤ 16 := by
  unfold conOk at h
  rw [Bool.and_eq_true] at h
  exact of_decide_eq_true h.1
end

end Go.Proofs.Ytedihcjhfkdkjaa
