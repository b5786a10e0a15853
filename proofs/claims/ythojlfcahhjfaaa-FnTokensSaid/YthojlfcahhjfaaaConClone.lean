/- bytes.Clone, and the kind that is the other one: a contract each. -/
import Derived.Test.YthojlfcahhjfaaaConOwn
namespace Go.Proofs.Ythojlfcahhjfaaa
open Go.RowKit

theorem ownB_made (w : World) {base : Nat} (hb : base ≤ w.heap.size) : OwnB base (w.alloc (.cells #[] 5)) (.slice (some ⟨w.heap.size, 0, none⟩) 0 0) [] := World.ownsRow_made w #[] 0 hb (by unfold maxLen; omega) rfl

set_option maxRecDepth 100000 in
set_option maxHeartbeats 400000 in
theorem cloneC_any (a : Option Addr) (n cap : Nat) (zs : List Int) (w : World) {lo hi : Nat} (h : Rd lo hi w a n cap zs) (hn : n ≤ 1048576) :
    Calls Try.prog 49 #[.slice a n cap] w fun e w' => ∃ v', e = .returned v' ∧ OwnB w.heap.size w' v' zs ∧ Below w.heap.size w w' := by
  obtain ⟨hl, ⟨hm, hm'⟩, hby, hc⟩ := h
  cases a with
  | none =>
    have hn0 : n = 0 := by
      rcases hc with h | ⟨_, _, e, _⟩
      · exact h
      · cases e
    have HZ : Hid (zs = []) := List.eq_nil_of_length_eq_zero (by omega)
    clear hc hby hl
    subst hn0
    have he : ∀ w : World, (binOp .eql 22 (.slice none 0 cap) (.slice none 0 0)).run Try.prog w = .ok (.bool true) w := fun _ => rfl
    go_enter Try.func49, Try.ntmps49
    go_wp2
    go_ret
    exact ⟨_, rfl, by rw [HZ.out]; exact OwnB.nil _ _, Below.refl _ _⟩
  | some p =>
    have HNews : Hid (∀ j u, (zs.map (Value.int .u8))[j]? = some u → (w.alloc (.cells #[] 5)).cell? (p.add j) = some u) := by
      intro j u hu
      have hj : j < zs.length := by simpa using (List.getElem?_eq_some_iff.1 hu).1
      rcases hc with h0 | ⟨b, off, e, _, _, hcs⟩
      · omega
      · cases e
        have hq := hcs j (by omega)
        have hlt : b < w.heap.size := block_lt_of_cell hq
        rw [Addr.add_lit, World.cell?_of_block (w := w) (Below.heap_alloc _ _ _ hlt), hq, ← hu]
        simp [List.getD, hj]
    have HL : Hid (zs.length = n) := hl
    have HO : Hid (OwnB w.heap.size (w.alloc (.cells #[] 5)) (.slice (some ⟨w.heap.size, 0, none⟩) 0 0) []) := ownB_made w (Nat.le_refl _)
    obtain ⟨i0, hi0, hz0, hz1, hz2⟩ := info_parts Try.info5
    have he : ∀ w : World, (binOp .eql 22 (.slice (some p) n cap) (.slice none 0 0)).run Try.prog w = .ok (.bool false) w := fun _ => rfl
    clear hc hby hl
    go_enter Try.func49, Try.ntmps49
    go_wp2_with (at_builtin; refine wpList_append_own _ rfl (.tmp 5) (.tmp 6) 22 rfl w.heap.size 5 i0 (.int .u8 0) 1 1 Try.underlying22 hi0 hz0 hz1 hz2 rfl (by decide) (.slice (some ⟨w.heap.size, 0, none⟩) 0 0) 0 [] rfl HO.out p n cap (zs.map (Value.int .u8)) rfl (by rw [List.length_map, HL.out, Nat.mul_one]) HNews.out (oneCB _) (by unfold maxLen; omega) (by omega) (by simp) ?_; intro v' w2 hown' hgrow hnil; have HF : Hid (OwnB w.heap.size w2 v' ([] ++ zs) ∧ Keep5 w.heap.size _ w2) := ownB_app HO.out (by simp) (by rw [HL.out]; exact hown') hgrow; clear hown' hgrow hnil)
    go_ret
    exact ⟨_, rfl, HF.out.1, ((Below.refl _ _).alloc (Nat.le_refl _) _).trans (HF.out.2.1)⟩

/-- The kind that holds of all others. -/
def otherK (k : Int) : Int := if k = 0 then 1 else if k = 1 then 0 else if k = 4 then 5 else if k = 5 then 4 else if k = 6 then 7 else if k = 7 then 6 else k

theorem BoxC.set3 {W : World} {b : Nat} {v0 v1 v2 v3 : Value} (h : BoxC W b v0 v1 v2 v3) (v : Value) : BoxC (W.setCell ⟨b, 3, none⟩ v) b v0 v1 v2 v := by
  unfold BoxC
  rw [heap_setCell_same W b 3 _ _ v h]
  rfl

theorem BoxC.set0 {W : World} {b : Nat} {v0 v1 v2 v3 : Value} (h : BoxC W b v0 v1 v2 v3) (v : Value) : BoxC (W.setCell ⟨b, 0, none⟩ v) b v v1 v2 v3 := by
  unfold BoxC
  rw [heap_setCell_same W b 0 _ _ v h]
  rfl

theorem BoxC.other {W : World} {b o i : Nat} {v0 v1 v2 v3 : Value} (h : BoxC W b v0 v1 v2 v3) (v : Value) (hne : b ≠ o) : BoxC (W.setCell ⟨o, i, none⟩ v) b v0 v1 v2 v3 := (Below.heap_setCell W ⟨o, i, none⟩ v b hne).trans h

theorem RowK.set {base : Nat} {w : World} {d : Nat} {u : Value} {cs : List CN} {Ls : List (List (Addr × IntKind))} {xs : List Value} (h : RowK base w d u cs Ls xs) {o : Nat} (i : Nat) (v : Value) (h1 : ∀ x ∈ Ls.flatten, x.1.block ≠ o) (h2 : u.ownBlock ≠ some o) : RowK base (w.setCell ⟨o, i, none⟩ v) d u cs Ls xs := by
  obtain ⟨g1, g2, g3, g4, g5⟩ := h
  refine ⟨g1, ?_, fun j hj => ?_, fun x hx => by have := g4 x hx; simpa using this, g5⟩
  · obtain ⟨q1, q2⟩ := g2
    refine ⟨q1, ?_⟩
    rcases q2 with q | ⟨g, cap, cur, rfl, hg, hh, r⟩
    · exact .inl q
    · refine .inr ⟨g, cap, cur, rfl, hg, ?_, r⟩
      rw [Below.heap_setCell w ⟨o, i, none⟩ v g (fun e => h2 (by simp only [Value.ownBlock]; rw [e]))]
      exact hh
  · obtain ⟨v0, v1, v2, v3, c0, c1, c2, c3, hr⟩ := g3 j hj
    exact ⟨v0, v1, v2, v3, c0, c1, c2, c3, hr.keep (fun x hx => Below.heap_setCell w ⟨o, i, none⟩ v _ (h1 x (getD_mem_flatten hx)))⟩

theorem SepK.set {base : Nat} {w : World} {Ls : List (List (Addr × IntKind))} (h : SepK base w Ls) (a : Addr) (v : Value) : SepK base (w.setCell a v) Ls :=
  ⟨h.nd, fun x hx => by have := h.fr x hx; simpa using this, h.ge⟩

theorem OwnB.setCon {base : Nat} {w : World} {u : Value} {zs : List Int} {o i : Nat} {v0 v1 v2 v3 : Value} (h : OwnB base w u zs) (hb : BoxC w o v0 v1 v2 v3) (v : Value) : OwnB base (w.setCell ⟨o, i, none⟩ v) u zs := by
  obtain ⟨q1, q2⟩ := h
  refine ⟨q1, ?_⟩
  rcases q2 with q | ⟨g, cap, cur, rfl, hg, hh, r⟩
  · exact .inl q
  · refine .inr ⟨g, cap, cur, rfl, hg, ?_, r⟩
    rw [Below.heap_setCell w ⟨o, i, none⟩ v g (fun e => by rw [show g = o from e] at hh; rw [show w.heap[o]? = _ from hb] at hh; simp at hh)]
    exact hh

end Go.Proofs.Ythojlfcahhjfaaa
