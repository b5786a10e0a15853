/- The names of a concept gathered by a range over its parts: what a round keeps. -/
import Derived.Test.YtedihcjhfkdkjaaNG17
import Derived.Test.YtedihcjhfkdkjaaSortW
import Derived.Test.YtedihcjhfkdkjaaNG15
import Derived.Test.YtedihcjhfkdkjaaNG13
import Derived.Test.YtedihcjhfkdkjaaNG2
import Derived.Laws.OwnMore
namespace Go.Proofs.Ytedihcjhfkdkjaa
open Go.RowKit Go.Shelf
namespace Nm

theorem ownB_made (w : World) {base : Nat} (hb : base ≤ w.heap.size) : OwnB base (w.alloc (.cells #[] 5)) (.slice (some ⟨w.heap.size, 0, none⟩) 0 0) [] := World.ownsRow_made w #[] 0 hb (by unfold maxLen; omega) rfl

set_option maxRecDepth 100000 in
set_option maxHeartbeats 400000 in
theorem clone_any (a : Option Addr) (n cap : Nat) (zs : List Int) (w : World) {lo hi : Nat} (h : Rd lo hi w a n cap zs) (hn : n ≤ 1048576) :
    Calls Try.prog 27 #[.slice a n cap] w fun e w' => ∃ v', e = .returned v' ∧ OwnB w.heap.size w' v' zs ∧ Below w.heap.size w w' := by
  obtain ⟨hl, ⟨hm, hm'⟩, hby, hc⟩ := h
  cases a with
  | none =>
    have hn0 : n = 0 := by
      rcases hc with h | ⟨_, _, e, _⟩
      · exact h
      · cases e
    have HZ : Hid (zs = []) := List.eq_nil_of_length_eq_zero (by omega)
    clear hc hby hl
    subst hn0
    have he : ∀ w : World, (binOp .eql 22 (.slice none 0 cap) (.slice none 0 0)).run Try.prog w = .ok (.bool true) w := fun _ => rfl
    go_enter Try.func27, Try.ntmps27
    go_wp2
    go_ret
    exact ⟨_, rfl, by rw [HZ.out]; exact OwnB.nil _ _, Below.refl _ _⟩
  | some p =>
    have HNews : Hid (∀ j u, (zs.map (Value.int .u8))[j]? = some u → (w.alloc (.cells #[] 5)).cell? (p.add j) = some u) := by
      intro j u hu
      have hj : j < zs.length := by simpa using (List.getElem?_eq_some_iff.1 hu).1
      rcases hc with h0 | ⟨b, off, e, _, _, hcs⟩
      · omega
      · cases e
        have hq := hcs j (by omega)
        have hlt : b < w.heap.size := block_lt_of_cell hq
        rw [Addr.add_lit, World.cell?_of_block (w := w) (Below.heap_alloc _ _ _ hlt), hq, ← hu]
        simp [List.getD, hj]
    have HL : Hid (zs.length = n) := hl
    have HO : Hid (OwnB w.heap.size (w.alloc (.cells #[] 5)) (.slice (some ⟨w.heap.size, 0, none⟩) 0 0) []) := ownB_made w (Nat.le_refl _)
    obtain ⟨i0, hi0, hz0, hz1, hz2⟩ := info_parts Try.info5
    have he : ∀ w : World, (binOp .eql 22 (.slice (some p) n cap) (.slice none 0 0)).run Try.prog w = .ok (.bool false) w := fun _ => rfl
    clear hc hby hl
    go_enter Try.func27, Try.ntmps27
    go_wp2_with (at_builtin; refine wpList_append_own _ rfl (.tmp 5) (.tmp 6) 22 rfl w.heap.size 5 i0 (.int .u8 0) 1 1 Try.underlying22 hi0 hz0 hz1 hz2 rfl (by decide) (.slice (some ⟨w.heap.size, 0, none⟩) 0 0) 0 [] rfl HO.out p n cap (zs.map (Value.int .u8)) rfl (by rw [List.length_map, HL.out, Nat.mul_one]) HNews.out (oneCB _) (by unfold maxLen; omega) (by omega) (by simp) ?_; intro v' w2 hown' hgrow hnil; have HF : Hid (OwnB w.heap.size w2 v' ([] ++ zs) ∧ Keep5 w.heap.size _ w2) := ownB_app HO.out (by simp) (by rw [HL.out]; exact hown') hgrow; clear hown' hgrow hnil)
    go_ret
    exact ⟨_, rfl, HF.out.1, ((Below.refl _ _).alloc (Nat.le_refl _) _).trans (HF.out.2.1)⟩

theorem S4.of {W W' : World} {b : Nat} {v0 v1 v2 v3 : Value} (hk : W'.heap[b]? = W.heap[b]?) (h : W.cell? ⟨b, 0, none⟩ = some v0 ∧ W.cell? ⟨b, 1, none⟩ = some v1 ∧ W.cell? ⟨b, 2, none⟩ = some v2 ∧ W.cell? ⟨b, 3, none⟩ = some v3) : W'.cell? ⟨b, 0, none⟩ = some v0 ∧ W'.cell? ⟨b, 1, none⟩ = some v1 ∧ W'.cell? ⟨b, 2, none⟩ = some v2 ∧ W'.cell? ⟨b, 3, none⟩ = some v3 := by
  simp only [World.cell?, hk] at h ⊢
  exact h

theorem S4.drew {W : World} {b : Nat} {v0 v1 v2 v3 : Value} (h : W.cell? ⟨b, 0, none⟩ = some v0 ∧ W.cell? ⟨b, 1, none⟩ = some v1 ∧ W.cell? ⟨b, 2, none⟩ = some v2 ∧ W.cell? ⟨b, 3, none⟩ = some v3) : W.drew.cell? ⟨b, 0, none⟩ = some v0 ∧ W.drew.cell? ⟨b, 1, none⟩ = some v1 ∧ W.drew.cell? ⟨b, 2, none⟩ = some v2 ∧ W.drew.cell? ⟨b, 3, none⟩ = some v3 := S4.of rfl h

theorem own_boxed {W : World} {lb t : Nat} {u : Value} (h : Boxed W lb t u) : own lb W = u.ownBlock := by
  unfold own; rw [h.cell]; rfl

/-- A round's variables: the part in a box of its own, which is not the list's block. -/
def AxL {lo hi : Nat} {w0 : World} (n1 lb : Nat) (f : Value → Value → Value → Array Value) (x : ItemL lo hi w0) (a' : Act) (W : World) : Prop :=
  ∃ (Bx : Nat) (k : Int) (na : Option Addr) (nn nc : Nat) (ra : Option Addr) (rn rc : Nat) (ka : Option Addr) (kn kc : Nat), n1 ≤ Bx ∧ own lb W ≠ some Bx ∧ x.v = .agg #[.int .i64 k, .slice na nn nc, .slice ra rn rc, .slice ka kn kc] ∧ BoxC W Bx (.int .i64 k) (.slice na nn nc) (.slice ra rn rc) (.slice ka kn kc) ∧
    a' = { tmps := f (.int .i64 x.deep) (.agg #[.int .i64 k, .slice na nn nc, .slice ra rn rc, .slice ka kn kc]) (.pointer (some ⟨Bx, 0, none⟩)), defers := [] }

theorem AxL.stays {lo hi : Nat} {w0 : World} {n1 lb B : Nat} (hlb : lb < n1) (hlB : lb < B) {f : Value → Value → Value → Array Value} (x : ItemL lo hi w0) (a' : Act) : OwnFrom B (fun (_ : Unit) W => AxL n1 lb f x a' W) := by
  rintro _ W W' row ⟨Bx, k, na, nn, nc, ra, rn, rc, ka, kn, kc, h1, h0, h2, h3, h4⟩ hg hr
  have hlt := h3.lt
  refine ⟨Bx, k, na, nn, nc, ra, rn, rc, ka, kn, kc, h1, ?_, h2, boxC_noncells h3 hg fun r e => (hr r e).2, h4⟩
  have e : own lb W' = own lb W := by
    unfold own
    rw [World.cell?_of_block (w := W) (hg.block lb (by omega) (fun e => by have := (hr lb e.symm).1; omega))]
  rw [e]; exact h0

mutual
theorem bulk_parts : ∀ (c : CN) (deep : Nat), (parts c deep).all okOne = true → c.bulk + 1 ≤ 13 * (parts c deep).length
  | .mk k n r ks, deep, h => by
    rw [parts, List.all_cons, Bool.and_eq_true] at h
    have h1 := bulks_parts ks (deep + 1) h.2
    have h2 : shapeB (.mk k n r ks) = true := by have := h.1; unfold okOne at this; rw [Bool.and_eq_true] at this; exact this.2
    have h3 := shape_lenN h2
    simp only [CN.name, CN.role] at h3
    rw [parts, CN.bulk, List.length_cons]; omega
theorem bulks_parts : ∀ (cs : List CN) (deep : Nat), (partsL cs deep).all okOne = true → bulks cs ≤ 13 * (partsL cs deep).length
  | [], _, _ => by simp [bulks]
  | c :: cs, deep, h => by
    rw [partsL, List.all_append, Bool.and_eq_true] at h
    have h1 := bulk_parts c deep h.1
    have h2 := bulks_parts cs deep h.2
    rw [partsL, bulks, List.length_append]; omega
end

theorem bulk_of_ok {c : CN} (h : conOk c = true) : c.bulk ≤ 208 := by
  unfold conOk at h
  rw [Bool.and_eq_true, decide_eq_true_eq] at h
  have := bulk_parts c 1 h.2
  omega

def rawN (ps : List (Nat × CN)) : List (List Int) := ps.filterMap (fun p => if p.2.kind = 2 then some p.2.name else none)
theorem rawN_yes {ps : List (Nat × CN)} {p : Nat × CN} (h : p.2.kind = 2) : rawN (ps ++ [p]) = rawN ps ++ [p.2.name] := by simp [rawN, h]
theorem rawN_no {ps : List (Nat × CN)} {p : Nat × CN} (h : p.2.kind ≠ 2) : rawN (ps ++ [p]) = rawN ps := by simp [rawN, h]
theorem rawN_len (ps : List (Nat × CN)) : (rawN ps).length ≤ ps.length := List.length_filterMap_le _ _
theorem rawN_mem {ps : List (Nat × CN)} {z : List Int} : z ∈ rawN ps ↔ ∃ p ∈ ps, p.2.kind = 2 ∧ z = p.2.name := by
  simp only [rawN, List.mem_filterMap]
  constructor
  · rintro ⟨p, hp, e⟩
    by_cases h : p.2.kind = 2
    · rw [if_pos h] at e; cases e; exact ⟨p, hp, h, rfl⟩
    · rw [if_neg h] at e; cases e
  · rintro ⟨p, hp, h, rfl⟩
    exact ⟨p, hp, by rw [if_pos h]⟩

theorem nm_mem {ps : List (Nat × CN)} : ∀ {l : List (List Int)}, GoodV l → BytP ps → ∀ z, z ∈ ps.foldl nmP l ↔ z ∈ l ∨ ∃ p ∈ ps, p.2.kind = 2 ∧ z = p.2.name := by
  induction ps with
  | nil => intro l _ _ z; simp
  | cons p ps ih =>
    intro l hg hb z
    have hbp := (hb p (by simp)).1
    have hbs : BytP ps := fun q hq => hb q (by simp [hq])
    rw [List.foldl_cons]
    by_cases h : p.2.kind = 2
    · have e : nmP l p = insW l p.2.name := by unfold nmP; rw [if_pos h]
      rw [e, ih (hg.ins hbp) hbs z, insW_mem hbp hg.srt hg.byt]
      constructor
      · rintro ((rfl | hz) | ⟨q, hq, r⟩)
        · exact .inr ⟨p, by simp, h, rfl⟩
        · exact .inl hz
        · exact .inr ⟨q, by simp [hq], r⟩
      · rintro (hz | ⟨q, hq, hk, rfl⟩)
        · exact .inl (.inr hz)
        · rcases List.mem_cons.1 hq with rfl | hq
          · exact .inl (.inl rfl)
          · exact .inr ⟨q, hq, hk, rfl⟩
    · have e : nmP l p = l := by unfold nmP; rw [if_neg h]
      rw [e, ih hg hbs z]
      constructor
      · rintro (hz | ⟨q, hq, r⟩)
        · exact .inl hz
        · exact .inr ⟨q, by simp [hq], r⟩
      · rintro (hz | ⟨q, hq, hk, rfl⟩)
        · exact .inl hz
        · rcases List.mem_cons.1 hq with rfl | hq
          · exact absurd hk h
          · exact .inr ⟨q, hq, hk, rfl⟩

theorem names_eq {c : CN} {L : List (List Int)} (hb : BytP (parts c 1)) (hs : Srt L) (hm : ∀ z, z ∈ L ↔ z ∈ rawN (parts c 1)) : L = namesC c [] := by
  rw [namesC_parts c 1]
  refine srt_ext hs (GoodV.nil.nm hb).1.srt (fun z => ?_)
  rw [hm z, rawN_mem, nm_mem GoodV.nil hb]
  simp

theorem nm_ne {c : CN} (h : shapeB c = true) (hk : c.kind = 2) : c.name ≠ [] := by
  unfold shapeB at h
  simp only [Bool.and_eq_true] at h
  have h1 := h.1
  unfold nameFit at h1
  rw [if_pos (by simpa using hk)] at h1
  rw [Bool.and_eq_true] at h1
  intro e
  have := len_of_upper h1.1
  rw [e] at this
  exact this rfl

theorem OwnW.keepC {base : Nat} {w w' : World} {v : Value} {L : List (List Int)} {gs : List (Nat × Nat)} (h : OwnW base w v L gs) (hk : ∀ (b : Nat) (o : Obj), w.heap[b]? = some o → o.isCells = true → w'.heap[b]? = some o) : OwnW base w' v L gs := by
  obtain ⟨h1, ⟨r1, r2⟩, h3, h4, h5⟩ := h
  refine ⟨h1, ⟨r1, ?_⟩, fun i hi => ⟨(h3 i hi).1, ?_, (h3 i hi).2.2⟩, h4, h5⟩
  · rcases r2 with r2 | ⟨g, cap, cur, hv, hg, hh, r⟩
    · exact .inl r2
    · exact .inr ⟨g, cap, cur, hv, hg, hk _ _ hh rfl, r⟩
  · have q := (h3 i hi).2.1
    obtain ⟨⟨c, f, hb, _⟩, _⟩ := q
    exact (h3 i hi).2.1.of_block ((hk _ _ hb rfl).trans hb.symm)

theorem OwnW.rowLt {base : Nat} {w : World} {v : Value} {L : List (List Int)} {gs : List (Nat × Nat)} (h : OwnW base w v L gs) : ∀ g, v.ownBlock = some g → base ≤ g ∧ g < w.heap.size := fun g hg => h.row.lt g hg

structure InvN {lo hi : Nat} {w0 : World} (s n1 lb : Nat) (w : World) (pre : List (ItemL lo hi w0)) (W : World) : Prop where
  ans : ∃ u gs, Boxed W lb 33 u ∧ OwnW n1 W u (rawN (pre.map ItemL.m)) gs
  bel : Below s w W
  size : n1 ≤ W.heap.size

theorem InvN.own {lo hi : Nat} {w0 : World} {s n1 lb : Nat} {w : World} {B : Nat} (hB : s ≤ B) (hs : s ≤ n1) : OwnFrom B (InvN (lo := lo) (hi := hi) (w0 := w0) s n1 lb w) := by
  rintro pre W W' row ⟨⟨u, gs, h1, h2⟩, h3, h4⟩ hg hr
  refine ⟨⟨u, gs, boxed_noncells h1 hg fun r e => (hr r e).2, OwnW.keepC h2 (fun b o hb hc => ?_)⟩, h3.grown hg (by omega) fun k e => by have := (hr k e).1; omega, Nat.le_trans h4 hg.size⟩
  refine (hg.block b (Array.getElem?_eq_some_iff.1 hb).1 (fun e => ?_)).trans hb
  obtain ⟨_, o', ho, hc'⟩ := hr b e.symm
  rw [hb] at ho; cases ho; rw [hc] at hc'; cases hc'

theorem InvN.below {lo hi : Nat} {w0 : World} {s n1 lb : Nat} {w W W' : World} {pre : List (ItemL lo hi w0)} (h : InvN s n1 lb w pre W) (hs : s ≤ n1) (hb : Below W.heap.size W W') : InvN s n1 lb w pre W' := by
  obtain ⟨⟨u, gs, h1, h2⟩, h3, h4⟩ := h
  exact ⟨⟨u, gs, boxed_below h1 hb h1.lt, h2.below hb⟩, h3.trans (hb.mono (by omega)), Nat.le_trans h4 hb.size⟩

theorem InvN.ownLt {lo hi : Nat} {w0 : World} {s n1 lb : Nat} {w W : World} {pre : List (ItemL lo hi w0)} (h : InvN s n1 lb w pre W) : OwnLt lb W := by
  obtain ⟨⟨u, gs, h1, h2⟩, _, _⟩ := h
  intro g hg
  rw [own_boxed h1] at hg
  exact (OwnW.rowLt h2 g hg).2

theorem InvN.stay {lo hi : Nat} {w0 : World} {s n1 lb : Nat} {w W : World} {pre : List (ItemL lo hi w0)} {x : ItemL lo hi w0} (h : InvN s n1 lb w pre W) (hk : x.c.kind ≠ 2) : InvN s n1 lb w (pre ++ [x]) W := by
  obtain ⟨h1, h2, h3⟩ := h
  refine ⟨?_, h2, h3⟩
  rw [List.map_append, List.map_cons, List.map_nil, rawN_no hk]
  exact h1

theorem InvN.more {lo hi : Nat} {w0 : World} {s n1 lb : Nat} {w W V w6 F : World} {pre : List (ItemL lo hi w0)} {x : ItemL lo hi w0} {u : Value} {gs : List (Nat × Nat)} {g gz cz n cap : Nat} {z : List Int}
    (hlb : lb < n1) (hslb : s ≤ lb) (hu : Boxed W lb 33 u) (hA : OwnW n1 W u (rawN (pre.map ItemL.m)) gs) (hbel : Below s w W) (hsz : n1 ≤ W.heap.size) (hx : x.c.name = z) (hk : x.c.kind = 2)
    (hV : Below W.heap.size W V) (hz : RowG V gz cz z) (hzg : W.heap.size ≤ gz) (hzc : cz ≤ 9223372036854775807) (hby : Byt z) (hn : n = (rawN (pre.map ItemL.m)).length)
    (hown : w6.ownsRow n1 22 1 (.slice (some ⟨g, 0, none⟩) (n + 1) cap) (n + 1) (List.zipWith wv (rawN (pre.map ItemL.m)) gs ++ [wv z (gz, cz)])) (hgrow : V.grownBy w6 u.ownBlock) (hat : u.ownBlock = some g ∨ g = V.heap.size) (hglt : g < w6.heap.size)
    (hF : F = w6.setCell ⟨lb, 0, none⟩ (.slice (some ⟨g, 0, none⟩) (n + 1) cap)) :
    KeepsOthers W F ∧ KpL s n1 lb W F ∧ InvN s n1 lb w (pre ++ [x]) F := by
  have hlt := OwnW.rowLt hA
  have hVs := hV.size
  have hgs := hgrow.size
  have hFs : F.heap.size = w6.heap.size := by rw [hF]; simp
  have hF3 : ∀ b, b ≠ lb → F.heap[b]? = w6.heap[b]? := fun b h => by rw [hF]; exact Below.heap_setCell _ ⟨lb, 0, none⟩ _ b h
  have hg1 : n1 ≤ g := by
    rcases hat with e | e
    · exact (hlt g e).1
    · omega
  have hgW : g < W.heap.size → u.ownBlock = some g := by
    intro h
    rcases hat with e | e
    · exact e
    · omega
  have hnl : u.ownBlock ≠ some lb := fun e => by have := (hlt lb e).1; omega
  have hbV : Boxed V lb 33 u := boxed_below hu hV hu.lt
  have hb6 : Boxed w6 lb 33 u := hbV.kept hgrow (fun e => hnl e.symm)
  have hF1 : Boxed F lb 33 (.slice (some ⟨g, 0, none⟩) (n + 1) cap) := by rw [hF]; exact Boxed.set _ hb6
  have hkeep : ∀ b, b < W.heap.size → b ≠ lb → u.ownBlock ≠ some b → F.heap[b]? = W.heap[b]? := by
    intro b hb h1 h2
    rw [hF3 b h1, hgrow.block b (by omega) (fun e => h2 e.symm), hV.block b hb]
  have hBel : Below s W F := ⟨by rw [hF]; exact hgrow.os.trans hV.os, by rw [hF]; exact hgrow.tape.trans hV.tape, by rw [hF]; exact hgrow.output.trans hV.output, by omega, fun b hb => hkeep b (by have := hu.lt; omega) (by omega) (fun e => by have := (hlt b e).1; omega)⟩
  have hcells : ∀ b o, W.heap[b]? = some o → o.isCells = false → b ≠ lb ∧ u.ownBlock ≠ some b := by
    intro b o hb hc
    refine ⟨fun e => ?_, fun e => ?_⟩
    · subst e; rw [show W.heap[b]? = _ from hu] at hb; cases hb; cases hc
    · rcases hA.row.2 with ⟨hv, _⟩ | ⟨g', cap', cur, hv, _, hh, _⟩
      · rw [hv] at e; cases e
      · rw [hv] at e; simp only [Value.ownBlock, Option.some.injEq] at e; subst e; rw [hh] at hb; cases hb; cases hc
  have hKO : KeepsOthers W F := ⟨by omega, fun b o hb hc => (hkeep b (Array.getElem?_eq_some_iff.1 hb).1 (hcells b o hb hc).1 (hcells b o hb hc).2).trans hb⟩
  have hKp : KpL s n1 lb W F := by
    refine ⟨hBel, fun b o h1 hb hc ho => (hkeep b (Array.getElem?_eq_some_iff.1 hb).1 (by omega) (by rw [← own_boxed hu]; exact ho)).trans hb, ?_⟩
    rw [own_boxed hu, own_boxed hF1]
    rcases hat with e | e
    · exact .inl e.symm
    · exact .inr ⟨g, rfl, by omega, by omega⟩
  refine ⟨hKO, hKp, ⟨_, gs ++ [(gz, cz)], hF1, ?_⟩, hbel.trans hBel, by omega⟩
  rw [List.map_append, List.map_cons, List.map_nil, rawN_yes hk, show (ItemL.m x).2.name = z from hx]
  have hAV : OwnW n1 V u (rawN (pre.map ItemL.m)) gs := hA.below hV
  have h6 := hAV.snoc (w1 := w6) (v' := .slice (some ⟨g, 0, none⟩) (n + 1) cap) z (gz, cz) ⟨by show n1 ≤ gz; omega, hz, hzc⟩ hby (fun i hi e => by have := (hA.txt i hi).2.1.lt; simp only at e; omega) (by rw [← hn]; exact hown) hgrow
  exact h6.same (fun b hb _ => hF3 b (by omega))

end Nm
end Go.Proofs.Ytedihcjhfkdkjaa
