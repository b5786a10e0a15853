/- Several texts in one: ReadI6, SubsStep. -/
import Derived.Test.YtedihcjhfkdkjaaReadI5
import Derived.Defers
import Derived.Recover
import Derived.Test.YtedihcjhfkdkjaaNG18
import Derived.Test.YtedihcjhfkdkjaaNG14
import Derived.Test.YtedihcjhfkdkjaaNG13
import Derived.Laws.OwnMore
namespace Go.Proofs.Ytedihcjhfkdkjaa

section
open Go.RowKit

def BoxI (W : World) (b : Nat) (z : Int) : Prop := W.heap[b]? = some (.cells #[.int .i64 z] 3 (0, 0))
theorem BoxI.cell {W : World} {b : Nat} {z : Int} (h : BoxI W b z) : W.cell? ⟨b, 0, none⟩ = some (.int .i64 z) := by
  unfold BoxI at h
  simp [World.cell?, h]
theorem BoxI.frz {W : World} {b : Nat} {z : Int} (h : BoxI W b z) (o : Nat) : W.frozen? ⟨b, o, none⟩ = false := by
  unfold BoxI at h
  simp [World.frozen?, h]
theorem BoxI.lt {W : World} {b : Nat} {z : Int} (h : BoxI W b z) : b < W.heap.size := (Array.getElem?_eq_some_iff.1 h).1
theorem BoxI.set {W : World} {b : Nat} {z : Int} (h : BoxI W b z) (y : Int) : BoxI (W.setCell ⟨b, 0, none⟩ (.int .i64 y)) b y := by
  unfold BoxI
  rw [heap_setCell_same W b 0 _ _ _ h]
  rfl
theorem BoxI.of {W W' : World} {b : Nat} {z : Int} (h : BoxI W b z) (e : W'.heap[b]? = W.heap[b]?) : BoxI W' b z := e.trans h
theorem BoxI.new (W : World) (z : Int) : BoxI (W.alloc (.cells #[.int .i64 z] 3)) W.heap.size z := by
  show (W.heap.push _)[W.heap.size]? = _
  simp

theorem assert_yes (p : Int) (w : World) : (Instr.typeAssert (.iface 88 (.int .i64 p)) 20 88 true).run Try.prog w = .ok (.tuple #[.int .i64 p, .bool true]) w := by kernel_rfl
theorem assert_no (w : World) : (Instr.typeAssert .nilIface 20 88 true).run Try.prog w = .ok (.tuple #[.int .i64 0, .bool false]) w := by kernel_rfl

theorem caught_mem {vb bb : Nat} (hne : vb < bb) {v0 v1 v2 v3 : Value} {z : Int} {w : World} (hv : BoxC w vb v0 v1 v2 v3) (hb : BoxI w bb z) (x0 x1 x2 x3 : Value) (p : Int) (o : Obj) :
    Below vb w ((((((w.setCell ⟨vb, 0, none⟩ x0).setCell ⟨vb, 1, none⟩ x1).setCell ⟨vb, 2, none⟩ x2).setCell ⟨vb, 3, none⟩ x3).setCell ⟨bb, 0, none⟩ (.int .i64 p)).alloc o) ∧
      BoxC ((((((w.setCell ⟨vb, 0, none⟩ x0).setCell ⟨vb, 1, none⟩ x1).setCell ⟨vb, 2, none⟩ x2).setCell ⟨vb, 3, none⟩ x3).setCell ⟨bb, 0, none⟩ (.int .i64 p)).alloc o) vb x0 x1 x2 x3 ∧
      BoxI ((((((w.setCell ⟨vb, 0, none⟩ x0).setCell ⟨vb, 1, none⟩ x1).setCell ⟨vb, 2, none⟩ x2).setCell ⟨vb, 3, none⟩ x3).setCell ⟨bb, 0, none⟩ (.int .i64 p)).alloc o) bb p := by
  have hvl := hv.lt
  have hbl := hb.lt
  have h1 := hv.set4 x0 x1 x2 x3
  have h2 : BoxC (((((w.setCell ⟨vb, 0, none⟩ x0).setCell ⟨vb, 1, none⟩ x1).setCell ⟨vb, 2, none⟩ x2).setCell ⟨vb, 3, none⟩ x3).setCell ⟨bb, 0, none⟩ (.int .i64 p)) vb x0 x1 x2 x3 := h1.other _ (by omega)
  have h3 : BoxI ((((w.setCell ⟨vb, 0, none⟩ x0).setCell ⟨vb, 1, none⟩ x1).setCell ⟨vb, 2, none⟩ x2).setCell ⟨vb, 3, none⟩ x3) bb z := hb.of (heap_set4 _ _ _ _ _ (by omega))
  have h4 := h3.set p
  refine ⟨?_, (Below.heap_alloc _ _ _ h2.lt).trans h2, h4.of (Below.heap_alloc _ _ _ h4.lt)⟩
  exact ((((((Below.refl vb w).setCell (Nat.le_refl _) _).setCell (Nat.le_refl _) _).setCell (Nat.le_refl _) _).setCell (Nat.le_refl _) _).setCell (Nat.le_of_lt hne) _).alloc (by simp; omega) _

set_option maxRecDepth 100000 in
set_option maxHeartbeats 1000000 in
theorem catch_gaveUp (vb bb : Nat) (hne : vb < bb) (v0 v1 v2 v3 : Value) (z p : Int) (older : List PanicEntry) (w : World) (hv : BoxC w vb v0 v1 v2 v3) (hb : BoxI w bb z) :
    CallsD Try.prog 65 #[.pointer (some ⟨vb, 0, none⟩), .pointer (some ⟨bb, 0, none⟩)] (.panicking ({ v := .iface 88 (.int .i64 p), recovered := false } :: older)) w fun e u' w' =>
      e = .returned (.tuple #[]) ∧ u' = .panicking ({ v := .iface 88 (.int .i64 p), recovered := true } :: older) ∧ Below vb w w' ∧ BoxC w' vb (.int .i64 0) (.slice none 0 0) (.slice none 0 0) (.slice none 0 0) ∧ BoxI w' bb p := by
  have ha := assert_yes p
  refine callsD_of_wpS Try.func65 rfl fun c₀ cs hu => ?_
  apply wpS_seq
  apply wpS_region
  simp [wpOpsS, go_sem, recoverD, hu, Try.ntmps65, Exit.thenS, ha]
  obtain ⟨c0, c1, c2, c3⟩ := hv.cells
  have f0 := hv.frz 0
  have f1 := hv.frz 1
  have f2 := hv.frz 2
  have f3 := hv.frz 3
  have b0 := hb.cell
  have bf := hb.frz 0
  have hvl := hv.lt
  have hbl := hb.lt
  refine wpS_of_wp ?_
  simp only [Array.replicate_succ, Array.replicate_zero, List.push_toArray, List.append_toArray, List.nil_append, List.cons_append, List.setIfInBounds_toArray, List.set_cons_zero, List.set_cons_succ]
  go_wp2
  have HF := caught_mem hne hv hb (.int .i64 0) (.slice none 0 0) (.slice none 0 0) (.slice none 0 0) p (.cells #[.int .i64 0, .slice none 0 0, .slice none 0 0, .slice none 0 0] 25)
  simp only [bodyPostS, results, Try.results65]
  simp
  exact HF

set_option maxRecDepth 100000 in
set_option maxHeartbeats 1000000 in
theorem catch_none (vb bb : Nat) (w : World) :
    CallsD Try.prog 65 #[.pointer (some ⟨vb, 0, none⟩), .pointer (some ⟨bb, 0, none⟩)] .returning w fun e u' w' => e = .returned (.tuple #[]) ∧ u' = .returning ∧ w' = w := by
  have ha := assert_no
  refine callsD_of_wpS Try.func65 rfl fun c₀ cs hu => ?_
  apply wpS_seq
  apply wpS_region
  simp [wpOpsS, go_sem, recoverD, hu, Try.ntmps65, Exit.thenS, ha]
  refine wpS_of_wp ?_
  simp only [Array.replicate_succ, Array.replicate_zero, List.push_toArray, List.append_toArray, List.nil_append, List.cons_append, List.setIfInBounds_toArray, List.set_cons_zero, List.set_cons_succ]
  go_wp2
  cases c₀
  simp only [bodyPostS, results, Try.results65]
  simp_all

/-- Reading one concept. -/
theorem read1_any (base pb g : Nat) (ts : List Tok) (gs : List (Nat × Nat)) (en : Int) (w : World) (hR : RdrAt w pb g 0 ts en) (hT : TkM base pb w g ts gs) :
    Calls Try.prog 47 #[.pointer (some ⟨pb, 0, none⟩)] w (RP ts gs en g pb 0 w 6 (conR ts en 6 0)) := by
  have hpl := hR.lt
  have hb0 : Below w.heap.size w (w.alloc (.cells #[.int .i64 0, .slice none 0 0, .slice none 0 0, .slice none 0 0] 25)) := (Below.refl _ _).alloc (Nat.le_refl _) _
  have HB0 : Hid (Below w.heap.size w (w.alloc (.cells #[.int .i64 0, .slice none 0 0, .slice none 0 0, .slice none 0 0] 25))) := hb0
  have HZ0 : Hid (BoxC (w.alloc (.cells #[.int .i64 0, .slice none 0 0, .slice none 0 0, .slice none 0 0] 25)) w.heap.size (.int .i64 0) (.slice none 0 0) (.slice none 0 0) (.slice none 0 0)) := BoxC.new w _ _ _ _
  have HR0 : Hid (RdrAt (w.alloc (.cells #[.int .i64 0, .slice none 0 0, .slice none 0 0, .slice none 0 0] 25)) pb g 0 ts en) := hR.below hb0
  have HT0 : Hid (TkM base pb (w.alloc (.cells #[.int .i64 0, .slice none 0 0, .slice none 0 0, .slice none 0 0] 25)) g ts gs) := hT.below (hb0.mono (Nat.le_of_lt hpl))
  clear hb0 hR hT
  go_enter Try.func47, Try.ntmps47
  go_wp2_with fail
  refine (readC_any 6 1 (by omega) (by omega) base pb g 0 ts gs en _ HR0.out HT0.out (Nat.zero_le _)).mono ?_
  rintro e w1 hP
  cases hres : conR ts en 6 0 with
  | bad p =>
    rw [hres] at hP
    obtain ⟨hb1, he⟩ := hP
    subst he
    have HBt : Hid (Bt pb w.heap.size w w1) := (Bt.of_below HB0.out).trans (hb1.mono HB0.out.size)
    simp only [gaveUp]
    clear hb1
    go_wp2
    exact ⟨rfl, RP.fell HBt.out rfl rfl⟩
  | ok c j =>
    rw [hres] at hP
    obtain ⟨hb1, v, L, he, hO, hR1⟩ := hP
    subst he
    obtain ⟨zna, znn, znc, zra, zrn, zrc, zka, zkn, zkc, rfl⟩ := hO.ow.agg
    obtain ⟨zk, hzk⟩ : ∃ zk, zk = c.kind := ⟨_, rfl⟩
    rw [← hzk] at hO
    rw [← hzk]
    have HBt : Hid (Bt pb w.heap.size w w1) := (Bt.of_below HB0.out).trans (hb1.mono HB0.out.size)
    have HZ1 : Hid (BoxC w1 w.heap.size (.int .i64 0) (.slice none 0 0) (.slice none 0 0) (.slice none 0 0)) := (hb1.block _ HZ0.out.lt (by omega)).trans HZ0.out
    rw [World.size_alloc] at hO
    have HO : Hid (OwnR ts gs 0 j (w.heap.size + 1) w1 6 (.agg #[.int .i64 zk, .slice zna znn znc, .slice zra zrn zrc, .slice zka zkn zkc]) c L) := hO
    have HR1 : Hid (RdrAt w1 pb g j ts en) := hR1
    obtain ⟨z0, z1, z2, z3⟩ := HZ1.out.cells
    have zf0 := HZ1.out.frz 0
    have zf1 := HZ1.out.frz 1
    have zf2 := HZ1.out.frz 2
    have zf3 := HZ1.out.frz 3
    clear hb1 hO hR1 hzk
    go_wp2
    obtain ⟨s0, s1, s2, s3⟩ := (HZ1.out.set4 (.int .i64 zk) (.slice zna znn znc) (.slice zra zrn zrc) (.slice zka zkn zkc)).cells
    refine bodyPost_ret (v := .agg #[.int .i64 zk, .slice zna znn znc, .slice zra zrn zrc, .slice zka zkn zkc]) (by simp [results, Try.results47, go_sem, s0, s1, s2, s3]) rfl ?_
    have hne := HO.out.us.ne HT0.out (o := w.heap.size) (by omega) (Nat.lt_succ_self _)
    have hL' := (OwnR.to HO.out (w' := ((((w1.setCell ⟨w.heap.size, 0, none⟩ (.int .i64 zk)).setCell ⟨w.heap.size, 1, none⟩ (.slice zna znn znc)).setCell ⟨w.heap.size, 2, none⟩ (.slice zra zrn zrc)).setCell ⟨w.heap.size, 3, none⟩ (.slice zka zkn zkc))) (fun x hx => heap_set4 _ _ _ _ _ (hne x hx)) (by simp)).low (Nat.le_succ _)
    exact RP.good ((((HBt.out.set (.inl (Nat.le_refl _)) _).set (.inl (Nat.le_refl _)) _).set (.inl (Nat.le_refl _)) _).set (.inl (Nat.le_refl _)) _) hres hL' (HR1.out.of (heap_set4 _ _ _ _ _ (by omega)))
end

section
open Go.RowKit Go.Shelf

theorem OwC.norm {w : World} : ∀ {d : Nat} {v : Value} {c : CN} {L : List (Addr × IntKind)}, OwC w d v c L → OwC w (c.bulk + 1) v c L := by
  intro d
  induction d with
  | zero => intro v c L h; exact h.elim
  | succ d ih =>
    intro v c L h
    obtain ⟨na, nn, nc, ra, rn, rc, ka, kn, kc, bn, on, br, or, bk, ok, Ls, hv, h1, h2, ⟨g1, g2, g3⟩, rfl⟩ := h
    refine ⟨na, nn, nc, ra, rn, rc, ka, kn, kc, bn, on, br, or, bk, ok, Ls, hv, h1, h2, ⟨g1, g2, ?_⟩, rfl⟩
    rcases g3 with g3 | ⟨e', g3⟩
    · exact .inl g3
    · refine .inr ⟨e', fun i hi => ?_⟩
      obtain ⟨v0, v1, v2, v3, c0, c1, c2, c3, hr⟩ := g3 i hi
      refine ⟨v0, v1, v2, v3, c0, c1, c2, c3, (ih hr).lift ?_⟩
      have hb := getD_bulk_le c.kids i (by omega)
      have := c.bulk_eq
      omega

theorem OwnC.at {base : Nat} {w : World} {d D : Nat} {v : Value} {c : CN} {L : List (Addr × IntKind)} (h : OwnC base w d v c L) (hD : c.bulk + 1 ≤ D) : OwnC base w D v c L := ⟨h.ow.norm.lift hD, h.nd, h.fr, h.bl⟩

theorem cells_of_cell {w : World} {a : Addr} {v : Value} (h : w.cell? a = some v) : ∃ o : Obj, w.heap[a.block]? = some o ∧ o.isCells = true := by
  unfold World.cell? at h
  split at h
  · rename_i c t f e; exact ⟨_, e, rfl⟩
  · cases h

theorem AnsL.keepC {base : Nat} {w w' : World} {d : Nat} {v : Value} {cs : List CN} {Ls : List (List (Addr × IntKind))} {xs : List Value} (h : AnsL base w d v cs Ls xs) (hk : ∀ (b : Nat) (o : Obj), w.heap[b]? = some o → o.isCells = true → w'.heap[b]? = some o) (hs : w.heap.size ≤ w'.heap.size) : AnsL base w' d v cs Ls xs := by
  obtain ⟨⟨h1, h2, h3, h4, h5⟩, h6⟩ := h
  have hleaf : ∀ x ∈ Ls.flatten, w'.heap[x.1.block]? = w.heap[x.1.block]? := by
    intro x hx
    obtain ⟨l, hl, hxl⟩ := List.mem_flatten.1 hx
    obtain ⟨i, hi, rfl⟩ := List.mem_iff_getElem.1 hl
    obtain ⟨v0, v1, v2, v3, c0, c1, c2, c3, hr⟩ := h3 i (by omega)
    obtain ⟨n, hn⟩ := hr.leaf x (by simpa [List.getD, hi] using hxl)
    obtain ⟨o, ho, hc⟩ := cells_of_cell hn
    rw [hk _ o ho hc, ho]
  refine ⟨⟨h1, ?_, fun i hi => ?_, fun x hx => Nat.lt_of_lt_of_le (h4 x hx) hs, h5⟩, ⟨h6.nd, fun x hx => (World.frozen?_of_block (w := w) (hleaf x hx)).trans (h6.fr x hx), h6.ge⟩⟩
  · obtain ⟨r1, r2⟩ := h2
    refine ⟨r1, ?_⟩
    rcases r2 with r2 | ⟨g, cap, cur, hv, hg, hh, r⟩
    · exact .inl r2
    · exact .inr ⟨g, cap, cur, hv, hg, hk g _ hh rfl, r⟩
  · obtain ⟨v0, v1, v2, v3, c0, c1, c2, c3, hr⟩ := h3 i hi
    exact ⟨v0, v1, v2, v3, c0, c1, c2, c3, hr.keep (fun x hx => hleaf x (getD_mem_flatten hx))⟩

/-- Between two rounds: the list so far, in its variable's box. -/
structure InvL {lo hi : Nat} {w0 : World} (s n1 lb : Nat) (w : World) (pre : List (ItemL lo hi w0)) (W : World) : Prop where
  ans : ∃ u Ls xs, Boxed W lb 23 u ∧ AnsL n1 W 209 u (putsN [] (pre.map ItemL.m)) Ls xs
  bel : Below s w W
  size : n1 ≤ W.heap.size

theorem InvL.own {lo hi : Nat} {w0 : World} {s n1 lb : Nat} {w : World} {B : Nat} (hB : s ≤ B) (hs : s ≤ n1) : OwnFrom B (InvL (lo := lo) (hi := hi) (w0 := w0) s n1 lb w) := by
  rintro pre W W' row ⟨⟨u, Ls, xs, h1, h2⟩, h3, h4⟩ hg hr
  refine ⟨⟨u, Ls, xs, boxed_noncells h1 hg fun r e => (hr r e).2, h2.keepC (fun b o hb hc => ?_) hg.size⟩, h3.grown hg (by omega) fun k e => by have := (hr k e).1; omega, Nat.le_trans h4 hg.size⟩
  refine (hg.block b (Array.getElem?_eq_some_iff.1 hb).1 (fun e => ?_)).trans hb
  obtain ⟨_, o', ho, hc'⟩ := hr b e.symm
  rw [hb] at ho; cases ho; rw [hc] at hc'; cases hc'

theorem InvL.below {lo hi : Nat} {w0 : World} {s n1 lb : Nat} {w W W' : World} {pre : List (ItemL lo hi w0)} (h : InvL s n1 lb w pre W) (hs : s ≤ n1) (hb : Below W.heap.size W W') : InvL s n1 lb w pre W' := by
  obtain ⟨⟨u, Ls, xs, h1, h2⟩, h3, h4⟩ := h
  exact ⟨⟨u, Ls, xs, boxed_below h1 hb h1.lt, h2.below hb⟩, h3.trans (hb.mono (by omega)), Nat.le_trans h4 hb.size⟩

theorem own_boxed {W : World} {lb t : Nat} {u : Value} (h : Boxed W lb t u) : own lb W = u.ownBlock := by
  unfold own; rw [h.cell]; rfl

theorem InvL.ownLt {lo hi : Nat} {w0 : World} {s n1 lb : Nat} {w W : World} {pre : List (ItemL lo hi w0)} (h : InvL s n1 lb w pre W) : OwnLt lb W := by
  obtain ⟨⟨u, Ls, xs, h1, h2⟩, _, _⟩ := h
  intro g hg
  rw [own_boxed h1] at hg
  exact (h2.row.row.lt g hg).2

theorem putsN_snoc {lo hi : Nat} {w0 : World} (pre : List (ItemL lo hi w0)) (x : ItemL lo hi w0) : putsN [] ((pre ++ [x]).map ItemL.m) = putN (putsN [] (pre.map ItemL.m)) x.c := by
  rw [List.map_append, putsN_append]; rfl

/-- One that is there already. -/
theorem InvL.stay {lo hi : Nat} {w0 : World} {s n1 lb : Nat} {w W : World} {pre : List (ItemL lo hi w0)} {x : ItemL lo hi w0} (h : InvL s n1 lb w pre W) (ha : amongC (putsN [] (pre.map ItemL.m)) x.c = true) : InvL s n1 lb w (pre ++ [x]) W := by
  obtain ⟨h1, h2, h3⟩ := h
  refine ⟨?_, h2, h3⟩
  rw [putsN_snoc]
  unfold putN
  rw [if_pos ha]
  exact h1

/-- One more. -/
theorem InvL.more {lo hi : Nat} {w0 : World} {s n1 lb : Nat} {w W V w6 F : World} {pre : List (ItemL lo hi w0)} {x : ItemL lo hi w0} {u : Value} {Ls : List (List (Addr × IntKind))} {xs : List Value} {c : CN} {L : List (Addr × IntKind)} {z0 z1 z2 z3 : Value} {g n cap : Nat} {ys : List Value}
    (hlb : lb < n1) (hslb : s ≤ lb) (hu : Boxed W lb 23 u) (hA : AnsL n1 W 209 u (putsN [] (pre.map ItemL.m)) Ls xs) (hbel : Below s w W) (hsz : n1 ≤ W.heap.size) (hx : x.c = c) (ha : amongC (putsN [] (pre.map ItemL.m)) c = false)
    (hV : Below W.heap.size W V) (hO : OwnC W.heap.size V 209 (.agg #[z0, z1, z2, z3]) c L) (hn : n = (putsN [] (pre.map ItemL.m)).length)
    (hown : w6.ownsRow n1 25 4 (.slice (some ⟨g, 0, none⟩) (n + 1) cap) (n + 1) ys) (hgrow : V.grownBy w6 u.ownBlock) (hat : u.ownBlock = some g ∨ g = V.heap.size) (hglt : g < w6.heap.size)
    (hF1 : Boxed F lb 23 (.slice (some ⟨g, 0, none⟩) (n + 1) cap)) (hF2 : F.ownsRow n1 25 4 (.slice (some ⟨g, 0, none⟩) (n + 1) cap) (n + 1) (xs ++ [z0, z1, z2, z3])) (hF3 : ∀ b, b ≠ g → b ≠ lb → F.heap[b]? = w6.heap[b]?)
    (hFs : F.heap.size = w6.heap.size) (hFo : F.os = w6.os) (hFt : F.tape = w6.tape) (hFu : F.output = w6.output) :
    KeepsOthers W F ∧ KpL s n1 lb W F ∧ InvL s n1 lb w (pre ++ [x]) F := by
  have hlt := hA.row.row.lt
  have hVs := hV.size
  have hgs := hgrow.size
  have hg1 : n1 ≤ g := by
    rcases hat with e | e
    · exact (hlt g e).1
    · omega
  have hgW : g < W.heap.size → u.ownBlock = some g := by
    intro h
    rcases hat with e | e
    · exact e
    · omega
  have hkeep : ∀ b, b < W.heap.size → b ≠ lb → u.ownBlock ≠ some b → F.heap[b]? = W.heap[b]? := by
    intro b hb h1 h2
    have hbg : b ≠ g := fun e => by subst e; exact h2 (hgW hb)
    rw [hF3 b hbg h1, hgrow.block b (by omega) (fun e => h2 e.symm), hV.block b hb]
  have hBel : Below s W F := ⟨hFo.trans (hgrow.os.trans hV.os), hFt.trans (hgrow.tape.trans hV.tape), hFu.trans (hgrow.output.trans hV.output), by omega, fun b hb => hkeep b (by omega) (by omega) (fun e => by have := (hlt b e).1; omega)⟩
  have hcells : ∀ b o, W.heap[b]? = some o → o.isCells = false → b ≠ lb ∧ u.ownBlock ≠ some b := by
    intro b o hb hc
    refine ⟨fun e => ?_, fun e => ?_⟩
    · subst e; rw [show W.heap[b]? = _ from hu] at hb; cases hb; cases hc
    · rcases hA.row.row.2 with ⟨hv, _⟩ | ⟨g', cap', cur, hv, _, hh, _⟩
      · rw [hv] at e; cases e
      · rw [hv] at e; simp only [Value.ownBlock, Option.some.injEq] at e; subst e; rw [hh] at hb; cases hb; cases hc
  have hKO : KeepsOthers W F := ⟨by omega, fun b o hb hc => (hkeep b (Array.getElem?_eq_some_iff.1 hb).1 (hcells b o hb hc).1 (hcells b o hb hc).2).trans hb⟩
  have hKp : KpL s n1 lb W F := by
    refine ⟨hBel, fun b o h1 hb hc ho => (hkeep b (Array.getElem?_eq_some_iff.1 hb).1 (by omega) (by rw [← own_boxed hu]; exact ho)).trans hb, ?_⟩
    rw [own_boxed hu, own_boxed hF1]
    rcases hat with e | e
    · exact .inl e.symm
    · exact .inr ⟨g, rfl, by omega, by omega⟩
  refine ⟨hKO, hKp, ⟨_, Ls ++ [L], xs ++ [z0, z1, z2, z3], hF1, ?_⟩, hbel.trans hBel, by omega⟩
  rw [putsN_snoc]
  unfold putN
  rw [hx, if_neg (by rw [ha]; simp)]
  -- the world in which the variable alone has turned
  obtain ⟨V', hV'⟩ : ∃ V', V' = V.setCell ⟨lb, 0, none⟩ (.slice (some ⟨g, 0, none⟩) (n + 1) cap) := ⟨_, rfl⟩
  have hAV := hA.below hV
  have hbV : Boxed V lb 23 u := boxed_below hu hV hu.lt
  have hnl : u.ownBlock ≠ some lb := fun e => by have := (hlt lb e).1; omega
  have hbl1 : ∀ y ∈ Ls.flatten, y.1.block ≠ lb := fun y hy => by have := hA.sep.ge y hy; omega
  have hbl2 : ∀ y ∈ L, y.1.block ≠ lb := fun y hy => by have := (hO.bl y hy).1; omega
  have hrow' : RowK n1 V' 209 u (putsN [] (pre.map ItemL.m)) Ls xs := by rw [hV']; exact hAV.row.set 0 _ hbl1 hnl
  have hsep' : SepK n1 V' Ls := by rw [hV']; exact hAV.sep.set _ _
  have hVs' : V'.heap.size = V.heap.size := by rw [hV']; simp
  have hO' : OwnC W.heap.size V' 209 (.agg #[z0, z1, z2, z3]) c L := by
    have hk : ∀ y ∈ L, V'.heap[y.1.block]? = V.heap[y.1.block]? := fun y hy => by rw [hV']; exact Below.heap_setCell V ⟨lb, 0, none⟩ _ _ (hbl2 y hy)
    exact ⟨hO.ow.keep hk, hO.nd, fun y hy => (World.frozen?_of_block (w := V) (hk y hy)).trans (hO.fr y hy), fun y hy => by rw [hVs']; exact hO.bl y hy⟩
  have hgrow' : V'.grownBy F u.ownBlock := by
    refine ⟨by rw [hV']; exact hFo.trans hgrow.os, by rw [hV']; exact hFt.trans hgrow.tape, by rw [hV']; exact hFu.trans hgrow.output, by omega, fun b hb hne => ?_⟩
    by_cases e : b = lb
    · subst e
      rw [show F.heap[b]? = _ from hF1, hV']
      exact (hbV.set _).symm
    · have hbg : b ≠ g := by
        rintro rfl
        rcases hat with e2 | e2
        · exact hne e2.symm
        · omega
      rw [hF3 b hbg e, hgrow.block b (by omega) hne, hV']
      exact (Below.heap_setCell V ⟨lb, 0, none⟩ _ b e).symm
  have hoL : ∀ y ∈ L, u.ownBlock ≠ some y.1.block := fun y hy e => by have := (hO.bl y hy).1; have := (hlt _ e).2; omega
  refine ⟨hrow'.snoc hO'.ow (fun y hy => (hO'.bl y hy).2) hoL (by rw [← hn]; exact hF2) hgrow' ?_, hsep'.snoc hO' hsz (fun y hy => hA.row.lt y hy) hrow'.lt hgrow' (fun y hy => ?_)⟩
  · rcases hat with e | e
    · exact .inl e.symm
    · exact .inr (by rw [hVs', e]; rfl)
  · simp only [List.flatten_append, List.mem_append, List.flatten_cons, List.flatten_nil, List.append_nil] at hy
    rcases hy with hy | hy
    · exact hA.row.off y hy
    · exact hoL y hy

/-- The four cells at the end of a grown row are written: first the row, then the variable. -/
theorem row_put4 {w6 : World} {n1 g n cap : Nat} {xs : List Value} {y0 y1 y2 y3 : Value} (z0 z1 z2 z3 : Value) (hl : xs.length = n * 4) (h : w6.ownsRow n1 25 4 (.slice (some ⟨g, 0, none⟩) (n + 1) cap) (n + 1) (xs ++ [y0, y1, y2, y3])) :
    ((((w6.setCell ⟨g, n * 4, none⟩ z0).setCell ⟨g, n * 4 + 1, none⟩ z1).setCell ⟨g, n * 4 + 2, none⟩ z2).setCell ⟨g, n * 4 + 3, none⟩ z3).ownsRow n1 25 4 (.slice (some ⟨g, 0, none⟩) (n + 1) cap) (n + 1) (xs ++ [z0, z1, z2, z3]) := by
  have h1 := ((((h.stored (n * 4) z0).1.stored (n * 4 + 1) z1).1.stored (n * 4 + 2) z2).1.stored (n * 4 + 3) z3).1
  have e : ((((xs ++ [y0, y1, y2, y3]).set (n * 4) z0).set (n * 4 + 1) z1).set (n * 4 + 2) z2).set (n * 4 + 3) z3 = xs ++ [z0, z1, z2, z3] := by
    rw [List.set_append_right _ _ (by omega), List.set_append_right _ _ (by omega), List.set_append_right _ _ (by omega), List.set_append_right _ _ (by omega), hl]
    rw [show n * 4 - n * 4 = 0 by omega, show n * 4 + 1 - n * 4 = 1 by omega, show n * 4 + 2 - n * 4 = 2 by omega, show n * 4 + 3 - n * 4 = 3 by omega]
    rfl
  rw [e] at h1
  exact h1

theorem heap_put4 (w6 : World) {g o0 o1 o2 o3 b : Nat} (z0 z1 z2 z3 : Value) (hb : b ≠ g) : ((((w6.setCell ⟨g, o0, none⟩ z0).setCell ⟨g, o1, none⟩ z1).setCell ⟨g, o2, none⟩ z2).setCell ⟨g, o3, none⟩ z3).heap[b]? = w6.heap[b]? := by
  rw [Below.heap_setCell _ ⟨g, o3, none⟩ _ b hb, Below.heap_setCell _ ⟨g, o2, none⟩ _ b hb, Below.heap_setCell _ ⟨g, o1, none⟩ _ b hb, Below.heap_setCell _ ⟨g, o0, none⟩ _ b hb]

theorem ownsRow_far {w : World} {base e size g n m cap lb : Nat} {xs : List Value} (h : w.ownsRow base e size (.slice (some ⟨g, 0, none⟩) n cap) m xs) (hne : g ≠ lb) (v : Value) : (w.setCell ⟨lb, 0, none⟩ v).ownsRow base e size (.slice (some ⟨g, 0, none⟩) n cap) m xs := by
  obtain ⟨q1, q2⟩ := h
  refine ⟨q1, ?_⟩
  rcases q2 with q | ⟨g', cap', cur, hv, hg, hh, r⟩
  · exact .inl q
  · simp only [Value.slice.injEq, Option.some.injEq, Addr.mk.injEq, and_true] at hv
    obtain ⟨rfl, rfl, rfl⟩ := hv
    exact .inr ⟨g, cap, cur, rfl, hg, (Below.heap_setCell w ⟨lb, 0, none⟩ v g hne).trans hh, r⟩

theorem AnsL.mono {base base' : Nat} {w : World} {d : Nat} {v : Value} {cs : List CN} {Ls : List (List (Addr × IntKind))} {xs : List Value} (h : AnsL base w d v cs Ls xs) (hb : base' ≤ base) : AnsL base' w d v cs Ls xs := by
  obtain ⟨⟨h1, h2, h3, h4, h5⟩, h6⟩ := h
  refine ⟨⟨h1, ?_, h3, h4, h5⟩, ⟨h6.nd, h6.fr, fun x hx => Nat.le_trans hb (h6.ge x hx)⟩⟩
  obtain ⟨r1, r2⟩ := h2
  refine ⟨r1, ?_⟩
  rcases r2 with r2 | ⟨g, cap, cur, hv, hg, r⟩
  · exact .inl r2
  · exact .inr ⟨g, cap, cur, hv, Nat.le_trans hb hg, r⟩

/-- A round's variables: the part in a box of its own, which is not the list's block. -/
def AxL {lo hi : Nat} {w0 : World} (n1 lb : Nat) (f : Value → Value → Value → Array Value) (x : ItemL lo hi w0) (a' : Act) (W : World) : Prop :=
  ∃ (Bx : Nat) (k : Int) (na : Option Addr) (nn nc : Nat) (ra : Option Addr) (rn rc : Nat) (ka : Option Addr) (kn kc : Nat), n1 ≤ Bx ∧ own lb W ≠ some Bx ∧ x.v = .agg #[.int .i64 k, .slice na nn nc, .slice ra rn rc, .slice ka kn kc] ∧ BoxC W Bx (.int .i64 k) (.slice na nn nc) (.slice ra rn rc) (.slice ka kn kc) ∧
    a' = { tmps := f (.int .i64 x.deep) (.agg #[.int .i64 k, .slice na nn nc, .slice ra rn rc, .slice ka kn kc]) (.pointer (some ⟨Bx, 0, none⟩)), defers := [] }

theorem AxL.stays {lo hi : Nat} {w0 : World} {n1 lb B : Nat} (hlb : lb < n1) (hlB : lb < B) {f : Value → Value → Value → Array Value} (x : ItemL lo hi w0) (a' : Act) : OwnFrom B (fun (_ : Unit) W => AxL n1 lb f x a' W) := by
  rintro _ W W' row ⟨Bx, k, na, nn, nc, ra, rn, rc, ka, kn, kc, h1, h0, h2, h3, h4⟩ hg hr
  have hlt := h3.lt
  refine ⟨Bx, k, na, nn, nc, ra, rn, rc, ka, kn, kc, h1, ?_, h2, boxC_noncells h3 hg fun r e => (hr r e).2, h4⟩
  have e : own lb W' = own lb W := by
    unfold own
    rw [World.cell?_of_block (w := W) (hg.block lb (by omega) (fun e => by have := (hr lb e.symm).1; omega))]
  rw [e]; exact h0
end

end Go.Proofs.Ytedihcjhfkdkjaa
