/- (impl.scene).holders: of whom a claim holds. -/
import Derived.Test.YtnmljalcndfjmaaGreatNG19
import Derived.Test.YtnmljalcndfjmaaGreatNG16
import Derived.Deep.AppendLies
import Derived.RangeFuncBox
namespace Go.Proofs.YtnmljalcndfjmaaGreat
open Go.RowKit Go.Deep
set_option linter.unusedVariables false

theorem Tryz.infoBoolS : (Tryz.prog.info? 63).map (fun i => (i.zero, i.size, i.bytes)) = some (some (.slice none 0 0), 1, 24) := by kernel_rfl
theorem Tryz.undBoolSS : Tryz.prog.underlying 24 = some (.slice 63) := by kernel_rfl

theorem kids_any (v : Value) (V : World) : Calls Tryz.prog 210 #[v] V fun r w' => r = .returned v ∧ w' = V := by
  go_enter Tryz.func210, Tryz.ntmps210
  go_wp2_with fail
  go_ret
  exact ⟨rfl, rfl⟩

theorem FlS.congr {w : World} {b o L : Nat} {f g : Nat → Bool} (h : FlS w b o L f) (e : ∀ q, q < L → f q = g q) : FlS w b o L g := ⟨h.1, fun q hq => by rw [← e q hq]; exact h.2 q hq⟩

/-- The kids' flags, in a row of the call's own. -/
structure RowF (x : WD) (L base po : Nat) (w : World) (v : Value) (cs : List CN) (us : List Value) : Prop where
  row : w.ownsRow base 63 1 v cs.length us
  kid : ∀ i, i < cs.length → ∃ b o cc, us[i]? = some (.slice (some ⟨b, o, none⟩) L cc) ∧ (L ≤ cc ∧ cc ≤ 9223372036854775807) ∧ FlS w b o L (holdC x L (cs.getD i CN.zero)) ∧ v.ownBlock ≠ some b ∧ b ≠ po

theorem RowF.nil (x : WD) (L base po : Nat) (w : World) : RowF x L base po w (.slice none 0 0) [] [] := ⟨World.ownsRow_nil _ _ _ _, fun i hi' => by simp at hi'⟩

theorem RowF.below {x : WD} {L base po : Nat} {w w' : World} {v : Value} {cs : List CN} {us : List Value} (h : RowF x L base po w v cs us) (hb : Below w.heap.size w w') : RowF x L base po w' v cs us := by
  obtain ⟨⟨r1, r2⟩, hk⟩ := h
  refine ⟨⟨r1, ?_⟩, fun i hi' => ?_⟩
  · rcases r2 with r2 | ⟨g, cap, cur, hv, hg, hh', r⟩
    · exact .inl r2
    · exact .inr ⟨g, cap, cur, hv, hg, by rw [hb.block g (Array.getElem?_eq_some_iff.1 hh').1]; exact hh', r⟩
  · obtain ⟨b, o, cc, hu, hc, hf, h1, h2⟩ := hk i hi'
    exact ⟨b, o, cc, hu, hc, hf.below hb, h1, h2⟩

theorem FlS.block {w w' : World} {b o L : Nat} {f : Nat → Bool} (h : FlS w b o L f) (e : w'.heap[b]? = w.heap[b]?) (hs : w.heap.size ≤ w'.heap.size) : FlS w' b o L f :=
  ⟨Nat.lt_of_lt_of_le h.1 hs, fun q hq => by rw [World.cell?_of_block (w := w) (by exact e)]; exact h.2 q hq⟩

theorem RowF.set {x : WD} {L base po : Nat} {w : World} {v z : Value} {cs : List CN} {us : List Value} (h : RowF x L base po w v cs us) (hpo : po < base) : RowF x L base po (w.setCell ⟨po, 0, none⟩ z) v cs us := by
  have hbk : ∀ b, b ≠ po → (w.setCell ⟨po, 0, none⟩ z).heap[b]? = w.heap[b]? := fun b hb => blk_setCell_other _ _ _ _ (by exact hb)
  obtain ⟨⟨r1, r2⟩, hk⟩ := h
  refine ⟨⟨r1, ?_⟩, fun i hi' => ?_⟩
  · rcases r2 with r2 | ⟨g, cap, cur, hv, hg, hh', r⟩
    · exact .inl r2
    · exact .inr ⟨g, cap, cur, hv, hg, by rw [hbk g (by omega)]; exact hh', r⟩
  · obtain ⟨b, o, cc, hu, hc, hf, h1, h2⟩ := hk i hi'
    exact ⟨b, o, cc, hu, hc, hf.block (hbk b h2) (by simp), h1, h2⟩

theorem RowF.snoc {x : WD} {L base po : Nat} {w W w6 : World} {v v' : Value} {c : CN} {b o cc : Nat} {cs : List CN} {us : List Value} (h : RowF x L base po w v cs us) (hW : Below w.heap.size w W) (hq : FlS W b o L (holdC x L c)) (hcc : L ≤ cc ∧ cc ≤ 9223372036854775807) (hbn : v.ownBlock ≠ some b) (hbp : b ≠ po)
    (hown : w6.ownsRow base 63 1 v' (cs.length + 1) (us ++ [.slice (some ⟨b, o, none⟩) L cc])) (hgrow : W.grownBy w6 v.ownBlock) (hat : v'.ownBlock = v.ownBlock ∨ v'.ownBlock = some W.heap.size) : RowF x L base po w6 v' (cs ++ [c]) (us ++ [.slice (some ⟨b, o, none⟩) L cc]) := by
  have hl : us.length = cs.length := by have := h.row.1; omega
  have hs := hW.size
  have hs6 := hgrow.size
  have hne : ∀ b, b < W.heap.size → v.ownBlock ≠ some b → v'.ownBlock ≠ some b := fun b hb hv => by
    rcases hat with e' | e'
    · rw [e']; exact hv
    · rw [e']; intro e''; simp only [Option.some.injEq] at e''; omega
  refine ⟨by simpa using hown, fun i hi' => ?_⟩
  simp only [List.length_append, List.length_cons, List.length_nil] at hi'
  by_cases e : i < cs.length
  · obtain ⟨b1, o1, c1, hu, hc, hf, h1, h2⟩ := h.kid i e
    refine ⟨b1, o1, c1, by rw [List.getElem?_append_left (by omega)]; exact hu, hc, ?_, hne b1 (by have := hf.1; omega) h1, h2⟩
    rw [show (cs ++ [c]).getD i CN.zero = cs.getD i CN.zero from by rw [List.getD, List.getElem?_append_left e, List.getD]]
    exact (hf.below hW).block (hgrow.block b1 (by have := hf.1; omega) (fun e => h1 e.symm)) hs6
  · obtain rfl : i = cs.length := by omega
    refine ⟨b, o, cc, by rw [← hl]; simp, hcc, ?_, hne b hq.1 hbn, hbp⟩
    rw [show (cs ++ [c]).getD cs.length CN.zero = c from by simp [List.getD]]
    exact hq.block (hgrow.block b hq.1 (fun e => hbn e.symm)) hs6

theorem RowF.at {x : WD} {L base po : Nat} {w : World} {v : Value} {cs : List CN} {us : List Value} (h : RowF x L base po w v cs us) (hp : 0 < cs.length) : ∃ ob oc, v = .slice (some ⟨ob, 0, none⟩) cs.length oc ∧ ob < w.heap.size ∧ ∀ i, i < cs.length → ∃ b o cc, w.cell? ⟨ob, i, none⟩ = some (.slice (some ⟨b, o, none⟩) L cc) ∧ (L ≤ cc ∧ cc ≤ 9223372036854775807) ∧ FlS w b o L (holdC x L (cs.getD i CN.zero)) := by
  have hrow := h.row
  rcases h.row.2 with ⟨hv, h0⟩ | ⟨g, cap, cur, hv, hg, hb, hn, hc, _, _⟩
  · omega
  · subst hv
    refine ⟨g, cap, rfl, (Array.getElem?_eq_some_iff.1 hb).1, fun i hi' => ?_⟩
    obtain ⟨b, o, cc, hu, hcc, hf, _, _⟩ := h.kid i hi'
    have h1 := h.row.1
    exact ⟨b, o, cc, (hrow.cellAt i (by omega)).trans hu, hcc, hf⟩

theorem boxed_frz {W : World} {p t : Nat} {v : Value} (h : Boxed W p t v) : W.frozen? ⟨p, 0, none⟩ = false := by
  unfold Boxed at h
  simp [World.frozen?, h]

theorem grow_holders {na : Option Addr} {nn nc : Nat} {sa : Option Addr} {sn sc : Nat} {ra : Option Addr} {rn rc : Nat} {la : Option Addr} {ln lc : Nat} {ia : Option Addr} {im ic : Nat} {ta : Option Addr} {tn tc : Nat} {x : WD} {L j : Nat} {w W0 wr w5 w6 : World} {v' ov : Value} {y : CN} {us : List Value} {fb fo fc hi : Nat} {cs cs' : List CN} (hS0 : W0.heap.size = w.heap.size + 2) (hbo : Boxed wr (w.heap.size + 1) 24 ov) (hbs : BoxS wr w.heap.size (.int .i64 L) (.slice ia im ic) (.slice ta tn tc) (.int .i64 L) (.slice na nn nc) (.slice sa sn sc) (.slice ra rn rc) (.slice la ln lc) (.slice ia im ic) (.slice ta tn tc)) (hbe : Below w.heap.size w wr) (hrow : RowF x L W0.heap.size (w.heap.size + 1) wr ov cs us)
    (hul : ∀ g, ov.ownBlock = some g → W0.heap.size ≤ g ∧ g < wr.heap.size) (hts : cs' = cs ++ [y]) (htl : cs.length = j) (hfc : (L ≤ fc ∧ fc ≤ 9223372036854775807) ∧ (fb < hi ∨ wr.drew.heap.size ≤ fb)) (hfl : FlS w5 fb fo L (holdC x L y)) (hb5 : Below wr.drew.heap.size wr.drew w5) (hhi : hi ≤ w.heap.size) (hsz : W0.heap.size ≤ wr.heap.size)
    (hown : w6.ownsRow W0.heap.size 63 1 v' (j + 1) (us ++ [.slice (some ⟨fb, fo, none⟩) L fc])) (hgrow : (w5.alloc (.cells #[.slice (some ⟨fb, fo, none⟩) L fc] 63)).grownBy w6 ov.ownBlock) (hat : v'.ownBlock = ov.ownBlock ∨ v'.ownBlock = some (w5.alloc (.cells #[.slice (some ⟨fb, fo, none⟩) L fc] 63)).heap.size) :
    RowF x L W0.heap.size (w.heap.size + 1) w6 v' cs' (us ++ [.slice (some ⟨fb, fo, none⟩) L fc]) ∧ Boxed w6 (w.heap.size + 1) 24 ov ∧ BoxS w6 w.heap.size (.int .i64 L) (.slice ia im ic) (.slice ta tn tc) (.int .i64 L) (.slice na nn nc) (.slice sa sn sc) (.slice ra rn rc) (.slice la ln lc) (.slice ia im ic) (.slice ta tn tc) ∧ Below w.heap.size w w6 ∧ W0.heap.size ≤ w6.heap.size := by
  have hwr : wr.drew.heap.size = wr.heap.size := rfl
  have h5 : Below wr.heap.size wr w5 := (Below.refl wr.heap.size wr).drew.trans hb5
  have hba : Below w5.heap.size w5 (w5.alloc (.cells #[.slice (some ⟨fb, fo, none⟩) L fc] 63)) := (Below.refl _ _).alloc (Nat.le_refl _) _
  have hW : Below wr.heap.size wr (w5.alloc (.cells #[.slice (some ⟨fb, fo, none⟩) L fc] 63)) := h5.trans (hba.mono h5.size)
  have hsW := hW.size
  have hs6 := hgrow.size
  have hfb := hfl.1
  subst hts
  refine ⟨hrow.snoc hW (hfl.below hba) hfc.1 (fun e => ?_) (by omega) (by rw [htl]; exact hown) hgrow hat, ?_, ?_, ?_, by omega⟩
  · have := hul fb e
    omega
  · exact (hgrow.block _ (by omega) (fun e => by have := (hul _ e.symm).1; omega)).trans ((hW.block _ (by omega)).trans hbo)
  · exact (hgrow.block _ (by omega) (fun e => by have := (hul _ e.symm).1; omega)).trans ((hW.block _ (by omega)).trans hbs)
  · exact (hbe.trans (hW.mono hbe.size)).grown hgrow (by omega) (fun g hg => by have := (hul g hg).1; omega)

theorem end_holders {na : Option Addr} {nn nc : Nat} {sa : Option Addr} {sn sc : Nat} {ra : Option Addr} {rn rc : Nat} {la : Option Addr} {ln lc : Nat} {ia : Option Addr} {im ic : Nat} {ta : Option Addr} {tn tc : Nat} {x : WD} {L base : Nat} {w w6 : World} {v' ov : Value} {us : List Value} {cs : List CN} (h : RowF x L base (w.heap.size + 1) w6 v' cs us ∧ Boxed w6 (w.heap.size + 1) 24 ov ∧ BoxS w6 w.heap.size (.int .i64 L) (.slice ia im ic) (.slice ta tn tc) (.int .i64 L) (.slice na nn nc) (.slice sa sn sc) (.slice ra rn rc) (.slice la ln lc) (.slice ia im ic) (.slice ta tn tc) ∧ Below w.heap.size w w6 ∧ base ≤ w6.heap.size) (hpo : w.heap.size + 1 < base) :
    Boxed (w6.setCell ⟨w.heap.size + 1, 0, none⟩ v') (w.heap.size + 1) 24 v' ∧ RowF x L base (w.heap.size + 1) (w6.setCell ⟨w.heap.size + 1, 0, none⟩ v') v' cs us ∧ BoxS (w6.setCell ⟨w.heap.size + 1, 0, none⟩ v') w.heap.size (.int .i64 L) (.slice ia im ic) (.slice ta tn tc) (.int .i64 L) (.slice na nn nc) (.slice sa sn sc) (.slice ra rn rc) (.slice la ln lc) (.slice ia im ic) (.slice ta tn tc) ∧ Below w.heap.size w (w6.setCell ⟨w.heap.size + 1, 0, none⟩ v') ∧ base ≤ (w6.setCell ⟨w.heap.size + 1, 0, none⟩ v').heap.size := by
  obtain ⟨h1, h2, h3, h4, h5⟩ := h
  refine ⟨?_, h1.set hpo, (blk_setCell_other _ _ _ _ (by show w.heap.size ≠ w.heap.size + 1; omega)).trans h3, h4.setCell (by show w.heap.size ≤ w.heap.size + 1; omega) _, by simpa using h5⟩
  unfold Boxed at h2 ⊢
  have := heap_setCell_same w6 (w.heap.size + 1) 0 _ _ v' h2
  simpa using this

theorem method_kids (k : Int) (hk : 0 ≤ k ∧ k ≤ 7) (kv nv rv : Value) (V : World) : (method 337 (tyQ k) (fieldsQ k kv nv rv) "loop.example/g00534/impl.kids").run Tryz.prog V = .ok (210, kv) V := by
  rcases (show k = 0 ∨ k = 1 ∨ k = 2 ∨ k = 3 ∨ k = 4 ∨ k = 5 ∨ k = 6 ∨ k = 7 by omega) with rfl | rfl | rfl | rfl | rfl | rfl | rfl | rfl
  all_goals kernel_rfl

def HqP (x : WD) (L : Nat) (na : Option Addr) (nn nc : Nat) (sa : Option Addr) (sn sc : Nat) (ra : Option Addr) (rn rc : Nat) (la : Option Addr) (ln lc : Nat) (ia : Option Addr) (im ic : Nat) (ta : Option Addr) (tn tc : Nat) (lo hi : Nat) (d : Nat) : Prop := ∀ (v : Value) (c : CN) (w : World) (N qlo qhi : Nat), RdQ (fun b => b < N) qlo qhi w d v c → N ≤ w.heap.size → qhi ≤ w.heap.size → RdW lo hi w na nn nc sa sn sc ra rn rc la ln lc ia im ic ta tn tc x → hi ≤ w.heap.size → wfC c = true →
  Calls Tryz.prog 43 #[.agg #[.int .i64 L, .slice ia im ic, .slice ta tn tc, .int .i64 L, .slice na nn nc, .slice sa sn sc, .slice ra rn rc, .slice la ln lc, .slice ia im ic, .slice ta tn tc], v] w fun r w' => ∃ b o cc, r = .returned (.slice (some ⟨b, o, none⟩) L cc) ∧ ((L ≤ cc ∧ cc ≤ 9223372036854775807) ∧ (b < hi ∨ w.heap.size ≤ b)) ∧ FlS w' b o L (holdC x L c) ∧ Below w.heap.size w w'

set_option maxRecDepth 100000 in
set_option maxHeartbeats 8000000 in
theorem hqP_of {x : WD} {L : Nat} {na : Option Addr} {nn nc : Nat} {sa : Option Addr} {sn sc : Nat} {ra : Option Addr} {rn rc : Nat} {la : Option Addr} {ln lc : Nat} {ia : Option Addr} {im ic : Nat} {ta : Option Addr} {tn tc : Nat} {lo hi : Nat} (hok : worldB x = true) (hn : x.n = (L : Int)) (hL : 1 ≤ L ∧ L ≤ 128) {d : Nat} (H : ∀ d', d = d' + 1 → HqP x L na nn nc sa sn sc ra rn rc la ln lc ia im ic ta tn tc lo hi d') : HqP x L na nn nc sa sn sc ra rn rc la ln lc ia im ic ta tn tc lo hi d := by
  intro v c w N qlo qhi hq hN hqhi hW hhi hwf
  have HOk : Hid (worldB x = true) := hok
  have HNx : Hid (x.n = (L : Int)) := hn
  cases d with
  | zero => exact hq.elim
  | succ d =>
    have HH : Hid (HqP x L na nn nc sa sn sc ra rn rc la ln lc ia im ic ta tn tc lo hi d) := H d rfl
    obtain ⟨ka, kn, kc, qna, qnn, qnc, qra, qrn, qrc, rfl, hnm, hrl, hkl, hkf, hkids⟩ := hq
    obtain ⟨hkl2, hwk, hk0, hk7⟩ := wf_kids hwf
    have hHE := fun q => holdC_eq x L c q
    obtain ⟨k, hk⟩ : ∃ k, k = c.kind := ⟨_, rfl⟩
    rw [← hk] at hkl2 hk0 hk7 ⊢
    rw [hkl] at hkl2
    have hk2 : kn ≤ 2 := by
      have : kidN k ≤ 2 := by unfold kidN; repeat' split <;> try omega
      omega
    have hHE' : ∀ q, holdC x L c q = _ := hHE
    have hm := fun V => method_kids k ⟨hk0, hk7⟩ (.slice ka kn kc) (.slice qna qnn qnc) (.slice qra qrn qrc) V
    obtain ⟨T, hT⟩ : ∃ T, T = tyQ k := ⟨_, rfl⟩
    obtain ⟨fv, hfv⟩ : ∃ fv, fv = fieldsQ k (.slice ka kn kc) (.slice qna qnn qnc) (.slice qra qrn qrc) := ⟨_, rfl⟩
    have HT : Hid (T = tyQ k) := hT
    have HFv : Hid (fv = fieldsQ k (.slice ka kn kc) (.slice qna qnn qnc) (.slice qra qrn qrc)) := hfv
    rw [← hT, ← hfv] at hm ⊢
    obtain ⟨W0, hW0⟩ : ∃ W0, W0 = (w.alloc (.cells #[.int .i64 L, .slice ia im ic, .slice ta tn tc, .int .i64 L, .slice na nn nc, .slice sa sn sc, .slice ra rn rc, .slice la ln lc, .slice ia im ic, .slice ta tn tc] 74)).alloc (.cells #[.slice none 0 0] 24) := ⟨_, rfl⟩
    have HW0 : Hid (W0 = (w.alloc (.cells #[.int .i64 L, .slice ia im ic, .slice ta tn tc, .int .i64 L, .slice na nn nc, .slice sa sn sc, .slice ra rn rc, .slice la ln lc, .slice ia im ic, .slice ta tn tc] 74)).alloc (.cells #[.slice none 0 0] 24)) := hW0
    have hs0 : W0.heap.size = w.heap.size + 2 := by rw [hW0]; simp
    have HS0 : Hid (W0.heap.size = w.heap.size + 2) := hs0
    have hb0 : Below w.heap.size w W0 := by rw [hW0]; exact ((Below.refl _ _).alloc (Nat.le_refl _) _).alloc (by simp) _
    have hbs : BoxS W0 w.heap.size (.int .i64 L) (.slice ia im ic) (.slice ta tn tc) (.int .i64 L) (.slice na nn nc) (.slice sa sn sc) (.slice ra rn rc) (.slice la ln lc) (.slice ia im ic) (.slice ta tn tc) := by rw [hW0]; exact (BoxS.new w _ _ _ _ _ _ _ _ _ _).below ((Below.refl _ _).alloc (Nat.le_refl _) _) (by simp)
    have hbo : Boxed W0 (w.heap.size + 1) 24 (.slice none 0 0) := by
      rw [hW0]
      have := Boxed.new (w.alloc (.cells #[.int .i64 L, .slice ia im ic, .slice ta tn tc, .int .i64 L, .slice na nn nc, .slice sa sn sc, .slice ra rn rc, .slice la ln lc, .slice ia im ic, .slice ta tn tc] 74)) 24 (.slice none 0 0)
      rwa [World.size_alloc] at this
    have HB0 : Hid (Below w.heap.size w W0) := hb0
    have HBS0 : Hid (BoxS W0 w.heap.size (.int .i64 L) (.slice ia im ic) (.slice ta tn tc) (.int .i64 L) (.slice na nn nc) (.slice sa sn sc) (.slice ra rn rc) (.slice la ln lc) (.slice ia im ic) (.slice ta tn tc)) := hbs
    have HBo0 : Hid (Boxed W0 (w.heap.size + 1) 24 (.slice none 0 0)) := hbo
    have HKl : Hid (c.kids.length = kn) := hkl
    have HK2 : Hid ((kn : Int) = kidN k) := hkl2
    have HAll : Hid (∀ V, Below w.heap.size w V → RdW lo hi V na nn nc sa sn sc ra rn rc la ln lc ia im ic ta tn tc x ∧ hi ≤ V.heap.size ∧ Rd qlo qhi V qna qnn qnc c.name ∧ Rd qlo qhi V qra qrn qrc c.role ∧ qhi ≤ V.heap.size) := fun V hV => ⟨hW.below hV hhi, by have := hV.size; omega, hnm.below hV hqhi, hrl.below hV hqhi, by have := hV.size; omega⟩
    have HKid : Hid (∀ i, i < kn → ∃ kb u, ka = some ⟨kb, 0, none⟩ ∧ kb < N ∧ w.cell? ⟨kb, i, none⟩ = some u ∧ RdQ (fun b => b < N) qlo qhi w d u (c.kids.getD i CN.zero) ∧ wfC (c.kids.getD i CN.zero) = true) := fun i hi => by
      rcases hkids with hz | ⟨kb, e1, hblt, hc⟩
      · omega
      · obtain ⟨u, hu, hr⟩ := hc i hi
        exact ⟨kb, u, e1, hblt, hu, hr, wfL_getD _ _ (by omega) hwk⟩
    have HKeep : Hid (∀ {V : World} {u : Value} {y : CN}, Below w.heap.size w V → RdQ (fun b => b < N) qlo qhi w d u y → RdQ (fun b => b < N) qlo qhi V d u y) := fun {V u y} hV h => h.keep (fun b hb => ⟨hb, hV.block b (by omega)⟩) (Same.of_below hV hqhi)
    have HE : Hid (∀ q, holdC x L c q = if k = 0 then true else if k = 1 then false else if k = 2 then flagO x.names x.sets c.name q
      else if k = 3 then !(holdK x L c.kids 0 q)
      else if k = 4 then holdK x L c.kids 0 q && holdK x L c.kids 1 q
      else if k = 5 then holdK x L c.kids 0 q || holdK x L c.kids 1 q
      else if k = 6 then (List.range L).any (fun y => relO x c.role q y L && holdK x L c.kids 0 y)
      else (List.range L).all (fun y => !(relO x c.role q y L) || holdK x L c.kids 0 y)) := fun q => by rw [hk]; exact holdC_eq x L c q
    have HKk : Hid (∀ i y, i < kn → holdK x L c.kids i y = holdC x L (c.kids.getD i CN.zero) y) := fun i y hi => holdK_getD x L c.kids i y (by omega)
    obtain ⟨i0, hi0, hz0, hz1, hz2⟩ := info_parts Tryz.infoBoolS
    clear hok hn hW hnm hrl hkids hb0 hbs hbo hW0 hwk hwf H hHE hHE' hT hfv hk hkl hs0 hkl2
    go_enter Tryz.func43, Tryz.ntmps43
    go_upto_region 2 with fail
    rw [← HW0.out]
    go_wp2_with fail
    refine (kids_any _ W0).mono ?_
    rintro r w1 ⟨rfl, hw1⟩
    rw [hw1]
    clear hw1 hm
    go_wp2_with fail
    go_loopw [20] (fun i wr => ∃ (j : Nat) (ov : Value) (us : List Value), j ≤ kn ∧ i = .int .i64 j ∧ Boxed wr (w.heap.size + 1) 24 ov ∧ RowF x L W0.heap.size (w.heap.size + 1) wr ov (c.kids.take j) us ∧ BoxS wr w.heap.size (.int .i64 L) (.slice ia im ic) (.slice ta tn tc) (.int .i64 L) (.slice na nn nc) (.slice sa sn sc) (.slice ra rn rc) (.slice la ln lc) (.slice ia im ic) (.slice ta tn tc) ∧ Below w.heap.size w wr ∧ W0.heap.size ≤ wr.heap.size) (fun i _ => kn - (intOf i).toNat)
    case atStart => exact ⟨0, _, [], Nat.zero_le _, rfl, HBo0.out, RowF.nil _ _ _ _ _, HBS0.out, HB0.out, Nat.le_refl _⟩
    case round =>
      obtain ⟨j, ov, us, hj, rfl, hbo, hrow, hbs, hbel, hsz⟩ := hrel
      have HRow : Hid (RowF x L W0.heap.size (w.heap.size + 1) wr ov (c.kids.take j) us) := hrow
      have HBo : Hid (Boxed wr (w.heap.size + 1) 24 ov) := hbo
      have HBs : Hid (BoxS wr w.heap.size (.int .i64 L) (.slice ia im ic) (.slice ta tn tc) (.int .i64 L) (.slice na nn nc) (.slice sa sn sc) (.slice ra rn rc) (.slice la ln lc) (.slice ia im ic) (.slice ta tn tc)) := hbs
      have HBe : Hid (Below w.heap.size w wr) := hbel
      have hs2 : w.heap.size + 2 ≤ wr.heap.size := by have := HS0.out; omega
      obtain ⟨oa, ol, oc, hov⟩ : ∃ oa ol oc, ov = .slice oa ol oc := by
        rcases hrow.row.2 with ⟨hv, _⟩ | ⟨g, cap, cur, hv, _⟩
        · exact ⟨_, _, _, hv⟩
        · exact ⟨_, _, _, hv⟩
      have y0 := hbo.cell
      obtain ⟨a0, a1, a2, a3, a4, a5, a6, a7, a8, a9⟩ := hbs.cells
      by_cases hlt : j < kn
      · have hji : (j : Int) < (kn : Int) := by omega
        have hjl : j < c.kids.length := by rw [HKl.out]; exact hlt
        have HTs : Hid (c.kids.take (j + 1) = c.kids.take j ++ [c.kids.getD j CN.zero]) := take_succ_getD _ _ _ hjl
        have HTl : Hid ((c.kids.take j).length = j) := by unfold Hid; rw [List.length_take]; omega
        obtain ⟨kb, u, rfl, hkb, hu, hru, hwu⟩ := HKid.out j hlt
        obtain ⟨qt, qz, rfl⟩ := hru.iface
        have hur : wr.cell? ⟨kb, j, none⟩ = some (.iface qt qz) := (hbel.cell (p := ⟨kb, j, none⟩) (show kb < w.heap.size by omega)).trans hu
        have HCall : Hid (∀ V, Below w.heap.size w V → Calls Tryz.prog 43 #[.agg #[.int .i64 L, .slice ia im ic, .slice ta tn tc, .int .i64 L, .slice na nn nc, .slice sa sn sc, .slice ra rn rc, .slice la ln lc, .slice ia im ic, .slice ta tn tc], .iface qt qz] V fun r w' => ∃ b o cc, r = .returned (.slice (some ⟨b, o, none⟩) L cc) ∧ ((L ≤ cc ∧ cc ≤ 9223372036854775807) ∧ (b < hi ∨ V.heap.size ≤ b)) ∧ FlS w' b o L (holdC x L (c.kids.getD j CN.zero)) ∧ Below V.heap.size V w') := fun V hV => HH.out _ _ V N qlo qhi (HKeep.out hV hru) (by have := hV.size; omega) (HAll.out V hV).2.2.2.2 (HAll.out V hV).1 (HAll.out V hV).2.1 hwu
        have HUl : Hid (∀ g, ov.ownBlock = some g → W0.heap.size ≤ g ∧ g < wr.heap.size) := fun g hg => hrow.row.lt g hg
        have Hrd : Hid (Below w.heap.size w wr.drew) := hbel.drew
        have hkw : kb < wr.heap.size := by omega
        subst hov
        clear hrow hbo hbs hbel hu hru hwu
        go_upto_region 5 with fail
        first | go_region_law (first
          | (refine step_append_lies _ rfl (.tmp 24) (.tmp 28) 24 rfl W0.heap.size 63 i0 (.slice none 0 0) 1 24 Tryz.undBoolSS hi0 hz0 hz1 hz2 rfl (by decide) (.slice oa ol oc) j us (by simp [Act.eval]) HOwn.out ⟨w5.heap.size, 0, none⟩ 1 1 [.slice (some ⟨fb, fo, none⟩) L fc] (by simp [Act.eval]) rfl (cell_one_new _ _ _) (by simp [Value.oneCell']) (by decide) (by unfold maxLen; omega) (by omega) hsn _ rfl ?_; intro g cap' w6 hown hgrow hat hlt6; have HN : Hid (RowF x L W0.heap.size (w.heap.size + 1) w6 (.slice (some ⟨g, 0, none⟩) (j + 1) cap') (c.kids.take (j + 1)) (us ++ [.slice (some ⟨fb, fo, none⟩) L fc]) ∧ Boxed w6 (w.heap.size + 1) 24 (.slice oa ol oc) ∧ BoxS w6 w.heap.size (.int .i64 L) (.slice ia im ic) (.slice ta tn tc) (.int .i64 L) (.slice na nn nc) (.slice sa sn sc) (.slice ra rn rc) (.slice la ln lc) (.slice ia im ic) (.slice ta tn tc) ∧ Below w.heap.size w w6 ∧ W0.heap.size ≤ w6.heap.size) := HNx2.out hown hgrow (hat.elim (fun e => .inl e.symm) (fun e => .inr (by rw [e]; rfl))); have z6 := HN.out.2.1.cell; have f6 := boxed_frz HN.out.2.1; clear hown hgrow hat hlt6)
          | (go_simp; refine (HCall.out wr.drew Hrd.out).mono ?_; rintro r w5 ⟨fb, fo, fc, rfl, hfc, hfl, hb5⟩; have HNx2 : Hid (∀ {w6 : World} {v' : Value}, w6.ownsRow W0.heap.size 63 1 v' (j + 1) (us ++ [.slice (some ⟨fb, fo, none⟩) L fc]) → (w5.alloc (.cells #[.slice (some ⟨fb, fo, none⟩) L fc] 63)).grownBy w6 (Value.slice oa ol oc).ownBlock → (v'.ownBlock = (Value.slice oa ol oc).ownBlock ∨ v'.ownBlock = some (w5.alloc (.cells #[.slice (some ⟨fb, fo, none⟩) L fc] 63)).heap.size) → RowF x L W0.heap.size (w.heap.size + 1) w6 v' (c.kids.take (j + 1)) (us ++ [.slice (some ⟨fb, fo, none⟩) L fc]) ∧ Boxed w6 (w.heap.size + 1) 24 (.slice oa ol oc) ∧ BoxS w6 w.heap.size (.int .i64 L) (.slice ia im ic) (.slice ta tn tc) (.int .i64 L) (.slice na nn nc) (.slice sa sn sc) (.slice ra rn rc) (.slice la ln lc) (.slice ia im ic) (.slice ta tn tc) ∧ Below w.heap.size w w6 ∧ W0.heap.size ≤ w6.heap.size) := (fun {w6 v'} hown hgrow hat => grow_holders HS0.out HBo.out HBs.out HBe.out HRow.out HUl.out HTs.out HTl.out hfc hfl hb5 hhi hsz hown hgrow hat); have HOwn : Hid ((w5.alloc (.cells #[.slice (some ⟨fb, fo, none⟩) L fc] 63)).ownsRow W0.heap.size 63 1 (.slice oa ol oc) j us) := (by have h1 := (HRow.out.below (w' := w5.alloc (.cells #[.slice (some ⟨fb, fo, none⟩) L fc] 63)) (((Below.refl wr.heap.size wr).drew.trans hb5).alloc hb5.size _)).row; rw [HTl.out] at h1; exact h1); have hsn : W0.heap.size ≤ (w5.alloc (.cells #[.slice (some ⟨fb, fo, none⟩) L fc] 63)).heap.size := (by have h1 : wr.heap.size ≤ w5.heap.size := hb5.size; simp; omega); have x0 : w5.cell? ⟨w.heap.size + 1, 0, none⟩ = some (.slice oa ol oc) := (hb5.cell (p := ⟨w.heap.size + 1, 0, none⟩) (show w.heap.size + 1 < wr.heap.size by omega)).trans HBo.out.cell; have x1 : (w5.alloc (.cells #[.slice (some ⟨fb, fo, none⟩) L fc] 63)).cell? ⟨w.heap.size + 1, 0, none⟩ = some (.slice oa ol oc) := (((Below.refl w5.heap.size w5).alloc (Nat.le_refl _) (.cells #[.slice (some ⟨fb, fo, none⟩) L fc] 63)).cell (p := ⟨w.heap.size + 1, 0, none⟩) (show w.heap.size + 1 < w5.heap.size from Nat.lt_of_lt_of_le (show w.heap.size + 1 < wr.heap.size by omega) hb5.size)).trans x0; clear hfc hfl hb5)) | fail
        all_goals
          go_wp2_with fail
          go_roundw
          case rel => exact ⟨j + 1, _, _, by omega, by go_num, end_holders HN.out (by have := HS0.out; omega)⟩
          case measure => simp [intOf]; omega
      · have HTk : Hid (c.kids.take j = c.kids) := List.take_of_length_le (by rw [HKl.out]; omega)
        have HRk : Hid (RowF x L W0.heap.size (w.heap.size + 1) wr ov c.kids us) := by have := HRow.out; rwa [HTk.out] at this
        have hji : ¬ ((j : Int) < (kn : Int)) := by omega
        have HEnd : Hid (∀ {V : World} {b o cc : Nat} {f : Nat → Bool}, Below w.heap.size w V → (L ≤ cc ∧ cc ≤ 9223372036854775807) → (b < hi ∨ w.heap.size ≤ b) → FlS V b o L f → (∀ q, q < L → f q = holdC x L c q) → ∃ b' o' cc', Ending.returned (.slice (some ⟨b, o, none⟩) L cc) = .returned (.slice (some ⟨b', o', none⟩) L cc') ∧ ((L ≤ cc' ∧ cc' ≤ 9223372036854775807) ∧ (b' < hi ∨ w.heap.size ≤ b')) ∧ FlS V b' o' L (holdC x L c) ∧ Below w.heap.size w V) := fun {V b o cc f} hV hc hb hf he => ⟨b, o, cc, rfl, ⟨hc, hb⟩, hf.congr he, hV⟩
        subst hov
        clear hrow hbo hbs hbel
        rcases (show k = 0 ∨ k = 1 ∨ k = 2 ∨ k = 3 ∨ k = 4 ∨ k = 5 ∨ k = 6 ∨ k = 7 by omega) with rfl | rfl | rfl | rfl | rfl | rfl | rfl | rfl
        · obtain rfl : T = 130 := HT.out.trans (by rfl)
          obtain rfl : fv = .agg #[.slice ka kn kc] := HFv.out.trans (by rfl)
          have ta0 : ∀ V : World, (Instr.typeAssert (.iface 130 (.agg #[.slice ka kn kc])) 80 130 true).run Tryz.prog V = .ok (.tuple #[.agg #[.slice ka kn kc], .bool true]) V := fun V => by kernel_rfl
          obtain ⟨W9, hW9⟩ : ∃ W, W = wr.alloc (.cells #[.slice ka kn kc] 130) := ⟨_, rfl⟩
          have HW9 : Hid (W9 = wr.alloc (.cells #[.slice ka kn kc] 130)) := hW9
          have h9 : Below wr.heap.size wr W9 := by rw [hW9]; exact (Below.refl _ _).alloc (Nat.le_refl _) _
          have hs9 : wr.heap.size < W9.heap.size := by rw [hW9]; simp
          have H9 : Hid (Below wr.heap.size wr W9) := h9
          have Hw9 : Hid (Below w.heap.size w W9) := HBe.out.trans (h9.mono HBe.out.size)
          have HS9 : Hid (BoxS W9 w.heap.size (.int .i64 L) (.slice ia im ic) (.slice ta tn tc) (.int .i64 L) (.slice na nn nc) (.slice sa sn sc) (.slice ra rn rc) (.slice la ln lc) (.slice ia im ic) (.slice ta tn tc)) := HBs.out.below h9 (by omega)
          have HP9 : Hid (W9.cell? ⟨w.heap.size + 1, 0, none⟩ = some (.slice oa ol oc)) := (h9.cell (p := ⟨w.heap.size + 1, 0, none⟩) (show w.heap.size + 1 < wr.heap.size by omega)).trans HBo.out.cell
          obtain ⟨z0, z1, z2, z3, z4, z5, z6, z7, z8, z9⟩ := HS9.out.cells
          clear hW9
          go_upto_region 10 with fail
          rw [← HW9.out]
          clear a0 a1 a2 a3 a4 a5 a6 a7 a8 a9 y0
          go_wp2_with fail
          refine (each_any 93 #[] (fun _ => true) L W9 hL.2 (fun _ _ => rfl) (fun e V _ hV => (topQ_any e V).mono fun r w' ⟨h1, h2⟩ => ⟨h1, by rw [h2]; exact Below.refl _ _⟩)).mono ?_
          rintro r w10 ⟨g, rfl, hgl, hfl, hb10⟩
          have HG10 : Hid (FlS w10 g 0 L (fun _ => true)) := hfl
          have HB10 : Hid (Below w.heap.size w w10) := Hw9.out.trans (hb10.mono Hw9.out.size)
          have hgl' : w.heap.size ≤ g := by have := Hw9.out.size; omega
          clear hfl hb10
          go_wp2_with fail
          go_ret
          exact HEnd.out HB10.out ⟨Nat.le_refl _, by omega⟩ (.inr hgl') HG10.out (fun q hq => by rw [HE.out q]; rfl)
        · obtain rfl : T = 142 := HT.out.trans (by rfl)
          obtain rfl : fv = .agg #[.slice ka kn kc] := HFv.out.trans (by rfl)
          have ta0 : ∀ V : World, (Instr.typeAssert (.iface 142 (.agg #[.slice ka kn kc])) 80 130 true).run Tryz.prog V = .ok (.tuple #[.agg #[.slice none 0 0], .bool false]) V := fun V => by kernel_rfl
          have ta2 : ∀ V : World, (Instr.typeAssert (.iface 142 (.agg #[.slice ka kn kc])) 80 133 true).run Tryz.prog V = .ok (.tuple #[.agg #[.slice none 0 0, .slice none 0 0], .bool false]) V := fun V => by kernel_rfl
          have ta3 : ∀ V : World, (Instr.typeAssert (.iface 142 (.agg #[.slice ka kn kc])) 80 134 true).run Tryz.prog V = .ok (.tuple #[.agg #[.slice none 0 0], .bool false]) V := fun V => by kernel_rfl
          have ta4 : ∀ V : World, (Instr.typeAssert (.iface 142 (.agg #[.slice ka kn kc])) 80 135 true).run Tryz.prog V = .ok (.tuple #[.agg #[.slice none 0 0], .bool false]) V := fun V => by kernel_rfl
          have ta5 : ∀ V : World, (Instr.typeAssert (.iface 142 (.agg #[.slice ka kn kc])) 80 136 true).run Tryz.prog V = .ok (.tuple #[.agg #[.slice none 0 0], .bool false]) V := fun V => by kernel_rfl
          have ta6 : ∀ V : World, (Instr.typeAssert (.iface 142 (.agg #[.slice ka kn kc])) 80 138 true).run Tryz.prog V = .ok (.tuple #[.agg #[.slice none 0 0, .slice none 0 0], .bool false]) V := fun V => by kernel_rfl
          have ta7 : ∀ V : World, (Instr.typeAssert (.iface 142 (.agg #[.slice ka kn kc])) 80 141 true).run Tryz.prog V = .ok (.tuple #[.agg #[.slice none 0 0, .slice none 0 0], .bool false]) V := fun V => by kernel_rfl
          have h9 : Below wr.heap.size wr wr := Below.refl _ _
          have H9 : Hid (Below wr.heap.size wr wr) := h9
          have Hw9 : Hid (Below w.heap.size w wr) := HBe.out.trans (h9.mono HBe.out.size)
          have HS9 : Hid (BoxS wr w.heap.size (.int .i64 L) (.slice ia im ic) (.slice ta tn tc) (.int .i64 L) (.slice na nn nc) (.slice sa sn sc) (.slice ra rn rc) (.slice la ln lc) (.slice ia im ic) (.slice ta tn tc)) := HBs.out.below h9 (by omega)
          have HP9 : Hid (wr.cell? ⟨w.heap.size + 1, 0, none⟩ = some (.slice oa ol oc)) := (h9.cell (p := ⟨w.heap.size + 1, 0, none⟩) (show w.heap.size + 1 < wr.heap.size by omega)).trans HBo.out.cell
          obtain ⟨z0, z1, z2, z3, z4, z5, z6, z7, z8, z9⟩ := HS9.out.cells
          go_upto_region 31 with fail
          clear a0 a1 a2 a3 a4 a5 a6 a7 a8 a9 y0
          go_wp2_with fail
          refine (each_any 103 #[] (fun _ => false) L wr hL.2 (fun _ _ => rfl) (fun e V _ hV => (botQ_any e V).mono fun r w' ⟨h1, h2⟩ => ⟨h1, by rw [h2]; exact Below.refl _ _⟩)).mono ?_
          rintro r w10 ⟨g, rfl, hgl, hfl, hb10⟩
          have HG10 : Hid (FlS w10 g 0 L (fun _ => false)) := hfl
          have HB10 : Hid (Below w.heap.size w w10) := Hw9.out.trans (hb10.mono Hw9.out.size)
          have hgl' : w.heap.size ≤ g := by have := Hw9.out.size; omega
          clear hfl hb10
          go_wp2_with fail
          go_ret
          exact HEnd.out HB10.out ⟨Nat.le_refl _, by omega⟩ (.inr hgl') HG10.out (fun q hq => by rw [HE.out q]; rfl)
        · obtain rfl : T = 133 := HT.out.trans (by rfl)
          obtain rfl : fv = .agg #[.slice ka kn kc, .slice qna qnn qnc] := HFv.out.trans (by rfl)
          have ta0 : ∀ V : World, (Instr.typeAssert (.iface 133 (.agg #[.slice ka kn kc, .slice qna qnn qnc])) 80 130 true).run Tryz.prog V = .ok (.tuple #[.agg #[.slice none 0 0], .bool false]) V := fun V => by kernel_rfl
          have ta2 : ∀ V : World, (Instr.typeAssert (.iface 133 (.agg #[.slice ka kn kc, .slice qna qnn qnc])) 80 133 true).run Tryz.prog V = .ok (.tuple #[.agg #[.slice ka kn kc, .slice qna qnn qnc], .bool true]) V := fun V => by kernel_rfl
          obtain ⟨W9, hW9⟩ : ∃ W, W = wr.alloc (.cells #[.slice ka kn kc, .slice qna qnn qnc] 133) := ⟨_, rfl⟩
          have HW9 : Hid (W9 = wr.alloc (.cells #[.slice ka kn kc, .slice qna qnn qnc] 133)) := hW9
          have h9 : Below wr.heap.size wr W9 := by rw [hW9]; exact (Below.refl _ _).alloc (Nat.le_refl _) _
          have hs9 : wr.heap.size < W9.heap.size := by rw [hW9]; simp
          have w1 : W9.cell? ⟨wr.heap.size, 1, none⟩ = some (.slice qna qnn qnc) := by rw [hW9]; simp
          have H9 : Hid (Below wr.heap.size wr W9) := h9
          have Hw9 : Hid (Below w.heap.size w W9) := HBe.out.trans (h9.mono HBe.out.size)
          have HS9 : Hid (BoxS W9 w.heap.size (.int .i64 L) (.slice ia im ic) (.slice ta tn tc) (.int .i64 L) (.slice na nn nc) (.slice sa sn sc) (.slice ra rn rc) (.slice la ln lc) (.slice ia im ic) (.slice ta tn tc)) := HBs.out.below h9 (by omega)
          have HP9 : Hid (W9.cell? ⟨w.heap.size + 1, 0, none⟩ = some (.slice oa ol oc)) := (h9.cell (p := ⟨w.heap.size + 1, 0, none⟩) (show w.heap.size + 1 < wr.heap.size by omega)).trans HBo.out.cell
          obtain ⟨z0, z1, z2, z3, z4, z5, z6, z7, z8, z9⟩ := HS9.out.cells
          clear hW9
          go_upto_region 13 with fail
          rw [← HW9.out]
          clear a0 a1 a2 a3 a4 a5 a6 a7 a8 a9 y0
          go_wp2_with fail
          refine (members_any (HAll.out _ Hw9.out).1 (HAll.out _ Hw9.out).2.2.1 HNx.out (HAll.out _ Hw9.out).2.1 (HAll.out _ Hw9.out).2.2.2.2 HOk.out).mono ?_
          rintro r w10 ⟨b2, o2, c2, rfl, hfc, hcl, hb10⟩
          have HB10 : Hid (Below w.heap.size w w10) := Hw9.out.trans (hb10.mono Hw9.out.size)
          have HG10 : Hid (FlS w10 b2 o2 L (fun q => flagO x.names x.sets c.name q)) := ⟨block_lt_of_cell (hcl 0 (by omega)), hcl⟩
          have hbb : b2 < hi ∨ w.heap.size ≤ b2 := by have := Hw9.out.size; have := hfc.2; omega
          have hfc1 := hfc.1
          clear hcl hb10 hfc
          go_wp2_with fail
          go_ret
          exact HEnd.out HB10.out hfc1 hbb HG10.out (fun q hq => by rw [HE.out q]; rfl)
        · obtain rfl : T = 134 := HT.out.trans (by rfl)
          obtain rfl : fv = .agg #[.slice ka kn kc] := HFv.out.trans (by rfl)
          have ta0 : ∀ V : World, (Instr.typeAssert (.iface 134 (.agg #[.slice ka kn kc])) 80 130 true).run Tryz.prog V = .ok (.tuple #[.agg #[.slice none 0 0], .bool false]) V := fun V => by kernel_rfl
          have ta2 : ∀ V : World, (Instr.typeAssert (.iface 134 (.agg #[.slice ka kn kc])) 80 133 true).run Tryz.prog V = .ok (.tuple #[.agg #[.slice none 0 0, .slice none 0 0], .bool false]) V := fun V => by kernel_rfl
          have ta3 : ∀ V : World, (Instr.typeAssert (.iface 134 (.agg #[.slice ka kn kc])) 80 134 true).run Tryz.prog V = .ok (.tuple #[.agg #[.slice ka kn kc], .bool true]) V := fun V => by kernel_rfl
          obtain ⟨W9, hW9⟩ : ∃ W, W = wr.alloc (.cells #[.slice ka kn kc] 134) := ⟨_, rfl⟩
          have HW9 : Hid (W9 = wr.alloc (.cells #[.slice ka kn kc] 134)) := hW9
          have h9 : Below wr.heap.size wr W9 := by rw [hW9]; exact (Below.refl _ _).alloc (Nat.le_refl _) _
          have hs9 : wr.heap.size < W9.heap.size := by rw [hW9]; simp
          have H9 : Hid (Below wr.heap.size wr W9) := h9
          have Hw9 : Hid (Below w.heap.size w W9) := HBe.out.trans (h9.mono HBe.out.size)
          have HS9 : Hid (BoxS W9 w.heap.size (.int .i64 L) (.slice ia im ic) (.slice ta tn tc) (.int .i64 L) (.slice na nn nc) (.slice sa sn sc) (.slice ra rn rc) (.slice la ln lc) (.slice ia im ic) (.slice ta tn tc)) := HBs.out.below h9 (by omega)
          have HP9 : Hid (W9.cell? ⟨w.heap.size + 1, 0, none⟩ = some (.slice oa ol oc)) := (h9.cell (p := ⟨w.heap.size + 1, 0, none⟩) (show w.heap.size + 1 < wr.heap.size by omega)).trans HBo.out.cell
          obtain ⟨z0, z1, z2, z3, z4, z5, z6, z7, z8, z9⟩ := HS9.out.cells
          have hkn : kn = 1 := by have h1 := HK2.out; rw [show kidN 3 = 1 from rfl] at h1; omega
          obtain ⟨ob, obc, hovv, hobl, hkk⟩ := HRk.out.at (by rw [HKl.out]; omega)
          rw [HKl.out, hkn] at hovv
          simp only [Value.slice.injEq] at hovv
          obtain ⟨rfl, rfl, rfl⟩ := hovv
          obtain ⟨b0, o0, c0, u0, hc0, hf0⟩ := hkk 0 (by rw [HKl.out]; omega)
          have HF0 : Hid (∀ V, Below wr.heap.size wr V → V.cell? ⟨ob, 0, none⟩ = some (.slice (some ⟨b0, o0, none⟩) L c0) ∧ FlS V b0 o0 L (holdC x L (c.kids.getD 0 CN.zero))) := fun V hV => ⟨(hV.cell (p := ⟨ob, 0, none⟩) hobl).trans u0, hf0.below hV⟩
          have HPo : Hid (∀ V, Below wr.heap.size wr V → V.cell? ⟨w.heap.size + 1, 0, none⟩ = some (.slice (some ⟨ob, 0, none⟩) 1 oc)) := fun V hV => (hV.cell (p := ⟨w.heap.size + 1, 0, none⟩) (show w.heap.size + 1 < wr.heap.size by omega)).trans HBo.out.cell
          have HKN : Hid (kn = 1) := hkn
          clear hkn
          clear hW9
          go_upto_region 16 with fail
          rw [← HW9.out]
          clear a0 a1 a2 a3 a4 a5 a6 a7 a8 a9 y0
          go_wp2_with fail
          refine (each_any 94 #[.pointer (some ⟨w.heap.size + 1, 0, none⟩)] (fun q => !(holdC x L (c.kids.getD 0 CN.zero) q)) L W9 hL.2 (fun _ _ => rfl) (fun e V he hV => by have hwV := H9.out.trans (hV.mono H9.out.size); exact (notQ_any (HPo.out V hwV) (HF0.out V hwV).1 (HF0.out V hwV).2 he).mono fun r w' ⟨h1, h2⟩ => ⟨h1, by rw [h2]; exact Below.refl _ _⟩)).mono ?_
          rintro r w10 ⟨g, rfl, hgl, hfl, hb10⟩
          have HG10 : Hid (FlS w10 g 0 L (fun q => !(holdC x L (c.kids.getD 0 CN.zero) q))) := hfl
          have HB10 : Hid (Below w.heap.size w w10) := Hw9.out.trans (hb10.mono Hw9.out.size)
          have hgl' : w.heap.size ≤ g := by have := Hw9.out.size; omega
          clear hfl hb10
          go_wp2_with fail
          go_ret
          exact HEnd.out HB10.out ⟨Nat.le_refl _, by omega⟩ (.inr hgl') HG10.out (fun q hq => by rw [HE.out q]; show _ = !(holdK x L c.kids 0 q); rw [HKk.out 0 q (by have := HKN.out; omega)])
        · obtain rfl : T = 135 := HT.out.trans (by rfl)
          obtain rfl : fv = .agg #[.slice ka kn kc] := HFv.out.trans (by rfl)
          have ta0 : ∀ V : World, (Instr.typeAssert (.iface 135 (.agg #[.slice ka kn kc])) 80 130 true).run Tryz.prog V = .ok (.tuple #[.agg #[.slice none 0 0], .bool false]) V := fun V => by kernel_rfl
          have ta2 : ∀ V : World, (Instr.typeAssert (.iface 135 (.agg #[.slice ka kn kc])) 80 133 true).run Tryz.prog V = .ok (.tuple #[.agg #[.slice none 0 0, .slice none 0 0], .bool false]) V := fun V => by kernel_rfl
          have ta3 : ∀ V : World, (Instr.typeAssert (.iface 135 (.agg #[.slice ka kn kc])) 80 134 true).run Tryz.prog V = .ok (.tuple #[.agg #[.slice none 0 0], .bool false]) V := fun V => by kernel_rfl
          have ta4 : ∀ V : World, (Instr.typeAssert (.iface 135 (.agg #[.slice ka kn kc])) 80 135 true).run Tryz.prog V = .ok (.tuple #[.agg #[.slice ka kn kc], .bool true]) V := fun V => by kernel_rfl
          obtain ⟨W9, hW9⟩ : ∃ W, W = wr.alloc (.cells #[.slice ka kn kc] 135) := ⟨_, rfl⟩
          have HW9 : Hid (W9 = wr.alloc (.cells #[.slice ka kn kc] 135)) := hW9
          have h9 : Below wr.heap.size wr W9 := by rw [hW9]; exact (Below.refl _ _).alloc (Nat.le_refl _) _
          have hs9 : wr.heap.size < W9.heap.size := by rw [hW9]; simp
          have H9 : Hid (Below wr.heap.size wr W9) := h9
          have Hw9 : Hid (Below w.heap.size w W9) := HBe.out.trans (h9.mono HBe.out.size)
          have HS9 : Hid (BoxS W9 w.heap.size (.int .i64 L) (.slice ia im ic) (.slice ta tn tc) (.int .i64 L) (.slice na nn nc) (.slice sa sn sc) (.slice ra rn rc) (.slice la ln lc) (.slice ia im ic) (.slice ta tn tc)) := HBs.out.below h9 (by omega)
          have HP9 : Hid (W9.cell? ⟨w.heap.size + 1, 0, none⟩ = some (.slice oa ol oc)) := (h9.cell (p := ⟨w.heap.size + 1, 0, none⟩) (show w.heap.size + 1 < wr.heap.size by omega)).trans HBo.out.cell
          obtain ⟨z0, z1, z2, z3, z4, z5, z6, z7, z8, z9⟩ := HS9.out.cells
          have hkn : kn = 2 := by have h1 := HK2.out; rw [show kidN 4 = 2 from rfl] at h1; omega
          obtain ⟨ob, obc, hovv, hobl, hkk⟩ := HRk.out.at (by rw [HKl.out]; omega)
          rw [HKl.out, hkn] at hovv
          simp only [Value.slice.injEq] at hovv
          obtain ⟨rfl, rfl, rfl⟩ := hovv
          obtain ⟨b0, o0, c0, u0, hc0, hf0⟩ := hkk 0 (by rw [HKl.out]; omega)
          obtain ⟨b1, o1, c1, u1, hc1, hf1⟩ := hkk 1 (by rw [HKl.out]; omega)
          have HF0 : Hid (∀ V, Below wr.heap.size wr V → V.cell? ⟨ob, 0, none⟩ = some (.slice (some ⟨b0, o0, none⟩) L c0) ∧ FlS V b0 o0 L (holdC x L (c.kids.getD 0 CN.zero))) := fun V hV => ⟨(hV.cell (p := ⟨ob, 0, none⟩) hobl).trans u0, hf0.below hV⟩
          have HF1 : Hid (∀ V, Below wr.heap.size wr V → V.cell? ⟨ob, 1, none⟩ = some (.slice (some ⟨b1, o1, none⟩) L c1) ∧ FlS V b1 o1 L (holdC x L (c.kids.getD 1 CN.zero))) := fun V hV => ⟨(hV.cell (p := ⟨ob, 1, none⟩) hobl).trans u1, hf1.below hV⟩
          have HPo : Hid (∀ V, Below wr.heap.size wr V → V.cell? ⟨w.heap.size + 1, 0, none⟩ = some (.slice (some ⟨ob, 0, none⟩) 2 oc)) := fun V hV => (hV.cell (p := ⟨w.heap.size + 1, 0, none⟩) (show w.heap.size + 1 < wr.heap.size by omega)).trans HBo.out.cell
          have HKN : Hid (kn = 2) := hkn
          clear hkn
          clear hW9
          go_upto_region 19 with fail
          rw [← HW9.out]
          clear a0 a1 a2 a3 a4 a5 a6 a7 a8 a9 y0
          go_wp2_with fail
          refine (each_any 95 #[.pointer (some ⟨w.heap.size + 1, 0, none⟩)] (fun q => holdC x L (c.kids.getD 0 CN.zero) q && holdC x L (c.kids.getD 1 CN.zero) q) L W9 hL.2 (fun _ _ => rfl) (fun e V he hV => by have hwV := H9.out.trans (hV.mono H9.out.size); exact (andQ_any (HPo.out V hwV) (HF0.out V hwV).1 (HF1.out V hwV).1 (HF0.out V hwV).2 (HF1.out V hwV).2 he).mono fun r w' ⟨h1, h2⟩ => ⟨h1, by rw [h2]; exact Below.refl _ _⟩)).mono ?_
          rintro r w10 ⟨g, rfl, hgl, hfl, hb10⟩
          have HG10 : Hid (FlS w10 g 0 L (fun q => holdC x L (c.kids.getD 0 CN.zero) q && holdC x L (c.kids.getD 1 CN.zero) q)) := hfl
          have HB10 : Hid (Below w.heap.size w w10) := Hw9.out.trans (hb10.mono Hw9.out.size)
          have hgl' : w.heap.size ≤ g := by have := Hw9.out.size; omega
          clear hfl hb10
          go_wp2_with fail
          go_ret
          exact HEnd.out HB10.out ⟨Nat.le_refl _, by omega⟩ (.inr hgl') HG10.out (fun q hq => by rw [HE.out q]; show _ = (holdK x L c.kids 0 q && holdK x L c.kids 1 q); rw [HKk.out 0 q (by have := HKN.out; omega), HKk.out 1 q (by have := HKN.out; omega)])
        · obtain rfl : T = 136 := HT.out.trans (by rfl)
          obtain rfl : fv = .agg #[.slice ka kn kc] := HFv.out.trans (by rfl)
          have ta0 : ∀ V : World, (Instr.typeAssert (.iface 136 (.agg #[.slice ka kn kc])) 80 130 true).run Tryz.prog V = .ok (.tuple #[.agg #[.slice none 0 0], .bool false]) V := fun V => by kernel_rfl
          have ta2 : ∀ V : World, (Instr.typeAssert (.iface 136 (.agg #[.slice ka kn kc])) 80 133 true).run Tryz.prog V = .ok (.tuple #[.agg #[.slice none 0 0, .slice none 0 0], .bool false]) V := fun V => by kernel_rfl
          have ta3 : ∀ V : World, (Instr.typeAssert (.iface 136 (.agg #[.slice ka kn kc])) 80 134 true).run Tryz.prog V = .ok (.tuple #[.agg #[.slice none 0 0], .bool false]) V := fun V => by kernel_rfl
          have ta4 : ∀ V : World, (Instr.typeAssert (.iface 136 (.agg #[.slice ka kn kc])) 80 135 true).run Tryz.prog V = .ok (.tuple #[.agg #[.slice none 0 0], .bool false]) V := fun V => by kernel_rfl
          have ta5 : ∀ V : World, (Instr.typeAssert (.iface 136 (.agg #[.slice ka kn kc])) 80 136 true).run Tryz.prog V = .ok (.tuple #[.agg #[.slice ka kn kc], .bool true]) V := fun V => by kernel_rfl
          obtain ⟨W9, hW9⟩ : ∃ W, W = wr.alloc (.cells #[.slice ka kn kc] 136) := ⟨_, rfl⟩
          have HW9 : Hid (W9 = wr.alloc (.cells #[.slice ka kn kc] 136)) := hW9
          have h9 : Below wr.heap.size wr W9 := by rw [hW9]; exact (Below.refl _ _).alloc (Nat.le_refl _) _
          have hs9 : wr.heap.size < W9.heap.size := by rw [hW9]; simp
          have H9 : Hid (Below wr.heap.size wr W9) := h9
          have Hw9 : Hid (Below w.heap.size w W9) := HBe.out.trans (h9.mono HBe.out.size)
          have HS9 : Hid (BoxS W9 w.heap.size (.int .i64 L) (.slice ia im ic) (.slice ta tn tc) (.int .i64 L) (.slice na nn nc) (.slice sa sn sc) (.slice ra rn rc) (.slice la ln lc) (.slice ia im ic) (.slice ta tn tc)) := HBs.out.below h9 (by omega)
          have HP9 : Hid (W9.cell? ⟨w.heap.size + 1, 0, none⟩ = some (.slice oa ol oc)) := (h9.cell (p := ⟨w.heap.size + 1, 0, none⟩) (show w.heap.size + 1 < wr.heap.size by omega)).trans HBo.out.cell
          obtain ⟨z0, z1, z2, z3, z4, z5, z6, z7, z8, z9⟩ := HS9.out.cells
          have hkn : kn = 2 := by have h1 := HK2.out; rw [show kidN 5 = 2 from rfl] at h1; omega
          obtain ⟨ob, obc, hovv, hobl, hkk⟩ := HRk.out.at (by rw [HKl.out]; omega)
          rw [HKl.out, hkn] at hovv
          simp only [Value.slice.injEq] at hovv
          obtain ⟨rfl, rfl, rfl⟩ := hovv
          obtain ⟨b0, o0, c0, u0, hc0, hf0⟩ := hkk 0 (by rw [HKl.out]; omega)
          obtain ⟨b1, o1, c1, u1, hc1, hf1⟩ := hkk 1 (by rw [HKl.out]; omega)
          have HF0 : Hid (∀ V, Below wr.heap.size wr V → V.cell? ⟨ob, 0, none⟩ = some (.slice (some ⟨b0, o0, none⟩) L c0) ∧ FlS V b0 o0 L (holdC x L (c.kids.getD 0 CN.zero))) := fun V hV => ⟨(hV.cell (p := ⟨ob, 0, none⟩) hobl).trans u0, hf0.below hV⟩
          have HF1 : Hid (∀ V, Below wr.heap.size wr V → V.cell? ⟨ob, 1, none⟩ = some (.slice (some ⟨b1, o1, none⟩) L c1) ∧ FlS V b1 o1 L (holdC x L (c.kids.getD 1 CN.zero))) := fun V hV => ⟨(hV.cell (p := ⟨ob, 1, none⟩) hobl).trans u1, hf1.below hV⟩
          have HPo : Hid (∀ V, Below wr.heap.size wr V → V.cell? ⟨w.heap.size + 1, 0, none⟩ = some (.slice (some ⟨ob, 0, none⟩) 2 oc)) := fun V hV => (hV.cell (p := ⟨w.heap.size + 1, 0, none⟩) (show w.heap.size + 1 < wr.heap.size by omega)).trans HBo.out.cell
          have HKN : Hid (kn = 2) := hkn
          clear hkn
          clear hW9
          go_upto_region 22 with fail
          rw [← HW9.out]
          clear a0 a1 a2 a3 a4 a5 a6 a7 a8 a9 y0
          go_wp2_with fail
          refine (each_any 96 #[.pointer (some ⟨w.heap.size + 1, 0, none⟩)] (fun q => holdC x L (c.kids.getD 0 CN.zero) q || holdC x L (c.kids.getD 1 CN.zero) q) L W9 hL.2 (fun _ _ => rfl) (fun e V he hV => by have hwV := H9.out.trans (hV.mono H9.out.size); exact (orQ_any (HPo.out V hwV) (HF0.out V hwV).1 (HF1.out V hwV).1 (HF0.out V hwV).2 (HF1.out V hwV).2 he).mono fun r w' ⟨h1, h2⟩ => ⟨h1, by rw [h2]; exact Below.refl _ _⟩)).mono ?_
          rintro r w10 ⟨g, rfl, hgl, hfl, hb10⟩
          have HG10 : Hid (FlS w10 g 0 L (fun q => holdC x L (c.kids.getD 0 CN.zero) q || holdC x L (c.kids.getD 1 CN.zero) q)) := hfl
          have HB10 : Hid (Below w.heap.size w w10) := Hw9.out.trans (hb10.mono Hw9.out.size)
          have hgl' : w.heap.size ≤ g := by have := Hw9.out.size; omega
          clear hfl hb10
          go_wp2_with fail
          go_ret
          exact HEnd.out HB10.out ⟨Nat.le_refl _, by omega⟩ (.inr hgl') HG10.out (fun q hq => by rw [HE.out q]; show _ = (holdK x L c.kids 0 q || holdK x L c.kids 1 q); rw [HKk.out 0 q (by have := HKN.out; omega), HKk.out 1 q (by have := HKN.out; omega)])
        · obtain rfl : T = 138 := HT.out.trans (by rfl)
          obtain rfl : fv = .agg #[.slice ka kn kc, .slice qra qrn qrc] := HFv.out.trans (by rfl)
          have ta0 : ∀ V : World, (Instr.typeAssert (.iface 138 (.agg #[.slice ka kn kc, .slice qra qrn qrc])) 80 130 true).run Tryz.prog V = .ok (.tuple #[.agg #[.slice none 0 0], .bool false]) V := fun V => by kernel_rfl
          have ta2 : ∀ V : World, (Instr.typeAssert (.iface 138 (.agg #[.slice ka kn kc, .slice qra qrn qrc])) 80 133 true).run Tryz.prog V = .ok (.tuple #[.agg #[.slice none 0 0, .slice none 0 0], .bool false]) V := fun V => by kernel_rfl
          have ta3 : ∀ V : World, (Instr.typeAssert (.iface 138 (.agg #[.slice ka kn kc, .slice qra qrn qrc])) 80 134 true).run Tryz.prog V = .ok (.tuple #[.agg #[.slice none 0 0], .bool false]) V := fun V => by kernel_rfl
          have ta4 : ∀ V : World, (Instr.typeAssert (.iface 138 (.agg #[.slice ka kn kc, .slice qra qrn qrc])) 80 135 true).run Tryz.prog V = .ok (.tuple #[.agg #[.slice none 0 0], .bool false]) V := fun V => by kernel_rfl
          have ta5 : ∀ V : World, (Instr.typeAssert (.iface 138 (.agg #[.slice ka kn kc, .slice qra qrn qrc])) 80 136 true).run Tryz.prog V = .ok (.tuple #[.agg #[.slice none 0 0], .bool false]) V := fun V => by kernel_rfl
          have ta6 : ∀ V : World, (Instr.typeAssert (.iface 138 (.agg #[.slice ka kn kc, .slice qra qrn qrc])) 80 138 true).run Tryz.prog V = .ok (.tuple #[.agg #[.slice ka kn kc, .slice qra qrn qrc], .bool true]) V := fun V => by kernel_rfl
          obtain ⟨W9, hW9⟩ : ∃ W, W = wr.alloc (.cells #[.slice ka kn kc, .slice qra qrn qrc] 138) := ⟨_, rfl⟩
          have HW9 : Hid (W9 = wr.alloc (.cells #[.slice ka kn kc, .slice qra qrn qrc] 138)) := hW9
          have h9 : Below wr.heap.size wr W9 := by rw [hW9]; exact (Below.refl _ _).alloc (Nat.le_refl _) _
          have hs9 : wr.heap.size < W9.heap.size := by rw [hW9]; simp
          have w1 : W9.cell? ⟨wr.heap.size, 1, none⟩ = some (.slice qra qrn qrc) := by rw [hW9]; simp
          have H9 : Hid (Below wr.heap.size wr W9) := h9
          have Hw9 : Hid (Below w.heap.size w W9) := HBe.out.trans (h9.mono HBe.out.size)
          have HS9 : Hid (BoxS W9 w.heap.size (.int .i64 L) (.slice ia im ic) (.slice ta tn tc) (.int .i64 L) (.slice na nn nc) (.slice sa sn sc) (.slice ra rn rc) (.slice la ln lc) (.slice ia im ic) (.slice ta tn tc)) := HBs.out.below h9 (by omega)
          have HP9 : Hid (W9.cell? ⟨w.heap.size + 1, 0, none⟩ = some (.slice oa ol oc)) := (h9.cell (p := ⟨w.heap.size + 1, 0, none⟩) (show w.heap.size + 1 < wr.heap.size by omega)).trans HBo.out.cell
          obtain ⟨z0, z1, z2, z3, z4, z5, z6, z7, z8, z9⟩ := HS9.out.cells
          have hkn : kn = 1 := by have h1 := HK2.out; rw [show kidN 6 = 1 from rfl] at h1; omega
          obtain ⟨ob, obc, hovv, hobl, hkk⟩ := HRk.out.at (by rw [HKl.out]; omega)
          rw [HKl.out, hkn] at hovv
          simp only [Value.slice.injEq] at hovv
          obtain ⟨rfl, rfl, rfl⟩ := hovv
          obtain ⟨b0, o0, c0, u0, hc0, hf0⟩ := hkk 0 (by rw [HKl.out]; omega)
          have HF0 : Hid (∀ V, Below wr.heap.size wr V → V.cell? ⟨ob, 0, none⟩ = some (.slice (some ⟨b0, o0, none⟩) L c0) ∧ FlS V b0 o0 L (holdC x L (c.kids.getD 0 CN.zero))) := fun V hV => ⟨(hV.cell (p := ⟨ob, 0, none⟩) hobl).trans u0, hf0.below hV⟩
          have HPo : Hid (∀ V, Below wr.heap.size wr V → V.cell? ⟨w.heap.size + 1, 0, none⟩ = some (.slice (some ⟨ob, 0, none⟩) 1 oc)) := fun V hV => (hV.cell (p := ⟨w.heap.size + 1, 0, none⟩) (show w.heap.size + 1 < wr.heap.size by omega)).trans HBo.out.cell
          have HKN : Hid (kn = 1) := hkn
          clear hkn
          clear hW9
          go_upto_region 25 with fail
          rw [← HW9.out]
          clear a0 a1 a2 a3 a4 a5 a6 a7 a8 a9 y0
          go_wp2_with fail
          refine (related_any (HAll.out _ Hw9.out).1 (HAll.out _ Hw9.out).2.2.2.1 HNx.out (HAll.out _ Hw9.out).2.1 (HAll.out _ Hw9.out).2.2.2.2 HOk.out).mono ?_
          rintro r w10 ⟨b2, o2, c2, rfl, hfc, hcl, hb10⟩
          obtain ⟨W11, hW11⟩ : ∃ W, W = w10.alloc (.cells #[.slice (some ⟨b2, o2, none⟩) (L * L) c2] 63) := ⟨_, rfl⟩
          have HW11 : Hid (W11 = w10.alloc (.cells #[.slice (some ⟨b2, o2, none⟩) (L * L) c2] 63)) := hW11
          have h11 : Below w10.heap.size w10 W11 := by rw [hW11]; exact (Below.refl _ _).alloc (Nat.le_refl _) _
          have hs11 : w10.heap.size < W11.heap.size := by rw [hW11]; simp
          have hbr : Boxed W11 w10.heap.size 63 (.slice (some ⟨b2, o2, none⟩) (L * L) c2) := by rw [hW11]; exact Boxed.new _ _ _
          have hLL : 0 < L * L := Nat.mul_pos (by omega) (by omega)
          have hrl11 : FlS W11 b2 o2 (L * L) (fun q => flagO x.roles x.rels c.role q) := FlS.below (w := w10) ⟨block_lt_of_cell (hcl 0 hLL), hcl⟩ h11
          have h911 : Below W9.heap.size W9 W11 := hb10.trans (h11.mono hb10.size)
          have H911 : Hid (Below W9.heap.size W9 W11) := h911
          have Hw11 : Hid (Below w.heap.size w W11) := Hw9.out.trans (h911.mono Hw9.out.size)
          have HWr11 : Hid (Below wr.heap.size wr W11) := H9.out.trans (h911.mono H9.out.size)
          have HRel : Hid (∀ V, Below W11.heap.size W11 V → V.cell? ⟨w10.heap.size, 0, none⟩ = some (.slice (some ⟨b2, o2, none⟩) (L * L) c2) ∧ FlS V b2 o2 (L * L) (fun q => flagO x.roles x.rels c.role q) ∧ w10.heap.size < V.heap.size) := fun V hV => ⟨(hV.cell (p := ⟨w10.heap.size, 0, none⟩) hs11).trans hbr.cell, hrl11.below hV, Nat.lt_of_lt_of_le hs11 hV.size⟩
          have hfc1 := hfc.1
          have HS11 : Hid (BoxS W11 w.heap.size (.int .i64 L) (.slice ia im ic) (.slice ta tn tc) (.int .i64 L) (.slice na nn nc) (.slice sa sn sc) (.slice ra rn rc) (.slice la ln lc) (.slice ia im ic) (.slice ta tn tc)) := HS9.out.below h911 (by omega)
          clear z0 z1 z2 z3 z4 z5 z6 z7 z8 z9
          obtain ⟨z0, z1, z2, z3, z4, z5, z6, z7, z8, z9⟩ := HS11.out.cells
          clear hcl hb10 hfc hW11 h11 hbr hrl11 h911
          go_upto_region 26 with fail
          rw [← HW11.out]
          go_wp2_with fail
          refine (each_any 98 #[.pointer (some ⟨w.heap.size, 0, none⟩), .pointer (some ⟨w10.heap.size, 0, none⟩), .pointer (some ⟨w.heap.size + 1, 0, none⟩)] (fun q => (List.range L).any (fun y => relO x c.role q y L && holdC x L (c.kids.getD 0 CN.zero) y)) L W11 hL.2 (fun _ _ => rfl) (fun e V he hV => by have hwV := HWr11.out.trans (hV.mono HWr11.out.size); have hR := HRel.out V hV; exact someQ_any hL.2 (HS11.out.below hV (by have := HWr11.out.size; omega)) hR.1 hfc1 hR.2.1 (HPo.out V hwV) (HF0.out V hwV).1 ⟨hR.2.2, by have := hwV.size; omega, by have := hwV.size; omega⟩ (HF0.out V hwV).2 hc0 he)).mono ?_
          rintro r w10 ⟨g, rfl, hgl, hfl, hb10⟩
          have HG10 : Hid (FlS w10 g 0 L (fun q => (List.range L).any (fun y => relO x c.role q y L && holdC x L (c.kids.getD 0 CN.zero) y))) := hfl
          have HB10 : Hid (Below w.heap.size w w10) := Hw11.out.trans (hb10.mono Hw11.out.size)
          have hgl' : w.heap.size ≤ g := by have := Hw11.out.size; omega
          clear hfl hb10
          go_wp2_with fail
          go_ret
          exact HEnd.out HB10.out ⟨Nat.le_refl _, by omega⟩ (.inr hgl') HG10.out (fun q hq => by rw [HE.out q]; show _ = (List.range L).any (fun y => relO x c.role q y L && holdK x L c.kids 0 y); congr 1; funext y; rw [HKk.out 0 y (by have := HKN.out; omega)])
        · obtain rfl : T = 141 := HT.out.trans (by rfl)
          obtain rfl : fv = .agg #[.slice ka kn kc, .slice qra qrn qrc] := HFv.out.trans (by rfl)
          have ta0 : ∀ V : World, (Instr.typeAssert (.iface 141 (.agg #[.slice ka kn kc, .slice qra qrn qrc])) 80 130 true).run Tryz.prog V = .ok (.tuple #[.agg #[.slice none 0 0], .bool false]) V := fun V => by kernel_rfl
          have ta2 : ∀ V : World, (Instr.typeAssert (.iface 141 (.agg #[.slice ka kn kc, .slice qra qrn qrc])) 80 133 true).run Tryz.prog V = .ok (.tuple #[.agg #[.slice none 0 0, .slice none 0 0], .bool false]) V := fun V => by kernel_rfl
          have ta3 : ∀ V : World, (Instr.typeAssert (.iface 141 (.agg #[.slice ka kn kc, .slice qra qrn qrc])) 80 134 true).run Tryz.prog V = .ok (.tuple #[.agg #[.slice none 0 0], .bool false]) V := fun V => by kernel_rfl
          have ta4 : ∀ V : World, (Instr.typeAssert (.iface 141 (.agg #[.slice ka kn kc, .slice qra qrn qrc])) 80 135 true).run Tryz.prog V = .ok (.tuple #[.agg #[.slice none 0 0], .bool false]) V := fun V => by kernel_rfl
          have ta5 : ∀ V : World, (Instr.typeAssert (.iface 141 (.agg #[.slice ka kn kc, .slice qra qrn qrc])) 80 136 true).run Tryz.prog V = .ok (.tuple #[.agg #[.slice none 0 0], .bool false]) V := fun V => by kernel_rfl
          have ta6 : ∀ V : World, (Instr.typeAssert (.iface 141 (.agg #[.slice ka kn kc, .slice qra qrn qrc])) 80 138 true).run Tryz.prog V = .ok (.tuple #[.agg #[.slice none 0 0, .slice none 0 0], .bool false]) V := fun V => by kernel_rfl
          have ta7 : ∀ V : World, (Instr.typeAssert (.iface 141 (.agg #[.slice ka kn kc, .slice qra qrn qrc])) 80 141 true).run Tryz.prog V = .ok (.tuple #[.agg #[.slice ka kn kc, .slice qra qrn qrc], .bool true]) V := fun V => by kernel_rfl
          obtain ⟨W9, hW9⟩ : ∃ W, W = wr.alloc (.cells #[.slice ka kn kc, .slice qra qrn qrc] 141) := ⟨_, rfl⟩
          have HW9 : Hid (W9 = wr.alloc (.cells #[.slice ka kn kc, .slice qra qrn qrc] 141)) := hW9
          have h9 : Below wr.heap.size wr W9 := by rw [hW9]; exact (Below.refl _ _).alloc (Nat.le_refl _) _
          have hs9 : wr.heap.size < W9.heap.size := by rw [hW9]; simp
          have w1 : W9.cell? ⟨wr.heap.size, 1, none⟩ = some (.slice qra qrn qrc) := by rw [hW9]; simp
          have H9 : Hid (Below wr.heap.size wr W9) := h9
          have Hw9 : Hid (Below w.heap.size w W9) := HBe.out.trans (h9.mono HBe.out.size)
          have HS9 : Hid (BoxS W9 w.heap.size (.int .i64 L) (.slice ia im ic) (.slice ta tn tc) (.int .i64 L) (.slice na nn nc) (.slice sa sn sc) (.slice ra rn rc) (.slice la ln lc) (.slice ia im ic) (.slice ta tn tc)) := HBs.out.below h9 (by omega)
          have HP9 : Hid (W9.cell? ⟨w.heap.size + 1, 0, none⟩ = some (.slice oa ol oc)) := (h9.cell (p := ⟨w.heap.size + 1, 0, none⟩) (show w.heap.size + 1 < wr.heap.size by omega)).trans HBo.out.cell
          obtain ⟨z0, z1, z2, z3, z4, z5, z6, z7, z8, z9⟩ := HS9.out.cells
          have hkn : kn = 1 := by have h1 := HK2.out; rw [show kidN 7 = 1 from rfl] at h1; omega
          obtain ⟨ob, obc, hovv, hobl, hkk⟩ := HRk.out.at (by rw [HKl.out]; omega)
          rw [HKl.out, hkn] at hovv
          simp only [Value.slice.injEq] at hovv
          obtain ⟨rfl, rfl, rfl⟩ := hovv
          obtain ⟨b0, o0, c0, u0, hc0, hf0⟩ := hkk 0 (by rw [HKl.out]; omega)
          have HF0 : Hid (∀ V, Below wr.heap.size wr V → V.cell? ⟨ob, 0, none⟩ = some (.slice (some ⟨b0, o0, none⟩) L c0) ∧ FlS V b0 o0 L (holdC x L (c.kids.getD 0 CN.zero))) := fun V hV => ⟨(hV.cell (p := ⟨ob, 0, none⟩) hobl).trans u0, hf0.below hV⟩
          have HPo : Hid (∀ V, Below wr.heap.size wr V → V.cell? ⟨w.heap.size + 1, 0, none⟩ = some (.slice (some ⟨ob, 0, none⟩) 1 oc)) := fun V hV => (hV.cell (p := ⟨w.heap.size + 1, 0, none⟩) (show w.heap.size + 1 < wr.heap.size by omega)).trans HBo.out.cell
          have HKN : Hid (kn = 1) := hkn
          clear hkn
          clear hW9
          go_upto_region 29 with fail
          rw [← HW9.out]
          clear a0 a1 a2 a3 a4 a5 a6 a7 a8 a9 y0
          go_wp2_with fail
          refine (related_any (HAll.out _ Hw9.out).1 (HAll.out _ Hw9.out).2.2.2.1 HNx.out (HAll.out _ Hw9.out).2.1 (HAll.out _ Hw9.out).2.2.2.2 HOk.out).mono ?_
          rintro r w10 ⟨b2, o2, c2, rfl, hfc, hcl, hb10⟩
          obtain ⟨W11, hW11⟩ : ∃ W, W = w10.alloc (.cells #[.slice (some ⟨b2, o2, none⟩) (L * L) c2] 63) := ⟨_, rfl⟩
          have HW11 : Hid (W11 = w10.alloc (.cells #[.slice (some ⟨b2, o2, none⟩) (L * L) c2] 63)) := hW11
          have h11 : Below w10.heap.size w10 W11 := by rw [hW11]; exact (Below.refl _ _).alloc (Nat.le_refl _) _
          have hs11 : w10.heap.size < W11.heap.size := by rw [hW11]; simp
          have hbr : Boxed W11 w10.heap.size 63 (.slice (some ⟨b2, o2, none⟩) (L * L) c2) := by rw [hW11]; exact Boxed.new _ _ _
          have hLL : 0 < L * L := Nat.mul_pos (by omega) (by omega)
          have hrl11 : FlS W11 b2 o2 (L * L) (fun q => flagO x.roles x.rels c.role q) := FlS.below (w := w10) ⟨block_lt_of_cell (hcl 0 hLL), hcl⟩ h11
          have h911 : Below W9.heap.size W9 W11 := hb10.trans (h11.mono hb10.size)
          have H911 : Hid (Below W9.heap.size W9 W11) := h911
          have Hw11 : Hid (Below w.heap.size w W11) := Hw9.out.trans (h911.mono Hw9.out.size)
          have HWr11 : Hid (Below wr.heap.size wr W11) := H9.out.trans (h911.mono H9.out.size)
          have HRel : Hid (∀ V, Below W11.heap.size W11 V → V.cell? ⟨w10.heap.size, 0, none⟩ = some (.slice (some ⟨b2, o2, none⟩) (L * L) c2) ∧ FlS V b2 o2 (L * L) (fun q => flagO x.roles x.rels c.role q) ∧ w10.heap.size < V.heap.size) := fun V hV => ⟨(hV.cell (p := ⟨w10.heap.size, 0, none⟩) hs11).trans hbr.cell, hrl11.below hV, Nat.lt_of_lt_of_le hs11 hV.size⟩
          have hfc1 := hfc.1
          have HS11 : Hid (BoxS W11 w.heap.size (.int .i64 L) (.slice ia im ic) (.slice ta tn tc) (.int .i64 L) (.slice na nn nc) (.slice sa sn sc) (.slice ra rn rc) (.slice la ln lc) (.slice ia im ic) (.slice ta tn tc)) := HS9.out.below h911 (by omega)
          clear z0 z1 z2 z3 z4 z5 z6 z7 z8 z9
          obtain ⟨z0, z1, z2, z3, z4, z5, z6, z7, z8, z9⟩ := HS11.out.cells
          clear hcl hb10 hfc hW11 h11 hbr hrl11 h911
          go_upto_region 30 with fail
          rw [← HW11.out]
          go_wp2_with fail
          refine (each_any 101 #[.pointer (some ⟨w.heap.size, 0, none⟩), .pointer (some ⟨w10.heap.size, 0, none⟩), .pointer (some ⟨w.heap.size + 1, 0, none⟩)] (fun q => (List.range L).all (fun y => !(relO x c.role q y L) || holdC x L (c.kids.getD 0 CN.zero) y)) L W11 hL.2 (fun _ _ => rfl) (fun e V he hV => by have hwV := HWr11.out.trans (hV.mono HWr11.out.size); have hR := HRel.out V hV; exact allQ_any hL.2 (HS11.out.below hV (by have := HWr11.out.size; omega)) hR.1 hfc1 hR.2.1 (HPo.out V hwV) (HF0.out V hwV).1 ⟨hR.2.2, by have := hwV.size; omega, by have := hwV.size; omega⟩ (HF0.out V hwV).2 hc0 he)).mono ?_
          rintro r w10 ⟨g, rfl, hgl, hfl, hb10⟩
          have HG10 : Hid (FlS w10 g 0 L (fun q => (List.range L).all (fun y => !(relO x c.role q y L) || holdC x L (c.kids.getD 0 CN.zero) y))) := hfl
          have HB10 : Hid (Below w.heap.size w w10) := Hw11.out.trans (hb10.mono Hw11.out.size)
          have hgl' : w.heap.size ≤ g := by have := Hw11.out.size; omega
          clear hfl hb10
          go_wp2_with fail
          go_ret
          exact HEnd.out HB10.out ⟨Nat.le_refl _, by omega⟩ (.inr hgl') HG10.out (fun q hq => by rw [HE.out q]; show _ = (List.range L).all (fun y => !(relO x c.role q y L) || holdK x L c.kids 0 y); congr 1; funext y; rw [HKk.out 0 y (by have := HKN.out; omega)])
theorem hqP_any {x : WD} {L : Nat} {na : Option Addr} {nn nc : Nat} {sa : Option Addr} {sn sc : Nat} {ra : Option Addr} {rn rc : Nat} {la : Option Addr} {ln lc : Nat} {ia : Option Addr} {im ic : Nat} {ta : Option Addr} {tn tc : Nat} {lo hi : Nat} (hok : worldB x = true) (hn : x.n = (L : Int)) (hL : 1 ≤ L ∧ L ≤ 128) : ∀ d, HqP x L na nn nc sa sn sc ra rn rc la ln lc ia im ic ta tn tc lo hi d
  | 0 => hqP_of hok hn hL (fun d' h => by omega)
  | d + 1 => hqP_of hok hn hL (fun d' h => by obtain rfl : d = d' := (by omega); exact hqP_any hok hn hL d)

end Go.Proofs.YtnmljalcndfjmaaGreat
