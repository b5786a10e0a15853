/- Several texts in one: ClsTxM, ClsTxI, ClsTxS. -/
import Derived.Test.YtknainelonaigaaGreatDoorClTxA
import Derived.Test.YtknainelonaigaaGreatDoorNSay
import Derived.Test.YtknainelonaigaaGreatDoorNSame
import Derived.Test.YtknainelonaigaaGreatDoorNS12
import Derived.Test.YtknainelonaigaaGreatDoorClsI3
import Derived.Test.YtknainelonaigaaGreatDoorClsS3
namespace Go.Proofs.YtknainelonaigaaGreatDoor

section
open Go.RowKit

def clL (x : CL) : List Int := clauseT x.kind x.fn x.role x.above x.xp x.xn x.yp x.yn x.inds x.a x.b
def atomsT (cs : List CN) : Nat → List Int
  | 0 => []
  | j + 1 => atomsT cs j ++ digT j ++ [32] ++ textC (cs.getD j CN.zero) ++ [10]
def linesT (ls : List CL) : Nat → List Int
  | 0 => []
  | j + 1 => linesT ls j ++ clL (ls.getD j CL.zero) ++ [10]
/-- The whole text; nothing where it may not be. -/
def clsT (s : CS) : List Int := if clsB s = true then atomsT s.atoms s.atoms.length ++ linesT s.l s.l.length else []

theorem clsT_no {s : CS} (h : clsB s = false) : clsT s = [] := by unfold clsT; rw [h]; rfl
theorem clsT_yes {s : CS} {an ln : Nat} (h : clsB s = true) (ha : s.atoms.length = an) (hl : s.l.length = ln) : clsT s = atomsT s.atoms an ++ linesT s.l ln := by unfold clsT; rw [if_pos h, ha, hl]

structure ClsFit (s : CS) (an ln : Nat) : Prop where
  a24 : an ≤ 24
  l200 : ln ≤ 200
  wf : ∀ j, j < an → wfC (s.atoms.getD j CN.zero) = true
  ok : ∀ j, j < ln → okK (s.l.getD j CL.zero) = true

theorem fit_of_cls {s : CS} {an ln : Nat} (h : clsB s = true) (ha : s.atoms.length = an) (hl : s.l.length = ln) : ClsFit s an ln := by
  subst ha hl
  unfold clsB headB at h
  simp only [Bool.and_eq_true, decide_eq_true_eq] at h
  obtain ⟨⟨h1, _, _, _, _, h6⟩, h7, h8⟩ := h
  refine ⟨h1, h6, fun j hj => ?_, fun j hj => ?_⟩
  · unfold atomsB at h7
    rw [List.all_eq_true] at h7
    have := h7 j (List.mem_range.2 hj)
    unfold atomAt at this
    rw [Bool.and_eq_true] at this
    exact wfC_of_ok this.1
  · rw [List.all_eq_true] at h8
    have : s.l.getD j CL.zero ∈ s.l := by rw [List.getD_eq_getElem?_getD, List.getElem?_eq_getElem hj]; exact List.getElem_mem hj
    have := h8 _ this
    unfold fitK at this
    rw [Bool.and_eq_true] at this
    exact this.1

theorem atomsT_len (cs : List CN) : ∀ j, j ≤ cs.length → (atomsT cs j).length ≤ 30 * bulks (cs.take j)
  | 0, _ => by simp [atomsT]
  | j + 1, h => by
    have h1 := atomsT_len cs j (by omega)
    have h2 := bulks_take_succ cs j (by omega)
    have h3 := textC_len (cs.getD j CN.zero)
    have h4 := digT_len j
    simp only [atomsT, List.length_append, List.length_cons, List.length_nil]
    omega
theorem atomsT_le {cs : List CN} (hb : bulks cs ≤ 1048576) {j : Nat} (h : j ≤ cs.length) : (atomsT cs j).length ≤ 31457280 := by
  have h1 := atomsT_len cs j h
  have h2 := bulks_take_le cs j
  omega
theorem linesT_len (ls : List CL) : ∀ j, (linesT ls j).length ≤ j * 5001
  | 0 => by simp [linesT]
  | j + 1 => by
    have h1 := linesT_len ls j
    have h2 : (clL (ls.getD j CL.zero)).length ≤ 5000 := (clauseT_byt _ _ _ _ _ _ _ _ _ _ _).2
    simp only [linesT, List.length_append, List.length_cons, List.length_nil]
    omega
theorem textC_le {cs : List CN} (hb : bulks cs ≤ 1048576) {j : Nat} (h : j < cs.length) : (textC (cs.getD j CN.zero)).length ≤ 31457290 := by
  have h1 := textC_len (cs.getD j CN.zero)
  have h2 := bulks_take_succ cs j h
  have h3 := bulks_take_le cs (j + 1)
  omega
theorem wdK_pos {k : Int} (h : 0 ≤ k ∧ k ≤ 6) : 1 ≤ (wdK k).length := by
  have : k = 0 ∨ k = 1 ∨ k = 2 ∨ k = 3 ∨ k = 4 ∨ k = 5 ∨ k = 6 := by omega
  rcases this with rfl | rfl | rfl | rfl | rfl | rfl | rfl <;> decide
theorem clauseT_pos {k f r u xp xn yp yn : Int} {xs : List (Int × Int)} {a b : Int} (h : clauseB k f r u xp xn yp yn xs a b = true) : 1 ≤ (clauseT k f r u xp xn yp yn xs a b).length := by
  have h1 := wdK_pos (clauseC_nums h).1
  unfold clauseT
  rw [if_pos h, clT_eq, List.length_append, List.length_append]
  omega

theorem linesT_byt (ls : List CL) : ∀ j, ∀ x ∈ linesT ls j, 0 ≤ x ∧ x ≤ 255
  | 0 => by intro x hx; simp [linesT] at hx
  | j + 1 => by
    intro x hx
    simp only [linesT, List.mem_append] at hx
    rcases hx with (hx | hx) | hx
    · exact linesT_byt ls j x hx
    · obtain ⟨i, hi, e⟩ := List.mem_iff_getElem.1 hx
      have := (clauseT_byt (ls.getD j CL.zero).kind (ls.getD j CL.zero).fn (ls.getD j CL.zero).role (ls.getD j CL.zero).above (ls.getD j CL.zero).xp (ls.getD j CL.zero).xn (ls.getD j CL.zero).yp (ls.getD j CL.zero).yn (ls.getD j CL.zero).inds (ls.getD j CL.zero).a (ls.getD j CL.zero).b).1 i
      have e2 : (clL (ls.getD j CL.zero)).getD i 0 = x := by rw [List.getD_eq_getElem?_getD, List.getElem?_eq_getElem hi]; exact e
      unfold clL at e2
      rw [e2] at this
      exact this
    · simp at hx; omega
theorem atomsT_byt {cs : List CN} (hc : ∀ j, j < cs.length → ∀ x ∈ textC (cs.getD j CN.zero), 0 ≤ x ∧ x ≤ 255) (h24 : cs.length ≤ 24) : ∀ j, j ≤ cs.length → ∀ x ∈ atomsT cs j, 0 ≤ x ∧ x ≤ 255
  | 0, _ => by intro x hx; simp [atomsT] at hx
  | j + 1, hj => by
    intro x hx
    simp only [atomsT, List.mem_append] at hx
    rcases hx with (((hx | hx) | hx) | hx) | hx
    · exact atomsT_byt hc h24 j (by omega) x hx
    · exact digT_byt (by omega) x hx
    · simp at hx; omega
    · exact hc j (by omega) x hx
    · simp at hx; omega

/-- Its letters and its length. -/
theorem clsT_byt {lo hi : Nat} {w : World} {d : Nat} {aa : Option Addr} {an ac : Nat} {s : CS} (h : RdL (RdC lo hi w d) lo hi w aa an ac s.atoms) (hb : bulks s.atoms ≤ 1048576) : (∀ i, 0 ≤ (clsT s).getD i 0 ∧ (clsT s).getD i 0 ≤ 255) ∧ (clsT s).length ≤ 33554432 := by
  cases hok : clsB s
  · rw [clsT_no hok]; exact ⟨fun i => by simp, by simp⟩
  · have hf := fit_of_cls hok rfl rfl
    rw [clsT_yes hok rfl rfl]
    refine ⟨getD_byt (fun x hx => ?_), ?_⟩
    · rcases List.mem_append.1 hx with hx | hx
      · refine atomsT_byt (fun j hj => ?_) hf.a24 _ (Nat.le_refl _) x hx
        have hj' : j < an := by have := h.len; omega
        rcases h.cells with e | ⟨b, off, _, _, _, hc⟩
        · omega
        · obtain ⟨v0, v1, v2, v3, _, _, _, _, hr⟩ := hc j hj'
          exact textC_bytes hr
      · exact linesT_byt _ _ x hx
    · have h1 := atomsT_le hb (Nat.le_refl s.atoms.length)
      have h2 := linesT_len s.l s.l.length
      have h3 := hf.l200
      rw [List.length_append]
      omega

/-- Bytes of the call's own, behind all that lay there. -/
structure Tx (W0 V : World) (v : Value) (xs : List Int) : Prop where
  own : OwnB W0.heap.size V v xs
  bel : Below W0.heap.size W0 V
theorem Tx.app {W0 V w2 : World} {v v' : Value} {xs ys : List Int} (h : Tx W0 V v xs) (hown : ownsZ w2 W0.heap.size 5 1 v' (xs.length + ys.length) (xs.map (Value.int .u8) ++ ys.map (Value.int .u8))) (hgrow : V.grownBy w2 v.ownBlock) : Tx W0 w2 v' (xs ++ ys) :=
  ⟨(ownB_app h.own h.bel.size hown hgrow).1, h.bel.trans (ownB_app h.own h.bel.size hown hgrow).2.1⟩
theorem Tx.byte {W0 V w2 : World} {v v' : Value} {xs : List Int} {c : Int} (h : Tx W0 V v xs) (hown : ownsZ w2 W0.heap.size 5 1 v' (xs.length + 1) (xs.map (Value.int .u8) ++ [.int .u8 c])) (hgrow : (V.alloc (.cells #[.int .u8 c] 5)).grownBy w2 v.ownBlock) : Tx W0 w2 v' (xs ++ [c]) ∧ Keep5 W0.heap.size V w2 :=
  ⟨⟨(own_byteT h.own h.bel.size hown hgrow).1, h.bel.trans (own_byteT h.own h.bel.size hown hgrow).2.1⟩, (own_byteT h.own h.bel.size hown hgrow).2⟩
theorem Tx.below {W0 V V' : World} {v : Value} {xs : List Int} (h : Tx W0 V v xs) (hb : Below V.heap.size V V') : Tx W0 V' v xs := ⟨OwnB.below h.own hb (Nat.le_refl _), h.bel.trans (hb.mono h.bel.size)⟩
end

section
open Go.RowKit
set_option linter.unusedVariables false

set_option maxRecDepth 100000 in
set_option maxHeartbeats 8000000 in
theorem implClsText_any {d : Nat} {aa : Option Addr} {an ac : Nat} {ra : Option Addr} {rn rc : Nat} {wa : Option Addr} {wn wc : Nat} {la : Option Addr} {ln lc : Nat} {s : CS} {w : World} {lo hi : Nat} (h : RdS lo hi w d aa an ac ra rn rc wa wn wc la ln lc s) (hhi : hi ≤ w.heap.size) (hbk : bulks s.atoms ≤ 1048576) (han : an ≤ 1048576) (hT : TabD w) (hg : 2 < w.heap.size) :
    Calls Tryz.prog 7 #[.agg #[.slice aa an ac, .slice ra rn rc, .slice wa wn wc, .slice la ln lc]] w fun e w' => ∃ v, e = .returned v ∧ OwnB w.heap.size w' v (clsT s) ∧ Below w.heap.size w w' := by
  obtain ⟨W, hW⟩ : ∃ W, W = w.alloc (.cells #[.slice aa an ac, .slice ra rn rc, .slice wa wn wc, .slice la ln lc] 33) := ⟨_, rfl⟩
  have HW : Hid (W = w.alloc (.cells #[.slice aa an ac, .slice ra rn rc, .slice wa wn wc, .slice la ln lc] 33)) := hW
  have hb0 : Below w.heap.size w W := by rw [hW]; exact (Below.refl _ _).alloc (Nat.le_refl _) _
  have hWs : w.heap.size ≤ W.heap.size := hb0.size
  have hsb : Blk W w.heap.size 33 (.slice aa an ac) (.slice ra rn rc) (.slice wa wn wc) (.slice la ln lc) := by rw [hW]; exact Blk.alloc_new w _ _ _ _ _ _ rfl
  have HS : Hid (∀ V, Below W.heap.size W V → Blk V w.heap.size 33 (.slice aa an ac) (.slice ra rn rc) (.slice wa wn wc) (.slice la ln lc)) := fun V hV => hsb.below hV hsb.lt
  have hiW : hi ≤ W.heap.size := Nat.le_trans hhi hb0.size
  have HR : Hid (∀ V, Below W.heap.size W V → RdS lo hi V d aa an ac ra rn rc wa wn wc la ln lc s) := fun V hV => (h.below hb0 hhi).below hV hiW
  have HF : Hid (∀ V, Below W.heap.size W V → Below w.heap.size w V) := fun V hV => hb0.trans (hV.mono hb0.size)
  have H0 : Hid (Below W.heap.size W W) := Below.refl _ _
  have HAn : Hid (s.atoms.length = an) := h.atoms.len
  have HLn : Hid (s.l.length = ln) := h.l.len
  have HBk : Hid (bulks s.atoms ≤ 1048576) := hbk
  have HTb0 : Hid (∀ V, Below W.heap.size W V → TabD V ∧ 2 < V.heap.size) := fun V hV => ⟨(hT.below hb0 hg).below hV (Nat.lt_of_lt_of_le hg hb0.size), Nat.lt_of_lt_of_le (Nat.lt_of_lt_of_le hg hb0.size) hV.size⟩
  have hAn0 := han
  have hf1 := h.atoms.fits
  have hf4 := h.l.fits
  obtain ⟨i0, hi0, hz0, hz1, hz2⟩ := info_parts Tryz.info5d
  obtain ⟨z0, z1, z2, z3, _⟩ := hsb.cells
  clear h hb0 hW hsb hbk hT
  go_enter Tryz.func7, Tryz.ntmps7
  go_upto_region 1 with fail
  rw [← HW.out]
  go_wp2_with fail
  refine (implClsOk_any (HR.out _ H0.out) hiW ⟨HBk.out, han⟩ (HTb0.out _ H0.out).1 (HTb0.out _ H0.out).2).mono ?_
  rintro e w1 ⟨rfl, hb1⟩
  have H1 : Hid (Below W.heap.size W w1) := hb1
  clear hb1 z0 z1 z2 z3
  cases hok : clsB s
  · have HE : Hid (clsT s = []) := clsT_no hok
    go_wp2_with fail
    go_ret
    exact ⟨_, rfl, by rw [HE.out]; exact OwnB.nil _ _, HF.out _ H1.out⟩
  have HT : Hid (clsT s = atomsT s.atoms an ++ linesT s.l ln) := clsT_yes hok HAn.out HLn.out
  have HFt : Hid (ClsFit s an ln) := fit_of_cls hok HAn.out HLn.out
  obtain ⟨z0, z1, z2, z3, _⟩ := (HS.out _ H1.out).cells
  clear hok
  go_wp2_with fail
  go_loopw [3, 14] (fun v i wr => ∃ (k : Nat) (ov : Value), k ≤ an ∧ i = .int .i64 k ∧ ov = v ∧ Tx W wr ov (atomsT s.atoms k)) (fun _ i _ => an - (intOf i).toNat)
  case atStart => exact ⟨0, _, Nat.zero_le _, rfl, rfl, OwnB.nil _ _, H1.out⟩
  case round =>
    obtain ⟨k, ov, hk, rfl, rfl, hO⟩ := hrel
    obtain ⟨Z, hZ⟩ : ∃ Z, Z = atomsT s.atoms k := ⟨_, rfl⟩
    have HZ : Hid (Z = atomsT s.atoms k) := hZ
    rw [← hZ] at hO
    have HO : Hid (Tx W wr ov Z) := hO
    have HL : Hid (Z.length ≤ 31457280) := by rw [Hid, hZ]; exact atomsT_le HBk.out (by rw [HAn.out]; exact hk)
    clear z0 z1 z2 z3 hZ
    obtain ⟨z0, z1, z2, z3, _⟩ := (HS.out _ hO.bel).cells
    by_cases hlt : k < an
    · have hki : (k : Int) < (an : Int) := by omega
      have hkl : k < s.atoms.length := by rw [HAn.out]; exact hlt
      have hk100 : k < 100 := by have := HFt.out.a24; omega
      have hdl := digT_len k
      have hrl := (HR.out _ H0.out).atoms
      rcases hrl.cells with e0 | ⟨ab, ao, e1, _, hab, hc⟩
      · omega
      subst e1
      obtain ⟨p0, p1, p2, p3, q0, q1, q2, q3, hrd⟩ := hc k hlt
      obtain ⟨pk, pna, pnn, pnc, pra, prn, prc, pka, pkn, pkc, rfl, rfl, rfl, rfl⟩ := hrd.form4S
      have hab' : ab < W.heap.size := Nat.lt_of_lt_of_le hab hiW
      have HSt : Hid (atomsT s.atoms (k + 1) = Z ++ digT k ++ [32] ++ textC (s.atoms.getD k CN.zero) ++ [10]) := by rw [Hid, HZ.out]; rfl
      have HCw : Hid (wfC (s.atoms.getD k CN.zero) = true) := HFt.out.wf k hlt
      have HCl : Hid ((textC (s.atoms.getD k CN.zero)).length ≤ 31457290) := textC_le HBk.out hkl
      obtain ⟨c, hcd⟩ : ∃ c, c = s.atoms.getD k CN.zero := ⟨_, rfl⟩
      rw [← hcd] at hrd HSt HCw HCl
      have HQ : Hid (∀ V, Below W.heap.size W V → (V.cell? ⟨ab, ao + k * 4, none⟩ = some (.int .i64 pk) ∧ V.cell? ⟨ab, ao + k * 4 + 1, none⟩ = some (.slice pna pnn pnc) ∧ V.cell? ⟨ab, ao + k * 4 + 2, none⟩ = some (.slice pra prn prc) ∧ V.cell? ⟨ab, ao + k * 4 + 3, none⟩ = some (.slice pka pkn pkc)) ∧ RdC lo hi V d (.agg #[.int .i64 pk, .slice pna pnn pnc, .slice pra prn prc, .slice pka pkn pkc]) c) := fun V hV => ⟨⟨(hV.cell (p := ⟨ab, ao + k * 4, none⟩) hab').trans q0, (hV.cell (p := ⟨ab, ao + k * 4 + 1, none⟩) hab').trans q1, (hV.cell (p := ⟨ab, ao + k * 4 + 2, none⟩) hab').trans q2, (hV.cell (p := ⟨ab, ao + k * 4 + 3, none⟩) hab').trans q3⟩, hrd.below hV hiW⟩
      clear hrl hc hrd hcd hO q0 q1 q2 q3
      obtain ⟨⟨q0, q1, q2, q3⟩, hrd0⟩ := HQ.out _ HO.out.bel
      clear hrd0
      have hBb : Below wr.heap.size wr (wr.alloc (.cells #[.int .i64 pk, .slice pna pnn pnc, .slice pra prn prc, .slice pka pkn pkc] 47)) := (Below.refl _ _).alloc (Nat.le_refl _) _
      obtain ⟨U, hU⟩ : ∃ U, U = wr.alloc (.cells #[.int .i64 pk, .slice pna pnn pnc, .slice pra prn prc, .slice pka pkn pkc] 47) := ⟨_, rfl⟩
      have HU : Hid (U = wr.alloc (.cells #[.int .i64 pk, .slice pna pnn pnc, .slice pra prn prc, .slice pka pkn pkc] 47)) := hU
      have HTU : Hid (Tx W U ov Z) := by rw [Hid, hU]; exact HO.out.below hBb
      have HBU : Hid (BoxC U wr.heap.size (.int .i64 pk) (.slice pna pnn pnc) (.slice pra prn prc) (.slice pka pkn pkc)) := by rw [Hid, hU]; exact BoxC.new wr _ _ _ _
      clear hBb hU
      go_upto_region 7 with fail
      rw [← HU.out]
      clear z0 z1 z2 z3 q0 q1 q2 q3
      go_upto_region 8 with (first
        | (go_at_call 24; refine (addNumber6 ⟨#[]⟩ [] rfl hk100 HTU.out.own HTU.out.bel.size (by have := HL.out; simp only [List.length_nil]; omega)).mono ?_; rintro e w3 ⟨v3, rfl, ho3, hk3⟩; rw [List.append_nil] at ho3; have HT3 : Hid (Tx W w3 v3 (Z ++ digT k)) := ⟨ho3, HTU.out.bel.trans hk3.k5.1⟩; have HB3 : Hid (BoxC w3 wr.heap.size (.int .i64 pk) (.slice pna pnn pnc) (.slice pra prn prc) (.slice pka pkn pkc)) := HBU.out.keep5 hk3.k5; clear ho3 hk3; obtain ⟨Z3, hZ3⟩ : ∃ Z3, Z3 = Z ++ digT k := ⟨_, rfl⟩; rw [← hZ3] at HT3 HSt; have HL3 : Hid (Z3.length ≤ 31457290) := (by have := HL.out; rw [Hid, hZ3, List.length_append]; omega); clear hZ3)
        | (at_builtin; refine listZ _ rfl (.tmp 21) (.tmp 22) 28 rfl W.heap.size 5 i0 (.int .u8 0) 1 1 Tryz.underlying28 hi0 hz0 hz1 hz2 rfl (by decide) v3 Z3.length (Z3.map (Value.int .u8)) rfl (own_allocT HT3.out.own _) ⟨w3.heap.size, 0, none⟩ 1 1 [.int .u8 32] rfl rfl (cell_one_new _ _ _) (by simp [Value.oneCell']) (by have := HL3.out; unfold maxLen; omega) (by have := HL3.out; omega) (by have := HT3.out.bel.size; simp; omega) ?_; intro v4 w4 ho4 hg4 hn4; have HT4 : Hid (Tx W w4 v4 (Z3 ++ [32])) := (HT3.out.byte ho4 hg4).1; have HB4 : Hid (BoxC w4 wr.heap.size (.int .i64 pk) (.slice pna pnn pnc) (.slice pra prn prc) (.slice pka pkn pkc)) := HB3.out.keep5 (HT3.out.byte ho4 hg4).2; clear ho4 hg4 hn4; obtain ⟨Z4, hZ4⟩ : ∃ Z4, Z4 = Z3 ++ [32] := ⟨_, rfl⟩; rw [← hZ4] at HT4 HSt; have HL4 : Hid (Z4.length ≤ 31457300) := (by have := HL3.out; rw [Hid, hZ4, List.length_append]; simp only [List.length_cons, List.length_nil]; omega); clear hZ4)
        | fail)
      obtain ⟨_, hrd⟩ := HQ.out _ HT4.out.bel
      have HRd : Hid (RdC lo hi w4 d (.agg #[.int .i64 pk, .slice pna pnn pnc, .slice pra prn prc, .slice pka pkn pkc]) c) := hrd
      obtain ⟨c0, c1, c2, c3⟩ := HB4.out.cells
      clear hrd
      go_wp2_with (first
        | (go_at_call 25; refine (addG_any d (.agg #[.int .i64 pk, .slice pna pnn pnc, .slice pra prn prc, .slice pka pkn pkc]) c v4 Z4 w4 W.heap.size lo hi HRd.out hiW HT4.out.bel.size HCw.out HT4.out.own (by have := HL4.out; have := HCl.out; omega)).mono ?_; rintro e w5 ⟨v5, rfl, ho5, hk5⟩; have HT5 : Hid (Tx W w5 v5 (Z4 ++ textC c)) := ⟨ho5, HT4.out.bel.trans hk5.k5.1⟩; clear ho5 hk5; obtain ⟨Z5, hZ5⟩ : ∃ Z5, Z5 = Z4 ++ textC c := ⟨_, rfl⟩; rw [← hZ5] at HT5 HSt; have HL5 : Hid (Z5.length ≤ 62914600) := (by have := HL4.out; have := HCl.out; rw [Hid, hZ5, List.length_append]; omega); clear hZ5)
        | (at_builtin; refine listZ _ rfl (.tmp 26) (.tmp 27) 28 rfl W.heap.size 5 i0 (.int .u8 0) 1 1 Tryz.underlying28 hi0 hz0 hz1 hz2 rfl (by decide) v5 Z5.length (Z5.map (Value.int .u8)) rfl (own_allocT HT5.out.own _) ⟨w5.heap.size, 0, none⟩ 1 1 [.int .u8 10] rfl rfl (cell_one_new _ _ _) (by simp [Value.oneCell']) (by have := HL5.out; unfold maxLen; omega) (by have := HL5.out; omega) (by have := HT5.out.bel.size; simp; omega) ?_; intro v6 w6 ho6 hg6 hn6; have HT6 : Hid (Tx W w6 v6 (Z5 ++ [10])) := (HT5.out.byte ho6 hg6).1; clear ho6 hg6 hn6; obtain ⟨Z6, hZ6⟩ : ∃ Z6, Z6 = Z5 ++ [10] := ⟨_, rfl⟩; rw [← hZ6] at HT6 HSt; have HL6 : Hid (Z6.length ≤ 62914610) := (by have := HL5.out; rw [Hid, hZ6, List.length_append]; simp only [List.length_cons, List.length_nil]; omega); clear hZ6)
        | fail)
      go_roundw
      case rel => exact ⟨k + 1, v6, by omega, by go_num, rfl, by rw [HSt.out]; exact HT6.out⟩
      case measure => simp [intOf]; omega
    · have hke : k = an := by omega
      have hki : ¬ (k : Int) < (an : Int) := by omega
      have HA : Hid (clsT s = Z ++ linesT s.l ln) := by rw [Hid, HT.out, HZ.out, hke]
      clear hke hO
      go_wp2_with fail
      rename World => wo
      go_loopw [3, 33] (fun v i wr => ∃ (j : Nat) (ou : Value), j ≤ ln ∧ i = .int .i64 j ∧ ou = v ∧ Tx W wr ou (Z ++ linesT s.l j)) (fun _ i _ => ln - (intOf i).toNat)
      case atStart => exact ⟨0, _, Nat.zero_le _, rfl, rfl, by simpa [linesT] using HO.out⟩
      case round =>
      obtain ⟨j, ou, hj, rfl, rfl, hJ⟩ := hrel
      obtain ⟨Y, hY⟩ : ∃ Y, Y = Z ++ linesT s.l j := ⟨_, rfl⟩
      have HY : Hid (Y = Z ++ linesT s.l j) := hY
      rw [← hY] at hJ
      have HJ : Hid (Tx W wr ou Y) := hJ
      have HYl : Hid (Y.length ≤ 33500000) := by
        have h1 := HL.out
        have h2 := linesT_len s.l j
        have h3 := HFt.out.l200
        rw [Hid, hY, List.length_append]
        omega
      clear z0 z1 z2 z3 hY
      by_cases hlj : j < ln
      · have hji : (j : Int) < (ln : Int) := by omega
        have hrl := (HR.out _ H0.out).l
        rcases hrl.cells with e0 | ⟨lb, lo', e1, _, hlb, hc⟩
        · omega
        subst e1
        obtain ⟨ia, im, ic, q0, q1, q2, q3, q4, q5, q6, q7, q8, q9, q10, hrd⟩ := hc j hlj
        have hlb' : lb < W.heap.size := Nat.lt_of_lt_of_le hlb hiW
        have HSt : Hid (Z ++ linesT s.l (j + 1) = Y ++ clL (s.l.getD j CL.zero) ++ [10]) := by rw [Hid, HY.out]; simp only [linesT, List.append_assoc]
        have hOk := HFt.out.ok j hlj
        obtain ⟨x, hx⟩ : ∃ x, x = s.l.getD j CL.zero := ⟨_, rfl⟩
        rw [← hx] at q0 q1 q2 q3 q4 q5 q6 q7 q9 q10 hrd HSt hOk
        obtain ⟨xk, xf, xr, xu, xxp, xxn, xyp, xyn, xi, xa, xb⟩ := x
        dsimp only at q0 q1 q2 q3 q4 q5 q6 q7 q9 q10 hrd
        have HOk : Hid (clauseB xk xf xr xu xxp xxn xyp xyn xi xa xb = true) := hOk
        have HTl : Hid ((clauseT xk xf xr xu xxp xxn xyp xyn xi xa xb).length ≤ 5000) := (clauseT_byt _ _ _ _ _ _ _ _ _ _ _).2
        have HTp : Hid (1 ≤ (clauseT xk xf xr xu xxp xxn xyp xyn xi xa xb).length) := clauseT_pos hOk
        have HTb : Hid (∀ i, 0 ≤ (clauseT xk xf xr xu xxp xxn xyp xyn xi xa xb).getD i 0 ∧ (clauseT xk xf xr xu xxp xxn xyp xyn xi xa xb).getD i 0 ≤ 255) := (clauseT_byt _ _ _ _ _ _ _ _ _ _ _).1
        unfold clL at HSt
        dsimp only at HSt
        have HQ : Hid (∀ V, Below W.heap.size W V → (V.cell? ⟨lb, lo' + j * 11, none⟩ = some (.int .i64 xk) ∧ V.cell? ⟨lb, lo' + j * 11 + 1, none⟩ = some (.int .i64 xf) ∧ V.cell? ⟨lb, lo' + j * 11 + 2, none⟩ = some (.int .i64 xr) ∧ V.cell? ⟨lb, lo' + j * 11 + 3, none⟩ = some (.int .i64 xu) ∧ V.cell? ⟨lb, lo' + j * 11 + 4, none⟩ = some (.int .i64 xxp) ∧ V.cell? ⟨lb, lo' + j * 11 + 5, none⟩ = some (.int .i64 xxn) ∧ V.cell? ⟨lb, lo' + j * 11 + 6, none⟩ = some (.int .i64 xyp) ∧ V.cell? ⟨lb, lo' + j * 11 + 7, none⟩ = some (.int .i64 xyn) ∧ V.cell? ⟨lb, lo' + j * 11 + 8, none⟩ = some (.slice ia im ic) ∧ V.cell? ⟨lb, lo' + j * 11 + 9, none⟩ = some (.int .i64 xa) ∧ V.cell? ⟨lb, lo' + j * 11 + 10, none⟩ = some (.int .i64 xb)) ∧ RP lo hi V ia im ic xi) := fun V hV => ⟨⟨(hV.cell (p := ⟨lb, lo' + j * 11, none⟩) hlb').trans q0, (hV.cell (p := ⟨lb, lo' + j * 11 + 1, none⟩) hlb').trans q1, (hV.cell (p := ⟨lb, lo' + j * 11 + 2, none⟩) hlb').trans q2, (hV.cell (p := ⟨lb, lo' + j * 11 + 3, none⟩) hlb').trans q3, (hV.cell (p := ⟨lb, lo' + j * 11 + 4, none⟩) hlb').trans q4, (hV.cell (p := ⟨lb, lo' + j * 11 + 5, none⟩) hlb').trans q5, (hV.cell (p := ⟨lb, lo' + j * 11 + 6, none⟩) hlb').trans q6, (hV.cell (p := ⟨lb, lo' + j * 11 + 7, none⟩) hlb').trans q7, (hV.cell (p := ⟨lb, lo' + j * 11 + 8, none⟩) hlb').trans q8, (hV.cell (p := ⟨lb, lo' + j * 11 + 9, none⟩) hlb').trans q9, (hV.cell (p := ⟨lb, lo' + j * 11 + 10, none⟩) hlb').trans q10⟩, hrd.below hV hiW⟩
        obtain ⟨T, hT⟩ : ∃ T, T = clauseT xk xf xr xu xxp xxn xyp xyn xi xa xb := ⟨_, rfl⟩
        rw [← hT] at HSt HTl HTp HTb
        have HTe : Hid (clauseT xk xf xr xu xxp xxn xyp xyn xi xa xb = T) := hT.symm
        clear hrl hc hrd hx hOk hJ hT q0 q1 q2 q3 q4 q5 q6 q7 q8 q9 q10
        obtain ⟨⟨q0, q1, q2, q3, q4, q5, q6, q7, q8, q9, q10⟩, hrp⟩ := HQ.out _ HJ.out.bel
        have hBb : Below wr.heap.size wr (wr.alloc (.cells #[.int .i64 xk, .int .i64 xf, .int .i64 xr, .int .i64 xu, .int .i64 xxp, .int .i64 xxn, .int .i64 xyp, .int .i64 xyn, .slice ia im ic, .int .i64 xa, .int .i64 xb] 53)) := (Below.refl _ _).alloc (Nat.le_refl _) _
        have hbx : BoxK 53 (wr.alloc (.cells #[.int .i64 xk, .int .i64 xf, .int .i64 xr, .int .i64 xu, .int .i64 xxp, .int .i64 xxn, .int .i64 xyp, .int .i64 xyn, .slice ia im ic, .int .i64 xa, .int .i64 xb] 53)) wr.heap.size xk xf xr xu xxp xxn xyp xyn (.slice ia im ic) xa xb := BoxK.new _ wr _ _ _ _ _ _ _ _ _ _ _
        obtain ⟨U, hU⟩ : ∃ U, U = wr.alloc (.cells #[.int .i64 xk, .int .i64 xf, .int .i64 xr, .int .i64 xu, .int .i64 xxp, .int .i64 xxn, .int .i64 xyp, .int .i64 xyn, .slice ia im ic, .int .i64 xa, .int .i64 xb] 53) := ⟨_, rfl⟩
        have HU : Hid (U = wr.alloc (.cells #[.int .i64 xk, .int .i64 xf, .int .i64 xr, .int .i64 xu, .int .i64 xxp, .int .i64 xxn, .int .i64 xyp, .int .i64 xyn, .slice ia im ic, .int .i64 xa, .int .i64 xb] 53)) := hU
        have HTU : Hid (Tx W U ou Y) := by rw [Hid, hU]; exact HJ.out.below hBb
        have HBU : Hid (BoxK 53 U wr.heap.size xk xf xr xu xxp xxn xyp xyn (.slice ia im ic) xa xb) := by rw [Hid, hU]; exact hbx
        have HRp : Hid (RP lo hi U ia im ic xi ∧ hi ≤ U.heap.size) := ⟨(HQ.out _ HTU.out.bel).2, Nat.le_trans hiW HTU.out.bel.size⟩
        clear hrp hBb hbx hU
        go_upto_region 13 with fail
        rw [← HU.out]
        clear q0 q1 q2 q3 q4 q5 q6 q7 q8 q9 q10
        obtain ⟨u0, u1, u2, u3, u4, u5, u6, u7, u8, u9, u10⟩ := HBU.out.cells
        go_wp2_with (first
          | (go_at_call 26; refine (implClauseText_any HRp.out.1 HRp.out.2 (HTb0.out _ HTU.out.bel).1 (HTb0.out _ HTU.out.bel).2).mono ?_; rintro e w7 ⟨vt, rfl, hd7, hb7⟩; rw [HTe.out] at hd7; have HT7 : Hid (Tx W w7 ou Y) := HTU.out.below hb7; obtain ⟨ga7, gc7, gb7, rfl, hgr7, hga7, _, _⟩ := hd7.form HTb.out; obtain rfl := hga7.resolve_left (by have := HTp.out; omega); have HN7 : Hid (∀ j u, (T.map (Value.int .u8))[j]? = some u → w7.cell? ((⟨gb7, 0, none⟩ : Addr).add j) = some u) := rd_news hgr7; clear hd7 hb7 hgr7)
          | (at_builtin; refine listZ _ rfl (.tmp 37) (.tmp 39) 28 rfl W.heap.size 5 i0 (.int .u8 0) 1 1 Tryz.underlying28 hi0 hz0 hz1 hz2 rfl (by decide) ou Y.length (Y.map (Value.int .u8)) rfl HT7.out.own ⟨gb7, 0, none⟩ T.length gc7 (T.map (Value.int .u8)) rfl (by simp) HN7.out (oneCB _) (by have := HYl.out; have := HTl.out; unfold maxLen; omega) (by have := HYl.out; have := HTl.out; omega) HT7.out.bel.size ?_; intro v8 w8 ho8 hg8 hn8; have HT8 : Hid (Tx W w8 v8 (Y ++ T)) := HT7.out.app ho8 hg8; clear ho8 hg8 hn8; obtain ⟨Z8, hZ8⟩ : ∃ Z8, Z8 = Y ++ T := ⟨_, rfl⟩; rw [← hZ8] at HT8 HSt; have HL8 : Hid (Z8.length ≤ 33505000) := (by have := HYl.out; have := HTl.out; rw [Hid, hZ8, List.length_append]; omega); clear hZ8)
          | (at_builtin; refine listZ _ rfl (.tmp 41) (.tmp 42) 28 rfl W.heap.size 5 i0 (.int .u8 0) 1 1 Tryz.underlying28 hi0 hz0 hz1 hz2 rfl (by decide) v8 Z8.length (Z8.map (Value.int .u8)) rfl (own_allocT HT8.out.own _) ⟨w8.heap.size, 0, none⟩ 1 1 [.int .u8 10] rfl rfl (cell_one_new _ _ _) (by simp [Value.oneCell']) (by have := HL8.out; unfold maxLen; omega) (by have := HL8.out; omega) (by have := HT8.out.bel.size; simp; omega) ?_; intro v9 w9 ho9 hg9 hn9; have HT9 : Hid (Tx W w9 v9 (Z8 ++ [10])) := (HT8.out.byte ho9 hg9).1; clear ho9 hg9 hn9; obtain ⟨Z9, hZ9⟩ : ∃ Z9, Z9 = Z8 ++ [10] := ⟨_, rfl⟩; rw [← hZ9] at HT9 HSt; have HL9 : Hid (Z9.length ≤ 33505010) := (by have := HL8.out; rw [Hid, hZ9, List.length_append]; simp only [List.length_cons, List.length_nil]; omega); clear hZ9)
          | fail)
        go_roundw
        case rel => exact ⟨j + 1, v9, by omega, by go_num, rfl, by rw [HSt.out]; exact HT9.out⟩
        case measure => simp [intOf]; omega
      · have hje : j = ln := by omega
        have hji : ¬ (j : Int) < (ln : Int) := by omega
        have HE : Hid (clsT s = Y) := by rw [Hid, HA.out, HY.out, hje]
        clear hje hJ
        go_wp2_with fail
        go_ret
        exact ⟨ou, rfl, by rw [HE.out]; exact ownB_low HJ.out.own hWs, HF.out _ HJ.out.bel⟩
end

section
open Go.RowKit
set_option linter.unusedVariables false

set_option maxRecDepth 100000 in
set_option maxHeartbeats 8000000 in
theorem specClsText_any {d : Nat} {aa : Option Addr} {an ac : Nat} {ra : Option Addr} {rn rc : Nat} {wa : Option Addr} {wn wc : Nat} {la : Option Addr} {ln lc : Nat} {s : CS} {w : World} {lo hi : Nat} (h : RdS lo hi w d aa an ac ra rn rc wa wn wc la ln lc s) (hhi : hi ≤ w.heap.size) (hbk : bulks s.atoms ≤ 1048576) :
    Calls Tryz.prog 5 #[.agg #[.slice aa an ac, .slice ra rn rc, .slice wa wn wc, .slice la ln lc]] w fun e w' => ∃ v, e = .returned v ∧ OwnB w.heap.size w' v (clsT s) ∧ Below w.heap.size w w' := by
  obtain ⟨W, hW⟩ : ∃ W, W = w.alloc (.cells #[.slice aa an ac, .slice ra rn rc, .slice wa wn wc, .slice la ln lc] 33) := ⟨_, rfl⟩
  have HW : Hid (W = w.alloc (.cells #[.slice aa an ac, .slice ra rn rc, .slice wa wn wc, .slice la ln lc] 33)) := hW
  have hb0 : Below w.heap.size w W := by rw [hW]; exact (Below.refl _ _).alloc (Nat.le_refl _) _
  have hWs : w.heap.size ≤ W.heap.size := hb0.size
  have hsb : Blk W w.heap.size 33 (.slice aa an ac) (.slice ra rn rc) (.slice wa wn wc) (.slice la ln lc) := by rw [hW]; exact Blk.alloc_new w _ _ _ _ _ _ rfl
  have HS : Hid (∀ V, Below W.heap.size W V → Blk V w.heap.size 33 (.slice aa an ac) (.slice ra rn rc) (.slice wa wn wc) (.slice la ln lc)) := fun V hV => hsb.below hV hsb.lt
  have hiW : hi ≤ W.heap.size := Nat.le_trans hhi hb0.size
  have HR : Hid (∀ V, Below W.heap.size W V → RdS lo hi V d aa an ac ra rn rc wa wn wc la ln lc s) := fun V hV => (h.below hb0 hhi).below hV hiW
  have HF : Hid (∀ V, Below W.heap.size W V → Below w.heap.size w V) := fun V hV => hb0.trans (hV.mono hb0.size)
  have H0 : Hid (Below W.heap.size W W) := Below.refl _ _
  have HAn : Hid (s.atoms.length = an) := h.atoms.len
  have HLn : Hid (s.l.length = ln) := h.l.len
  have HBk : Hid (bulks s.atoms ≤ 1048576) := hbk
  have hf1 := h.atoms.fits
  have hf4 := h.l.fits
  obtain ⟨i0, hi0, hz0, hz1, hz2⟩ := info_parts Tryz.info5d
  obtain ⟨z0, z1, z2, z3, _⟩ := hsb.cells
  clear h hb0 hW hsb hbk
  go_enter Tryz.func5, Tryz.ntmps5
  go_upto_region 2 with fail
  rw [← HW.out]
  go_wp2_with fail
  refine (specClsOk_any (HR.out _ H0.out) hiW HBk.out).mono ?_
  rintro e w1 ⟨rfl, hb1⟩
  have H1 : Hid (Below W.heap.size W w1) := hb1
  clear hb1 z0 z1 z2 z3
  cases hok : clsB s
  · have HE : Hid (clsT s = []) := clsT_no hok
    go_wp2_with fail
    go_ret
    exact ⟨_, rfl, by rw [HE.out]; exact OwnB.nil _ _, HF.out _ H1.out⟩
  have HT : Hid (clsT s = atomsT s.atoms an ++ linesT s.l ln) := clsT_yes hok HAn.out HLn.out
  have HFt : Hid (ClsFit s an ln) := fit_of_cls hok HAn.out HLn.out
  clear hok
  go_wp2_with fail
  go_loopw [3, 4] (fun v i wr => ∃ (k : Nat) (ov : Value), k ≤ an ∧ i = .int .i64 k ∧ ov = v ∧ Tx W wr ov (atomsT s.atoms k)) (fun _ i _ => an - (intOf i).toNat)
  case atStart => exact ⟨0, _, Nat.zero_le _, rfl, rfl, OwnB.nil _ _, H1.out⟩
  case round =>
    obtain ⟨k, ov, hk, rfl, rfl, hO⟩ := hrel
    obtain ⟨Z, hZ⟩ : ∃ Z, Z = atomsT s.atoms k := ⟨_, rfl⟩
    have HZ : Hid (Z = atomsT s.atoms k) := hZ
    rw [← hZ] at hO
    have HO : Hid (Tx W wr ov Z) := hO
    have HL : Hid (Z.length ≤ 31457280) := by rw [Hid, hZ]; exact atomsT_le HBk.out (by rw [HAn.out]; exact hk)
    obtain ⟨z0, z1, z2, z3, _⟩ := (HS.out _ hO.bel).cells
    clear hZ
    by_cases hlt : k < an
    · have hki : (k : Int) < (an : Int) := by omega
      have hkl : k < s.atoms.length := by rw [HAn.out]; exact hlt
      have hk100 : k < 100 := by have := HFt.out.a24; omega
      have hdl := digT_len k
      have hrl := (HR.out _ H0.out).atoms
      rcases hrl.cells with e0 | ⟨ab, ao, e1, _, hab, hc⟩
      · omega
      subst e1
      obtain ⟨p0, p1, p2, p3, q0, q1, q2, q3, hrd⟩ := hc k hlt
      obtain ⟨pk, pna, pnn, pnc, pra, prn, prc, pka, pkn, pkc, rfl, rfl, rfl, rfl⟩ := hrd.form4S
      have hab' : ab < W.heap.size := Nat.lt_of_lt_of_le hab hiW
      have HSt : Hid (atomsT s.atoms (k + 1) = Z ++ digT k ++ [32] ++ textC (s.atoms.getD k CN.zero) ++ [10]) := by rw [Hid, HZ.out]; rfl
      have HCw : Hid (wfC (s.atoms.getD k CN.zero) = true) := HFt.out.wf k hlt
      have HCl : Hid ((textC (s.atoms.getD k CN.zero)).length ≤ 31457290) := textC_le HBk.out hkl
      obtain ⟨c, hcd⟩ : ∃ c, c = s.atoms.getD k CN.zero := ⟨_, rfl⟩
      rw [← hcd] at hrd HSt HCw HCl
      have HQ : Hid (∀ V, Below W.heap.size W V → (V.cell? ⟨ab, ao + k * 4, none⟩ = some (.int .i64 pk) ∧ V.cell? ⟨ab, ao + k * 4 + 1, none⟩ = some (.slice pna pnn pnc) ∧ V.cell? ⟨ab, ao + k * 4 + 2, none⟩ = some (.slice pra prn prc) ∧ V.cell? ⟨ab, ao + k * 4 + 3, none⟩ = some (.slice pka pkn pkc)) ∧ RdC lo hi V d (.agg #[.int .i64 pk, .slice pna pnn pnc, .slice pra prn prc, .slice pka pkn pkc]) c) := fun V hV => ⟨⟨(hV.cell (p := ⟨ab, ao + k * 4, none⟩) hab').trans q0, (hV.cell (p := ⟨ab, ao + k * 4 + 1, none⟩) hab').trans q1, (hV.cell (p := ⟨ab, ao + k * 4 + 2, none⟩) hab').trans q2, (hV.cell (p := ⟨ab, ao + k * 4 + 3, none⟩) hab').trans q3⟩, hrd.below hV hiW⟩
      clear hrl hc hrd hcd hO q0 q1 q2 q3
      go_upto_region 8 with (first
        | (go_at_call 17; refine (l5digits_any hk100 _).mono ?_; rintro e w2 ⟨vd, rfl, hd2, hb2⟩; have HT2 : Hid (Tx W w2 ov Z) := HO.out.below hb2; obtain ⟨ga2, gc2, gb2, rfl, hgr2, hga2, _, _⟩ := hd2.form (digT_bytz hk100); obtain rfl := hga2.resolve_left (by omega); have HN2 : Hid (∀ j u, ((digT k).map (Value.int .u8))[j]? = some u → w2.cell? ((⟨gb2, 0, none⟩ : Addr).add j) = some u) := rd_news hgr2; clear hd2 hb2 hgr2)
        | (at_builtin; refine listZ _ rfl (.tmp 16) (.tmp 18) 28 rfl W.heap.size 5 i0 (.int .u8 0) 1 1 Tryz.underlying28 hi0 hz0 hz1 hz2 rfl (by decide) ov Z.length (Z.map (Value.int .u8)) rfl HT2.out.own ⟨gb2, 0, none⟩ (digT k).length gc2 ((digT k).map (Value.int .u8)) rfl (by simp) HN2.out (oneCB _) (by have := HL.out; unfold maxLen; omega) (by have := HL.out; omega) HT2.out.bel.size ?_; intro v3 w3 ho3 hg3 hn3; have HT3 : Hid (Tx W w3 v3 (Z ++ (digT k))) := HT2.out.app ho3 hg3; clear ho3 hg3 hn3; obtain ⟨Z3, hZ3⟩ : ∃ Z3, Z3 = Z ++ (digT k) := ⟨_, rfl⟩; rw [← hZ3] at HT3 HSt; have HL3 : Hid (Z3.length ≤ 31457290) := (by have := HL.out; rw [Hid, hZ3, List.length_append]; omega); clear hZ3)
        | (at_builtin; refine listZ _ rfl (.tmp 19) (.tmp 20) 28 rfl W.heap.size 5 i0 (.int .u8 0) 1 1 Tryz.underlying28 hi0 hz0 hz1 hz2 rfl (by decide) v3 Z3.length (Z3.map (Value.int .u8)) rfl (own_allocT HT3.out.own _) ⟨w3.heap.size, 0, none⟩ 1 1 [.int .u8 32] rfl rfl (cell_one_new _ _ _) (by simp [Value.oneCell']) (by have := HL3.out; unfold maxLen; omega) (by have := HL3.out; omega) (by have := HT3.out.bel.size; simp; omega) ?_; intro v4 w4 ho4 hg4 hn4; have HT4 : Hid (Tx W w4 v4 (Z3 ++ [32])) := (HT3.out.byte ho4 hg4).1; clear ho4 hg4 hn4; obtain ⟨Z4, hZ4⟩ : ∃ Z4, Z4 = Z3 ++ [32] := ⟨_, rfl⟩; rw [← hZ4] at HT4 HSt; have HL4 : Hid (Z4.length ≤ 31457300) := (by have := HL3.out; rw [Hid, hZ4, List.length_append]; simp only [List.length_cons, List.length_nil]; omega); clear hZ4)
        | fail)
      clear z0 z1 z2 z3
      obtain ⟨z0, z1, z2, z3, _⟩ := (HS.out _ HT4.out.bel).cells
      obtain ⟨⟨q0, q1, q2, q3⟩, hrd⟩ := HQ.out _ HT4.out.bel
      have HRd : Hid (RdC lo hi w4 d (.agg #[.int .i64 pk, .slice pna pnn pnc, .slice pra prn prc, .slice pka pkn pkc]) c) := hrd
      clear hrd
      go_wp2_with (first
        | (go_at_call 18; refine (sayG_any d (.agg #[.int .i64 pk, .slice pna pnn pnc, .slice pra prn prc, .slice pka pkn pkc]) c v4 Z4 w4 W.heap.size lo hi HRd.out hiW HT4.out.bel.size HCw.out HT4.out.own (by have := HL4.out; have := HCl.out; omega)).mono ?_; rintro e w5 ⟨v5, rfl, ho5, hk5⟩; have HT5 : Hid (Tx W w5 v5 (Z4 ++ textC c)) := ⟨ho5, HT4.out.bel.trans hk5.k5.1⟩; clear ho5 hk5; obtain ⟨Z5, hZ5⟩ : ∃ Z5, Z5 = Z4 ++ textC c := ⟨_, rfl⟩; rw [← hZ5] at HT5 HSt; have HL5 : Hid (Z5.length ≤ 62914600) := (by have := HL4.out; have := HCl.out; rw [Hid, hZ5, List.length_append]; omega); clear hZ5)
        | (at_builtin; refine listZ _ rfl (.tmp 28) (.tmp 29) 28 rfl W.heap.size 5 i0 (.int .u8 0) 1 1 Tryz.underlying28 hi0 hz0 hz1 hz2 rfl (by decide) v5 Z5.length (Z5.map (Value.int .u8)) rfl (own_allocT HT5.out.own _) ⟨w5.heap.size, 0, none⟩ 1 1 [.int .u8 10] rfl rfl (cell_one_new _ _ _) (by simp [Value.oneCell']) (by have := HL5.out; unfold maxLen; omega) (by have := HL5.out; omega) (by have := HT5.out.bel.size; simp; omega) ?_; intro v6 w6 ho6 hg6 hn6; have HT6 : Hid (Tx W w6 v6 (Z5 ++ [10])) := (HT5.out.byte ho6 hg6).1; clear ho6 hg6 hn6; obtain ⟨Z6, hZ6⟩ : ∃ Z6, Z6 = Z5 ++ [10] := ⟨_, rfl⟩; rw [← hZ6] at HT6 HSt; have HL6 : Hid (Z6.length ≤ 62914610) := (by have := HL5.out; rw [Hid, hZ6, List.length_append]; simp only [List.length_cons, List.length_nil]; omega); clear hZ6)
        | fail)
      go_roundw
      case rel => exact ⟨k + 1, v6, by omega, by go_num, rfl, by rw [HSt.out]; exact HT6.out⟩
      case measure => simp [intOf]; omega
    · have hke : k = an := by omega
      have hki : ¬ (k : Int) < (an : Int) := by omega
      have HA : Hid (clsT s = Z ++ linesT s.l ln) := by rw [Hid, HT.out, HZ.out, hke]
      clear hke hO
      go_wp2_with fail
      rename World => wo
      go_loopw [3, 5] (fun v i wr => ∃ (j : Nat) (ou : Value), j ≤ ln ∧ i = .int .i64 j ∧ ou = v ∧ Tx W wr ou (Z ++ linesT s.l j)) (fun _ i _ => ln - (intOf i).toNat)
      case atStart => exact ⟨0, _, Nat.zero_le _, rfl, rfl, by simpa [linesT] using HO.out⟩
      case round =>
      obtain ⟨j, ou, hj, rfl, rfl, hJ⟩ := hrel
      obtain ⟨Y, hY⟩ : ∃ Y, Y = Z ++ linesT s.l j := ⟨_, rfl⟩
      have HY : Hid (Y = Z ++ linesT s.l j) := hY
      rw [← hY] at hJ
      have HJ : Hid (Tx W wr ou Y) := hJ
      have HYl : Hid (Y.length ≤ 33500000) := by
        have h1 := HL.out
        have h2 := linesT_len s.l j
        have h3 := HFt.out.l200
        rw [Hid, hY, List.length_append]
        omega
      clear z0 z1 z2 z3 hY
      obtain ⟨z0, z1, z2, z3, _⟩ := (HS.out _ hJ.bel).cells
      by_cases hlj : j < ln
      · have hji : (j : Int) < (ln : Int) := by omega
        have hrl := (HR.out _ H0.out).l
        rcases hrl.cells with e0 | ⟨lb, lo', e1, _, hlb, hc⟩
        · omega
        subst e1
        obtain ⟨ia, im, ic, q0, q1, q2, q3, q4, q5, q6, q7, q8, q9, q10, hrd⟩ := hc j hlj
        have hlb' : lb < W.heap.size := Nat.lt_of_lt_of_le hlb hiW
        have HSt : Hid (Z ++ linesT s.l (j + 1) = Y ++ clL (s.l.getD j CL.zero) ++ [10]) := by rw [Hid, HY.out]; simp only [linesT, List.append_assoc]
        have hOk := HFt.out.ok j hlj
        obtain ⟨x, hx⟩ : ∃ x, x = s.l.getD j CL.zero := ⟨_, rfl⟩
        rw [← hx] at q0 q1 q2 q3 q4 q5 q6 q7 q9 q10 hrd HSt hOk
        obtain ⟨xk, xf, xr, xu, xxp, xxn, xyp, xyn, xi, xa, xb⟩ := x
        dsimp only at q0 q1 q2 q3 q4 q5 q6 q7 q9 q10 hrd
        have HOk : Hid (clauseB xk xf xr xu xxp xxn xyp xyn xi xa xb = true) := hOk
        have HTl : Hid ((clauseT xk xf xr xu xxp xxn xyp xyn xi xa xb).length ≤ 5000) := (clauseT_byt _ _ _ _ _ _ _ _ _ _ _).2
        have HTp : Hid (1 ≤ (clauseT xk xf xr xu xxp xxn xyp xyn xi xa xb).length) := clauseT_pos hOk
        have HTb : Hid (∀ i, 0 ≤ (clauseT xk xf xr xu xxp xxn xyp xyn xi xa xb).getD i 0 ∧ (clauseT xk xf xr xu xxp xxn xyp xyn xi xa xb).getD i 0 ≤ 255) := (clauseT_byt _ _ _ _ _ _ _ _ _ _ _).1
        unfold clL at HSt
        dsimp only at HSt
        have HQ : Hid (∀ V, Below W.heap.size W V → (V.cell? ⟨lb, lo' + j * 11, none⟩ = some (.int .i64 xk) ∧ V.cell? ⟨lb, lo' + j * 11 + 1, none⟩ = some (.int .i64 xf) ∧ V.cell? ⟨lb, lo' + j * 11 + 2, none⟩ = some (.int .i64 xr) ∧ V.cell? ⟨lb, lo' + j * 11 + 3, none⟩ = some (.int .i64 xu) ∧ V.cell? ⟨lb, lo' + j * 11 + 4, none⟩ = some (.int .i64 xxp) ∧ V.cell? ⟨lb, lo' + j * 11 + 5, none⟩ = some (.int .i64 xxn) ∧ V.cell? ⟨lb, lo' + j * 11 + 6, none⟩ = some (.int .i64 xyp) ∧ V.cell? ⟨lb, lo' + j * 11 + 7, none⟩ = some (.int .i64 xyn) ∧ V.cell? ⟨lb, lo' + j * 11 + 8, none⟩ = some (.slice ia im ic) ∧ V.cell? ⟨lb, lo' + j * 11 + 9, none⟩ = some (.int .i64 xa) ∧ V.cell? ⟨lb, lo' + j * 11 + 10, none⟩ = some (.int .i64 xb)) ∧ RP lo hi V ia im ic xi) := fun V hV => ⟨⟨(hV.cell (p := ⟨lb, lo' + j * 11, none⟩) hlb').trans q0, (hV.cell (p := ⟨lb, lo' + j * 11 + 1, none⟩) hlb').trans q1, (hV.cell (p := ⟨lb, lo' + j * 11 + 2, none⟩) hlb').trans q2, (hV.cell (p := ⟨lb, lo' + j * 11 + 3, none⟩) hlb').trans q3, (hV.cell (p := ⟨lb, lo' + j * 11 + 4, none⟩) hlb').trans q4, (hV.cell (p := ⟨lb, lo' + j * 11 + 5, none⟩) hlb').trans q5, (hV.cell (p := ⟨lb, lo' + j * 11 + 6, none⟩) hlb').trans q6, (hV.cell (p := ⟨lb, lo' + j * 11 + 7, none⟩) hlb').trans q7, (hV.cell (p := ⟨lb, lo' + j * 11 + 8, none⟩) hlb').trans q8, (hV.cell (p := ⟨lb, lo' + j * 11 + 9, none⟩) hlb').trans q9, (hV.cell (p := ⟨lb, lo' + j * 11 + 10, none⟩) hlb').trans q10⟩, hrd.below hV hiW⟩
        obtain ⟨T, hT⟩ : ∃ T, T = clauseT xk xf xr xu xxp xxn xyp xyn xi xa xb := ⟨_, rfl⟩
        rw [← hT] at HSt HTl HTp HTb
        have HTe : Hid (clauseT xk xf xr xu xxp xxn xyp xyn xi xa xb = T) := hT.symm
        clear hrl hc hrd hx hOk hJ hT q0 q1 q2 q3 q4 q5 q6 q7 q8 q9 q10
        obtain ⟨⟨q0, q1, q2, q3, q4, q5, q6, q7, q8, q9, q10⟩, hrp⟩ := HQ.out _ HJ.out.bel
        have HRp : Hid (RP lo hi wr ia im ic xi ∧ hi ≤ wr.heap.size) := ⟨hrp, Nat.le_trans hiW HJ.out.bel.size⟩
        clear hrp
        go_wp2_with (first
          | (go_at_call 19; refine (l5text_any HRp.out.1 HRp.out.2 HOk.out).mono ?_; rintro e w7 ⟨vt, rfl, hd7, hb7⟩; rw [HTe.out] at hd7; have HT7 : Hid (Tx W w7 ou Y) := HJ.out.below hb7; obtain ⟨ga7, gc7, gb7, rfl, hgr7, hga7, _, _⟩ := hd7.form HTb.out; obtain rfl := hga7.resolve_left (by have := HTp.out; omega); have HN7 : Hid (∀ j u, (T.map (Value.int .u8))[j]? = some u → w7.cell? ((⟨gb7, 0, none⟩ : Addr).add j) = some u) := rd_news hgr7; clear hd7 hb7 hgr7)
          | (at_builtin; refine listZ _ rfl (.tmp 38) (.tmp 44) 28 rfl W.heap.size 5 i0 (.int .u8 0) 1 1 Tryz.underlying28 hi0 hz0 hz1 hz2 rfl (by decide) ou Y.length (Y.map (Value.int .u8)) rfl HT7.out.own ⟨gb7, 0, none⟩ T.length gc7 (T.map (Value.int .u8)) rfl (by simp) HN7.out (oneCB _) (by have := HYl.out; have := HTl.out; unfold maxLen; omega) (by have := HYl.out; have := HTl.out; omega) HT7.out.bel.size ?_; intro v8 w8 ho8 hg8 hn8; have HT8 : Hid (Tx W w8 v8 (Y ++ T)) := HT7.out.app ho8 hg8; clear ho8 hg8 hn8; obtain ⟨Z8, hZ8⟩ : ∃ Z8, Z8 = Y ++ T := ⟨_, rfl⟩; rw [← hZ8] at HT8 HSt; have HL8 : Hid (Z8.length ≤ 33505000) := (by have := HYl.out; have := HTl.out; rw [Hid, hZ8, List.length_append]; omega); clear hZ8)
          | (at_builtin; refine listZ _ rfl (.tmp 45) (.tmp 46) 28 rfl W.heap.size 5 i0 (.int .u8 0) 1 1 Tryz.underlying28 hi0 hz0 hz1 hz2 rfl (by decide) v8 Z8.length (Z8.map (Value.int .u8)) rfl (own_allocT HT8.out.own _) ⟨w8.heap.size, 0, none⟩ 1 1 [.int .u8 10] rfl rfl (cell_one_new _ _ _) (by simp [Value.oneCell']) (by have := HL8.out; unfold maxLen; omega) (by have := HL8.out; omega) (by have := HT8.out.bel.size; simp; omega) ?_; intro v9 w9 ho9 hg9 hn9; have HT9 : Hid (Tx W w9 v9 (Z8 ++ [10])) := (HT8.out.byte ho9 hg9).1; clear ho9 hg9 hn9; obtain ⟨Z9, hZ9⟩ : ∃ Z9, Z9 = Z8 ++ [10] := ⟨_, rfl⟩; rw [← hZ9] at HT9 HSt; have HL9 : Hid (Z9.length ≤ 33505010) := (by have := HL8.out; rw [Hid, hZ9, List.length_append]; simp only [List.length_cons, List.length_nil]; omega); clear hZ9)
          | fail)
        go_roundw
        case rel => exact ⟨j + 1, v9, by omega, by go_num, rfl, by rw [HSt.out]; exact HT9.out⟩
        case measure => simp [intOf]; omega
      · have hje : j = ln := by omega
        have hji : ¬ (j : Int) < (ln : Int) := by omega
        have HE : Hid (clsT s = Y) := by rw [Hid, HA.out, HY.out, hje]
        clear hje hJ
        go_wp2_with fail
        go_ret
        exact ⟨ou, rfl, by rw [HE.out]; exact ownB_low HJ.out.own hWs, HF.out _ HJ.out.bel⟩
end

end Go.Proofs.YtknainelonaigaaGreatDoor
