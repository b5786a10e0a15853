/- Several texts in one: HoldQ, NnfSem. -/
import Derived.Test.YtnmljalcndfjmaaGreatNG13
import Derived.Maps.AppendAt
import Derived.Test.YtnmljalcndfjmaaGreatConClone2
import Derived.Test.YtnmljalcndfjmaaGreatNG10
namespace Go.Proofs.YtnmljalcndfjmaaGreat

section
open Go.RowKit Go.Deep

theorem Tryz.infoClaim : (Tryz.prog.info? 80).map (fun i => (i.zero, i.size, i.bytes)) = some (some .nilIface, 1, 16) := by kernel_rfl
theorem Tryz.undInner : Tryz.prog.underlying 128 = some (.slice 80) := by kernel_rfl

def tyQ (k : Int) : Nat := if k = 0 then 130 else if k = 2 then 133 else if k = 3 then 134 else if k = 4 then 135 else if k = 5 then 136 else if k = 6 then 138 else if k = 7 then 141 else 142

/-- What a claim holds beside its kids. -/
def fieldsQ (k : Int) (kv nv rv : Value) : Value := if k = 2 then .agg #[kv, nv] else if k = 6 then .agg #[kv, rv] else if k = 7 then .agg #[kv, rv] else .agg #[kv]

/-- A claim's value reads as this concept; its own memory lies in blocks of P, its words in [lo, hi). -/
def RdQ (P : Nat → Prop) (lo hi : Nat) (w : World) : Nat → Value → CN → Prop
  | 0, _, _ => False
  | d + 1, v, c => ∃ ka kn kc na nn nc ra rn rc, v = .iface (tyQ c.kind) (fieldsQ c.kind (.slice ka kn kc) (.slice na nn nc) (.slice ra rn rc)) ∧ Rd lo hi w na nn nc c.name ∧ Rd lo hi w ra rn rc c.role ∧ c.kids.length = kn ∧ (kn ≤ kc ∧ kc ≤ 9223372036854775807) ∧
      (kn = 0 ∨ ∃ b, ka = some ⟨b, 0, none⟩ ∧ P b ∧ ∀ i, i < kn → ∃ u, w.cell? ⟨b, i, none⟩ = some u ∧ RdQ P lo hi w d u (c.kids.getD i CN.zero))

theorem RdQ.keep {P Q : Nat → Prop} {lo hi : Nat} {w w' : World} (hP : ∀ b, P b → Q b ∧ w'.heap[b]? = w.heap[b]?) (hs : Same lo hi w w') : ∀ {d : Nat} {v : Value} {c : CN}, RdQ P lo hi w d v c → RdQ Q lo hi w' d v c := by
  intro d
  induction d with
  | zero => intro v c h; exact h
  | succ d ih =>
    intro v c h
    obtain ⟨ka, kn, kc, na, nn, nc, ra, rn, rc, hv, h1, h2, h3, h4, h6⟩ := h
    refine ⟨ka, kn, kc, na, nn, nc, ra, rn, rc, hv, h1.same hs, h2.same hs, h3, h4, ?_⟩
    rcases h6 with h6 | ⟨b, e, hb, hc⟩
    · exact .inl h6
    · refine .inr ⟨b, e, (hP b hb).1, fun i hi' => ?_⟩
      obtain ⟨u, hu, hr⟩ := hc i hi'
      exact ⟨u, by rw [World.cell?_of_block (w := w) (by exact (hP b hb).2)]; exact hu, ih hr⟩

theorem RdQ.iface {P : Nat → Prop} {lo hi : Nat} {w : World} {d : Nat} {v : Value} {c : CN} (h : RdQ P lo hi w d v c) : ∃ t z, v = .iface t z := by
  cases d with
  | zero => exact h.elim
  | succ d =>
    obtain ⟨ka, kn, kc, na, nn, nc, ra, rn, rc, hv, _⟩ := h
    exact ⟨_, _, hv⟩

/-- Claims in a row of the call's own. -/
structure RowQ (base lo hi : Nat) (w : World) (d : Nat) (v : Value) (cs : List CN) (us : List Value) : Prop where
  row : w.ownsRow base 80 1 v cs.length us
  kid : ∀ i, i < cs.length → ∃ u, us[i]? = some u ∧ RdQ (fun b => base ≤ b ∧ b < w.heap.size ∧ v.ownBlock ≠ some b) lo hi w d u (cs.getD i CN.zero)

theorem RowQ.nil (base lo hi : Nat) (w : World) (d : Nat) : RowQ base lo hi w d (.slice none 0 0) [] [] := ⟨World.ownsRow_nil _ _ _ _, fun i hi' => by simp at hi'⟩

theorem RowQ.below {base lo hi : Nat} {w w' : World} {d : Nat} {v : Value} {cs : List CN} {us : List Value} (h : RowQ base lo hi w d v cs us) (hb : Below w.heap.size w w') (hh : hi ≤ w.heap.size) : RowQ base lo hi w' d v cs us := by
  obtain ⟨⟨r1, r2⟩, hk⟩ := h
  refine ⟨⟨r1, ?_⟩, fun i hi' => ?_⟩
  · rcases r2 with r2 | ⟨g, cap, cur, hv, hg, hh', r⟩
    · exact .inl r2
    · exact .inr ⟨g, cap, cur, hv, hg, by rw [hb.block g (Array.getElem?_eq_some_iff.1 hh').1]; exact hh', r⟩
  · obtain ⟨u, hu, hr⟩ := hk i hi'
    exact ⟨u, hu, hr.keep (fun b hb' => ⟨⟨hb'.1, Nat.lt_of_lt_of_le hb'.2.1 hb.size, hb'.2.2⟩, hb.block b hb'.2.1⟩) (Same.of_below hb hh)⟩

theorem RowQ.snoc {base lo hi : Nat} {w W w6 : World} {d : Nat} {v v' u : Value} {c : CN} {cs : List CN} {us : List Value} (h : RowQ base lo hi w d v cs us) (hW : Below w.heap.size w W) (hq : RdQ (fun b => w.heap.size ≤ b ∧ b < W.heap.size) lo hi W d u c) (hbase : base ≤ w.heap.size) (hh : hi ≤ base)
    (hown : w6.ownsRow base 80 1 v' (cs.length + 1) (us ++ [u])) (hgrow : W.grownBy w6 v.ownBlock) (hat : v'.ownBlock = v.ownBlock ∨ v'.ownBlock = some W.heap.size) : RowQ base lo hi w6 d v' (cs ++ [c]) (us ++ [u]) := by
  have hlt := h.row.lt
  have hs := hW.size
  have hs6 := hgrow.size
  have hl : us.length = cs.length := by have := h.row.1; omega
  have hsame : Same lo hi W w6 := fun b h1 h2 => hgrow.block b (by omega) (fun e => by have := (hlt b e.symm).1; omega)
  refine ⟨by simpa using hown, fun i hi' => ?_⟩
  simp only [List.length_append, List.length_cons, List.length_nil] at hi'
  by_cases e : i < cs.length
  · obtain ⟨u', hu, hr⟩ := h.kid i e
    refine ⟨u', by rw [List.getElem?_append_left (by omega)]; exact hu, ?_⟩
    rw [show (cs ++ [c]).getD i CN.zero = cs.getD i CN.zero from by rw [List.getD, List.getElem?_append_left e, List.getD]]
    refine hr.keep (fun b hb => ⟨⟨hb.1, by omega, ?_⟩, (hgrow.block b (by omega) (fun e => hb.2.2 e.symm)).trans (hW.block b hb.2.1)⟩) (fun b h1 h2 => (hsame b h1 h2).trans (hW.block b (by omega)))
    rcases hat with e' | e'
    · rw [e']; exact hb.2.2
    · rw [e']; intro e''; simp only [Option.some.injEq] at e''; omega
  · obtain rfl : i = cs.length := by omega
    refine ⟨u, by rw [← hl]; simp, ?_⟩
    rw [show (cs ++ [c]).getD cs.length CN.zero = c from by simp [List.getD]]
    refine hq.keep (fun b hb => ⟨⟨by omega, by omega, ?_⟩, hgrow.block b hb.2 (fun e => by have := (hlt b e.symm).2; omega)⟩) hsame
    rcases hat with e' | e'
    · rw [e']; intro e''; have := (hlt b e'').2; omega
    · rw [e']; intro e''; simp only [Option.some.injEq] at e''; omega

theorem RowQ.slice {base lo hi : Nat} {w : World} {d : Nat} {v : Value} {cs : List CN} {us : List Value} (h : RowQ base lo hi w d v cs us) : ∃ ka kc, v = .slice ka cs.length kc ∧ (cs.length ≤ kc ∧ kc ≤ 9223372036854775807) ∧ (cs.length = 0 ∨ ∃ b, ka = some ⟨b, 0, none⟩ ∧ (base ≤ b ∧ b < w.heap.size) ∧ ∀ i, i < cs.length → ∃ u, w.cell? ⟨b, i, none⟩ = some u ∧ RdQ (fun b => base ≤ b ∧ b < w.heap.size) lo hi w d u (cs.getD i CN.zero)) := by
  have hrow := h.row
  rcases h.row.2 with ⟨hv, h0⟩ | ⟨g, cap, cur, hv, hg, hb, hn, hc, _, _⟩
  · exact ⟨none, 0, by rw [hv, h0], ⟨by omega, by omega⟩, .inl h0⟩
  · subst hv
    unfold maxLen at hc
    refine ⟨_, cap, rfl, ⟨hn, hc⟩, .inr ⟨g, rfl, ⟨hg, (Array.getElem?_eq_some_iff.1 hb).1⟩, fun i hi' => ?_⟩⟩
    obtain ⟨u, hu, hr⟩ := h.kid i hi'
    refine ⟨u, ?_, hr.keep (fun b hb => ⟨⟨hb.1, hb.2.1⟩, rfl⟩) (fun _ _ _ => rfl)⟩
    have h1 := h.row.1
    have := hrow.cellAt i (by omega)
    rw [this]
    exact hu

theorem RdQ.make {base lo hi : Nat} {w : World} {d : Nat} {v : Value} {c : CN} {us : List Value} {B : Nat} (h : RowQ base lo hi w d v c.kids us) (hB : B ≤ base) {na ra : Option Addr} {nn nc rn rc : Nat} (hn : Rd lo hi w na nn nc c.name) (hr : Rd lo hi w ra rn rc c.role) : RdQ (fun b => B ≤ b ∧ b < w.heap.size) lo hi w (d + 1) (.iface (tyQ c.kind) (fieldsQ c.kind v (.slice na nn nc) (.slice ra rn rc))) c := by
  obtain ⟨ka, kc, rfl, hf, hc⟩ := h.slice
  refine ⟨ka, c.kids.length, kc, na, nn, nc, ra, rn, rc, rfl, hn, hr, rfl, hf, ?_⟩
  rcases hc with hc | ⟨b, e, hb, hc⟩
  · exact .inl hc
  · refine .inr ⟨b, e, ⟨by omega, hb.2⟩, fun i hi' => ?_⟩
    obtain ⟨u, hu, hr'⟩ := hc i hi'
    exact ⟨u, hu, hr'.keep (fun b hb => ⟨⟨by omega, hb.2⟩, rfl⟩) (fun _ _ _ => rfl)⟩

def CqP (d : Nat) : Prop := ∀ (v : Value) (c : CN) (w : World) (lo hi : Nat), RdC lo hi w d v c → hi ≤ w.heap.size → wfC c = true →
  Calls Tryz.prog 44 #[v] w fun e w' => ∃ v', e = .returned v' ∧ RdQ (fun b => w.heap.size ≤ b ∧ b < w'.heap.size) lo hi w' d v' c ∧ Below w.heap.size w w'

set_option maxRecDepth 100000 in
set_option maxHeartbeats 4000000 in
theorem cqP_of {d : Nat} (H : ∀ d', d = d' + 1 → CqP d') : CqP d := by
  intro v c w lo hi h hhi hwf
  cases d with
  | zero => exact h.elim
  | succ d =>
    have HH : Hid (CqP d) := H d rfl
    obtain ⟨cna, cnn, cnc, cra, crn, crc, cka, ckn, ckc, rfl, hnm, hrl, hks⟩ := h
    obtain ⟨hkl, hwk, hk0, hk7⟩ := wf_kids hwf
    obtain ⟨k, hk⟩ : ∃ k, k = c.kind := ⟨_, rfl⟩
    rw [← hk] at hkl hk0 hk7 ⊢
    have HK : Hid (k = c.kind) := hk
    have HKl : Hid (c.kids.length = ckn) := hks.len
    have hk2 : ckn ≤ 2 := by
      have h1 := hks.len
      have : kidN k ≤ 2 := by unfold kidN; repeat' split <;> try omega
      omega
    obtain ⟨W0, hW0⟩ : ∃ W0, W0 = w.alloc (.cells #[.int .i64 k, .slice cna cnn cnc, .slice cra crn crc, .slice cka ckn ckc] 30) := ⟨_, rfl⟩
    have HW0 : Hid (W0 = w.alloc (.cells #[.int .i64 k, .slice cna cnn cnc, .slice cra crn crc, .slice cka ckn ckc] 30)) := hW0
    have hs0 : w.heap.size < W0.heap.size := by rw [hW0]; simp
    have hb0 : Below w.heap.size w W0 := by rw [hW0]; exact (Below.refl _ _).alloc (Nat.le_refl _) _
    have hby : BoxC W0 w.heap.size (.int .i64 k) (.slice cna cnn cnc) (.slice cra crn crc) (.slice cka ckn ckc) := by rw [hW0]; exact BoxC.new w _ _ _ _
    have HB0 : Hid (Below w.heap.size w W0) := hb0
    have HBy : Hid (BoxC W0 w.heap.size (.int .i64 k) (.slice cna cnn cnc) (.slice cra crn crc) (.slice cka ckn ckc)) := hby
    have HWk : Hid (wfL c.kids = true) := hwk
    have HNm : Hid (∀ V, Below W0.heap.size W0 V → Rd lo hi V cna cnn cnc c.name ∧ Rd lo hi V cra crn crc c.role) := fun V hV => ⟨(hnm.below hb0 hhi).below hV (by omega), (hrl.below hb0 hhi).below hV (by omega)⟩
    have HKs : Hid (RdL (RdC lo hi W0 d) lo hi W0 cka ckn ckc c.kids) := hks.below hb0 hhi
    have HFin : Hid (∀ {V : World} {us : List Value} {u : Value}, RowQ W0.heap.size lo hi V d u c.kids us → Below W0.heap.size W0 V → RdQ (fun b => w.heap.size ≤ b ∧ b < V.heap.size) lo hi V (d + 1) (.iface (tyQ k) (fieldsQ k u (.slice cna cnn cnc) (.slice cra crn crc))) c ∧ Below w.heap.size w V) := fun {V us u} hr hV => ⟨by rw [hk]; exact RdQ.make hr (by omega) (HNm.out V hV).1 (HNm.out V hV).2, hb0.trans (hV.mono (by omega))⟩
    have hfk := hks.fits
    obtain ⟨i0, hi0, hz0, hz1, hz2⟩ := info_parts Tryz.infoClaim
    obtain ⟨b0, b1, b2, b3⟩ := hby.cells
    clear hnm hrl hks hb0 hby hW0 hwk hwf H hk
    go_enter Tryz.func44, Tryz.ntmps44
    go_upto_region 1 with fail
    rw [← HW0.out]
    go_wp2_with fail
    go_loopw [3, 9] (fun l i wr => ∃ (j : Nat) (ov : Value) (us : List Value), j ≤ ckn ∧ i = .int .i64 j ∧ ov = l ∧ RowQ W0.heap.size lo hi wr d ov (c.kids.take j) us ∧ Below W0.heap.size W0 wr) (fun _ i _ => ckn - (intOf i).toNat)
    case atStart => exact ⟨0, _, [], Nat.zero_le _, rfl, rfl, RowQ.nil _ _ _ _ _, Below.refl _ _⟩
    case round =>
      obtain ⟨j, ov, us, hj, rfl, rfl, hrow, hbel⟩ := hrel
      have HR : Hid (RowQ W0.heap.size lo hi wr d ov (c.kids.take j) us) := hrow
      have HB : Hid (Below W0.heap.size W0 wr) := hbel
      have hsr := hbel.size
      clear b0 b1 b2 b3
      obtain ⟨b0, b1, b2, b3⟩ := (HBy.out.below hbel hs0).cells
      by_cases hlt : j < ckn
      · have hjl : j < c.kids.length := by rw [HKl.out]; exact hlt
        have hji : (j : Int) < (ckn : Int) := by omega
        have HTs : Hid (c.kids.take (j + 1) = c.kids.take j ++ [c.kids.getD j CN.zero]) := take_succ_getD _ _ _ hjl
        have HTl : Hid ((c.kids.take j).length = j) := by unfold Hid; rw [List.length_take]; omega
        rcases (HKs.out.below hbel (by omega)).cells with hz | ⟨kb, ko, e1, _, hblt, hc⟩
        · omega
        · subst e1
          obtain ⟨v0, v1, v2, v3, q0, q1, q2, q3, hrd⟩ := hc j hlt
          obtain ⟨yk, yna, ynn, ync, yra, yrn, yrc, yka, ykn, ykc, rfl, rfl, rfl, rfl⟩ := hrd.sh.form
          obtain ⟨W2, hW2⟩ : ∃ W, W = wr.alloc (.cells #[.int .i64 yk, .slice yna ynn ync, .slice yra yrn yrc, .slice yka ykn ykc] 30) := ⟨_, rfl⟩
          have HW2 : Hid (W2 = wr.alloc (.cells #[.int .i64 yk, .slice yna ynn ync, .slice yra yrn yrc, .slice yka ykn ykc] 30)) := hW2
          have hb2 : Below wr.heap.size wr W2 := by rw [hW2]; exact (Below.refl _ _).alloc (Nat.le_refl _) _
          have HB2 : Hid (Below wr.heap.size wr W2) := hb2
          have hs2 : wr.heap.size < W2.heap.size := by rw [hW2]; simp
          have hbz : BoxC W2 wr.heap.size (.int .i64 yk) (.slice yna ynn ync) (.slice yra yrn yrc) (.slice yka ykn ykc) := by rw [hW2]; exact BoxC.new wr _ _ _ _
          have HRd : Hid (RdC lo hi W2 d (.agg #[.int .i64 yk, .slice yna ynn ync, .slice yra yrn yrc, .slice yka ykn ykc]) (c.kids.getD j CN.zero)) := hrd.below hb2 (by omega)
          have HWf : Hid (wfC (c.kids.getD j CN.zero) = true) := wfL_getD _ _ hjl HWk.out
          obtain ⟨p0, p1, p2, p3⟩ := hbz.cells
          have hkw : kb < wr.heap.size := by omega
          clear hc hrd hrow hbel hW2 hb2 hbz
          go_upto_region 5 with fail
          rw [← HW2.out]
          go_wp2_with fail
          refine (HH.out _ _ W2 lo hi HRd.out (by omega) HWf.out).mono ?_
          rintro e w5 ⟨v5, rfl, hq5, hb5⟩
          obtain ⟨qt, qz, rfl⟩ := hq5.iface
          obtain ⟨Wn, hWn⟩ : ∃ W, W = w5.alloc (.cells #[.iface qt qz] 80) := ⟨_, rfl⟩
          have hbn : Below w5.heap.size w5 Wn := by rw [hWn]; exact (Below.refl _ _).alloc (Nat.le_refl _) _
          have HBn : Hid (Below wr.heap.size wr Wn) := HB2.out.trans ((hb5.trans (hbn.mono hb5.size)).mono HB2.out.size)
          have HQn : Hid (RdQ (fun b => wr.heap.size ≤ b ∧ b < Wn.heap.size) lo hi Wn d (.iface qt qz) (c.kids.getD j CN.zero)) := hq5.keep (fun b hb => ⟨⟨by omega, Nat.lt_of_lt_of_le hb.2 hbn.size⟩, hbn.block b hb.2⟩) (Same.of_below hbn (by have := hb5.size; omega))
          have HOwn : Hid (Wn.ownsRow W0.heap.size 80 1 ov j us) := by have := (HR.out.below HBn.out (by omega)).row; rw [HTl.out] at this; exact this
          have hsn : W0.heap.size ≤ Wn.heap.size := Nat.le_trans hsr HBn.out.size
          have HFs : Hid (∀ {w6 : World} {v' : Value}, w6.ownsRow W0.heap.size 80 1 v' (j + 1) (us ++ [.iface qt qz]) → Wn.grownBy w6 ov.ownBlock → (v'.ownBlock = ov.ownBlock ∨ v'.ownBlock = some Wn.heap.size) → RowQ W0.heap.size lo hi w6 d v' (c.kids.take (j + 1)) (us ++ [.iface qt qz]) ∧ Below W0.heap.size W0 w6) := by
            intro w6 v' hown hgrow hat
            refine ⟨?_, (HB.out.trans (HBn.out.mono hsr)).grown hgrow hsn (fun g hg => (HOwn.out.lt g hg).1)⟩
            rw [HTs.out]
            exact RowQ.snoc HR.out HBn.out HQn.out hsr (by omega) (by rw [HTl.out]; exact hown) hgrow hat
          subst hWn
          clear hq5 hb5 hbn q0 q1 q2 q3 p0 p1 p2 p3
          go_wp2_with (at_builtin; refine wpList_append_own_at _ rfl (.tmp 13) (.tmp 16) 128 rfl W0.heap.size 80 i0 .nilIface 1 16 Tryz.undInner hi0 hz0 hz1 hz2 rfl (by decide) ov j us rfl HOwn.out ⟨w5.heap.size, 0, none⟩ 1 1 [.iface qt qz] rfl rfl (cell_one_new _ _ _) (by simp [Value.oneCell']) (by unfold maxLen; omega) (by omega) hsn ?_; intro v' w6 hown hgrow hnil hat; have HN : Hid (RowQ W0.heap.size lo hi w6 d v' (c.kids.take (j + 1)) (us ++ [.iface qt qz]) ∧ Below W0.heap.size W0 w6) := HFs.out hown hgrow hat; clear hown hgrow hnil hat)
          go_roundw
          case rel => exact ⟨j + 1, _, _, by omega, by go_num, rfl, HN.out⟩
          case measure => simp [intOf]; omega
      · have HTk : Hid (c.kids.take j = c.kids) := List.take_of_length_le (by rw [HKl.out]; omega)
        have HEnd : Hid (RdQ (fun b => w.heap.size ≤ b ∧ b < wr.heap.size) lo hi wr (d + 1) (.iface (tyQ k) (fieldsQ k ov (.slice cna cnn cnc) (.slice cra crn crc))) c ∧ Below w.heap.size w wr) := HFin.out (us := us) (by have := HR.out; rwa [HTk.out] at this) HB.out
        obtain ⟨oa, ol, oc, hov⟩ : ∃ oa ol oc, ov = .slice oa ol oc := by obtain ⟨ka, kc, hv, _⟩ := hrow.slice; exact ⟨_, _, _, hv⟩
        subst hov
        clear hrow hbel
        rcases (show k = 0 ∨ k = 1 ∨ k = 2 ∨ k = 3 ∨ k = 4 ∨ k = 5 ∨ k = 6 ∨ k = 7 by omega) with e0 | e0 | e0 | e0 | e0 | e0 | e0 | e0
        all_goals
          subst e0
          go_wp2_with fail
          go_ret
          exact ⟨_, rfl, HEnd.out⟩

theorem claimOf_any : ∀ d, CqP d
  | 0 => cqP_of (fun d' h => by omega)
  | d + 1 => cqP_of (fun d' h => by obtain rfl : d = d' := (by omega); exact claimOf_any d)
end

section
open Go.RowKit

theorem kid_len {k : Int} {n r : List Int} {ks : List CN} (h : wfC (.mk k n r ks) = true) : (ks.length : Int) = kidN k ∧ wfL ks = true ∧ 0 ≤ k ∧ k ≤ 7 := wf_kids h

theorem kind_cases {k : Int} (h0 : 0 ≤ k) (h7 : k ≤ 7) : k = 0 ∨ k = 1 ∨ k = 2 ∨ k = 3 ∨ k = 4 ∨ k = 5 ∨ k = 6 ∨ k = 7 := by omega

theorem list_len1 {α : Type} {l : List α} (h : (l.length : Int) = 1) : ∃ a, l = [a] := by
  match l, h with
  | [a], _ => exact ⟨a, rfl⟩
  | [], h => simp at h
  | _ :: _ :: _, h => simp at h; omega
theorem list_len2 {α : Type} {l : List α} (h : (l.length : Int) = 2) : ∃ a b, l = [a, b] := by
  match l, h with
  | [a, b], _ => exact ⟨a, b, rfl⟩
  | [], h => simp at h
  | [_], h => simp at h
  | _ :: _ :: _ :: _, h => simp at h; omega
theorem list_len0 {α : Type} {l : List α} (h : (l.length : Int) = 0) : l = [] := by
  match l, h with
  | [], _ => rfl
  | _ :: _, h => simp at h; omega

theorem any_xor {L : Nat} {f g : Nat → Bool} : (List.range L).all (fun y => !(f y) || !(g y)) = !(List.range L).any (fun y => f y && g y) := by
  rw [List.not_any_eq_all_not]
  congr 1
  funext y
  cases f y <;> cases g y <;> rfl
theorem all_xor {L : Nat} {f g : Nat → Bool} : (List.range L).any (fun y => f y && !(g y)) = !(List.range L).all (fun y => !(f y) || g y) := by
  rw [List.not_all_eq_any_not]
  congr 1
  funext y
  cases f y <;> cases g y <;> rfl

mutual
theorem hold_nnf (x : WD) (L : Nat) : ∀ (c : CN) (no : Bool) (e : Nat), wfC c = true → holdC x L (nnfC no c) e = (holdC x L c e ^^ no)
  | .mk k n r ks, no, e, h => by
    obtain ⟨hl, hw, h0, h7⟩ := kid_len h
    have ih := fun no i e => hold_nnfK x L ks no i e hw
    rcases kind_cases h0 h7 with rfl | rfl | rfl | rfl | rfl | rfl | rfl | rfl
    · rw [nnfC, if_neg (by decide), if_neg (by decide), holdC_eq, holdC_eq]
      cases no <;> rfl
    · rw [nnfC, if_neg (by decide), if_neg (by decide), holdC_eq, holdC_eq]
      cases no <;> rfl
    · rw [nnfC, if_neg (by decide), if_pos rfl]
      cases no
      · simp
      · rw [if_pos rfl, holdC_eq]
        show (!(holdK x L [CN.mk 2 n r ks] 0 e)) = _
        rw [holdK]
        simp
    · obtain ⟨a, rfl⟩ := list_len1 (l := ks) (by rw [hl]; rfl)
      have h1 := ih (!no) 0 e (by simp)
      rw [nnfL, holdK, holdK] at h1
      rw [nnfC, if_pos rfl, nnfH, h1, holdC_eq x L (CN.mk 3 n r [a])]
      show _ = ((!(holdK x L [a] 0 e)) ^^ no)
      rw [holdK]
      cases holdC x L a e <;> cases no <;> rfl
    · obtain ⟨a, b, rfl⟩ := list_len2 (l := ks) (by rw [hl]; rfl)
      have h1 := ih no 0 e (by simp)
      have h2 := ih no 1 e (by simp)
      rw [nnfC, if_neg (by decide), if_neg (by decide), holdC_eq, holdC_eq x L (CN.mk 4 n r [a, b])]
      cases no
      · show (holdK x L (nnfL false [a, b]) 0 e && holdK x L (nnfL false [a, b]) 1 e) = ((holdK x L [a, b] 0 e && holdK x L [a, b] 1 e) ^^ false)
        rw [h1, h2]; simp
      · show (holdK x L (nnfL true [a, b]) 0 e || holdK x L (nnfL true [a, b]) 1 e) = ((holdK x L [a, b] 0 e && holdK x L [a, b] 1 e) ^^ true)
        rw [h1, h2]; cases holdK x L [a, b] 0 e <;> cases holdK x L [a, b] 1 e <;> rfl
    · obtain ⟨a, b, rfl⟩ := list_len2 (l := ks) (by rw [hl]; rfl)
      have h1 := ih no 0 e (by simp)
      have h2 := ih no 1 e (by simp)
      rw [nnfC, if_neg (by decide), if_neg (by decide), holdC_eq, holdC_eq x L (CN.mk 5 n r [a, b])]
      cases no
      · show (holdK x L (nnfL false [a, b]) 0 e || holdK x L (nnfL false [a, b]) 1 e) = ((holdK x L [a, b] 0 e || holdK x L [a, b] 1 e) ^^ false)
        rw [h1, h2]; simp
      · show (holdK x L (nnfL true [a, b]) 0 e && holdK x L (nnfL true [a, b]) 1 e) = ((holdK x L [a, b] 0 e || holdK x L [a, b] 1 e) ^^ true)
        rw [h1, h2]; cases holdK x L [a, b] 0 e <;> cases holdK x L [a, b] 1 e <;> rfl
    · obtain ⟨a, rfl⟩ := list_len1 (l := ks) (by rw [hl]; rfl)
      have h1 := fun y => ih no 0 y (by simp)
      rw [nnfC, if_neg (by decide), if_neg (by decide), holdC_eq, holdC_eq x L (CN.mk 6 n r [a])]
      cases no
      · show (List.range L).any (fun y => relO x r e y L && holdK x L (nnfL false [a]) 0 y) = ((List.range L).any (fun y => relO x r e y L && holdK x L [a] 0 y) ^^ false)
        simp only [h1, Bool.xor_false]
      · show (List.range L).all (fun y => !(relO x r e y L) || holdK x L (nnfL true [a]) 0 y) = ((List.range L).any (fun y => relO x r e y L && holdK x L [a] 0 y) ^^ true)
        simp only [h1, Bool.xor_true]
        exact any_xor
    · obtain ⟨a, rfl⟩ := list_len1 (l := ks) (by rw [hl]; rfl)
      have h1 := fun y => ih no 0 y (by simp)
      rw [nnfC, if_neg (by decide), if_neg (by decide), holdC_eq, holdC_eq x L (CN.mk 7 n r [a])]
      cases no
      · show (List.range L).all (fun y => !(relO x r e y L) || holdK x L (nnfL false [a]) 0 y) = ((List.range L).all (fun y => !(relO x r e y L) || holdK x L [a] 0 y) ^^ false)
        simp only [h1, Bool.xor_false]
      · show (List.range L).any (fun y => relO x r e y L && holdK x L (nnfL true [a]) 0 y) = ((List.range L).all (fun y => !(relO x r e y L) || holdK x L [a] 0 y) ^^ true)
        simp only [h1, Bool.xor_true]
        exact all_xor
theorem hold_nnfK (x : WD) (L : Nat) : ∀ (cs : List CN) (no : Bool) (i e : Nat), wfL cs = true → i < cs.length → holdK x L (nnfL no cs) i e = (holdK x L cs i e ^^ no)
  | [], _, _, _, _, hi => by simp at hi
  | c :: cs, no, 0, e, h, _ => by
    rw [wfL, Bool.and_eq_true] at h
    rw [nnfL, holdK, holdK]
    exact hold_nnf x L c no e h.1
  | c :: cs, no, i + 1, e, h, hi => by
    rw [wfL, Bool.and_eq_true] at h
    rw [nnfL, holdK, holdK]
    exact hold_nnfK x L cs no i e h.2 (by simpa using hi)
end

def headName : List CN → Bool
  | [] => false
  | a :: _ => decide (a.kind = 2)
mutual
def simpleC : CN → Bool
  | .mk k _ _ ks => (!(decide (k = 3)) || headName ks) && simpleL ks
def simpleL : List CN → Bool
  | [] => true
  | c :: cs => simpleC c && simpleL cs
end

theorem simpleC_eq (c : CN) : simpleC c = ((!(decide (c.kind = 3)) || headName c.kids) && simpleL c.kids) := by cases c; rw [simpleC]; rfl
theorem simpleL_getD : ∀ (cs : List CN) (i : Nat), i < cs.length → simpleL cs = true → simpleC (cs.getD i CN.zero) = true
  | [], _, h, _ => by simp at h
  | c :: cs, 0, _, h => by rw [simpleL, Bool.and_eq_true] at h; exact h.1
  | c :: cs, i + 1, hi, h => by rw [simpleL, Bool.and_eq_true] at h; exact simpleL_getD cs i (by simpa using hi) h.2
theorem simple_head {c : CN} (h : simpleC c = true) (h3 : c.kind = 3) : 0 < c.kids.length ∧ (c.kids.getD 0 CN.zero).kind = 2 := by
  rw [simpleC_eq, Bool.and_eq_true, Bool.or_eq_true] at h
  rcases h.1 with q | q
  · simp [h3] at q
  · cases e : c.kids with
    | nil => rw [e] at q; cases q
    | cons a t => rw [e] at q; exact ⟨by simp, by simpa [headName] using q⟩

mutual
theorem simple_nnf : ∀ (c : CN) (no : Bool), wfC c = true → simpleC (nnfC no c) = true
  | .mk k n r ks, no, h => by
    obtain ⟨hl, hw, h0, h7⟩ := kid_len h
    have ih := simple_nnfL ks
    by_cases h3 : k = 3
    · subst h3
      obtain ⟨a, rfl⟩ := list_len1 (l := ks) (by rw [hl]; rfl)
      have h1 := ih (!no) hw
      rw [nnfL, simpleL, Bool.and_eq_true] at h1
      rw [nnfC, if_pos rfl, nnfH]
      exact h1.1
    · by_cases h2 : k = 2
      · subst h2
        have hk : ks = [] := list_len0 (by rw [hl]; rfl)
        subst hk
        rw [nnfC, if_neg (by decide), if_pos rfl]
        cases no
        · rw [if_neg (by decide)]; simp [simpleC, simpleL]
        · rw [if_pos rfl]; simp [simpleC, simpleL, headName, CN.kind]
      · rw [nnfC, if_neg h3, if_neg h2, simpleC, ih no hw, Bool.and_true, Bool.or_eq_true]
        left
        have : (if no = true then otherK k else k) ≠ 3 := by
          unfold otherK
          rcases kind_cases h0 h7 with rfl | rfl | rfl | rfl | rfl | rfl | rfl | rfl <;> cases no <;> simp_all
        simpa using this
theorem simple_nnfL : ∀ (cs : List CN) (no : Bool), wfL cs = true → simpleL (nnfL no cs) = true
  | [], _, _ => by rw [nnfL, simpleL]
  | c :: cs, no, h => by
    rw [wfL, Bool.and_eq_true] at h
    rw [nnfL, simpleL, Bool.and_eq_true]
    exact ⟨simple_nnf c no h.1, simple_nnfL cs no h.2⟩
end
end

end Go.Proofs.YtnmljalcndfjmaaGreat
