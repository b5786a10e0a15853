/- spec.l2put: a concept put behind others, if it is not among them. -/
import Derived.Test.YtfbokljbmihlbaaConSubs1
import Derived.Test.YtfbokljbmihlbaaConClone2
namespace Go.Proofs.Ytfbokljbmihlbaa
open Go.RowKit

def amongC (l : List CN) (c : CN) : Bool := l.any (fun x => sameC x c)
def putN (l : List CN) (c : CN) : List CN := if amongC l c = true then l else l ++ [c]

theorem among_take_succ (l : List CN) (c : CN) (j : Nat) (h : j < l.length) : amongC (l.take (j + 1)) c = (amongC (l.take j) c || sameC (l.getD j CN.zero) c) := by
  unfold amongC
  rw [take_succ_getD l CN.zero j h, List.any_append]
  simp

theorem among_of {l : List CN} {c : CN} {j : Nat} (h : j < l.length) (e : sameC (l.getD j CN.zero) c = true) : amongC l c = true := by
  unfold amongC
  rw [List.any_eq_true]
  refine ⟨l.getD j CN.zero, ?_, e⟩
  simp only [List.getD, List.getElem?_eq_getElem h, Option.getD_some]
  exact List.getElem_mem h

/-- Only the list's own block was turned; the list lies where it lay, or in a new block. -/
structure GR (w w' : World) (u u' : Value) : Prop where
  grown : w.grownBy w' u.ownBlock
  at' : u'.ownBlock = u.ownBlock ∨ ∃ g, u'.ownBlock = some g ∧ w.heap.size ≤ g

theorem GR.of_below {w w' : World} (u : Value) (h : Below w.heap.size w w') : GR w w' u u := ⟨⟨h.os, h.tape, h.output, h.size, fun k hk _ => h.block k hk⟩, .inl rfl⟩

theorem GR.trans {w w1 w2 : World} {u u1 u2 : Value} (h : GR w w1 u u1) (k : GR w1 w2 u1 u2) : GR w w2 u u2 := by
  have hs := h.grown.size
  refine ⟨⟨k.grown.os.trans h.grown.os, k.grown.tape.trans h.grown.tape, k.grown.output.trans h.grown.output, Nat.le_trans hs k.grown.size, fun b hb hne => ?_⟩, ?_⟩
  · refine (k.grown.block b (by omega) (fun e => ?_)).trans (h.grown.block b hb hne)
    rcases h.at' with e1 | ⟨g, e1, hg⟩
    · exact hne (by rw [e, e1])
    · rw [e1] at e
      simp only [Option.some.injEq] at e
      omega
  · rcases k.at' with e1 | ⟨g, e1, hg⟩
    · rcases h.at' with e2 | ⟨g, e2, hg⟩
      · exact .inl (by rw [e1, e2])
      · exact .inr ⟨g, by rw [e1, e2], hg⟩
    · exact .inr ⟨g, e1, by omega⟩

/-- A list of the model's own whose members lie below hi. -/
structure RowS (BW hi : Nat) (w : World) (d : Nat) (u : Value) (cs : List CN) (Ls : List (List (Addr × IntKind))) (xs : List Value) : Prop where
  row : RowK BW w d u cs Ls xs
  lay : ∀ x ∈ Ls.flatten, x.1.block < hi

theorem RowS.nil (BW hi : Nat) (w : World) (d : Nat) : RowS BW hi w d (.slice none 0 0) [] [] [] := ⟨RowK.nil _ _ _, fun x hx => by simp at hx⟩
theorem RowS.below {BW hi : Nat} {w w' : World} {d : Nat} {u : Value} {cs : List CN} {Ls : List (List (Addr × IntKind))} {xs : List Value} (h : RowS BW hi w d u cs Ls xs) (hb : Below w.heap.size w w') : RowS BW hi w' d u cs Ls xs := ⟨h.row.below hb, h.lay⟩

/-- Its value, and what each member reads as. -/
theorem RowS.form {BW hi : Nat} {w : World} {d : Nat} {u : Value} {cs : List CN} {Ls : List (List (Addr × IntKind))} {xs : List Value} (h : RowS BW hi w d u cs Ls xs) :
    ∃ a cap b, u = .slice a cs.length cap ∧ (cs.length ≤ cap ∧ cap ≤ 9223372036854775807) ∧ (cs.length = 0 ∨ (a = some ⟨b, 0, none⟩ ∧ b < w.heap.size ∧ ∀ i, i < cs.length → ∃ v0 v1 v2 v3, w.cell? ⟨b, 0 + i * 4, none⟩ = some v0 ∧ w.cell? ⟨b, 0 + i * 4 + 1, none⟩ = some v1 ∧ w.cell? ⟨b, 0 + i * 4 + 2, none⟩ = some v2 ∧ w.cell? ⟨b, 0 + i * 4 + 3, none⟩ = some v3 ∧ RdC 0 hi w d (.agg #[v0, v1, v2, v3]) (cs.getD i CN.zero))) := by
  obtain ⟨a, cap, b, hv, ⟨_, hf, hc⟩, hb⟩ := h.row.owL
  refine ⟨a, cap, b, hv, hf, ?_⟩
  rcases hc with e | ⟨e, hc⟩
  · exact .inl e
  · rcases hb with e' | ⟨_, _, hlt, _⟩
    · exact .inl e'
    · refine .inr ⟨e, hlt, fun i hi' => ?_⟩
      obtain ⟨v0, v1, v2, v3, c0, c1, c2, c3, hr⟩ := hc i hi'
      exact ⟨v0, v1, v2, v3, c0, c1, c2, c3, hr.rd (fun x hx => ⟨Nat.zero_le _, h.lay x (getD_mem_flatten hx)⟩)⟩

theorem putS {BW hi d : Nat} {w W w6 : World} {u v' : Value} {cs : List CN} {Ls : List (List (Addr × IntKind))} {xs : List Value} {c : CN} {L : List (Addr × IntKind)} {v0 v1 v2 v3 : Value} (hhi : hi ≤ BW) (h : RowS BW hi W d u cs Ls xs) (hc : OwC W d (.agg #[v0, v1, v2, v3]) c L) (hl : ∀ x ∈ L, x.1.block < hi) (hlw : ∀ x ∈ L, x.1.block < W.heap.size) (hb : Below w.heap.size w W)
    (hown : w6.ownsRow BW 38 4 v' (cs.length + 1) (xs ++ [v0, v1, v2, v3])) (hgrow : W.grownBy w6 u.ownBlock) (hat : v'.ownBlock = u.ownBlock ∨ v'.ownBlock = some W.heap.size) :
    RowS BW hi w6 d v' (cs ++ [c]) (Ls ++ [L]) (xs ++ [v0, v1, v2, v3]) ∧ GR w w6 u v' := by
  have hkl := h.row.row.lt
  refine ⟨⟨h.row.snoc hc (fun x hx => hlw x hx) (fun x hx e => by have := hl x hx; have := hkl _ e; omega) hown hgrow hat, fun x hx => ?_⟩, ⟨⟨hgrow.os.trans hb.os, hgrow.tape.trans hb.tape, hgrow.output.trans hb.output, Nat.le_trans hb.size hgrow.size, fun b h1 h2 => (hgrow.block b (Nat.lt_of_lt_of_le h1 hb.size) h2).trans (hb.block b h1)⟩, by
    rcases hat with e | e
    · exact .inl e
    · exact .inr ⟨_, e, hb.size⟩⟩⟩
  simp only [List.flatten_append, List.mem_append, List.flatten_cons, List.flatten_nil, List.append_nil] at hx
  rcases hx with hx | hx
  · exact h.lay x hx
  · exact hl x hx

set_option maxRecDepth 100000 in
set_option maxHeartbeats 4000000 in
theorem l2put_any {d : Nat} {v : Value} {c : CN} {w : World} {lo hi BW : Nat} {u : Value} {cs : List CN} {Ls : List (List (Addr × IntKind))} {xs : List Value} (h : RdC lo hi w d v c) (hhi : hi ≤ BW) (hbw : BW ≤ w.heap.size) (hrow : RowS BW hi w d u cs Ls xs)
    (hbk : c.bulk ≤ 1048576) (hwf : wfC c = true) (hall : ∀ i, i < cs.length → (cs.getD i CN.zero).bulk ≤ 1048576 ∧ wfC (cs.getD i CN.zero) = true) (hn : cs.length ≤ 100000) :
    Calls Try.prog 77 #[u, v] w fun e w' => ∃ u' Ls' xs', e = .returned u' ∧ RowS BW hi w' d u' (putN cs c) Ls' xs' ∧ GR w w' u u' := by
  have HRd : Hid (RdC lo hi w d v c) := h
  obtain ⟨k, na, nn, nc, ra, rn, rc, ka, kn, kc, rfl⟩ := h.shape
  obtain ⟨W0, hW0⟩ : ∃ W0, W0 = w.alloc (.cells #[.int .i64 k, .slice na nn nc, .slice ra rn rc, .slice ka kn kc] 38) := ⟨_, rfl⟩
  have HW0 : Hid (W0 = w.alloc (.cells #[.int .i64 k, .slice na nn nc, .slice ra rn rc, .slice ka kn kc] 38)) := hW0
  have hb0 : Below w.heap.size w W0 := by rw [hW0]; exact (Below.refl _ _).alloc (Nat.le_refl _) _
  have HB0 : Hid (Below w.heap.size w W0) := hb0
  have hl0 : w.heap.size < W0.heap.size := by rw [hW0]; simp
  have hbx : BoxC W0 w.heap.size (.int .i64 k) (.slice na nn nc) (.slice ra rn rc) (.slice ka kn kc) := by rw [hW0]; exact BoxC.new w _ _ _ _
  have HBx : Hid (BoxC W0 w.heap.size (.int .i64 k) (.slice na nn nc) (.slice ra rn rc) (.slice ka kn kc)) := hbx
  have HRow : Hid (RowS BW hi W0 d u cs Ls xs) := hrow.below hb0
  obtain ⟨a, cap, b, hu, hfit, _⟩ := hrow.form
  subst hu
  obtain ⟨n, hnn⟩ : ∃ n, n = cs.length := ⟨_, rfl⟩
  rw [← hnn] at hn hfit hall ⊢
  have HNn : Hid (n = cs.length) := hnn
  have HAll : Hid (∀ i, i < n → (cs.getD i CN.zero).bulk ≤ 1048576 ∧ wfC (cs.getD i CN.zero) = true) := hall
  have HBk : Hid (c.bulk ≤ 1048576 ∧ wfC c = true) := ⟨hbk, hwf⟩
  have HRow' : Hid (RowS BW hi W0 d (.slice a n cap) cs Ls xs) := by unfold Hid; rw [hnn]; exact HRow.out
  obtain ⟨i0, hi0, hz0, hz1, hz2⟩ := info_parts Try.infoCon4
  clear h hrow hb0 hW0 hbx hnn hall hbk hwf HRow
  go_enter Try.func77, Try.ntmps77
  go_upto_region 2 with fail
  rw [← HW0.out]
  go_loopw [5] (fun i wr => ∃ j : Nat, j ≤ n ∧ i = .int .i64 j ∧ amongC (cs.take j) c = false ∧ Below W0.heap.size W0 wr) (fun i _ => n - (intOf i).toNat)
  case atStart => exact ⟨0, Nat.zero_le _, rfl, by simp [amongC], Below.refl _ _⟩
  case round =>
    obtain ⟨j, hj, rfl, hnot, hbel⟩ := hrel
    have HNt : Hid (amongC (cs.take j) c = false) := hnot
    have HBe : Hid (Below W0.heap.size W0 wr) := hbel
    have hszr := hbel.size
    obtain ⟨x0, x1, x2, x3⟩ := (HBx.out.below hbel hl0).cells
    have hlr : w.heap.size < wr.heap.size := by omega
    by_cases hlt : j < n
    · have hji : (j : Int) < (n : Int) := by omega
      have hjl : j < cs.length := by rw [← HNn.out]; exact hlt
      obtain ⟨a', cap', b, hu, _, hc⟩ := (HRow'.out.below hbel).form
      simp only [Value.slice.injEq] at hu
      obtain ⟨rfl, hq, rfl⟩ := hu
      clear hq
      rcases hc with e | ⟨rfl, hblt, hc⟩
      · omega
      · obtain ⟨v0, v1, v2, v3, q0, q1, q2, q3, hrd⟩ := hc j hjl
        simp only [Nat.zero_add] at q0 q1 q2 q3
        have HEl : Hid (RdC 0 hi wr d (.agg #[v0, v1, v2, v3]) (cs.getD j CN.zero)) := hrd
        have HC : Hid (RdC lo hi wr d (.agg #[.int .i64 k, .slice na nn nc, .slice ra rn rc, .slice ka kn kc]) c) := HRd.out.below (HB0.out.trans (hbel.mono HB0.out.size)) (by omega)
        obtain ⟨r, hr⟩ : ∃ r, r = sameC (cs.getD j CN.zero) c := ⟨_, rfl⟩
        have HRr : Hid (r = sameC (cs.getD j CN.zero) c) := hr
        have HCd : Hid (RdC 0 hi wr.drew d (.agg #[v0, v1, v2, v3]) (cs.getD j CN.zero) ∧ RdC lo hi wr.drew d (.agg #[.int .i64 k, .slice na nn nc, .slice ra rn rc, .slice ka kn kc]) c) := ⟨hrd.below (Below.refl wr.heap.size wr).drew (by omega), HC.out.below (Below.refl wr.heap.size wr).drew (by omega)⟩
        have hhd : hi ≤ wr.drew.heap.size := by show hi ≤ wr.heap.size; omega
        clear hc hrd hr hnot hbel
        go_upto_region 4 with fail
        go_cut [17] (fun bv W => bv = .bool r ∧ Below W0.heap.size W0 W)
        case first =>
          first | go_region_with (go_at_call 101; refine (l2same_any HCd.out.1 HCd.out.2 hhd hhd (HAll.out j hlt).1 HBk.out.1 (HAll.out j hlt).2 HBk.out.2).mono ?_; rintro e w5 ⟨rfl, hb5⟩; rw [← HRr.out]; have HB5 : Hid (Below W0.heap.size W0 w5) := HBe.out.trans (((Below.refl wr.heap.size wr).drew.trans hb5).mono HBe.out.size); clear hb5) | fail
          all_goals
            go_wp2_with fail
            go_meet
            case rel => exact ⟨rfl, HB5.out⟩
        case rest =>
          obtain ⟨hbv, hbc⟩ := hcut
          subst hbv
          have HBc : Hid (Below W0.heap.size W0 wc) := hbc
          clear hbc
          cases r with
          | true =>
            have HP : Hid (putN cs c = cs) := by unfold Hid putN; rw [if_pos (among_of hjl HRr.out.symm)]
            go_wp2_with fail
            go_ret
            exact ⟨_, Ls, xs, rfl, by rw [HP.out]; exact HRow'.out.below HBc.out, GR.of_below _ (HB0.out.trans (HBc.out.mono HB0.out.size))⟩
          | false =>
            have HF : Hid (amongC (cs.take (j + 1)) c = false) := by unfold Hid; rw [among_take_succ cs c j hjl, HNt.out, ← HRr.out]; rfl
            go_wp2_with fail
            go_roundw
            case rel => exact ⟨j + 1, by omega, by go_num, HF.out, HBc.out⟩
            case measure => simp [intOf]; omega
    · have HP : Hid (putN cs c = cs ++ [c]) := by
        unfold Hid putN
        have h1 := HNt.out
        rw [List.take_of_length_le (by rw [← HNn.out]; omega)] at h1
        rw [h1]; rfl
      have hBw : Below w.heap.size w wr := HB0.out.trans (hbel.mono HB0.out.size)
      obtain ⟨L, hL, hLb⟩ := (HRd.out.below hBw (by omega)).ow
      obtain ⟨Wn, hWn⟩ : ∃ W, W = wr.alloc (.cells #[.int .i64 k, .slice na nn nc, .slice ra rn rc, .slice ka kn kc] 38) := ⟨_, rfl⟩
      have hbn : Below wr.heap.size wr Wn := by rw [hWn]; exact (Below.refl _ _).alloc (Nat.le_refl _) _
      have HRn : Hid (RowS BW hi Wn d (.slice a n cap) cs Ls xs) := (HRow'.out.below hbel).below hbn
      have HOn : Hid (OwC Wn d (.agg #[.int .i64 k, .slice na nn nc, .slice ra rn rc, .slice ka kn kc]) c L ∧ ∀ x ∈ L, lo ≤ x.1.block ∧ x.1.block < hi) := ⟨hL.below hbn (fun x hx => by have := hLb x hx; omega), hLb⟩
      have HBn : Hid (Below w.heap.size w Wn) := hBw.trans (hbn.mono hBw.size)
      have hszn := hbn.size
      have HRown : Hid (Wn.ownsRow BW 38 4 (.slice a n cap) n xs) := by have := HRn.out.row.row; rw [← HNn.out] at this; exact this
      subst hWn
      have hbwn : BW ≤ (wr.alloc (.cells #[.int .i64 k, .slice na nn nc, .slice ra rn rc, .slice ka kn kc] 38)).heap.size := by omega
      clear hnot hbel hL hLb hbn hBw
      go_wp2_with (at_builtin; refine wpList_append_own_at _ rfl (.tmp 19) (.tmp 21) 36 rfl BW 38 i0 (.agg #[.int .i64 0, .slice none 0 0, .slice none 0 0, .slice none 0 0]) 4 80 Try.underlying36 hi0 hz0 hz1 hz2 rfl (by decide) (.slice a n cap) n xs rfl HRown.out ⟨wr.heap.size, 0, none⟩ 1 1 [.int .i64 k, .slice na nn nc, .slice ra rn rc, .slice ka kn kc] rfl rfl (new4 _ _ _ _ _ _ _ rfl) (one4 _ _ _ _ _ _ _ _ _ _) (by unfold maxLen; omega) (by omega) hbwn ?_; intro v' w6 hown hgrow hnil hat; have HA : Hid (RowS BW hi w6 d v' (cs ++ [c]) (Ls ++ [L]) (xs ++ [.int .i64 k, .slice na nn nc, .slice ra rn rc, .slice ka kn kc]) ∧ GR w w6 (.slice a n cap) v') := putS hhi HRn.out HOn.out.1 (fun x hx => (HOn.out.2 x hx).2) (fun x hx => by have := (HOn.out.2 x hx).2; omega) HBn.out (by rw [← HNn.out]; exact hown) hgrow hat; clear hown hgrow hnil hat)
      go_ret
      exact ⟨_, _, _, rfl, by rw [HP.out]; exact HA.out.1, HA.out.2⟩

end Go.Proofs.Ytfbokljbmihlbaa
