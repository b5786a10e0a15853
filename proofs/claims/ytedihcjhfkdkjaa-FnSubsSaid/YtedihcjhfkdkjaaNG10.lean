/- Several texts in one: ConClone, NnfMath, ConSay, ConSubs1. -/
import Derived.Test.YtedihcjhfkdkjaaConOwn
import Derived.Test.YtedihcjhfkdkjaaNG8
import Derived.Deep.RegionLaw
import Derived.Deep.DeepCutAuto
import Derived.Test.YtedihcjhfkdkjaaNG6
import Derived.Test.YtedihcjhfkdkjaaNG1
import Derived.Deep.RegionHeld
namespace Go.Proofs.Ytedihcjhfkdkjaa

section
open Go.RowKit

theorem ownB_made (w : World) {base : Nat} (hb : base ≤ w.heap.size) : OwnB base (w.alloc (.cells #[] 5)) (.slice (some ⟨w.heap.size, 0, none⟩) 0 0) [] := World.ownsRow_made w #[] 0 hb (by unfold maxLen; omega) rfl

set_option maxRecDepth 100000 in
set_option maxHeartbeats 400000 in
theorem cloneC_any (a : Option Addr) (n cap : Nat) (zs : List Int) (w : World) {lo hi : Nat} (h : Rd lo hi w a n cap zs) (hn : n ≤ 1048576) :
    Calls Try.prog 27 #[.slice a n cap] w fun e w' => ∃ v', e = .returned v' ∧ OwnB w.heap.size w' v' zs ∧ Below w.heap.size w w' := by
  obtain ⟨hl, ⟨hm, hm'⟩, hby, hc⟩ := h
  cases a with
  | none =>
    have hn0 : n = 0 := by
      rcases hc with h | ⟨_, _, e, _⟩
      · exact h
      · cases e
    have HZ : Hid (zs = []) := List.eq_nil_of_length_eq_zero (by omega)
    clear hc hby hl
    subst hn0
    have he : ∀ w : World, (binOp .eql 22 (.slice none 0 cap) (.slice none 0 0)).run Try.prog w = .ok (.bool true) w := fun _ => rfl
    go_enter Try.func27, Try.ntmps27
    go_wp2
    go_ret
    exact ⟨_, rfl, by rw [HZ.out]; exact OwnB.nil _ _, Below.refl _ _⟩
  | some p =>
    have HNews : Hid (∀ j u, (zs.map (Value.int .u8))[j]? = some u → (w.alloc (.cells #[] 5)).cell? (p.add j) = some u) := by
      intro j u hu
      have hj : j < zs.length := by simpa using (List.getElem?_eq_some_iff.1 hu).1
      rcases hc with h0 | ⟨b, off, e, _, _, hcs⟩
      · omega
      · cases e
        have hq := hcs j (by omega)
        have hlt : b < w.heap.size := block_lt_of_cell hq
        rw [Addr.add_lit, World.cell?_of_block (w := w) (Below.heap_alloc _ _ _ hlt), hq, ← hu]
        simp [List.getD, hj]
    have HL : Hid (zs.length = n) := hl
    have HO : Hid (OwnB w.heap.size (w.alloc (.cells #[] 5)) (.slice (some ⟨w.heap.size, 0, none⟩) 0 0) []) := ownB_made w (Nat.le_refl _)
    obtain ⟨i0, hi0, hz0, hz1, hz2⟩ := info_parts Try.info5
    have he : ∀ w : World, (binOp .eql 22 (.slice (some p) n cap) (.slice none 0 0)).run Try.prog w = .ok (.bool false) w := fun _ => rfl
    clear hc hby hl
    go_enter Try.func27, Try.ntmps27
    go_wp2_with (at_builtin; refine wpList_append_own _ rfl (.tmp 5) (.tmp 6) 22 rfl w.heap.size 5 i0 (.int .u8 0) 1 1 Try.underlying22 hi0 hz0 hz1 hz2 rfl (by decide) (.slice (some ⟨w.heap.size, 0, none⟩) 0 0) 0 [] rfl HO.out p n cap (zs.map (Value.int .u8)) rfl (by rw [List.length_map, HL.out, Nat.mul_one]) HNews.out (oneCB _) (by unfold maxLen; omega) (by omega) (by simp) ?_; intro v' w2 hown' hgrow hnil; have HF : Hid (OwnB w.heap.size w2 v' ([] ++ zs) ∧ Keep5 w.heap.size _ w2) := ownB_app HO.out (by simp) (by rw [HL.out]; exact hown') hgrow; clear hown' hgrow hnil)
    go_ret
    exact ⟨_, rfl, HF.out.1, ((Below.refl _ _).alloc (Nat.le_refl _) _).trans (HF.out.2.1)⟩

theorem BoxC.set3 {W : World} {b : Nat} {v0 v1 v2 v3 : Value} (h : BoxC W b v0 v1 v2 v3) (v : Value) : BoxC (W.setCell ⟨b, 3, none⟩ v) b v0 v1 v2 v := by
  unfold BoxC
  rw [heap_setCell_same W b 3 _ _ v h]
  rfl

theorem BoxC.set0 {W : World} {b : Nat} {v0 v1 v2 v3 : Value} (h : BoxC W b v0 v1 v2 v3) (v : Value) : BoxC (W.setCell ⟨b, 0, none⟩ v) b v v1 v2 v3 := by
  unfold BoxC
  rw [heap_setCell_same W b 0 _ _ v h]
  rfl

theorem BoxC.other {W : World} {b o i : Nat} {v0 v1 v2 v3 : Value} (h : BoxC W b v0 v1 v2 v3) (v : Value) (hne : b ≠ o) : BoxC (W.setCell ⟨o, i, none⟩ v) b v0 v1 v2 v3 := (Below.heap_setCell W ⟨o, i, none⟩ v b hne).trans h

theorem RowK.set {base : Nat} {w : World} {d : Nat} {u : Value} {cs : List CN} {Ls : List (List (Addr × IntKind))} {xs : List Value} (h : RowK base w d u cs Ls xs) {o : Nat} (i : Nat) (v : Value) (h1 : ∀ x ∈ Ls.flatten, x.1.block ≠ o) (h2 : u.ownBlock ≠ some o) : RowK base (w.setCell ⟨o, i, none⟩ v) d u cs Ls xs := by
  obtain ⟨g1, g2, g3, g4, g5⟩ := h
  refine ⟨g1, ?_, fun j hj => ?_, fun x hx => by have := g4 x hx; simpa using this, g5⟩
  · obtain ⟨q1, q2⟩ := g2
    refine ⟨q1, ?_⟩
    rcases q2 with q | ⟨g, cap, cur, rfl, hg, hh, r⟩
    · exact .inl q
    · refine .inr ⟨g, cap, cur, rfl, hg, ?_, r⟩
      rw [Below.heap_setCell w ⟨o, i, none⟩ v g (fun e => h2 (by simp only [Value.ownBlock]; rw [e]))]
      exact hh
  · obtain ⟨v0, v1, v2, v3, c0, c1, c2, c3, hr⟩ := g3 j hj
    exact ⟨v0, v1, v2, v3, c0, c1, c2, c3, hr.keep (fun x hx => Below.heap_setCell w ⟨o, i, none⟩ v _ (h1 x (getD_mem_flatten hx)))⟩

theorem SepK.set {base : Nat} {w : World} {Ls : List (List (Addr × IntKind))} (h : SepK base w Ls) (a : Addr) (v : Value) : SepK base (w.setCell a v) Ls :=
  ⟨h.nd, fun x hx => by have := h.fr x hx; simpa using this, h.ge⟩

theorem OwnB.setCon {base : Nat} {w : World} {u : Value} {zs : List Int} {o i : Nat} {v0 v1 v2 v3 : Value} (h : OwnB base w u zs) (hb : BoxC w o v0 v1 v2 v3) (v : Value) : OwnB base (w.setCell ⟨o, i, none⟩ v) u zs := by
  obtain ⟨q1, q2⟩ := h
  refine ⟨q1, ?_⟩
  rcases q2 with q | ⟨g, cap, cur, rfl, hg, hh, r⟩
  · exact .inl q
  · refine .inr ⟨g, cap, cur, rfl, hg, ?_, r⟩
    rw [Below.heap_setCell w ⟨o, i, none⟩ v g (fun e => by rw [show g = o from e] at hh; rw [show w.heap[o]? = _ from hb] at hh; simp at hh)]
    exact hh
end

section
open Go.RowKit

theorem shape_len {c : CN} (h : shapeB c = true) : c.name.length + c.role.length ≤ 12 := by
  unfold shapeB at h
  simp only [Bool.and_eq_true, decide_eq_true_eq] at h
  obtain ⟨h1, h2, _⟩ := h
  have hn : c.name.length ≤ 6 := by
    unfold nameFit at h1
    split at h1
    · rw [Bool.and_eq_true] at h1; exact (longB_of_up h1.1).2
    · simp only [decide_eq_true_eq] at h1; omega
  have hr : c.role.length ≤ 6 := by
    unfold roleFit at h2
    split at h2
    · exact (longB_of_low h2).2
    · simp only [decide_eq_true_eq] at h2; omega
  omega

mutual
theorem bulk_parts : ∀ (c : CN) (deep : Nat), (parts c deep).all okOne = true → c.bulk + 1 ≤ 13 * (parts c deep).length
  | .mk k n r ks, deep, h => by
    rw [parts, List.all_cons, Bool.and_eq_true] at h
    have h1 := bulks_parts ks (deep + 1) h.2
    have h2 : shapeB (.mk k n r ks) = true := by have := h.1; unfold okOne at this; rw [Bool.and_eq_true] at this; exact this.2
    have h3 := shape_len h2
    simp only [CN.name, CN.role] at h3
    rw [parts, CN.bulk, List.length_cons]; omega
theorem bulks_parts : ∀ (cs : List CN) (deep : Nat), (partsL cs deep).all okOne = true → bulks cs ≤ 13 * (partsL cs deep).length
  | [], _, _ => by simp [bulks]
  | c :: cs, deep, h => by
    rw [partsL, List.all_append, Bool.and_eq_true] at h
    have h1 := bulk_parts c deep h.1
    have h2 := bulks_parts cs deep h.2
    rw [partsL, bulks, List.length_append]; omega
end

theorem bulk_of_ok {c : CN} (h : conOk c = true) : c.bulk ≤ 208 := by
  unfold conOk at h
  rw [Bool.and_eq_true, decide_eq_true_eq] at h
  have := bulk_parts c 1 h.2
  omega
end

section
open Go.RowKit

def SayC (f : Nat) (d : Nat) : Prop := ∀ (v : Value) (c : CN) (bv : Value) (xs : List Int) (w : World) (base lo hi : Nat), RdC lo hi w d v c → hi ≤ base → base ≤ w.heap.size → wfC c = true → OwnB base w bv xs → xs.length + (textC c).length ≤ 1073741824 →
  Calls Try.prog f #[bv, v] w fun e w' => ∃ bv', e = .returned bv' ∧ OwnB base w' bv' (xs ++ textC c) ∧ Keep5 base w w'

set_option maxRecDepth 100000 in
set_option maxHeartbeats 4000000 in
theorem sayC_of {d : Nat} (H : SayC 53 d) : SayC 53 (d + 1) := by
  intro v c bv xs w base lo hi h hhi hbase hwf hO hlen
  obtain ⟨na, nn, nc, ra, rn, rc, ka, kn, kc, rfl, hn, hr, hk⟩ := h
  rw [wfC_eq, Bool.and_eq_true] at hwf
  obtain ⟨⟨hk0, hk7⟩, hname, hrole1, hrole0⟩ := shape_facts hwf.1
  have HWK : Hid (wfL c.kids = true) := hwf.2
  have HTx := textC_eq c
  have HKL : Hid (c.kids.length = kn) := hk.len
  have hkf := hk.fits
  have hnf := hn.fits
  have hrf := hr.fits
  have hnl := hn.len
  have hrl := hr.len
  obtain ⟨k, hkd⟩ : ∃ k, k = c.kind := ⟨_, rfl⟩
  rw [← hkd] at hk0 hk7 hname hrole1 hrole0 HTx ⊢
  rw [hk.len] at HTx
  obtain ⟨i0, hi0, hz0, hz1, hz2⟩ := info_parts Try.info5
  have hb0 : Below w.heap.size w (w.alloc (.cells #[.int .i64 k, .slice na nn nc, .slice ra rn rc, .slice ka kn kc] 25)) := (Below.refl _ _).alloc (Nat.le_refl _) _
  have HK0 : Hid (Keep5 base w (w.alloc (.cells #[.int .i64 k, .slice na nn nc, .slice ra rn rc, .slice ka kn kc] 25))) := Keep5.of_below hb0 hbase
  have HBx0 : Hid (BoxC (w.alloc (.cells #[.int .i64 k, .slice na nn nc, .slice ra rn rc, .slice ka kn kc] 25)) w.heap.size (.int .i64 k) (.slice na nn nc) (.slice ra rn rc) (.slice ka kn kc)) := BoxC.new w _ _ _ _
  have HO0 : Hid (OwnB base (w.alloc (.cells #[.int .i64 k, .slice na nn nc, .slice ra rn rc, .slice ka kn kc] 25)) bv xs) := hO.below hb0 (Nat.le_refl _)
  have HN : Hid (Rd lo hi w na nn nc c.name) := hn
  have HR : Hid (Rd lo hi w ra rn rc c.role) := hr
  have HKs : Hid (RdL (RdC lo hi w d) lo hi w ka kn kc c.kids) := hk
  have hsz0 : base ≤ (w.alloc (.cells #[.int .i64 k, .slice na nn nc, .slice ra rn rc, .slice ka kn kc] 25)).heap.size := by simp; omega
  have HSz0 : Hid (base ≤ (w.alloc (.cells #[.int .i64 k, .slice na nn nc, .slice ra rn rc, .slice ka kn kc] 25)).heap.size) := hsz0
  clear hk hwf hO hkd hsz0
  by_cases k2 : k = 2
  · subst k2
    rw [if_pos rfl] at HTx
    have HTT : Hid (textC c = c.name) := HTx
    obtain ⟨hn1, _⟩ := hname rfl
    rw [hnl] at hn1
    have hln : c.name.length = nn := hnl
    rw [HTx, hnl] at hlen
    have hNA := hn.below hb0 (Nat.le_trans hhi hbase)
    rcases hNA.cells with hz | ⟨b', off', hna, _, _, _⟩
    · omega
    · subst hna
      have HNews : Hid (∀ j u, (c.name.map (Value.int .u8))[j]? = some u → (w.alloc (.cells #[.int .i64 2, .slice (some ⟨b', off', none⟩) nn nc, .slice ra rn rc, .slice ka kn kc] 25)).cell? ((⟨b', off', none⟩ : Addr).add j) = some u) := rd_news hNA
      have hlx : (c.name.map (Value.int .u8)).length = nn * 1 := by simp [hnl]
      obtain ⟨ys, hys⟩ : ∃ ys, ys = c.name := ⟨_, rfl⟩
      rw [← hys] at HNews hlx hnl HTT
      subst hnl
      clear hNA hn hr hb0 hname hrole1 hrole0 HTx hys hln
      go_enter Try.func53, Try.ntmps53
      go_wp2_with (first | (at_builtin; refine wpList_append_own _ rfl (.tmp 9) (.tmp 11) 22 rfl base 5 i0 (.int .u8 0) 1 1 Try.underlying22 hi0 hz0 hz1 hz2 rfl (by decide) bv xs.length (xs.map (Value.int .u8)) rfl HO0.out ⟨b', off', none⟩ ys.length nc (ys.map (Value.int .u8)) rfl hlx HNews.out (oneCB _) (by unfold maxLen; omega) (by omega) HSz0.out ?_; intro v' w2 hown' hgrow hnil; have HF : Hid (OwnB base w2 v' (xs ++ ys) ∧ Keep5 base _ w2) := ownB_app HO0.out HSz0.out hown' hgrow; clear hown' hgrow hnil))
      go_ret
      exact ⟨_, rfl, by rw [HTT.out]; exact HF.out.1, HK0.out.trans HF.out.2⟩
  · rw [if_neg k2] at HTx
    have hk2 : (k == 2) = false := by simpa using k2
    have hwl := wordOf_len k
    obtain ⟨kk, rfl⟩ : ∃ kk : Nat, k = (kk : Int) := ⟨k.toNat, by omega⟩
    have hkk8 : kk < 8 := by omega
    have hkki : (kk : Int) < 8 := by omega
    have HO0d : Hid (OwnB base (w.alloc (.cells #[.int .i64 (kk : Int), .slice na nn nc, .slice ra rn rc, .slice ka kn kc] 25)).drew bv xs) := HO0.out.below (B := (w.alloc (.cells #[.int .i64 (kk : Int), .slice na nn nc, .slice ra rn rc, .slice ka kn kc] 25)).heap.size) ((Below.refl _ _).drew) (Nat.le_refl _)
    have HK0d : Hid (Keep5 base w (w.alloc (.cells #[.int .i64 (kk : Int), .slice na nn nc, .slice ra rn rc, .slice ka kn kc] 25)).drew) := HK0.out.drew
    have hwx : xs.length + 4 ≤ 1073741900 := by omega
    have HWB : Hid ((wordB (kk : Int)).size ≤ 4) := by unfold Hid; rw [wordB_size]; exact wordOf_len _
    clear hname hn hr hb0
    go_enter Try.func53, Try.ntmps53
    go_upto_region 3 with fail
    go_cut [0] (fun v W => OwnB base W v (xs ++ wordOf (kk : Int)) ∧ Keep5 base w W ∧ BoxC W w.heap.size (.int .i64 (kk : Int)) (.slice na nn nc) (.slice ra rn rc) (.slice ka kn kc))
    case first =>
      go_region_law (first
        | (refine step_append_str rfl (.tmp 13) (.tmp 18) 22 9 rfl base 5 i0 Try.underlying22 Try.underlying9 hi0 hz0 hz1 hz2 bv xs.length (xs.map (Value.int .u8)) (by simp [Act.eval]) HO1.out (wordB (kk : Int)) (by simp [Act.eval]) (by have := HWB.out; unfold maxLen; omega) (by have := HWB.out; omega) HS1.out ?_; intro v' w2 hown' hgrow; have HF : Hid (OwnB base w2 v' (xs ++ wordOf (kk : Int)) ∧ Keep5 base w1 w2) := ownB_str HO1.out HS1.out hown' hgrow; clear hown' hgrow)
        | (go_simp; refine (l2words_any _).mono ?_; rintro e w1 ⟨rfl, hcs, hb1⟩; have HO1 : Hid (OwnB base w1 bv xs) := HO0d.out.below hb1 (Nat.le_refl _); have HK1 : Hid (Keep5 base w w1) := HK0d.out.trans (Keep5.of_below hb1 HSz0.out); have HBx1 : Hid (BoxC w1 w.heap.size (.int .i64 (kk : Int)) (.slice na nn nc) (.slice ra rn rc) (.slice ka kn kc)) := HBx0.out.below (W := (w.alloc (.cells #[.int .i64 (kk : Int), .slice na nn nc, .slice ra rn rc, .slice ka kn kc] 25)).drew) hb1 HBx0.out.lt; have HS1 : Hid (base ≤ w1.heap.size) := Nat.le_trans HSz0.out hb1.size; have hck : w1.cell? ⟨w.heap.size + 1, kk, none⟩ = some (.string (wordB (kk : Int))) := (by have hq := hcs kk hkk8; rw [show (w.alloc (.cells #[.int .i64 (kk : Int), .slice na nn nc, .slice ra rn rc, .slice ka kn kc] 25)).drew.heap.size = w.heap.size + 1 from World.size_alloc _ _] at hq; exact hq); obtain ⟨b0, b1, b2, b3⟩ := HBx1.out.cells; clear hcs hb1))
      all_goals
        (try go_simp)
        go_wp2_with fail
        go_meet
        case rel => exact ⟨HF.out.1, HK1.out.trans HF.out.2, HBx1.out.keep5 HF.out.2⟩
    case rest =>
      obtain ⟨hO1, hKp1, hBx1⟩ := hcut
      obtain ⟨b0, b1, b2, b3⟩ := hBx1.cells
      have HKp1 : Hid (Keep5 base w wc) := hKp1
      have HBx1 : Hid (BoxC wc w.heap.size (.int .i64 (kk : Int)) (.slice na nn nc) (.slice ra rn rc) (.slice ka kn kc)) := hBx1
      have hs1 : base ≤ wc.heap.size := Nat.le_trans hbase hKp1.1.size
      obtain ⟨x1, hx1⟩ : ∃ x1, x1 = xs ++ wordOf (kk : Int) := ⟨_, rfl⟩
      rw [← hx1] at hO1
      have HX1 : Hid (x1 = xs ++ wordOf (kk : Int)) := hx1
      have hx1l : x1.length ≤ xs.length + 4 := by rw [hx1, List.length_append]; omega
      have HO1 : Hid (OwnB base wc u0 x1) := hO1
      clear hO1 hKp1 hBx1 hx1
      by_cases hkn : kn = 0
      · subst hkn
        rw [if_pos rfl] at HTx
        have HTT : Hid (xs ++ textC c = x1) := by unfold Hid; rw [HTx, HX1.out]
        go_wp2_with fail
        go_ret
        exact ⟨_, rfl, by rw [HTT.out]; exact HO1.out, HKp1.out⟩
      · rw [if_neg hkn] at HTx
        have hkn1 : ((kn : Int) == 0) = false := by simp; omega
        have HTT : Hid (xs ++ textC c = x1 ++ [40] ++ roleT c.role ++ textJ 0 c.kids ++ [41]) := by unfold Hid; rw [HTx, HX1.out]; simp
        have hTl : x1.length + 1 + (roleT c.role).length + (textJ 0 c.kids).length + 1 ≤ 1073741824 := by
          have := congrArg List.length HTT.out
          simp only [List.length_append, List.length_cons, List.length_nil] at this
          omega
        have HBA : Hid (Below wc.heap.size wc (wc.alloc (.cells #[.int .u8 40] 5))) := (Below.refl _ _).alloc (Nat.le_refl _) _
        have HOA : Hid (OwnB base (wc.alloc (.cells #[.int .u8 40] 5)) u0 x1) := HO1.out.below HBA.out (Nat.le_refl _)
        have HSA : Hid (base ≤ (wc.alloc (.cells #[.int .u8 40] 5)).heap.size) := Nat.le_trans hs1 HBA.out.size
        go_upto_if 31 with (at_builtin; refine wpList_append_own _ rfl (.tmp 25) (.tmp 26) 22 rfl base 5 i0 (.int .u8 0) 1 1 Try.underlying22 hi0 hz0 hz1 hz2 rfl (by decide) u0 x1.length (x1.map (Value.int .u8)) rfl HOA.out ⟨wc.heap.size, 0, none⟩ 1 1 ([40].map (Value.int .u8)) rfl rfl (new1 _ _ _ rfl) (oneCB _) (by unfold maxLen; omega) (by omega) HSA.out ?_; intro v' w2 hown' hgrow hnil; have HF : Hid (OwnB base w2 v' (x1 ++ [40]) ∧ Keep5 base _ w2) := ownB_app HOA.out HSA.out hown' hgrow; clear hown' hgrow hnil; have HKp2 : Hid (Keep5 base w w2) := (HKp1.out.trans (Keep5.of_below HBA.out hs1)).trans HF.out.2; have HBx2 : Hid (BoxC w2 w.heap.size (.int .i64 (kk : Int)) (.slice na nn nc) (.slice ra rn rc) (.slice ka kn kc)) := (HBx1.out.below HBA.out HBx1.out.lt).keep5 HF.out.2; clear b0 b1 b2 b3; obtain ⟨b0, b1, b2, b3⟩ := HBx2.out.cells)
        obtain ⟨x2, hx2⟩ : ∃ x2, x2 = x1 ++ [40] := ⟨_, rfl⟩
        have HX2 : Hid (x2 = x1 ++ [40]) := hx2
        have hx2l : x2.length = x1.length + 1 := by rw [hx2]; simp
        have HO2 : Hid (OwnB base w2 v' x2) := by unfold Hid; rw [hx2]; exact HF.out.1
        have hs2 : base ≤ w2.heap.size := Nat.le_trans hbase HKp2.out.1.size
        clear HF hx2 HOA HSA HBA HO1 HKp1 HBx1
        go_cut [0] (fun v W => OwnB base W v (x2 ++ roleT c.role) ∧ Keep5 base w W ∧ BoxC W w.heap.size (.int .i64 (kk : Int)) (.slice na nn nc) (.slice ra rn rc) (.slice ka kn kc))
        case first =>
          by_cases hr0 : rn = 0
          · subst hr0
            have HRT : Hid (roleT c.role = []) := by unfold Hid roleT; rw [if_pos (List.eq_nil_of_length_eq_zero hrl)]
            go_wp2_with fail
            go_meet
            case rel => rw [HRT.out, List.append_nil]; exact ⟨HO2.out, HKp2.out, HBx2.out⟩
          · have hr1 : (0 : Int) < (rn : Int) := by omega
            have hR2 := HR.out.below HKp2.out.1 hhi
            rcases hR2.cells with hz | ⟨b', off', hra, _, _, _⟩
            · omega
            · subst hra
              have HRT : Hid (roleT c.role = c.role ++ [32]) := by unfold Hid roleT; rw [if_neg (fun e => by rw [e] at hrl; simp at hrl; omega)]
              have HNews : Hid (∀ j u, (c.role.map (Value.int .u8))[j]? = some u → w2.cell? ((⟨b', off', none⟩ : Addr).add j) = some u) := rd_news hR2
              have hlx : (c.role.map (Value.int .u8)).length = rn * 1 := by simp [hrl]
              obtain ⟨ys, hys⟩ : ∃ ys, ys = c.role := ⟨_, rfl⟩
              have HYs : Hid (ys = c.role) := hys
              have hyl : ys.length = rn := by rw [hys]; exact hrl
              have hyb : x2.length + ys.length + 2 ≤ 1073741824 := by
                have e1 := congrArg List.length HRT.out
                simp only [List.length_append, List.length_cons, List.length_nil] at e1
                rw [hys]; omega
              rw [← hys] at HNews hlx
              subst hyl
              clear hR2 hys hrl
              go_wp2_with (first | (at_builtin; refine wpList_append_own _ rfl (.tmp 32) (.tmp 34) 22 rfl base 5 i0 (.int .u8 0) 1 1 Try.underlying22 hi0 hz0 hz1 hz2 rfl (by decide) v' x2.length (x2.map (Value.int .u8)) rfl HO2.out ⟨b', off', none⟩ ys.length rc (ys.map (Value.int .u8)) rfl hlx HNews.out (oneCB _) (by unfold maxLen; omega) (by omega) hs2 ?_; intro v3 w3 hown' hgrow hnil; have HF3 : Hid (OwnB base w3 v3 (x2 ++ ys) ∧ Keep5 base w2 w3) := ownB_app HO2.out hs2 hown' hgrow; clear hown' hgrow hnil; obtain ⟨x3, hx3⟩ : ∃ x3, x3 = x2 ++ ys := ⟨_, rfl⟩; have HX3 : Hid (x3 = x2 ++ ys) := hx3; have hx3l : x3.length = x2.length + ys.length := (by rw [hx3]; simp); have hs3 : base ≤ w3.heap.size := Nat.le_trans hs2 HF3.out.2.1.size; have HBA3 : Hid (Below w3.heap.size w3 (w3.alloc (.cells #[.int .u8 32] 5))) := (Below.refl _ _).alloc (Nat.le_refl _) _; have HO3 : Hid (OwnB base (w3.alloc (.cells #[.int .u8 32] 5)) v3 x3) := (by unfold Hid; rw [hx3]; exact HF3.out.1.below HBA3.out (Nat.le_refl _)); have HS3 : Hid (base ≤ (w3.alloc (.cells #[.int .u8 32] 5)).heap.size) := Nat.le_trans hs3 HBA3.out.size; clear hx3) | (at_builtin; refine wpList_append_own _ rfl (.tmp 35) (.tmp 36) 22 rfl base 5 i0 (.int .u8 0) 1 1 Try.underlying22 hi0 hz0 hz1 hz2 rfl (by decide) v3 x3.length (x3.map (Value.int .u8)) rfl HO3.out ⟨w3.heap.size, 0, none⟩ 1 1 ([32].map (Value.int .u8)) rfl rfl (new1 _ _ _ rfl) (oneCB _) (by unfold maxLen; omega) (by omega) HS3.out ?_; intro v4 w4 hown' hgrow hnil; have HF4 : Hid (OwnB base w4 v4 (x3 ++ [32]) ∧ Keep5 base _ w4) := ownB_app HO3.out HS3.out hown' hgrow; clear hown' hgrow hnil))
              go_meet
              case rel =>
                rw [HRT.out]
                refine ⟨?_, HKp2.out.trans (HF3.out.2.trans ((Keep5.of_below HBA3.out hs3).trans HF4.out.2)), (HBx2.out.keep5 HF3.out.2).keep5 ((Keep5.of_below HBA3.out hs3).trans HF4.out.2)⟩
                have := HF4.out.1
                rw [HX3.out, HYs.out, List.append_assoc] at this
                exact this
        case rest =>
          obtain ⟨hO5, hKp5, hBx5⟩ := hcut
          have HKp5 : Hid (Keep5 base w wc) := hKp5
          have HBx5 : Hid (BoxC wc w.heap.size (.int .i64 (kk : Int)) (.slice na nn nc) (.slice ra rn rc) (.slice ka kn kc)) := hBx5
          obtain ⟨x5, hx5⟩ : ∃ x5, x5 = x2 ++ roleT c.role := ⟨_, rfl⟩
          rw [← hx5] at hO5
          have hx5l : x5.length = x2.length + (roleT c.role).length := by rw [hx5]; simp
          have HTT5 : Hid (xs ++ textC c = x5 ++ textJ 0 c.kids ++ [41]) := by unfold Hid; rw [HTT.out, hx5, HX2.out]
          have HO5 : Hid (OwnB base wc u0 x5) := hO5
          clear hO5 hKp5 hBx5 hx5 HO2 HKp2 HBx2 HTT
          go_wp2_with fail
          go_loopw [0, 5] (fun v i W => ∃ j : Nat, j ≤ kn ∧ i = .int .i64 j ∧ OwnB base W v (x5 ++ textJ 0 (c.kids.take j)) ∧ Keep5 base w W ∧ BoxC W w.heap.size (.int .i64 (kk : Int)) (.slice na nn nc) (.slice ra rn rc) (.slice ka kn kc)) (fun _ i _ => kn - (intOf i).toNat)
          case atStart => exact ⟨0, Nat.zero_le _, rfl, by simpa [textJ] using HO5.out, HKp5.out, HBx5.out⟩
          case round =>
            obtain ⟨j, hj, rfl, hO6, hKp6, hBx6⟩ := hrel
            obtain ⟨c0, c1, c2, c3⟩ := hBx6.cells
            have HKp6 : Hid (Keep5 base w wr) := hKp6
            have HBx6 : Hid (BoxC wr w.heap.size (.int .i64 (kk : Int)) (.slice na nn nc) (.slice ra rn rc) (.slice ka kn kc)) := hBx6
            have hs6 : base ≤ wr.heap.size := Nat.le_trans hbase hKp6.1.size
            obtain ⟨x6, hx6⟩ : ∃ x6, x6 = x5 ++ textJ 0 (c.kids.take j) := ⟨_, rfl⟩
            rw [← hx6] at hO6
            have HX6 : Hid (x6 = x5 ++ textJ 0 (c.kids.take j)) := hx6
            have hx6l : x6.length ≤ x5.length + (textJ 0 c.kids).length := by rw [hx6, List.length_append]; have := textJ_take_le c.kids j; omega
            have HO6 : Hid (OwnB base wr u0 x6) := hO6
            clear hO6 hKp6 hBx6 hx6
            by_cases hlt : j < kn
            · have hjl : j < c.kids.length := by rw [HKL.out]; exact hlt
              have hji : (j : Int) < (kn : Int) := by omega
              have hT := textJ_take_succ c.kids j hjl
              have hTle := textJ_take_le c.kids (j + 1)
              have HT : Hid (textJ 0 (c.kids.take (j + 1)) = textJ 0 (c.kids.take j) ++ gapT j ++ textC (c.kids.getD j CN.zero)) := hT
              have hx7b : x6.length + (gapT j).length + (textC (c.kids.getD j CN.zero)).length ≤ x5.length + (textJ 0 c.kids).length := by
                have e1 := congrArg List.length hT
                have e2 := congrArg List.length HX6.out
                simp only [List.length_append] at e1 e2
                omega
              clear hT hTle
              go_upto_if 46 with fail
              go_cut [0] (fun v W => OwnB base W v (x6 ++ gapT j) ∧ Keep5 base w W ∧ BoxC W w.heap.size (.int .i64 (kk : Int)) (.slice na nn nc) (.slice ra rn rc) (.slice ka kn kc))
              case first =>
                by_cases hj0 : 0 < j
                · have HBA : Hid (Below wr.heap.size wr (wr.alloc (.cells #[.int .u8 32] 5))) := (Below.refl _ _).alloc (Nat.le_refl _) _
                  have HOA : Hid (OwnB base (wr.alloc (.cells #[.int .u8 32] 5)) u0 x6) := HO6.out.below HBA.out (Nat.le_refl _)
                  have HSA : Hid (base ≤ (wr.alloc (.cells #[.int .u8 32] 5)).heap.size) := Nat.le_trans hs6 HBA.out.size
                  go_wp2_with (at_builtin; refine wpList_append_own _ rfl (.tmp 47) (.tmp 48) 22 rfl base 5 i0 (.int .u8 0) 1 1 Try.underlying22 hi0 hz0 hz1 hz2 rfl (by decide) u0 x6.length (x6.map (Value.int .u8)) rfl HOA.out ⟨wr.heap.size, 0, none⟩ 1 1 ([32].map (Value.int .u8)) rfl rfl (new1 _ _ _ rfl) (oneCB _) (by unfold maxLen; omega) (by omega) HSA.out ?_; intro v7 w7 hown' hgrow hnil; have HF7 : Hid (OwnB base w7 v7 (x6 ++ [32]) ∧ Keep5 base _ w7) := ownB_app HOA.out HSA.out hown' hgrow; clear hown' hgrow hnil)
                  go_meet
                  case rel => rw [gapT_pos hj0]; exact ⟨HF7.out.1, HKp6.out.trans ((Keep5.of_below HBA.out hs6).trans HF7.out.2), HBx6.out.keep5 ((Keep5.of_below HBA.out hs6).trans HF7.out.2)⟩
                · have hj0' : j = 0 := by omega
                  subst hj0'
                  go_wp2_with fail
                  go_meet
                  case rel => rw [gapT_zero, List.append_nil]; exact ⟨HO6.out, HKp6.out, HBx6.out⟩
              case rest =>
                obtain ⟨hO7, hKp7, hBx7⟩ := hcut
                clear c0 c1 c2 c3
                obtain ⟨c0, c1, c2, c3⟩ := hBx7.cells
                have HKp7 : Hid (Keep5 base w wc) := hKp7
                have HBx7 : Hid (BoxC wc w.heap.size (.int .i64 (kk : Int)) (.slice na nn nc) (.slice ra rn rc) (.slice ka kn kc)) := hBx7
                have hs7 : base ≤ wc.heap.size := Nat.le_trans hbase hKp7.1.size
                obtain ⟨x7, hx7⟩ : ∃ x7, x7 = x6 ++ gapT j := ⟨_, rfl⟩
                rw [← hx7] at hO7
                have hx7l : x7.length = x6.length + (gapT j).length := by rw [hx7]; simp
                have HX7 : Hid (x7 ++ textC (c.kids.getD j CN.zero) = x5 ++ textJ 0 (c.kids.take (j + 1))) := by unfold Hid; rw [HT.out, hx7, HX6.out]; simp
                have HO7 : Hid (OwnB base wc u0 x7) := hO7
                have hR := HKs.out.below hKp7.1 hhi
                rcases hR.cells with hz | ⟨b, off, e1, _, _, hc⟩
                · omega
                · subst e1
                  obtain ⟨v0, v1, v2, v3, q0, q1, q2, q3, hrd⟩ := hc j hlt
                  have HKid : Hid (RdC lo hi wc d (.agg #[v0, v1, v2, v3]) (c.kids.getD j CN.zero)) := hrd
                  have HWf : Hid (wfC (c.kids.getD j CN.zero) = true) := wfL_getD _ _ hjl HWK.out
                  clear hO7 hKp7 hBx7 hx7 hR hc hrd HO6 HKp6 HBx6
                  go_wp2_with fail
                  refine (H (.agg #[v0, v1, v2, v3]) (c.kids.getD j CN.zero) u0 x7 wc base lo hi HKid.out hhi hs7 HWf.out HO7.out (by omega)).mono ?_
                  rintro e w8 ⟨v8, rfl, hO8, hKp8⟩
                  have HO8 : Hid (OwnB base w8 v8 (x5 ++ textJ 0 (c.kids.take (j + 1)))) := by unfold Hid; rw [← HX7.out]; exact hO8
                  have HKp8 : Hid (Keep5 base w w8) := HKp7.out.trans hKp8
                  have HBx8 : Hid (BoxC w8 w.heap.size (.int .i64 (kk : Int)) (.slice na nn nc) (.slice ra rn rc) (.slice (some ⟨b, off, none⟩) kn kc)) := HBx7.out.keep5 hKp8
                  clear hO8 hKp8
                  go_wp2_with fail
                  go_roundw
                  case rel => exact ⟨j + 1, by omega, by go_num, HO8.out, HKp8.out, HBx8.out⟩
                  case measure => simp [intOf]; omega
            · have HE : Hid (xs ++ textC c = x6 ++ [41]) := by unfold Hid; rw [HTT5.out, HX6.out, List.take_of_length_le (by rw [HKL.out]; omega)]
              have HBA : Hid (Below wr.heap.size wr (wr.alloc (.cells #[.int .u8 41] 5))) := (Below.refl _ _).alloc (Nat.le_refl _) _
              have HOA : Hid (OwnB base (wr.alloc (.cells #[.int .u8 41] 5)) u0 x6) := HO6.out.below HBA.out (Nat.le_refl _)
              have HSA : Hid (base ≤ (wr.alloc (.cells #[.int .u8 41] 5)).heap.size) := Nat.le_trans hs6 HBA.out.size
              go_wp2_with (at_builtin; refine wpList_append_own _ rfl (.tmp 57) (.tmp 58) 22 rfl base 5 i0 (.int .u8 0) 1 1 Try.underlying22 hi0 hz0 hz1 hz2 rfl (by decide) u0 x6.length (x6.map (Value.int .u8)) rfl HOA.out ⟨wr.heap.size, 0, none⟩ 1 1 ([41].map (Value.int .u8)) rfl rfl (new1 _ _ _ rfl) (oneCB _) (by unfold maxLen; omega) (by omega) HSA.out ?_; intro v9 w9 hown' hgrow hnil; have HF9 : Hid (OwnB base w9 v9 (x6 ++ [41]) ∧ Keep5 base _ w9) := ownB_app HOA.out HSA.out hown' hgrow; clear hown' hgrow hnil)
              go_ret
              exact ⟨_, rfl, by rw [HE.out]; exact HF9.out.1, HKp6.out.trans ((Keep5.of_below HBA.out hs6).trans HF9.out.2)⟩
end

section
open Go.RowKit
end

end Go.Proofs.Ytedihcjhfkdkjaa
