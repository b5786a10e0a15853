/- A drawn text of tokens: some list of bytes, in memory of the call's own. -/
import Derived.Test.YthojlfcahhjfaaaDraw1
import Derived.Test.YthojlfcahhjfaaaConClone2
import Derived.Lib.AppendStr
import Derived.Lib.ConvBytes
namespace Go.Proofs.Ythojlfcahhjfaaa
open Go.RowKit

def numsOf (s : ByteArray) : List Int := s.data.toList.map (fun b => (b.toNat : Int))

theorem strCells_nums (s : ByteArray) : Lib.strCells s = (numsOf s).map (Value.int .u8) := by
  unfold Lib.strCells numsOf
  rw [List.map_map]
  rfl
theorem numsOf_len (s : ByteArray) : (numsOf s).length = s.size := by unfold numsOf; rw [List.length_map, Array.length_toList]; rfl
theorem numsOf_byte (s : ByteArray) : ∀ x ∈ numsOf s, 0 ≤ x ∧ x ≤ 255 := by
  intro x hx
  simp only [numsOf, List.mem_map] at hx
  obtain ⟨b, _, rfl⟩ := hx
  have := b.toNat_lt
  omega

theorem numsOf_get (s : ByteArray) (j : Nat) (hj : j < s.size) : ((numsOf s).map (Value.int .u8))[j]? = some (.int .u8 (s.data.toList.getD j 0).toNat) := by
  have h : j < s.data.toList.length := by rw [Array.length_toList]; exact hj
  rw [List.getElem?_map]
  unfold numsOf
  rw [List.getElem?_map, List.getD, List.getElem?_eq_getElem h]
  rfl
theorem bytes_below (W : World) (e : TypeId) (s : ByteArray) : Below W.heap.size W (Lib.bytesWorld W e s) := ⟨rfl, rfl, rfl, by rw [Lib.bytesWorld_size]; omega, fun k hk => Lib.bytesWorld_at_old W e s k hk⟩

theorem getD_byte {zs : List Int} (h : ∀ x ∈ zs, 0 ≤ x ∧ x ≤ 255) : ∀ i, 0 ≤ zs.getD i 0 ∧ zs.getD i 0 ≤ 255 := by
  intro i
  by_cases hi : i < zs.length
  · have := h _ (List.getElem_mem hi)
    simpa [List.getD, hi] using this
  · simp [List.getD, List.getElem?_eq_none (Nat.le_of_not_lt hi)]

theorem ownB_strN {base : Nat} {W w2 : World} {v v' : Value} {xs : List Int} {s : ByteArray} (hO : OwnB base W v xs) (hb : base ≤ W.heap.size)
    (hown : w2.ownsRow base 5 1 v' (xs.length + s.size) (xs.map (Value.int .u8) ++ Lib.strCells s)) (hgrow : W.grownBy w2 v.ownBlock) :
    OwnB base w2 v' (xs ++ numsOf s) ∧ Keep5 base W w2 := by
  rw [strCells_nums, ← numsOf_len] at hown
  exact ownB_app hO hb hown hgrow

theorem Cur.of {w w' : World} {B : Nat} {a : Option Addr} {n cap : Nat} {zs : List Int} {hi : Nat} (c : Cur w B a n cap zs hi) (hb : Below (B + 1) w w') : Cur w' B a n cap zs hi := by
  obtain ⟨⟨i, h, hi', q⟩, c2, c3⟩ := c
  exact ⟨⟨i, h, hi', (hb.block B (Nat.lt_succ_self _)).trans q⟩, c2.below hb (by omega), c3⟩
theorem Cur.lt {w : World} {B : Nat} {a : Option Addr} {n cap : Nat} {zs : List Int} {hi : Nat} (c : Cur w B a n cap zs hi) : B < w.heap.size := by
  obtain ⟨⟨i, h, hi', q⟩, c2, c3⟩ := c
  exact q.lt

theorem Only.step {B : Nat} {w a b : World} (h : Only B w a) (hB : B < w.heap.size) (k : Below w.heap.size a b) : Only B w b :=
  ⟨h.below.trans (k.mono (Nat.le_of_lt hB)), fun x h1 h2 => (k.block x h1).trans (h.other x h1 h2)⟩
theorem OwnB.only {base B : Nat} {w w' : World} {v : Value} {xs : List Int} (h : OwnB base w v xs) (k : Only B w w') (hB : B < base) : OwnB base w' v xs :=
  h.keepB (fun g hg => k.other g (OwnB.lt h g hg).2 (by have := (OwnB.lt h g hg).1; omega))

set_option maxRecDepth 100000 in
theorem l1words_any (w : World) : Calls Try.prog 86 #[] w fun e w' => e = .returned (.slice (some ⟨w.heap.size, 0, none⟩) 13 13) ∧ (∀ i : Nat, i < 13 → ∃ s : ByteArray, w'.cell? ⟨w.heap.size, i, none⟩ = some (.string s) ∧ s.size ≤ 5) ∧ Below w.heap.size w w' ∧ w.heap.size < w'.heap.size := by
  go_enter Try.func86, Try.ntmps86
  go_wp2
  go_ret
  refine ⟨rfl, fun i hi => ?_, (Below.refl _ _).alloc (Nat.le_refl _) _, by simp⟩
  match i, hi with
  | 0, _ | 1, _ | 2, _ | 3, _ | 4, _ | 5, _ | 6, _ | 7, _ | 8, _ | 9, _ | 10, _ | 11, _ | 12, _ => exact ⟨_, by simp; rfl, by decide⟩

/-- What a drawn text leaves. -/
def DrP (B : Nat) (w : World) (e : Ending) (w' : World) : Prop := ∃ v xs, e = .returned v ∧ OwnB w.heap.size w' v xs ∧ (∀ x ∈ xs, 0 ≤ x ∧ x ≤ 255) ∧ xs.length ≤ 200 ∧ Only B w w'

set_option maxRecDepth 100000 in
set_option maxHeartbeats 4000000 in
theorem l1text_any {w : World} {B : Nat} {a : Option Addr} {n cap : Nat} {zs : List Int} {hi : Nat} (c : Cur w B a n cap zs hi) :
    Calls Try.prog 45 #[.pointer (some ⟨B, 0, none⟩)] w (DrP B w) := by
  have HC0 : Hid (Cur w B a n cap zs hi) := c
  have hB := c.lt
  obtain ⟨i0, hi0, hz0, hz1, hz2⟩ := info_parts Try.info5
  clear c
  go_enter Try.func45, Try.ntmps45
  go_wp2_with fail
  refine (l1Below_any HC0.out 12 (by omega)).mono ?_
  rintro e w1 ⟨m, rfl, ⟨hm0, hm1⟩, hc1, ho1⟩
  obtain ⟨q, hq⟩ : ∃ q : Nat, m = (q : Int) := ⟨m.toNat, by omega⟩
  subst hq
  have HC1 : Hid (Cur w1 B a n cap zs hi) := hc1
  have HO1 : Hid (Only B w w1) := ho1
  have hq12 : q < 12 := by omega
  clear hc1 ho1 hm0 hm1
  go_wp2_with fail
  go_loopw [3, 5] (fun v i wr => ∃ (k : Nat) (xs : List Int), k ≤ q ∧ i = .int .i64 k ∧ OwnB w.heap.size wr v xs ∧ (∀ x ∈ xs, 0 ≤ x ∧ x ≤ 255) ∧ xs.length ≤ 6 * k ∧ Cur wr B a n cap zs hi ∧ Only B w wr) (fun _ i _ => q - (intOf i).toNat)
  case atStart => exact ⟨0, [], Nat.zero_le _, rfl, OwnB.nil _ _, by simp, by simp, HC1.out, HO1.out⟩
  case round =>
    obtain ⟨k, xs, hk, rfl, hO, hby, hxl, hc, ho⟩ := hrel
    have HO : Hid (OwnB w.heap.size wr u3 xs) := hO
    have HBy : Hid (∀ x ∈ xs, 0 ≤ x ∧ x ≤ 255) := hby
    have HC : Hid (Cur wr B a n cap zs hi) := hc
    have HOn : Hid (Only B w wr) := ho
    have hsr : w.heap.size ≤ wr.heap.size := ho.below.size
    clear hO hby hc ho
    by_cases hlt : k < q
    · have hki : (k : Int) < (q : Int) := by omega
      go_wp2_with fail
      refine (l1words_any wr).mono ?_
      rintro e w2 ⟨rfl, hws, hb2, hs2⟩
      have HWs : Hid (∀ i : Nat, i < 13 → ∃ s : ByteArray, w2.cell? ⟨wr.heap.size, i, none⟩ = some (.string s) ∧ s.size ≤ 5) := hws
      have HC2 : Hid (Cur w2 B a n cap zs hi) := HC.out.of (hb2.mono (by omega))
      have HO2 : Hid (OwnB w.heap.size w2 u3 xs) := HO.out.below hb2 (Nat.le_refl _)
      have HOn2 : Hid (Only B w w2) := HOn.out.step hB (hb2.mono hsr)
      clear hws hb2
      go_wp2_with fail
      refine (l1Below_any HC2.out 13 (by omega)).mono ?_
      rintro e w3 ⟨m, rfl, ⟨hm0, hm1⟩, hc3, ho3⟩
      obtain ⟨j, hj⟩ : ∃ j : Nat, m = (j : Int) := ⟨m.toNat, by omega⟩
      subst hj
      have hj13 : j < 13 := by omega
      obtain ⟨s, hsc, hss⟩ := HWs.out j hj13
      have hs3 := ho3.below.size
      have hsc3 : w3.cell? ⟨wr.heap.size, j, none⟩ = some (.string s) := (World.cell?_of_block (w := w2) (ho3.other wr.heap.size hs2 (by omega))).trans hsc
      have HC3 : Hid (Cur w3 B a n cap zs hi) := hc3
      have HO3 : Hid (OwnB w.heap.size w3 u3 xs) := HO2.out.only ho3 hB
      have HOn3 : Hid (Only B w w3) := HOn2.out.trans ho3
      have hji : (j : Int) < 13 := by omega
      clear hsc hc3 ho3 hm0 hm1
      go_upto_region 7 with (at_builtin; refine Lib.wpList_append_own_string _ rfl (.tmp 13) (.tmp 18) 22 9 rfl w.heap.size 5 i0 Try.underlying22 Try.underlying9 hi0 hz0 hz1 hz2 u3 xs.length (xs.map (Value.int .u8)) rfl HO3.out s rfl (by unfold maxLen; omega) (by omega) (by omega) ?_; intro v4 w4 hown hgrow hnil; have HF : Hid (OwnB w.heap.size w4 v4 (xs ++ numsOf s) ∧ Keep5 w.heap.size w3 w4) := ownB_strN HO3.out (by omega) hown hgrow; clear hown hgrow hnil)
      have HC4 : Hid (Cur w4 B a n cap zs hi) := HC3.out.of (HF.out.2.1.mono hB)
      have HOn4 : Hid (Only B w w4) := HOn3.out.step hB HF.out.2.1
      have hs4 := HF.out.2.1.size
      obtain ⟨ys, hys⟩ : ∃ ys, ys = xs ++ numsOf s := ⟨_, rfl⟩
      have HO4 : Hid (OwnB w.heap.size w4 v4 ys) := by unfold Hid; rw [hys]; exact HF.out.1
      have HY : Hid ((∀ x ∈ ys, 0 ≤ x ∧ x ≤ 255) ∧ ys.length ≤ 6 * k + 5) := by
        unfold Hid
        rw [hys]
        refine ⟨fun x hx => ?_, by rw [List.length_append, numsOf_len]; omega⟩
        rcases List.mem_append.1 hx with hx | hx
        · exact HBy.out x hx
        · exact numsOf_byte s x hx
      have hyl : ys.length ≤ 6 * k + 5 := HY.out.2
      clear hys hsc3
      go_wp2_with fail
      refine (l1Once_any HC4.out 2 (by omega)).mono ?_
      rintro e w5 ⟨y, rfl, hc5, ho5⟩
      have HC5 : Hid (Cur w5 B a n cap zs hi) := hc5
      have HO5 : Hid (OwnB w.heap.size w5 v4 ys) := HO4.out.only ho5 hB
      have HOn5 : Hid (Only B w w5) := HOn4.out.trans ho5
      have hs5 := ho5.below.size
      clear hc5 ho5
      cases y
      · go_wp2_with fail
        go_roundw
        case rel => exact ⟨k + 1, ys, by omega, by go_num, HO5.out, HY.out.1, by omega, HC5.out, HOn5.out⟩
        case measure => simp [intOf]; omega
      · have HO5a : Hid (OwnB w.heap.size (w5.alloc (.cells #[.int .u8 32] 5)) v4 ys) := HO5.out.below ((Below.refl _ _).alloc (Nat.le_refl _) _) (Nat.le_refl _)
        have HN5 : Hid (∀ j u, ([32].map (Value.int .u8))[j]? = some u → (w5.alloc (.cells #[.int .u8 32] 5)).cell? ((⟨w5.heap.size, 0, none⟩ : Addr).add j) = some u) := by
          intro j u hu
          match j, hu with
          | 0, hu => simp at hu; subst hu; rw [Addr.add_lit]; simp
        go_wp2_with (at_builtin; refine wpList_append_own _ rfl (.tmp 22) (.tmp 23) 22 rfl w.heap.size 5 i0 (.int .u8 0) 1 1 Try.underlying22 hi0 hz0 hz1 hz2 rfl (by decide) v4 ys.length (ys.map (Value.int .u8)) rfl HO5a.out ⟨w5.heap.size, 0, none⟩ 1 1 ([32].map (Value.int .u8)) rfl rfl HN5.out (oneCB _) (by unfold maxLen; omega) (by omega) (by simp; omega) ?_; intro v6 w6 hown hgrow hnil; have HG : Hid (OwnB w.heap.size w6 v6 (ys ++ [32]) ∧ Keep5 w.heap.size (w5.alloc (.cells #[.int .u8 32] 5)) w6) := ownB_app HO5a.out (by simp; omega) hown hgrow; clear hown hgrow hnil)
        have hb56 : Below w.heap.size w5 w6 := ((Below.refl _ _).alloc (by omega) _).trans HG.out.2.1
        go_roundw
        case rel =>
          refine ⟨k + 1, ys ++ [32], by omega, by go_num, HG.out.1, fun x hx => ?_, by simp; omega, HC5.out.of (hb56.mono hB), HOn5.out.step hB hb56⟩
          rcases List.mem_append.1 hx with hx | hx
          · exact HY.out.1 x hx
          · simp at hx; omega
        case measure => simp [intOf]; omega
    · have hki : ¬ (k : Int) < (q : Int) := by omega
      go_wp2_with fail
      refine (l1Once_any HC.out 6 (by omega)).mono ?_
      rintro e w5 ⟨y, rfl, hc5, ho5⟩
      have HC5 : Hid (Cur w5 B a n cap zs hi) := hc5
      have HO5 : Hid (OwnB w.heap.size w5 u3 xs) := HO.out.only ho5 hB
      have HOn5 : Hid (Only B w w5) := HOn.out.trans ho5
      have hs5 := ho5.below.size
      clear hc5 ho5
      cases y
      · go_wp2
        go_ret
        exact ⟨u3, xs, rfl, HO5.out, HBy.out, by omega, HOn5.out⟩
      · obtain ⟨W6, HW6⟩ : ∃ W, Hid (W = w5.alloc (.cells #[.string { data := #[63] }, .string { data := #[65, 98, 99, 100, 101, 102, 103] }, .string { data := #[97, 98, 99, 100, 101, 102, 103, 104] }, .string { data := #[65, 66] }, .string { data := #[97, 49] }, .string { data := #[45] }] 9)) := ⟨_, rfl⟩
        have hb6 : Below w5.heap.size w5 W6 := by rw [HW6.out]; exact (Below.refl _ _).alloc (Nat.le_refl _) _
        have hs6 : w5.heap.size < W6.heap.size := by rw [HW6.out]; simp
        have HWs : Hid (∀ i : Nat, i < 6 → ∃ s : ByteArray, W6.cell? ⟨w5.heap.size, i, none⟩ = some (.string s) ∧ s.size ≤ 8) := by
          intro i hi
          rw [HW6.out]
          match i, hi with
          | 0, _ | 1, _ | 2, _ | 3, _ | 4, _ | 5, _ => exact ⟨_, by simp; rfl, by decide⟩
        have HC6 : Hid (Cur W6 B a n cap zs hi) := HC5.out.of (hb6.mono (by omega))
        have HO6 : Hid (OwnB w.heap.size W6 u3 xs) := HO5.out.below hb6 (Nat.le_refl _)
        have HOn6 : Hid (Only B w W6) := HOn5.out.step hB (hb6.mono (by omega))
        clear hb6
        go_wp2_with fail
        rw [← HW6.out]
        refine (l1Below_any HC6.out 6 (by omega)).mono ?_
        rintro e w7 ⟨m, rfl, ⟨hm0, hm1⟩, hc7, ho7⟩
        obtain ⟨j, hj⟩ : ∃ j : Nat, m = (j : Int) := ⟨m.toNat, by omega⟩
        subst hj
        have hj6 : j < 6 := by omega
        obtain ⟨s, hsc, hss⟩ := HWs.out j hj6
        have hs7 := ho7.below.size
        have hsc7 : w7.cell? ⟨w5.heap.size, j, none⟩ = some (.string s) := (World.cell?_of_block (w := W6) (ho7.other w5.heap.size hs6 (by omega))).trans hsc
        have HO7 : Hid (OwnB w.heap.size w7 u3 xs) := HO6.out.only ho7 hB
        have HOn7 : Hid (Only B w w7) := HOn6.out.trans ho7
        have hji : (j : Int) < 6 := by omega
        obtain ⟨W8, HW8⟩ : ∃ W, Hid (W = Lib.bytesWorld w7 5 s) := ⟨_, rfl⟩
        obtain ⟨cp, HCP⟩ : ∃ cp, Hid (cp = grownCap w7 s.size 0 5) := ⟨_, rfl⟩
        have hcv : (convert 9 22 (.string s)).run Try.prog w7 = .ok (.slice (some ⟨w7.heap.size, 0, none⟩) s.size cp) W8 := by
          rw [HW8.out, HCP.out]
          exact Lib.run_convert_string_bytes w7 9 22 5 s Try.underlying9 Try.underlying22 Try.underlying5
        have hb8 : Below w7.heap.size w7 W8 := by rw [HW8.out]; exact bytes_below w7 5 s
        have hs8 : w7.heap.size < W8.heap.size := by rw [HW8.out, Lib.bytesWorld_size]; omega
        have HO8 : Hid (OwnB w.heap.size W8 u3 xs) := HO7.out.below hb8 (Nat.le_refl _)
        have HOn8 : Hid (Only B w W8) := HOn7.out.step hB (hb8.mono (by omega))
        have HN8 : Hid (∀ j u, ((numsOf s).map (Value.int .u8))[j]? = some u → W8.cell? ((⟨w7.heap.size, 0, none⟩ : Addr).add j) = some u) := by
          intro j u hu
          have hj : j < s.size := by rw [← numsOf_len]; simpa using (List.getElem?_eq_some_iff.1 hu).1
          rw [Addr.add_lit, Nat.zero_add, HW8.out, Lib.bytesWorld_cell w7 5 s j hj, ← hu]
          exact (numsOf_get s j hj).symm
        have HNl : Hid ((numsOf s).length = s.size) := numsOf_len s
        clear hsc hc7 ho7 hm0 hm1 hb8
        go_wp2_with (at_builtin; refine wpList_append_own _ rfl (.tmp 27) (.tmp 33) 22 rfl w.heap.size 5 i0 (.int .u8 0) 1 1 Try.underlying22 hi0 hz0 hz1 hz2 rfl (by decide) u3 xs.length (xs.map (Value.int .u8)) rfl HO8.out ⟨w7.heap.size, 0, none⟩ s.size cp ((numsOf s).map (Value.int .u8)) rfl (by rw [List.length_map, HNl.out, Nat.mul_one]) HN8.out (oneCB _) (by unfold maxLen; omega) (by omega) (by omega) ?_; intro v9 w9 hown hgrow hnil; have HG : Hid (OwnB w.heap.size w9 v9 (xs ++ numsOf s) ∧ Keep5 w.heap.size W8 w9) := ownB_app HO8.out (by omega) (by rw [HNl.out]; exact hown) hgrow; clear hown hgrow hnil)
        go_ret
        refine ⟨v9, xs ++ numsOf s, rfl, HG.out.1, fun x hx => ?_, by rw [List.length_append, HNl.out]; omega, HOn8.out.step hB HG.out.2.1⟩
        rcases List.mem_append.1 hx with hx | hx
        · exact HBy.out x hx
        · exact numsOf_byte s x hx

set_option maxHeartbeats 1000000 in
theorem drawTokens_any {a : Option Addr} {n cap : Nat} {zs : List Int} {w : World} (h : Rd 0 w.heap.size w a n cap zs) :
    Calls Try.prog 10 #[.slice a n cap] w fun e w' => ∃ v xs, e = .returned v ∧ OwnB w.heap.size w' v xs ∧ (∀ x ∈ xs, 0 ≤ x ∧ x ≤ 255) ∧ xs.length ≤ 200 ∧ Below w.heap.size w w' := by
  have HR : Hid (Rd 0 w.heap.size w a n cap zs) := h
  clear h
  go_enter Try.func10, Try.ntmps10
  go_wp2_with fail
  refine (l1New_any HR.out (Nat.le_refl _)).mono ?_
  rintro e w1 ⟨rfl, hc1, hb1⟩
  have HC1 : Hid (Cur w1 w.heap.size a n cap zs w.heap.size) := hc1
  have HB1 : Hid (Below w.heap.size w w1) := hb1
  clear hc1 hb1
  go_wp2_with fail
  refine (l1text_any HC1.out).mono ?_
  rintro e w2 hD
  obtain ⟨v, xs, rfl, hO, hby, hl, ho⟩ := hD
  have HF : Hid (OwnB w.heap.size w2 v xs ∧ (∀ x ∈ xs, 0 ≤ x ∧ x ≤ 255) ∧ xs.length ≤ 200 ∧ Below w.heap.size w w2) := ⟨OwnB.mono hO HB1.out.size, hby, hl, HB1.out.trans ho.below⟩
  clear hO hby hl ho
  go_wp2
  go_ret
  exact ⟨v, xs, rfl, HF.out⟩

end Go.Proofs.Ythojlfcahhjfaaa
