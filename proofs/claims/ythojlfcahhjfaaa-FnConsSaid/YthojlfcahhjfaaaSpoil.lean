/- A drawn text of a concept, spoilt or not; a drawn concept. -/
import Derived.Test.YthojlfcahhjfaaaBent1
import Derived.Test.YthojlfcahhjfaaaConAdd
import Derived.Test.YthojlfcahhjfaaaNTx
import Derived.Test.YthojlfcahhjfaaaNLaw
namespace Go.Proofs.Ythojlfcahhjfaaa
open Go.RowKit

/-- An append of bytes to bytes of the call's own that are not nil, as a step of a region that draws its order. -/
theorem step_appO {w : World} {ops : Array Oper} {o : Oper} {a : Act} {K : Act → World → Prop} {Q : Exit → Act → World → Prop} {E : Prop} (hgd : o.guard = none) (s x : Operand)
    (ho : o.op = .call { callee := .builtin .append, args := #[s, x], argTypes := #[22, 22] }) (base : Nat) (v : Value) (xs : List Int) (hs : a.eval s = v) (hO : OwnB base w v xs) (hv : v ≠ .slice none 0 0) {lo hi : Nat} (b off n cap : Nat) (ys : List Int)
    (hx : a.eval x = .slice (some ⟨b, off, none⟩) n cap) (hR : Rd lo hi w (some ⟨b, off, none⟩) n cap ys) (hlen : xs.length + n ≤ 1073741824) (hbase : base ≤ w.heap.size)
    (h : ∀ v' w', OwnB base w' v' (xs ++ ys) → Keep5 base w w' → v' ≠ .slice none 0 0 → K (a.put o.dst v') w') :
    if Region.wanted o (yielded ops a.tmps) = true then Oper.wp Try.prog o a w K Q else E := by
  obtain ⟨i0, hi0, hz0, hz1, hz2⟩ := info_parts Try.info5
  have hl := hR.len
  subst hl
  have hw : Region.wanted o (yielded ops a.tmps) = true := by simp [Region.wanted, hgd]
  rw [if_pos hw]
  obtain ⟨v', w', hr, h2, h3, h4⟩ := run_append_own (P := Try.prog) w base 22 o.type 5 i0 (.int .u8 0) 1 1 Try.underlying22 hi0 hz0 hz1 hz2 rfl (by decide) v xs.length (xs.map (Value.int .u8)) hO ⟨b, off, none⟩ ys.length cap (ys.map (Value.int .u8)) (by simp) (rd_news hR) (oneCB _) (by unfold maxLen; omega) (by omega) hbase
  unfold Oper.wp execOp
  simp only [ho, resolve, invoke, builtin, Sem.run_bind, Sem.run_pure, Result.andThen_ok, List.map_toArray, List.map_cons, List.map_nil, hs, hx, hr]
  exact h v' w' (ownB_app hO hbase h2 h3).1 (ownB_app hO hbase h2 h3).2 (fun e => hv (h4.1 e).1)

theorem step_strO {w : World} {ops : Array Oper} {o : Oper} {a : Act} {K : Act → World → Prop} {Q : Exit → Act → World → Prop} {E : Prop} (hgd : o.guard = none) (sl x : Operand)
    (ho : o.op = .call { callee := .builtin .append, args := #[sl, x], argTypes := #[22, 9] }) (base : Nat) (v : Value) (xs : List Int) (hs : a.eval sl = v) (hO : OwnB base w v xs) (hv : v ≠ .slice none 0 0) (s : ByteArray)
    (hx : a.eval x = .string s) (hlen : xs.length + s.size ≤ 1073741824) (hbase : base ≤ w.heap.size)
    (h : ∀ v' w', OwnB base w' v' (xs ++ numsOf s) → Keep5 base w w' → v' ≠ .slice none 0 0 → K (a.put o.dst v') w') :
    if Region.wanted o (yielded ops a.tmps) = true then Oper.wp Try.prog o a w K Q else E := by
  obtain ⟨i0, hi0, hz0, hz1, hz2⟩ := info_parts Try.info5
  have hw : Region.wanted o (yielded ops a.tmps) = true := by simp [Region.wanted, hgd]
  rw [if_pos hw]
  obtain ⟨v', w', hr, h2, h3, h4⟩ := Lib.run_append_own_string (P := Try.prog) w base 22 9 o.type 5 i0 Try.underlying22 Try.underlying9 hi0 hz0 hz1 hz2 v xs.length (xs.map (Value.int .u8)) hO s (by unfold maxLen; omega) (by omega) hbase
  unfold Oper.wp execOp
  simp only [ho, resolve, invoke, builtin, Sem.run_bind, Sem.run_pure, Result.andThen_ok, List.map_toArray, List.map_cons, List.map_nil, hs, hx, hr]
  exact h v' w' (ownB_strN hO hbase h2 h3).1 (ownB_strN hO hbase h2 h3).2 (fun e => hv (h4.1 e).1)

theorem Rd.only {lo hi B : Nat} {w w' : World} {a : Option Addr} {n cap : Nat} {zs : List Int} (h : Rd lo hi w a n cap zs) (o : Only B w w') (hB : B < lo) (hh : hi ≤ w.heap.size) : Rd lo hi w' a n cap zs :=
  h.same (fun b h1 h2 => o.other b (by omega) (by omega))

/-- What a spoilt text is. -/
def SpP (B : Nat) (m : Nat) (w : World) (e : Ending) (w' : World) : Prop := ∃ v ys, e = .returned v ∧ v ≠ .slice none 0 0 ∧ OwnB w.heap.size w' v ys ∧ (∀ x ∈ ys, 0 ≤ x ∧ x ≤ 255) ∧ ys.length ≤ m + 10 ∧ Only B w w'

/-- The rest of a slice from i on, as the model has it: where no room is left it points to the begin. -/
theorem Rd.rest {lo hi : Nat} {w : World} {b off n cap : Nat} {zs : List Int} (h : Rd lo hi w (some ⟨b, off, none⟩) n cap zs) {i o' : Nat} (hin : i ≤ n) (ho : (cap = i ∧ o' = off) ∨ (cap ≠ i ∧ o' = off + i)) : Rd lo hi w (some ⟨b, o', none⟩) (n - i) (cap - i) ((zs.drop i).take (n - i)) := by
  have hl := h.len
  have hf := h.fits
  rcases ho with ⟨h1, rfl⟩ | ⟨h1, rfl⟩
  · have e : n - i = 0 := by omega
    rw [e]
    exact ⟨by simp, ⟨by omega, by omega⟩, by simp, .inl rfl⟩
  · exact h.cut (by omega)

theorem own_made_ne (g : Nat) : Value.slice (some ⟨g, 0, none⟩) 0 0 ≠ .slice none 0 0 := by simp

set_option maxRecDepth 100000 in
set_option maxHeartbeats 4000000 in
theorem l2spoil_any {w : World} {B : Nat} {a : Option Addr} {n cap : Nat} {zs : List Int} {hi : Nat} (c : Cur w B a n cap zs hi) {lo bb off m cp : Nat} {xs : List Int} (hR : Rd lo w.heap.size w (some ⟨bb, off, none⟩) m cp xs) (hlo : B < lo) (hm1 : 1 ≤ m) (hm2 : m ≤ 100000) :
    Calls Try.prog 66 #[.pointer (some ⟨B, 0, none⟩), .slice (some ⟨bb, off, none⟩) m cp] w (SpP B m w) := by
  have HC0 : Hid (Cur w B a n cap zs hi) := c
  have HR0 : Hid (Rd lo w.heap.size w (some ⟨bb, off, none⟩) m cp xs) := hR
  have hB := c.lt
  have hfit := hR.fits
  have hml : (0 : Int) < (m : Int) := by omega
  have hmc : (m : Int) ≤ (cp : Int) := by omega
  have HBy : Hid (∀ i k, ∀ x ∈ (xs.drop i).take k, 0 ≤ x ∧ x ≤ 255) := by
    intro i k x hx
    have hx' : x ∈ xs := List.mem_of_mem_drop (List.mem_of_mem_take hx)
    obtain ⟨j, hj, rfl⟩ := List.getElem_of_mem hx'
    have := hR.byte j
    simpa [List.getD, hj] using this
  have HLen : Hid (xs.length = m) := hR.len
  clear c hR
  go_enter Try.func66, Try.ntmps66
  go_wp2_with fail
  refine (l1Once_any HC0.out 3 (by omega)).mono ?_
  rintro e w1 ⟨y, rfl, hc1, ho1⟩
  have HC1 : Hid (Cur w1 B a n cap zs hi) := hc1
  have HR1 : Hid (Rd lo w.heap.size w1 (some ⟨bb, off, none⟩) m cp xs) := HR0.out.only ho1 hlo (Nat.le_refl _)
  have HO1 : Hid (Only B w w1) := ho1
  have hs1 := ho1.below.size
  clear hc1 ho1
  cases y
  · go_wp2_with fail
    refine (l1Below_all HC1.out ((m : Int) + 1) (by omega)).mono ?_
    rintro e w2 ⟨x, rfl, ⟨hx0, hx1⟩, hc2, ho2⟩
    obtain ⟨j, hj⟩ : ∃ j : Nat, x = (j : Int) := ⟨x.toNat, by omega⟩
    subst hj
    have HR2 : Hid (Rd lo w.heap.size w2 (some ⟨bb, off, none⟩) m cp xs) := HR1.out.same (fun b h1 h2 => ho2.other b (by omega) (by omega))
    have HO2 : Hid (Only B w w2) := HO1.out.trans ho2
    have hs2 := ho2.below.size
    have hjm : (j : Int) ≤ (m : Int) := by omega
    have hjc : (j : Int) ≤ (cp : Int) := by omega
    obtain ⟨W3, HW3⟩ : ∃ W, Hid (W = w2.alloc (.cells #[.string { data := #[32] }, .string { data := #[40] }, .string { data := #[41] }, .string { data := #[65] }, .string { data := #[114] }, .string { data := #[78, 111, 116] }, .string { data := #[63] }, .string { data := #[32, 84, 111, 112, 32] }, .string { data := #[83, 117, 98] }, .string { data := #[10] }] 9)) := ⟨_, rfl⟩
    have hb3 : Below w2.heap.size w2 W3 := by rw [HW3.out]; exact (Below.refl _ _).alloc (Nat.le_refl _) _
    have hs3 : w2.heap.size < W3.heap.size := by rw [HW3.out]; simp
    have HWs : Hid (∀ i : Nat, i < 10 → ∃ s : ByteArray, W3.cell? ⟨w2.heap.size, i, none⟩ = some (.string s) ∧ s.size ≤ 5) := by
      intro i hi
      rw [HW3.out]
      match i, hi with
      | 0, _ | 1, _ | 2, _ | 3, _ | 4, _ | 5, _ | 6, _ | 7, _ | 8, _ | 9, _ => exact ⟨_, by simp; rfl, by decide⟩
    have HC3 : Hid (Cur W3 B a n cap zs hi) := hc2.of (hb3.mono (by omega))
    have HR3 : Hid (Rd lo w.heap.size W3 (some ⟨bb, off, none⟩) m cp xs) := HR2.out.below hb3 (by omega)
    have HO3 : Hid (Only B w W3) := HO2.out.step hB (hb3.mono (by omega))
    clear hb3 hc2 ho2
    go_wp2_with fail
    rw [← HW3.out]
    refine (l1Below_any HC3.out 10 (by omega)).mono ?_
    rintro e w4 ⟨x, rfl, ⟨hx0', hx1'⟩, hc4, ho4⟩
    obtain ⟨q, hq⟩ : ∃ q : Nat, x = (q : Int) := ⟨x.toNat, by omega⟩
    subst hq
    have hq10 : q < 10 := by omega
    have hqi : (q : Int) < 10 := by omega
    obtain ⟨s, hsc, hss⟩ := HWs.out q hq10
    have hsc4 : w4.cell? ⟨w2.heap.size, q, none⟩ = some (.string s) := (World.cell?_of_block (w := W3) (ho4.other w2.heap.size hs3 (by omega))).trans hsc
    have HR4 : Hid (Rd lo w.heap.size w4 (some ⟨bb, off, none⟩) m cp xs) := HR3.out.same (fun b h1 h2 => ho4.other b (by omega) (by omega))
    have HO4 : Hid (Only B w w4) := HO3.out.trans ho4
    have hs4 := ho4.below.size
    clear hc4 ho4 hsc
    go_upto_region 6 with fail
    obtain ⟨o', ho', hif⟩ : ∃ o', ((cp = j ∧ o' = off) ∨ (cp ≠ j ∧ o' = off + j)) ∧ (if cp = j then some (⟨bb, off, none⟩ : Addr) else some ⟨bb, off + j, none⟩) = some ⟨bb, o', none⟩ := by
      by_cases hcj : cp = j
      · exact ⟨off, .inl ⟨hcj, rfl⟩, by simp [hcj]⟩
      · exact ⟨off + j, .inr ⟨hcj, rfl⟩, by simp [hcj]⟩
    have HO' : Hid ((cp = j ∧ o' = off) ∨ (cp ≠ j ∧ o' = off + j)) := ho'
    clear ho'
    obtain ⟨Wa, HWa⟩ : ∃ W, Hid (W = (w4.alloc (.cells #[] 5)).drew) := ⟨_, rfl⟩
    have hba : Below w.heap.size w4 Wa := by rw [HWa.out]; exact ((Below.refl w.heap.size w4).alloc (by omega) _).drew
    have hsa : w4.heap.size ≤ Wa.heap.size := hba.size
    have HOwa : Hid (OwnB w.heap.size Wa (.slice (some ⟨w4.heap.size, 0, none⟩) 0 0) []) := by unfold Hid; rw [HWa.out]; exact ownB_made w4 (by omega)
    have HRa : Hid (Rd lo w.heap.size Wa (some ⟨bb, off, none⟩) m cp xs) := HR4.out.below hba (Nat.le_refl _)
    have HOa : Hid (Only B w Wa) := HO4.out.step hB hba
    clear hba hsc4
    go_region_law
      (first
      | (refine step_appO (w := w6) rfl (.tmp 45) (.tmp 48) rfl w.heap.size v6 ((xs.drop 0).take j ++ numsOf s) (by first | rfl | (simp [Act.eval]; done) | simp [Act.eval, Act.put]) HO6.out HV6.out bb o' (m - j) (cp - j) ((xs.drop j).take (m - j)) (by first | rfl | (simp [Act.eval]; done) | simp [Act.eval, Act.put]) (HR6.out.rest (i := j) (by omega) HO'.out) (by simp [numsOf_len]; omega) (by omega) ?_; intro v7 w7 hO7 hk7 hv7; have HO7 : Hid (OwnB w.heap.size w7 v7 ((xs.drop 0).take j ++ numsOf s ++ (xs.drop j).take (m - j))) := hO7; have HOn7 : Hid (Only B w w7) := HOn6.out.step hB hk7.1; have HV7 : Hid (v7 ≠ .slice none 0 0) := hv7; clear hO7 hk7 hv7)
      | (refine step_strO (w := w5) rfl (.tmp 43) (.tmp 44) rfl w.heap.size v5 ((xs.drop 0).take j) (by first | rfl | (simp [Act.eval]; done) | simp [Act.eval, Act.put]) HO5.out HV5.out s (by first | rfl | (simp [Act.eval]; done) | simp [Act.eval, Act.put]) (by simp; omega) (by omega) ?_; intro v6 w6 hO6 hk6 hv6; have HO6 : Hid (OwnB w.heap.size w6 v6 ((xs.drop 0).take j ++ numsOf s)) := hO6; have HR6 : Hid (Rd lo w.heap.size w6 (some ⟨bb, off, none⟩) m cp xs) := HR5.out.below hk6.1 (Nat.le_refl _); have HOn6 : Hid (Only B w w6) := HOn5.out.step hB hk6.1; have hs6 := hk6.1.size; have HV6 : Hid (v6 ≠ .slice none 0 0) := hv6; clear hO6 hk6 hv6)
      | (try rw [← HWa.out]; refine step_appO (w := Wa) rfl (.tmp 39) (.tmp 42) rfl w.heap.size (.slice (some ⟨w4.heap.size, 0, none⟩) 0 0) [] (by first | rfl | (simp [Act.eval]; done) | simp [Act.eval, Act.put]) HOwa.out (own_made_ne _) bb (off + 0) j cp ((xs.drop 0).take j) (by first | rfl | (simp [Act.eval]; done) | simp [Act.eval, Act.put]) (HRa.out.cut (i := 0) (k := j) (by omega)) (by simp; omega) (by omega) ?_; intro v5 w5 hO5 hk5 hv5; rw [List.nil_append] at hO5; have HO5 : Hid (OwnB w.heap.size w5 v5 ((xs.drop 0).take j)) := hO5; have HR5 : Hid (Rd lo w.heap.size w5 (some ⟨bb, off, none⟩) m cp xs) := HRa.out.below hk5.1 (Nat.le_refl _); have HOn5 : Hid (Only B w w5) := HOa.out.step hB hk5.1; have hs5 := hk5.1.size; have HV5 : Hid (v5 ≠ .slice none 0 0) := hv5; clear hO5 hk5 hv5))
    all_goals
      go_wp2
      go_ret
      refine ⟨v7, _, rfl, HV7.out, HO7.out, fun x hx => ?_, ?_, HOn7.out⟩
      · rcases List.mem_append.1 hx with hx | hx
        · rcases List.mem_append.1 hx with hx | hx
          · exact HBy.out _ _ x hx
          · exact numsOf_byte s x hx
        · exact HBy.out _ _ x hx
      · have := HLen.out
        simp [numsOf_len]; omega
  · go_wp2_with fail
    refine (l1Below_all HC1.out m (by omega)).mono ?_
    rintro e w4 ⟨x, rfl, ⟨hx0, hx1⟩, hc4, ho4⟩
    obtain ⟨j, hj⟩ : ∃ j : Nat, x = (j : Int) := ⟨x.toNat, by omega⟩
    subst hj
    have HR4 : Hid (Rd lo w.heap.size w4 (some ⟨bb, off, none⟩) m cp xs) := HR1.out.same (fun b h1 h2 => ho4.other b (by omega) (by omega))
    have HO4 : Hid (Only B w w4) := HO1.out.trans ho4
    have hs4 := ho4.below.size
    have hjm : (j : Int) ≤ (m : Int) := by omega
    have hjc : (j : Int) ≤ (cp : Int) := by omega
    have hj1m : (j : Int) + 1 ≤ (m : Int) := by omega
    have hj10 : (0 : Int) ≤ (j : Int) + 1 := by omega
    clear hc4 ho4
    go_upto_region 3 with fail
    obtain ⟨o', ho', hif⟩ : ∃ o', ((cp = j + 1 ∧ o' = off) ∨ (cp ≠ j + 1 ∧ o' = off + (j + 1))) ∧ (if cp = j + 1 then some (⟨bb, off, none⟩ : Addr) else some ⟨bb, off + (j + 1), none⟩) = some ⟨bb, o', none⟩ := by
      by_cases hcj : cp = j + 1
      · exact ⟨off, .inl ⟨hcj, rfl⟩, by simp [hcj]⟩
      · exact ⟨off + (j + 1), .inr ⟨hcj, rfl⟩, by simp [hcj]⟩
    have HO' : Hid ((cp = j + 1 ∧ o' = off) ∨ (cp ≠ j + 1 ∧ o' = off + (j + 1))) := ho'
    have hj1w : IntKind.i64.wrap ((j : Int) + 1) = (j : Int) + 1 := wrap64_id (by omega)
    have hj1n : ((j : Int) + 1).toNat = j + 1 := by omega
    clear ho'
    obtain ⟨Wa, HWa⟩ : ∃ W, Hid (W = (w4.alloc (.cells #[] 5)).drew) := ⟨_, rfl⟩
    have hba : Below w.heap.size w4 Wa := by rw [HWa.out]; exact ((Below.refl w.heap.size w4).alloc (by omega) _).drew
    have hsa : w4.heap.size ≤ Wa.heap.size := hba.size
    have HOwa : Hid (OwnB w.heap.size Wa (.slice (some ⟨w4.heap.size, 0, none⟩) 0 0) []) := by unfold Hid; rw [HWa.out]; exact ownB_made w4 (by omega)
    have HRa : Hid (Rd lo w.heap.size Wa (some ⟨bb, off, none⟩) m cp xs) := HR4.out.below hba (Nat.le_refl _)
    have HOa : Hid (Only B w Wa) := HO4.out.step hB hba
    clear hba
    go_region_law
      (first
      | (refine step_appO (w := w5) rfl (.tmp 23) (.tmp 27) rfl w.heap.size v5 ((xs.drop 0).take j) (by first | rfl | (simp [Act.eval]; done) | simp [Act.eval, Act.put]) HO5.out HV5.out bb o' (m - (j + 1)) (cp - (j + 1)) ((xs.drop (j + 1)).take (m - (j + 1))) (by first | rfl | (simp [Act.eval]; done) | simp [Act.eval, Act.put]) (HR5.out.rest (i := j + 1) (by omega) HO'.out) (by simp; omega) (by omega) ?_; intro v7 w7 hO7 hk7 hv7; have HO7 : Hid (OwnB w.heap.size w7 v7 ((xs.drop 0).take j ++ (xs.drop (j + 1)).take (m - (j + 1)))) := hO7; have HOn7 : Hid (Only B w w7) := HOn5.out.step hB hk7.1; have HV7 : Hid (v7 ≠ .slice none 0 0) := hv7; clear hO7 hk7 hv7)
      | (try rw [← HWa.out]; refine step_appO (w := Wa) rfl (.tmp 19) (.tmp 22) rfl w.heap.size (.slice (some ⟨w4.heap.size, 0, none⟩) 0 0) [] (by first | rfl | (simp [Act.eval]; done) | simp [Act.eval, Act.put]) HOwa.out (own_made_ne _) bb (off + 0) j cp ((xs.drop 0).take j) (by first | rfl | (simp [Act.eval]; done) | simp [Act.eval, Act.put]) (HRa.out.cut (i := 0) (k := j) (by omega)) (by simp; omega) (by omega) ?_; intro v5 w5 hO5 hk5 hv5; rw [List.nil_append] at hO5; have HO5 : Hid (OwnB w.heap.size w5 v5 ((xs.drop 0).take j)) := hO5; have HR5 : Hid (Rd lo w.heap.size w5 (some ⟨bb, off, none⟩) m cp xs) := HRa.out.below hk5.1 (Nat.le_refl _); have HOn5 : Hid (Only B w w5) := HOa.out.step hB hk5.1; have hs5 := hk5.1.size; have HV5 : Hid (v5 ≠ .slice none 0 0) := hv5; clear hO5 hk5 hv5))
    all_goals
      go_wp2
      go_ret
      refine ⟨v7, _, rfl, HV7.out, HO7.out, fun x hx => ?_, ?_, HOn7.out⟩
      · rcases List.mem_append.1 hx with hx | hx
        · exact HBy.out _ _ x hx
        · exact HBy.out _ _ x hx
      · have := HLen.out
        simp; omega

/-- Bytes that a call has made and that are not nil, as a slice. -/
theorem own_some {base : Nat} {w : World} {v : Value} {zs : List Int} (h : OwnB base w v zs) (hv : v ≠ .slice none 0 0) (hby : ∀ x ∈ zs, 0 ≤ x ∧ x ≤ 255) : ∃ g c, v = .slice (some ⟨g, 0, none⟩) zs.length c ∧ base ≤ g ∧ g < w.heap.size ∧ Rd base w.heap.size w (some ⟨g, 0, none⟩) zs.length c zs := by
  rcases h.2 with ⟨hn, _⟩ | ⟨g, cap, cur, rfl, hg, hh, h1, h2, h3, h4⟩
  · exact absurd hn hv
  · have hlt : g < w.heap.size := (Array.getElem?_eq_some_iff.1 hh).1
    refine ⟨g, cap, rfl, hg, hlt, rfl, ⟨h1, by unfold maxLen at h2; omega⟩, getD_byte hby, .inr ⟨g, 0, rfl, hg, hlt, fun i hi => ?_⟩⟩
    have := h.cellAt i (by omega)
    rw [Nat.zero_add, this, List.getElem?_map]
    simp [List.getD, hi]

theorem text_some {c : CN} (h : wfC c = true) : 1 ≤ (textC c).length := by
  rw [wfC_eq, Bool.and_eq_true] at h
  have hs := h.1
  unfold shapeB at hs
  simp only [Bool.and_eq_true, decide_eq_true_eq] at hs
  obtain ⟨hn, _, hk⟩ := hs
  rw [textC_eq]
  by_cases h2 : c.kind = 2
  · rw [if_pos h2]
    unfold nameFit at hn
    rw [if_pos h2] at hn
    simp only [upOk, longB, Bool.and_eq_true, decide_eq_true_eq] at hn
    exact hn.1.1.1
  · rw [if_neg h2]
    by_cases h0 : c.kids.length = 0
    · rw [if_pos h0]
      have hz : kidN c.kind = 0 := by omega
      have : c.kind = 0 ∨ c.kind = 1 := by
        unfold kidN at hz
        split at hz
        · omega
        · split at hz
          · omega
          · split at hz <;> omega
      rcases this with e | e <;> rw [e] <;> decide
    · rw [if_neg h0]; simp; omega

set_option maxRecDepth 100000 in
set_option maxHeartbeats 1000000 in
theorem drawConText_any {a : Option Addr} {n cap : Nat} {zs : List Int} {w : World} (h : Rd 0 w.heap.size w a n cap zs) :
    Calls Try.prog 18 #[.slice a n cap] w fun e w' => ∃ v c, e = .returned v ∧ RdC w.heap.size w'.heap.size w' 20 v c ∧ c.bulk ≤ 100000 ∧ Below w.heap.size w w' := by
  have hb0 : Below w.heap.size w (w.alloc (.cells #[.int .i64 0, .slice none 0 0, .slice none 0 0, .slice none 0 0] 35)) := (Below.refl _ _).alloc (Nat.le_refl _) _
  obtain ⟨W0, HW0⟩ : ∃ W, Hid (W = w.alloc (.cells #[.int .i64 0, .slice none 0 0, .slice none 0 0, .slice none 0 0] 35)) := ⟨_, rfl⟩
  have HB0 : Hid (Below w.heap.size w W0) := by unfold Hid; rw [HW0.out]; exact hb0
  have HX0 : Hid (BoxC W0 w.heap.size (.int .i64 0) (.slice none 0 0) (.slice none 0 0) (.slice none 0 0)) := by unfold Hid; rw [HW0.out]; exact BoxC.new w _ _ _ _
  have HR0 : Hid (Rd 0 w.heap.size W0 a n cap zs) := h.below HB0.out (Nat.le_refl _)
  have hs0 : w.heap.size < W0.heap.size := HX0.out.lt
  clear hb0 h
  go_enter Try.func18, Try.ntmps18
  go_wp2_with fail
  rw [← HW0.out]
  refine (l1New_any HR0.out (Nat.le_of_lt hs0)).mono ?_
  rintro e w1 ⟨rfl, hc1, hb1⟩
  have HC1 : Hid (Cur w1 W0.heap.size a n cap zs w.heap.size) := hc1
  have HB1 : Hid (Below W0.heap.size W0 w1) := hb1
  have hs1 := hb1.size
  clear hc1 hb1
  go_wp2_with fail
  refine (l2bent_any HC1.out).mono ?_
  rintro e w2 hD
  obtain ⟨v, c, rfl, hr, hbk, hc2, hbt⟩ := hD
  obtain ⟨k, na, nn, nc, ra, rn, rc, ka, kn, kc, rfl⟩ := hr.shape
  have HR2 : Hid (RdC w1.heap.size w2.heap.size w2 20 (.agg #[.int .i64 k, .slice na nn nc, .slice ra rn rc, .slice ka kn kc]) c) := hr
  have HK2 : Hid (c.bulk ≤ 100000) := hbk
  have HB2 : Hid (Below w.heap.size w w2) := (HB0.out.trans (HB1.out.mono (by omega))).trans (hbt.below (by omega) (by omega))
  have HX2 : Hid (BoxC w2 w.heap.size (.int .i64 0) (.slice none 0 0) (.slice none 0 0) (.slice none 0 0)) := (hbt.block _ (by omega) (by omega)).trans ((HB1.out.block _ hs0).trans HX0.out)
  obtain ⟨z0, z1, z2, z3⟩ := HX2.out.cells
  have zf0 := HX2.out.frz 0
  have zf1 := HX2.out.frz 1
  have zf2 := HX2.out.frz 2
  have zf3 := HX2.out.frz 3
  clear hr hbk hc2 hbt
  go_wp2
  obtain ⟨s0, s1, s2, s3⟩ := (HX2.out.set4 (.int .i64 k) (.slice na nn nc) (.slice ra rn rc) (.slice ka kn kc)).cells
  refine bodyPost_ret (v := .agg #[.int .i64 k, .slice na nn nc, .slice ra rn rc, .slice ka kn kc]) (by simp [results, Try.results18, go_sem, s0, s1, s2, s3]) rfl ?_
  have hsm : Same w1.heap.size w2.heap.size w2 ((((w2.setCell ⟨w.heap.size, 0, none⟩ (.int .i64 k)).setCell ⟨w.heap.size, 1, none⟩ (.slice na nn nc)).setCell ⟨w.heap.size, 2, none⟩ (.slice ra rn rc)).setCell ⟨w.heap.size, 3, none⟩ (.slice ka kn kc)) := fun q h1 h2 => heap_set4 _ _ _ _ _ (by omega)
  refine ⟨_, c, rfl, (HR2.out.same hsm).mono (by omega) (by simp), HK2.out, ?_⟩
  exact (((HB2.out.setCell (p := ⟨w.heap.size, 0, none⟩) (Nat.le_refl _) _).setCell (p := ⟨w.heap.size, 1, none⟩) (Nat.le_refl _) _).setCell (p := ⟨w.heap.size, 2, none⟩) (Nat.le_refl _) _).setCell (p := ⟨w.heap.size, 3, none⟩) (Nat.le_refl _) _

set_option maxRecDepth 100000 in
set_option maxHeartbeats 1000000 in
theorem drawConRead_any {a : Option Addr} {n cap : Nat} {zs : List Int} {w : World} (h : Rd 0 w.heap.size w a n cap zs) :
    Calls Try.prog 23 #[.slice a n cap] w fun e w' => ∃ g ys cp, e = .returned (.slice (some ⟨g, 0, none⟩) ys.length cp) ∧ g < w'.heap.size ∧ Rd w.heap.size w'.heap.size w' (some ⟨g, 0, none⟩) ys.length cp ys ∧ ys.length ≤ 10000 ∧ Below w.heap.size w w' := by
  have HR : Hid (Rd 0 w.heap.size w a n cap zs) := h
  clear h
  go_enter Try.func23, Try.ntmps23
  go_wp2_with fail
  refine (l1New_any HR.out (Nat.le_refl _)).mono ?_
  rintro e w1 ⟨rfl, hc1, hb1⟩
  have HC1 : Hid (Cur w1 w.heap.size a n cap zs w.heap.size) := hc1
  have HB1 : Hid (Below w.heap.size w w1) := hb1
  have hs1 : w.heap.size < w1.heap.size := hc1.lt
  clear hc1 hb1
  go_wp2_with fail
  refine (l2draw_any 3 (by omega) HC1.out).mono ?_
  rintro e w2 hD
  obtain ⟨y0, y1, y2, y3, c, L, rfl, hO, _, hbk, hwf, hC2, hbt⟩ := hD
  obtain ⟨v2, hv2⟩ : ∃ v2, v2 = Value.agg #[y0, y1, y2, y3] := ⟨_, rfl⟩
  rw [← hv2] at hO ⊢
  have hus : ∀ x ∈ L, w1.heap.size ≤ x.1.block ∧ x.1.block < w2.heap.size := by
    intro x hx
    rcases hO.us x hx with ⟨q1, q2⟩ | ⟨t, _, _, q, _⟩
    · exact ⟨q1, q2⟩
    · simp at q
  have HR2 : Hid (RdC w1.heap.size w2.heap.size w2 4 v2 c) := hO.ow.rd hus
  have HW2 : Hid (wfC c = true) := hwf
  have HT2 : Hid ((textC c).length ≤ 7690) := by have := textC_len c; unfold Hid; omega
  have HC2 : Hid (Cur w2 w.heap.size a n cap zs w.heap.size) := hC2
  have HB2 : Hid (Below w.heap.size w w2) := HB1.out.trans (hbt.below (by omega) (Nat.le_refl _))
  have hs2 := hbt.size
  clear hO hbk hwf hC2 hbt hus hv2
  go_wp2_with fail
  refine (sayC_any 4 v2 c (.slice none 0 0) [] w2 w2.heap.size w1.heap.size w2.heap.size HR2.out (Nat.le_refl _) (Nat.le_refl _) HW2.out (OwnB.nil _ _) (by have := HT2.out; simp; omega)).mono ?_
  rintro e w3 ⟨v3, rfl, hO3, hk3⟩
  rw [List.nil_append] at hO3
  have hby := textC_byte HR2.out
  have hv3 : v3 ≠ .slice none 0 0 := by
    intro e
    rw [e] at hO3
    have hl := text_some HW2.out
    rcases hO3.2 with ⟨_, q⟩ | ⟨_, _, _, q, _⟩
    · omega
    · simp at q
  obtain ⟨g3, c3, rfl, hg3, hl3, hR3⟩ := own_some hO3 hv3 hby
  obtain ⟨m, hm⟩ : ∃ m, m = (textC c).length := ⟨_, rfl⟩
  have hm1 : 1 ≤ m := by rw [hm]; exact text_some HW2.out
  have hm2 : m ≤ 7690 := by rw [hm]; exact HT2.out
  rw [← hm] at hR3 ⊢
  have HM : Hid (m = (textC c).length) := hm
  have HR3 : Hid (Rd w2.heap.size w3.heap.size w3 (some ⟨g3, 0, none⟩) m c3 (textC c)) := hR3
  have HC3 : Hid (Cur w3 w.heap.size a n cap zs w.heap.size) := HC2.out.of (hk3.1.mono (by omega))
  have HB3 : Hid (Below w.heap.size w w3) := HB2.out.trans (hk3.1.mono (by omega))
  have hs3 := hk3.1.size
  clear hO3 hk3 hv3 hby hR3 hm
  go_wp2_with fail
  refine (l1Once_any HC3.out 2 (by omega)).mono ?_
  rintro e w4 ⟨y, rfl, hc4, ho4⟩
  have HC4 : Hid (Cur w4 w.heap.size a n cap zs w.heap.size) := hc4
  have HR4 : Hid (Rd w2.heap.size w3.heap.size w4 (some ⟨g3, 0, none⟩) m c3 (textC c)) := HR3.out.only ho4 (by omega) (Nat.le_refl _)
  have hs4 := ho4.below.size
  have HB4 : Hid (Below w.heap.size w w4) := HB3.out.trans ho4.below
  clear hc4 ho4
  cases y
  · go_wp2
    go_ret
    have e := HM.out
    exact ⟨g3, textC c, c3, by rw [← e]; rfl, by omega, by rw [← e]; exact (HR4.out.mono (by omega) hs4), by omega, HB4.out⟩
  · go_wp2_with fail
    refine (l2spoil_any HC4.out (HR4.out.mono (Nat.le_refl _) hs4) (by omega) hm1 (by omega)).mono ?_
    rintro e w5 hS
    obtain ⟨v5, ys, rfl, hv5, hO5, hby, hl5, ho5⟩ := hS
    obtain ⟨g5, c5, rfl, hg5, hgl5, hR5⟩ := own_some hO5 hv5 hby
    have hs5 := ho5.below.size
    have HF : Hid (g5 < w5.heap.size ∧ Rd w.heap.size w5.heap.size w5 (some ⟨g5, 0, none⟩) ys.length c5 ys ∧ ys.length ≤ 10000 ∧ Below w.heap.size w w5) := ⟨hgl5, hR5.mono (by omega) (Nat.le_refl _), by omega, HB4.out.trans ho5.below⟩
    clear hv5 hO5 hby hl5 ho5 hR5
    go_wp2
    go_ret
    exact ⟨g5, ys, c5, rfl, HF.out⟩

end Go.Proofs.Ythojlfcahhjfaaa
