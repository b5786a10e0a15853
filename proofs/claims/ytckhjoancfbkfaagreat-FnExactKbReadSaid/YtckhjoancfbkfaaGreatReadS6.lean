/- The model's parser of a concept: kids, one behind the other. -/
import Derived.Test.YtckhjoancfbkfaaGreatReadS5
namespace Go.Proofs.YtckhjoancfbkfaaGreat
open Go.RowKit

/-- What is wrong has a place. -/
theorem conR_pos {ts : List Tok} {en : Int} (hp : ∀ q, 0 ≤ hereI ts en q) : ∀ {f i : Nat} {a : Int}, conR ts en f i = .bad a → 0 ≤ a := by
  intro f
  induction f with
  | zero => intro i a h; simp only [conR, Res.bad.injEq] at h; rw [← h]; exact hp _
  | succ f ih =>
    intro i a h
    have hk : ∀ (s m : Nat) (a : Int), kidsR (conR ts en f) s m = .bad a → 0 ≤ a := by
      intro s m
      induction m with
      | zero => intro a h; simp [kidsR] at h
      | succ m ihm =>
        intro a h
        simp only [kidsR] at h
        cases h1 : kidsR (conR ts en f) s m with
        | bad b => rw [h1] at h; simp only [ResL.bad.injEq] at h; rw [← h]; exact ihm b h1
        | ok cs1 j1 =>
          rw [h1] at h
          simp only at h
          cases h2 : conR ts en f j1 with
          | bad b => rw [h2] at h; simp only [ResL.bad.injEq] at h; rw [← h]; exact ih h2
          | ok c2 j2 => rw [h2] at h; simp at h
    simp only [conR] at h
    split at h
    · simp only [Res.bad.injEq] at h; rw [← h]; exact hp _
    · split at h
      · split at h
        · simp only [Res.bad.injEq] at h; rw [← h]; exact hp _
        · simp at h
      · split at h
        · simp at h
        · split at h
          · simp only [Res.bad.injEq] at h; rw [← h]; exact hp _
          · split at h
            · simp only [Res.bad.injEq] at h; rw [← h]; exact hp _
            · cases h5 : kidsR (conR ts en f) (startI (kindI ts i) i) (kidN (kindI ts i)).toNat with
              | bad b => rw [h5] at h; simp only [closeR, Res.bad.injEq] at h; rw [← h]; exact hk _ _ _ h5
              | ok cs1 j1 =>
                rw [h5] at h
                simp only [closeR] at h
                split at h
                · simp at h
                · simp only [Res.bad.injEq] at h; rw [← h]; exact hp _

set_option maxRecDepth 100000 in
set_option maxHeartbeats 2000000 in
theorem con_kids0 (f : Nat) (dp : Int) (hd0 : 1 ≤ dp) (hd6 : dp ≤ 6) (base pb g i : Nat) (ts : List Tok) (gs : List (Nat × Nat)) (en : Int) (w : World) (hK : Tks ts en) (hP : PsAt w pb g i ts en (-1)) (hT : TkM base pb w g ts gs) (h1 : isI ts 1 i = true) (h2 : kindI ts i ≠ 2) (h3 : kidN (kindI ts i) ≠ 0) (h4 : isI ts 3 (i + 1) = true) (h5 : roleB (kindI ts i) = false) (hdf : dp + (f : Int) = 6) (H : ConC f) :
    Calls Tryz.prog 98 #[.pointer (some ⟨pb, 0, none⟩), .int .i64 dp] w (SP ts gs en g pb i w (f + 1) (conR ts en (f + 1) i)) := by
  have HC : Hid (conR ts en (f + 1) i = closeR ts en (kindI ts i) (roleI ts (kindI ts i) i) (kidsR (conR ts en f) (startI (kindI ts i) i) (kidN (kindI ts i)).toNat)) := conS_kids h1 h2 h3 h4 (.inl h5)
  have H5 : Hid (roleB (kindI ts i) = false) := h5
  have HH : Hid (ConC f) := H
  have HTw : Hid (TkM base pb w g ts gs) := hT
  clear h5 H
  have H2 : Hid (kindI ts i ≠ 2) := h2
  have H3 : Hid (kidN (kindI ts i) ≠ 0) := h3
  clear h2 h3
  have hpl := hP.lt
  have hb0 : Below w.heap.size w (w.alloc (.cells #[.int .i64 0, .slice none 0 0, .slice none 0 0, .slice none 0 0] 37)) := (Below.refl _ _).alloc (Nat.le_refl _) _
  have HB0 : Hid (Below w.heap.size w (w.alloc (.cells #[.int .i64 0, .slice none 0 0, .slice none 0 0, .slice none 0 0] 37))) := hb0
  have HP0 : Hid (PsAt (w.alloc (.cells #[.int .i64 0, .slice none 0 0, .slice none 0 0, .slice none 0 0] 37)) pb g i ts en (-1)) := hP.below hb0
  have HT0 : Hid (TkM base pb (w.alloc (.cells #[.int .i64 0, .slice none 0 0, .slice none 0 0, .slice none 0 0] 37)) g ts gs) := hT.below (hb0.mono (Nat.le_of_lt hpl))
  have HZ0 : Hid (BoxC (w.alloc (.cells #[.int .i64 0, .slice none 0 0, .slice none 0 0, .slice none 0 0] 37)) w.heap.size (.int .i64 0) (.slice none 0 0) (.slice none 0 0) (.slice none 0 0)) := BoxC.new w _ _ _ _
  have HK : Hid (Tks ts en) := hK
  clear hb0 hP hT hK
  have hlt := isI_lt h1
  have hw1 : 1 ≤ (wordI ts i).length := HK.out.wd i (.inl h1)
  have hw6 : (wordI ts i).length ≤ 6 := HK.out.sh i
  obtain ⟨ta0, tc, hx, _, _, _⟩ := HT0.out.word hlt
  obtain ⟨tg, htg⟩ : ∃ tg, tg = (gs.getD i (0, 0)).1 := ⟨_, rfl⟩
  have hne0 : (ts.getD i Tok.zero).text ≠ [] := fun e => by rw [show wordI ts i = [] from e] at hw1; simp at hw1
  have hxc := txv_cons (t := ts.getD i Tok.zero) (gs.getD i (0, 0)) hne0
  rw [hx] at hxc
  simp only [Value.slice.injEq] at hxc
  obtain ⟨hxa, hxb, hxd⟩ := hxc
  clear hxb hxd
  obtain ⟨tn, htn⟩ : ∃ tn, tn = (wordI ts i).length := ⟨_, rfl⟩
  rw [hxa, ← htg] at hx
  have HX : Hid (txv (ts.getD i Tok.zero) (gs.getD i (0, 0)) = .slice (some ⟨tg, 0, none⟩) (wordI ts i).length tc) := hx
  have HTN : Hid (tn = (wordI ts i).length) := htn
  rw [← htn] at hw1 hw6
  obtain ⟨kd, hkd⟩ : ∃ kd, kd = kindI ts i := ⟨_, rfl⟩
  have HKD : Hid (kd = kindI ts i) := hkd
  clear hx htn hkd hxa hne0 htg
  go_enter Tryz.func98, Tryz.ntmps98
  go_wp2_with fail
  refine (takeS_ok base pb g i ts gs en 1 _ HP0.out HT0.out HK.out.len h1).mono ?_
  rintro e w1 ⟨rfl, hP1, hb1⟩
  rw [HX.out, ← HTN.out]
  have HP1 : Hid (PsAt w1 pb g (i + 1) ts en (-1)) := hP1
  have HT1 : Hid (TkM base pb w1 g ts gs) := HT0.out.bt hb1 (by simp; omega)
  have HZ1 : Hid (BoxC w1 w.heap.size (.int .i64 0) (.slice none 0 0) (.slice none 0 0) (.slice none 0 0)) := (hb1.block _ HZ0.out.lt (by omega)).trans HZ0.out
  have HBt1 : Hid (Bt pb w.heap.size w w1) := (Bt.of_below HB0.out).trans (hb1.mono HB0.out.size)
  have hs1 : w.heap.size < w1.heap.size := HZ1.out.lt
  have HRd1 : Hid (Rd 0 pb w1 (some ⟨tg, 0, none⟩) tn tc (wordI ts i)) := by
    obtain ⟨a', c', hx', _, hr, _⟩ := HT1.out.word hlt
    rw [HX.out] at hx'
    simp only [Value.slice.injEq, true_and] at hx'
    obtain ⟨rfl, rfl⟩ := hx'
    unfold Hid; rw [HTN.out]; exact hr
  obtain ⟨qa, qc, hq, _, _, _⟩ := hP1
  obtain ⟨q0, q1, q2, q3⟩ := hq.cells
  clear hb1 hq
  go_wp2_with fail
  refine (l2kind_any (some ⟨tg, 0, none⟩) tn tc (wordI ts i) w1 HRd1.out (by omega) hw1).mono ?_
  rintro e w2 ⟨rfl, hb2⟩
  rw [show kindW (strOfNums (wordI ts i)).toList = kd from HKD.out.symm]
  obtain ⟨W3, HW3⟩ : ∃ W3, Hid (W3 = w2.alloc (.cells #[.int .i64 kd, .slice none 0 0, .slice none 0 0, .slice none 0 0] 37)) := ⟨_, rfl⟩
  have hb3' : Below w2.heap.size w2 W3 := by rw [HW3.out]; exact (Below.refl _ _).alloc (Nat.le_refl _) _
  have hb3 : Below w1.heap.size w1 W3 := hb2.trans (hb3'.mono hb2.size)
  have HO3 : Hid (BoxC W3 w2.heap.size (.int .i64 kd) (.slice none 0 0) (.slice none 0 0) (.slice none 0 0)) := by unfold Hid; rw [HW3.out]; exact BoxC.new w2 _ _ _ _
  have hs2 : w1.heap.size ≤ w2.heap.size := hb2.size
  have hs3 : w2.heap.size < W3.heap.size := HO3.out.lt
  have HP3 : Hid (PsAt W3 pb g (i + 1) ts en (-1)) := HP1.out.below hb3
  have HT3 : Hid (TkM base pb W3 g ts gs) := HT1.out.below (hb3.mono (by omega))
  have HZ3 : Hid (BoxC W3 w.heap.size (.int .i64 0) (.slice none 0 0) (.slice none 0 0) (.slice none 0 0)) := HZ1.out.below hb3 hs1
  have HBt3 : Hid (Bt pb w.heap.size w W3) := HBt1.out.trans (Bt.of_below (hb3.mono (by omega)))
  have HRd3 : Hid (Rd 0 pb W3 (some ⟨tg, 0, none⟩) tn tc (wordI ts i)) := HRd1.out.below hb3 (by omega)
  clear hb2 hb3 hb3' q0 q1 q2 q3 HRd1
  go_upto_region 7 with fail
  try dsimp only
  rw [← HW3.out]
  obtain ⟨o0, o1, o2, o3⟩ := HO3.out.cells
  have hk2 : (kd == 2) = false := by rw [HKD.out]; simpa using H2.out
  obtain ⟨n, hn⟩ : ∃ n : Nat, kidN kd = (n : Int) := ⟨(kidN kd).toNat, by have h := H3.out; rw [← HKD.out] at h; have := kidS_kind (HKD.out ▸ kindS_range ts i); omega⟩
  have HN : Hid (kidN kd = (n : Int)) := hn
  have hn1 : 1 ≤ n := by have h := H3.out; rw [← HKD.out, hn] at h; omega
  have hn2 : n ≤ 2 := by have h := kidS_kind (HKD.out ▸ kindS_range ts i); rw [hn] at h; omega
  have hn0 : ((n : Int) == 0) = false := by simp; omega
  have HKS : Hid (kidS kd = (n : Int)) := by unfold Hid; rw [HKD.out, kidS_rng (kindS_range ts i), ← HKD.out]; exact hn
  clear hn
  go_wp2_with fail
  refine (l2kids_any kd W3).mono ?_
  rintro e wk ⟨rfl, hwk⟩
  rw [hwk, HKS.out]; clear hwk
  go_wp2_with fail
  refine (takeS_ok base pb g (i + 1) ts gs en 3 W3 HP3.out HT3.out HK.out.len h4).mono ?_
  rintro e w4 ⟨rfl, hP4, hb4⟩
  obtain ⟨xa, xn, xc, hxv⟩ : ∃ xa xn xc, txv (ts.getD (i + 1) Tok.zero) (gs.getD (i + 1) (0, 0)) = .slice xa xn xc := by
    obtain ⟨a, c, h⟩ := txv_form (ts.getD (i + 1) Tok.zero) (gs.getD (i + 1) (0, 0)); exact ⟨_, _, _, h⟩
  rw [hxv]
  have HP4 : Hid (PsAt w4 pb g (i + 2) ts en (-1)) := hP4
  have HT4 : Hid (TkM base pb w4 g ts gs) := HT3.out.bt hb4 (by omega)
  have HO4 : Hid (BoxC w4 w2.heap.size (.int .i64 kd) (.slice none 0 0) (.slice none 0 0) (.slice none 0 0)) := (hb4.block _ hs3 (by omega)).trans HO3.out
  have HZ4 : Hid (BoxC w4 w.heap.size (.int .i64 0) (.slice none 0 0) (.slice none 0 0) (.slice none 0 0)) := (hb4.block _ (by omega) (by omega)).trans HZ3.out
  have HBt4 : Hid (Bt pb w.heap.size w w4) := HBt3.out.trans (hb4.mono (by omega))
  have hs4 : w2.heap.size < w4.heap.size := HO4.out.lt
  have hl4 := isI_lt h4
  clear hP4 hb4 hxv o0 o1 o2 o3
  obtain ⟨o0, o1, o2, o3⟩ := HO4.out.cells
  have hk6 : ¬ (6 : Int) ≤ kd := by rw [HKD.out]; exact roleS_no (kindS_range ts i) H5.out
  obtain ⟨st, hst⟩ : ∃ st, st = i + 2 := ⟨_, rfl⟩
  obtain ⟨role, hrole⟩ : ∃ role : List Int, role = [] := ⟨_, rfl⟩
  obtain ⟨br, hbr⟩ : ∃ br : Nat, br = 0 := ⟨_, rfl⟩
  obtain ⟨ra, rn, rc, hrv⟩ : ∃ ra rn rc, Value.slice ra rn rc = .slice none 0 0 := ⟨_, _, _, rfl⟩
  have HCk : Hid (conR ts en (f + 1) i = closeR ts en kd role (kidsR (conR ts en f) st n)) := by
    have e1 : (kidN (kindI ts i)).toNat = n := by rw [← HKD.out, HN.out]; rfl
    have e2 : startI (kindI ts i) i = st := by rw [hst, startI, H5.out]; rfl
    have e3 : roleI ts (kindI ts i) i = role := by rw [hrole, roleI, H5.out]; rfl
    unfold Hid; rw [HC.out, e1, e2, e3, ← HKD.out]
  have HStl : Hid (st ≤ ts.length) := by unfold Hid; omega
  obtain ⟨Wc, hWc⟩ : ∃ W, W = w4 := ⟨_, rfl⟩
  have HSt : Hid (StatR pb w Wc.heap.size w2.heap.size br role) := ⟨by omega, by rw [hWc]; exact hs4, hpl, fun h => absurd hrole h⟩
  have HI0 : Hid (InvR pb ts gs st w Wc.heap.size w2.heap.size f kd (.slice ra rn rc) role br Wc (.slice none 0 0) [] [] [] st) := by
    unfold Hid
    rw [hWc, hrv, hrole]
    exact ⟨RowK.nil _ _ _, by simp, fun x hx => by simp at hx, Use.nil _ _ _ _ _ _, HO4.out, RolR.nil _ _, HBt4.out, Nat.le_refl _⟩
  have HPc : Hid (PsAt Wc pb g st ts en (-1)) := by unfold Hid; rw [hWc, hst]; exact HP4.out
  have HRu : Hid (Use ts gs i st (w.heap.size + 1) Wc.heap.size (leafB br 0 role.length)) := by unfold Hid; rw [hrole]; exact Use.nil _ _ _ _ _ _
  have HZc : Hid (BoxC Wc w.heap.size (.int .i64 0) (.slice none 0 0) (.slice none 0 0) (.slice none 0 0)) := by unfold Hid; rw [hWc]; exact HZ4.out
  have hist : i ≤ st := by omega
  have hobc : w2.heap.size < Wc.heap.size := HSt.out.o1
  have hpob : pb < w2.heap.size := by omega
  have hwob : w.heap.size ≤ w2.heap.size := by omega
  have hpWc : pb < Wc.heap.size := by omega
  have hwWc : w.heap.size < Wc.heap.size := by omega
  rw [← hWc] at o0 o1 o2 o3 ⊢
  clear hst hrole hbr hrv hWc HP4 HT4 HO4 HZ4 HBt4
  obtain ⟨i0, hi0, hz0, hz1, hz2⟩ := info_parts Tryz.infoCon4
  have hdw : IntKind.i64.wrap (dp + 1) = dp + 1 := wrap64_id (by omega)
  go_wp2_with fail
  go_loopw [8] (fun q wr => ∃ (m : Nat) (kv : Value), m ≤ n ∧ q = .int .i64 m ∧ BoxC wr w.heap.size (.int .i64 0) (.slice none 0 0) (.slice none 0 0) (.slice none 0 0) ∧ ((∃ (j : Nat) (cs : List CN) (Ls : List (List (Addr × IntKind))) (xs : List Value), kidsR (conR ts en f) st m = .ok cs j ∧ st ≤ j ∧ j ≤ ts.length ∧ InvR pb ts gs st w Wc.heap.size w2.heap.size f kd (.slice ra rn rc) role br wr kv cs Ls xs j ∧ PsAt wr pb g j ts en (-1)) ∨ (∃ p : Int, 0 ≤ p ∧ conR ts en (f + 1) i = .bad p ∧ JunkR pb w Wc.heap.size w2.heap.size kd (.slice ra rn rc) wr kv m ∧ PsBad wr pb p))) (fun q _ => n - (intOf q).toNat)
  case atStart => exact ⟨0, .slice none 0 0, Nat.zero_le _, rfl, HZc.out, .inl ⟨st, [], [], [], rfl, Nat.le_refl _, HStl.out, HI0.out, HPc.out⟩⟩
  case round =>
    obtain ⟨m, kv, hm, rfl, hZr, hor⟩ := hrel
    have HZr : Hid (BoxC wr w.heap.size (.int .i64 0) (.slice none 0 0) (.slice none 0 0) (.slice none 0 0)) := hZr
    clear hZr
    rcases hor with ⟨j, cs, Ls, xs, hkr, hsj, hjl, hinv, hPr⟩ | ⟨p, hp0, hCb, hj, hPr⟩
    · have HI : Hid (InvR pb ts gs st w Wc.heap.size w2.heap.size f kd (.slice ra rn rc) role br wr kv cs Ls xs j) := hinv
      have HPr : Hid (PsAt wr pb g j ts en (-1)) := hPr
      have HKr : Hid (kidsR (conR ts en f) st m = .ok cs j) := hkr
      have HTr : Hid (TkM base pb wr g ts gs) := HTw.out.bt hinv.bt (by omega)
      have HCl : Hid (cs.length = m) := kidsS_len hkr
      have hszr : Wc.heap.size ≤ wr.heap.size := hinv.sz
      have hpr : pb < wr.heap.size := hPr.lt
      by_cases hlt' : m < n
      · have hmi : (m : Int) < (n : Int) := by omega
        have hmn : m < n := hlt'
        obtain ⟨o0, o1, o2, o3⟩ := hinv.box.cells
        have hobr : w2.heap.size < wr.heap.size := hinv.box.lt
        clear hkr hinv hPr
        cases hres : conR ts en f j with
        | bad p =>
          have HCb : Hid (conR ts en (f + 1) i = .bad p) := by
            unfold Hid; rw [HCk.out, kidsS_bad (kidsS_fell HKr.out hres) n (by omega)]; rfl
          have hp0 : 0 ≤ p := conR_pos HK.out.pos hres
          go_wp2_with fail
          first | go_region_law
            (first
            | (refine step_append_lies _ rfl (.tmp 65) (.tmp 70) 35 rfl Wc.heap.size 37 i0 (.agg #[.int .i64 0, .slice none 0 0, .slice none 0 0, .slice none 0 0]) 4 80 Tryz.underlying35 hi0 hz0 hz1 hz2 rfl (by decide) kv m xs (by simp [Act.eval]) HRow5.out ⟨w5.heap.size, 0, none⟩ 1 1 [.int .i64 zk, .slice zna znn znc, .slice zra zrn zrc, .slice zka zkn zkc] (by simp [Act.eval]) rfl (new4 _ _ _ _ _ _ _ rfl) (one4 _ _ _ _ _ _ _ _ _ _) (by decide) (by unfold maxLen; omega) (by omega) hsz5 _ rfl ?_; intro g1 cap1 w6 hown hgrow hat hlt6; have HA : Hid (BoxC w6 w2.heap.size (.int .i64 kd) (.slice none 0 0) (.slice ra rn rc) kv ∧ JunkR pb w Wc.heap.size w2.heap.size kd (.slice ra rn rc) (w6.setCell ⟨w2.heap.size, 3, none⟩ (.slice (some ⟨g1, 0, none⟩) (m + 1) cap1)) (.slice (some ⟨g1, 0, none⟩) (m + 1) cap1) (m + 1)) := JunkR.app HJ5.out hobc hwob HRow5.out hown hgrow; have HQ6 : Hid (w6.heap[pb]? = w5.heap[pb]? ∧ w6.heap[w.heap.size]? = w5.heap[w.heap.size]?) := ⟨(hgrow.block pb (Nat.lt_of_lt_of_le hpl5 HB5b.out.size) (fun e => HkN.out pb hpWc e.symm)).trans (HB5b.out.block pb hpl5), (hgrow.block w.heap.size (Nat.lt_of_lt_of_le hwl5 HB5b.out.size) (fun e => HkN.out w.heap.size hwWc e.symm)).trans (HB5b.out.block w.heap.size hwl5)⟩; obtain ⟨_, _, _, o36⟩ := HA.out.1.cells; have f36 := HA.out.1.frz 3; clear hown hgrow hat)
            | (go_simp; refine (HH.out (dp + 1) (by omega) (by omega) base pb g j ts gs en wr.drew HK.out (HPr.out.of rfl) (HTr.out.keep (fun _ _ _ => rfl)) hjl).mono ?_; rintro e w5 hP; rw [hres] at hP; obtain ⟨hb5, hP5, zk, zna, znn, znc, zra, zrn, zrc, zka, zkn, zkc, he5⟩ := hP; subst he5; have HB5 : Hid (Bt pb wr.heap.size wr w5) := (Bt.refl _ _ _).drew.trans hb5; have HI5a : Hid (InvR pb ts gs st w Wc.heap.size w2.heap.size f kd (.slice ra rn rc) role br w5 kv cs Ls xs j) := HI.out.keep HSt.out HTw.out HB5.out; have HB5b : Hid (Below w5.heap.size w5 (w5.alloc (.cells #[.int .i64 zk, .slice zna znn znc, .slice zra zrn zrc, .slice zka zkn zkc] 37))) := (Below.refl _ _).alloc (Nat.le_refl _) _; have HI5 : Hid (InvR pb ts gs st w Wc.heap.size w2.heap.size f kd (.slice ra rn rc) role br (w5.alloc (.cells #[.int .i64 zk, .slice zna znn znc, .slice zra zrn zrc, .slice zka zkn zkc] 37)) kv cs Ls xs j) := HI5a.out.keep HSt.out HTw.out (Bt.of_below HB5b.out); have HJ5 : Hid (JunkR pb w Wc.heap.size w2.heap.size kd (.slice ra rn rc) (w5.alloc (.cells #[.int .i64 zk, .slice zna znn znc, .slice zra zrn zrc, .slice zka zkn zkc] 37)) kv m) := HI5.out.junk HCl.out; have HRow5 : Hid ((w5.alloc (.cells #[.int .i64 zk, .slice zna znn znc, .slice zra zrn zrc, .slice zka zkn zkc] 37)).ownsRow Wc.heap.size 37 4 kv m xs) := (by have := HI5.out.row.row; rw [HCl.out] at this; exact this); have HkN : Hid (∀ b, b < Wc.heap.size → kv.ownBlock ≠ some b) := (fun b hb e => absurd (HI.out.row.row.lt _ e).1 (by omega)); have hsz5 : Wc.heap.size ≤ (w5.alloc (.cells #[.int .i64 zk, .slice zna znn znc, .slice zra zrn zrc, .slice zka zkn zkc] 37)).heap.size := HI5.out.sz; have HZ5 : Hid (BoxC w5 w.heap.size (.int .i64 0) (.slice none 0 0) (.slice none 0 0) (.slice none 0 0)) := (HB5.out.block _ HZr.out.lt (by omega)).trans HZr.out; have HP5 : Hid (PsBad w5 pb p) := hP5; have hpl5 : pb < w5.heap.size := hP5.lt; have hwl5 : w.heap.size < w5.heap.size := HZ5.out.lt; obtain ⟨_, _, _, o35⟩ := HI5a.out.box.cells; have hlo5 : w2.heap.size < w5.heap.size := HI5a.out.box.lt; clear hb5 hP5)) | fail
          all_goals
            have HZ7 : Hid (BoxC (w6.setCell ⟨w2.heap.size, 3, none⟩ (.slice (some ⟨g1, 0, none⟩) (m + 1) cap1)) w.heap.size (.int .i64 0) (.slice none 0 0) (.slice none 0 0) (.slice none 0 0)) := (Below.heap_setCell w6 ⟨w2.heap.size, 3, none⟩ _ w.heap.size (by show w.heap.size ≠ w2.heap.size; omega)).trans (HQ6.out.2.trans HZ5.out)
            have HP7 : Hid (PsBad (w6.setCell ⟨w2.heap.size, 3, none⟩ (.slice (some ⟨g1, 0, none⟩) (m + 1) cap1)) pb p) := HP5.out.of ((Below.heap_setCell w6 ⟨w2.heap.size, 3, none⟩ _ pb (by show pb ≠ w2.heap.size; omega)).trans HQ6.out.1)
            go_wp2_with fail
            go_roundw
            case rel => exact ⟨m + 1, _, by omega, by go_num, HZ7.out, .inr ⟨p, hp0, HCb.out, HA.out.2, HP7.out⟩⟩
            case measure => simp [intOf]; omega
        | ok c j' =>
          have hje := conR_end ts en f j c j' hres
          have HKm : Hid (kidsR (conR ts en f) st (m + 1) = .ok (cs ++ [c]) j') := kidsS_step HKr.out hres
          go_wp2_with fail
          first | go_region_law
            (first
            | (refine step_append_lies _ rfl (.tmp 65) (.tmp 70) 35 rfl Wc.heap.size 37 i0 (.agg #[.int .i64 0, .slice none 0 0, .slice none 0 0, .slice none 0 0]) 4 80 Tryz.underlying35 hi0 hz0 hz1 hz2 rfl (by decide) kv m xs (by simp [Act.eval]) HRow5.out ⟨w5.heap.size, 0, none⟩ 1 1 [.int .i64 zk, .slice zna znn znc, .slice zra zrn zrc, .slice zka zkn zkc] (by simp [Act.eval]) rfl (new4 _ _ _ _ _ _ _ rfl) (one4 _ _ _ _ _ _ _ _ _ _) (by decide) (by unfold maxLen; omega) (by omega) hsz5 _ rfl ?_; intro g1 cap1 w6 hown hgrow hat hlt6; have HA : Hid (BoxC w6 w2.heap.size (.int .i64 kd) (.slice none 0 0) (.slice ra rn rc) kv ∧ InvR pb ts gs st w Wc.heap.size w2.heap.size f kd (.slice ra rn rc) role br (w6.setCell ⟨w2.heap.size, 3, none⟩ (.slice (some ⟨g1, 0, none⟩) (m + 1) cap1)) (.slice (some ⟨g1, 0, none⟩) (m + 1) cap1) (cs ++ [c]) (Ls ++ [L5]) (xs ++ [.int .i64 zk, .slice zna znn znc, .slice zra zrn zrc, .slice zka zkn zkc]) j') := InvR.app HSt.out HTw.out HI5.out HI.out.us HkB.out hszr HO5.out hsj (Nat.le_of_lt hje.1) (by rw [HCl.out]) hown hgrow hat; have HQ6 : Hid (w6.heap[pb]? = w5.heap[pb]? ∧ w6.heap[w.heap.size]? = w5.heap[w.heap.size]?) := ⟨(hgrow.block pb (Nat.lt_of_lt_of_le hpl5 HB5b.out.size) (fun e => HkN.out pb hpWc e.symm)).trans (HB5b.out.block pb hpl5), (hgrow.block w.heap.size (Nat.lt_of_lt_of_le hwl5 HB5b.out.size) (fun e => HkN.out w.heap.size hwWc e.symm)).trans (HB5b.out.block w.heap.size hwl5)⟩; obtain ⟨_, _, _, o36⟩ := HA.out.1.cells; have f36 := HA.out.1.frz 3; clear hown hgrow hat)
            | (go_simp; refine (HH.out (dp + 1) (by omega) (by omega) base pb g j ts gs en wr.drew HK.out (HPr.out.of rfl) (HTr.out.keep (fun _ _ _ => rfl)) hjl).mono ?_; rintro e w5 hP; rw [hres] at hP; obtain ⟨hb5, v5, L5, he5, hO5, hP5⟩ := hP; subst he5; obtain ⟨zna, znn, znc, zra, zrn, zrc, zka, zkn, zkc, rfl⟩ := hO5.ow.agg; obtain ⟨zk, hzk⟩ : ∃ zk, zk = c.kind := ⟨_, rfl⟩; rw [← hzk] at hO5; rw [← hzk]; have HB5 : Hid (Bt pb wr.heap.size wr w5) := (Bt.refl _ _ _).drew.trans hb5; have HI5a : Hid (InvR pb ts gs st w Wc.heap.size w2.heap.size f kd (.slice ra rn rc) role br w5 kv cs Ls xs j) := HI.out.keep HSt.out HTw.out HB5.out; have HB5b : Hid (Below w5.heap.size w5 (w5.alloc (.cells #[.int .i64 zk, .slice zna znn znc, .slice zra zrn zrc, .slice zka zkn zkc] 37))) := (Below.refl _ _).alloc (Nat.le_refl _) _; have HI5 : Hid (InvR pb ts gs st w Wc.heap.size w2.heap.size f kd (.slice ra rn rc) role br (w5.alloc (.cells #[.int .i64 zk, .slice zna znn znc, .slice zra zrn zrc, .slice zka zkn zkc] 37)) kv cs Ls xs j) := HI5a.out.keep HSt.out HTw.out (Bt.of_below HB5b.out); have HO5 : Hid (OwnR ts gs j j' wr.heap.size (w5.alloc (.cells #[.int .i64 zk, .slice zna znn znc, .slice zra zrn zrc, .slice zka zkn zkc] 37)) f (.agg #[.int .i64 zk, .slice zna znn znc, .slice zra zrn zrc, .slice zka zkn zkc]) c L5) := OwnR.bt hO5 HTw.out hpr (Bt.of_below HB5b.out) (Nat.le_of_lt hP5.lt); have HRow5 : Hid ((w5.alloc (.cells #[.int .i64 zk, .slice zna znn znc, .slice zra zrn zrc, .slice zka zkn zkc] 37)).ownsRow Wc.heap.size 37 4 kv m xs) := (by have := HI5.out.row.row; rw [HCl.out] at this; exact this); have HkB : Hid (∀ g, kv.ownBlock = some g → g < wr.heap.size) := (fun g hg => (HI.out.row.row.lt g hg).2); have HkN : Hid (∀ b, b < Wc.heap.size → kv.ownBlock ≠ some b) := (fun b hb e => absurd (HI.out.row.row.lt _ e).1 (by omega)); have hsz5 : Wc.heap.size ≤ (w5.alloc (.cells #[.int .i64 zk, .slice zna znn znc, .slice zra zrn zrc, .slice zka zkn zkc] 37)).heap.size := HI5.out.sz; have HZ5 : Hid (BoxC w5 w.heap.size (.int .i64 0) (.slice none 0 0) (.slice none 0 0) (.slice none 0 0)) := (HB5.out.block _ HZr.out.lt (by omega)).trans HZr.out; have HP5 : Hid (PsAt w5 pb g j' ts en (-1)) := hP5; have hpl5 : pb < w5.heap.size := hP5.lt; have hwl5 : w.heap.size < w5.heap.size := HZ5.out.lt; obtain ⟨_, _, _, o35⟩ := HI5a.out.box.cells; have hlo5 : w2.heap.size < w5.heap.size := HI5a.out.box.lt; clear hb5 hP5 hO5 hzk)) | fail
          all_goals
            have HZ7 : Hid (BoxC (w6.setCell ⟨w2.heap.size, 3, none⟩ (.slice (some ⟨g1, 0, none⟩) (m + 1) cap1)) w.heap.size (.int .i64 0) (.slice none 0 0) (.slice none 0 0) (.slice none 0 0)) := (Below.heap_setCell w6 ⟨w2.heap.size, 3, none⟩ _ w.heap.size (by show w.heap.size ≠ w2.heap.size; omega)).trans (HQ6.out.2.trans HZ5.out)
            have HP7 : Hid (PsAt (w6.setCell ⟨w2.heap.size, 3, none⟩ (.slice (some ⟨g1, 0, none⟩) (m + 1) cap1)) pb g j' ts en (-1)) := HP5.out.of ((Below.heap_setCell w6 ⟨w2.heap.size, 3, none⟩ _ pb (by show pb ≠ w2.heap.size; omega)).trans HQ6.out.1)
            go_wp2_with fail
            go_roundw
            case rel => exact ⟨m + 1, _, by omega, by go_num, HZ7.out, .inl ⟨j', _, _, _, HKm.out, by omega, hje.2, HA.out.2, HP7.out⟩⟩
            case measure => simp [intOf]; omega
      · have hmn : m = n := by omega
        have hmi : ¬ (m : Int) < (n : Int) := by omega
        have HKn : Hid (conR ts en (f + 1) i = closeR ts en kd role (.ok cs j)) := by unfold Hid; rw [HCk.out, ← hmn, HKr.out]
        clear hkr hinv hPr hmn
        obtain ⟨kka, kkn, kkc, hkv⟩ := HI.out.row.isSlice
        cases h7 : isI ts 4 j
        · have HCb : Hid (conR ts en (f + 1) i = .bad (hereI ts en j)) := by unfold Hid; rw [HKn.out, closeR, if_neg (by rw [h7]; simp)]
          go_wp2_with fail
          refine (takeS_bad base pb g j ts gs en 4 wr HPr.out HTr.out hjl h7).mono ?_
          rintro e w5 ⟨rfl, hP5, hb5⟩
          have HI5 : Hid (InvR pb ts gs st w Wc.heap.size w2.heap.size f kd (.slice ra rn rc) role br w5 kv cs Ls xs j) := HI.out.keep HSt.out HTw.out hb5
          have HZ5 : Hid (BoxC w5 w.heap.size (.int .i64 0) (.slice none 0 0) (.slice none 0 0) (.slice none 0 0)) := (hb5.block _ HZr.out.lt (by omega)).trans HZr.out
          have HP5 : Hid (PsBad w5 pb (hereI ts en j)) := hP5
          rw [hkv] at HI5
          have HBt5 : Hid (Bt pb w.heap.size w w5) := HI5.out.bt
          obtain ⟨o0, o1, o2, o3⟩ := HI5.out.box.cells
          obtain ⟨z0, z1, z2, z3⟩ := HZ5.out.cells
          have zf0 := HZ5.out.frz 0
          have zf1 := HZ5.out.frz 1
          have zf2 := HZ5.out.frz 2
          have zf3 := HZ5.out.frz 3
          clear hb5 hP5 hkv
          go_wp2
          obtain ⟨hVs, hBs⟩ := set4_mem HZ5.out (.int .i64 kd) (.slice none 0 0) (.slice ra rn rc) (.slice kka kkn kkc) HBt5.out (Nat.le_refl _)
          obtain ⟨s0, s1, s2, s3⟩ := hVs.cells
          refine bodyPost_ret (v := .agg #[.int .i64 kd, .slice none 0 0, .slice ra rn rc, .slice kka kkn kkc]) (by simp [results, Tryz.results98, go_sem, s0, s1, s2, s3]) rfl ?_
          exact SP.fell hBs HCb.out (HP5.out.of (heap_set4 _ _ _ _ _ (by omega)))
        · have HCg : Hid (conR ts en (f + 1) i = .ok (.mk kd [] role cs) (j + 1)) := by unfold Hid; rw [HKn.out, closeR, if_pos h7]
          go_wp2_with fail
          refine (takeS_ok base pb g j ts gs en 4 wr HPr.out HTr.out HK.out.len h7).mono ?_
          rintro e w5 ⟨rfl, hP5, hb5⟩
          obtain ⟨ya, yn, yc, hyv⟩ : ∃ ya yn yc, txv (ts.getD j Tok.zero) (gs.getD j (0, 0)) = .slice ya yn yc := by
            obtain ⟨a, c, h⟩ := txv_form (ts.getD j Tok.zero) (gs.getD j (0, 0)); exact ⟨_, _, _, h⟩
          rw [hyv]
          have HI5 : Hid (InvR pb ts gs st w Wc.heap.size w2.heap.size f kd (.slice ra rn rc) role br w5 kv cs Ls xs j) := HI.out.keep HSt.out HTw.out hb5
          have HZ5 : Hid (BoxC w5 w.heap.size (.int .i64 0) (.slice none 0 0) (.slice none 0 0) (.slice none 0 0)) := (hb5.block _ HZr.out.lt (by omega)).trans HZr.out
          have HP5 : Hid (PsAt w5 pb g (j + 1) ts en (-1)) := hP5
          rw [hkv] at HI5
          have HBt5 : Hid (Bt pb w.heap.size w w5) := HI5.out.bt
          obtain ⟨o0, o1, o2, o3⟩ := HI5.out.box.cells
          obtain ⟨z0, z1, z2, z3⟩ := HZ5.out.cells
          have zf0 := HZ5.out.frz 0
          have zf1 := HZ5.out.frz 1
          have zf2 := HZ5.out.frz 2
          have zf3 := HZ5.out.frz 3
          clear hb5 hP5 hkv hyv
          go_wp2
          obtain ⟨hVs, hBs⟩ := set4_mem HZ5.out (.int .i64 kd) (.slice none 0 0) (.slice ra rn rc) (.slice kka kkn kkc) HBt5.out (Nat.le_refl _)
          obtain ⟨s0, s1, s2, s3⟩ := hVs.cells
          refine bodyPost_ret (v := .agg #[.int .i64 kd, .slice none 0 0, .slice ra rn rc, .slice kka kkn kkc]) (by simp [results, Tryz.results98, go_sem, s0, s1, s2, s3]) rfl ?_
          obtain ⟨L, hL⟩ := HI5.out.whole HTw.out (i := i) (s := w.heap.size + 1) (by omega) (by omega) hist hsj HRu.out
          have hne := hL.us.ne HTw.out (o := w.heap.size) (by omega) (Nat.lt_succ_self _)
          have hL' := OwnR.toS hL (w' := ((((w5.setCell ⟨w.heap.size, 0, none⟩ (.int .i64 kd)).setCell ⟨w.heap.size, 1, none⟩ (.slice none 0 0)).setCell ⟨w.heap.size, 2, none⟩ (.slice ra rn rc)).setCell ⟨w.heap.size, 3, none⟩ (.slice kka kkn kkc))) (fun x hx => heap_set4 _ _ _ _ _ (hne x hx)) (by simp)
          exact SP.good hBs HCg.out ⟨hL'.ow, hL'.nd, hL'.fr, hL'.us.mono (Nat.le_refl _) (Nat.le_succ _) (Nat.le_succ _) (Nat.le_refl _)⟩ (HP5.out.of (heap_set4 _ _ _ _ _ (by omega)))
    · have HJ : Hid (JunkR pb w Wc.heap.size w2.heap.size kd (.slice ra rn rc) wr kv m) := hj
      have HPr : Hid (PsBad wr pb p) := hPr
      have HCb : Hid (conR ts en (f + 1) i = .bad p) := hCb
      clear hj hPr hCb
      by_cases hlt' : m < n
      · have hmi : (m : Int) < (n : Int) := by omega
        have hmn : m < n := hlt'
        obtain ⟨o0, o1, o2, o3⟩ := HJ.out.box.cells
        obtain ⟨xs, hxs⟩ := HJ.out.row
        have HXs : Hid (wr.ownsRow Wc.heap.size 37 4 kv m xs) := hxs
        have hobr : w2.heap.size < wr.heap.size := HJ.out.box.lt
        have hszr : Wc.heap.size ≤ wr.heap.size := HJ.out.sz
        clear hxs
        go_wp2_with fail
        first | go_region_law
          (first
          | (refine step_append_lies _ rfl (.tmp 65) (.tmp 70) 35 rfl Wc.heap.size 37 i0 (.agg #[.int .i64 0, .slice none 0 0, .slice none 0 0, .slice none 0 0]) 4 80 Tryz.underlying35 hi0 hz0 hz1 hz2 rfl (by decide) kv m xs (by simp [Act.eval]) HRow5.out ⟨w5.heap.size, 0, none⟩ 1 1 [.int .i64 0, .slice none 0 0, .slice none 0 0, .slice none 0 0] (by simp [Act.eval]) rfl (new4 _ _ _ _ _ _ _ rfl) (one4 _ _ _ _ _ _ _ _ _ _) (by decide) (by unfold maxLen; omega) (by omega) hsz5 _ rfl ?_; intro g1 cap1 w6 hown hgrow hat hlt6; have HA : Hid (BoxC w6 w2.heap.size (.int .i64 kd) (.slice none 0 0) (.slice ra rn rc) kv ∧ JunkR pb w Wc.heap.size w2.heap.size kd (.slice ra rn rc) (w6.setCell ⟨w2.heap.size, 3, none⟩ (.slice (some ⟨g1, 0, none⟩) (m + 1) cap1)) (.slice (some ⟨g1, 0, none⟩) (m + 1) cap1) (m + 1)) := JunkR.app HJ5.out hobc hwob HRow5.out hown hgrow; have HQ6 : Hid (w6.heap[pb]? = w5.heap[pb]? ∧ w6.heap[w.heap.size]? = w5.heap[w.heap.size]?) := ⟨(hgrow.block pb (Nat.lt_of_lt_of_le hpl5 HB5b.out.size) (fun e => HkN.out pb hpWc e.symm)).trans (HB5b.out.block pb hpl5), (hgrow.block w.heap.size (Nat.lt_of_lt_of_le hwl5 HB5b.out.size) (fun e => HkN.out w.heap.size hwWc e.symm)).trans (HB5b.out.block w.heap.size hwl5)⟩; obtain ⟨_, _, _, o36⟩ := HA.out.1.cells; have f36 := HA.out.1.frz 3; clear hown hgrow hat)
          | (go_simp; refine (con_stuckA pb p wr.drew (dp + 1) (by omega) hp0 (HPr.out.of rfl)).mono ?_; rintro e w5 ⟨rfl, hP5, hb5⟩; have HB5 : Hid (Bt pb wr.heap.size wr w5) := (Bt.refl _ _ _).drew.trans (Bt.of_below hb5); have HJ5a : Hid (JunkR pb w Wc.heap.size w2.heap.size kd (.slice ra rn rc) w5 kv m) := HJ.out.keep HB5.out hpob hobc; have HB5b : Hid (Below w5.heap.size w5 (w5.alloc (.cells #[.int .i64 0, .slice none 0 0, .slice none 0 0, .slice none 0 0] 37))) := (Below.refl _ _).alloc (Nat.le_refl _) _; have HJ5 : Hid (JunkR pb w Wc.heap.size w2.heap.size kd (.slice ra rn rc) (w5.alloc (.cells #[.int .i64 0, .slice none 0 0, .slice none 0 0, .slice none 0 0] 37)) kv m) := HJ5a.out.keep (Bt.of_below HB5b.out) hpob hobc; have HRow5 : Hid ((w5.alloc (.cells #[.int .i64 0, .slice none 0 0, .slice none 0 0, .slice none 0 0] 37)).ownsRow Wc.heap.size 37 4 kv m xs) := ownsRow_bt (ownsRow_bt HXs.out HB5.out hpWc) (Bt.of_below HB5b.out) hpWc; have HkN : Hid (∀ b, b < Wc.heap.size → kv.ownBlock ≠ some b) := (fun b hb e => absurd (HXs.out.lt _ e).1 (by omega)); have hsz5 : Wc.heap.size ≤ (w5.alloc (.cells #[.int .i64 0, .slice none 0 0, .slice none 0 0, .slice none 0 0] 37)).heap.size := HJ5.out.sz; have HZ5 : Hid (BoxC w5 w.heap.size (.int .i64 0) (.slice none 0 0) (.slice none 0 0) (.slice none 0 0)) := (HB5.out.block _ HZr.out.lt (by omega)).trans HZr.out; have HP5 : Hid (PsBad w5 pb p) := hP5; have hpl5 : pb < w5.heap.size := hP5.lt; have hwl5 : w.heap.size < w5.heap.size := HZ5.out.lt; obtain ⟨_, _, _, o35⟩ := HJ5a.out.box.cells; have hlo5 : w2.heap.size < w5.heap.size := HJ5a.out.box.lt; clear hb5 hP5)) | fail
        all_goals
          have HZ7 : Hid (BoxC (w6.setCell ⟨w2.heap.size, 3, none⟩ (.slice (some ⟨g1, 0, none⟩) (m + 1) cap1)) w.heap.size (.int .i64 0) (.slice none 0 0) (.slice none 0 0) (.slice none 0 0)) := (Below.heap_setCell w6 ⟨w2.heap.size, 3, none⟩ _ w.heap.size (by show w.heap.size ≠ w2.heap.size; omega)).trans (HQ6.out.2.trans HZ5.out)
          have HP7 : Hid (PsBad (w6.setCell ⟨w2.heap.size, 3, none⟩ (.slice (some ⟨g1, 0, none⟩) (m + 1) cap1)) pb p) := HP5.out.of ((Below.heap_setCell w6 ⟨w2.heap.size, 3, none⟩ _ pb (by show pb ≠ w2.heap.size; omega)).trans HQ6.out.1)
          go_wp2_with fail
          go_roundw
          case rel => exact ⟨m + 1, _, by omega, by go_num, HZ7.out, .inr ⟨p, hp0, HCb.out, HA.out.2, HP7.out⟩⟩
          case measure => simp [intOf]; omega
      · have hmi : ¬ (m : Int) < (n : Int) := by omega
        go_wp2_with fail
        refine (takeS_stuck pb p 4 wr hp0 HPr.out).mono ?_
        rintro e w5 ⟨rfl, nd, hw5⟩
        obtain ⟨xs, hxs⟩ := HJ.out.row
        obtain ⟨kka, kkn, kkc, hkv⟩ : ∃ a n c, kv = .slice a n c := by
          rcases hxs.2 with ⟨rfl, _⟩ | ⟨g, cap, cur, rfl, _⟩
          · exact ⟨_, _, _, rfl⟩
          · exact ⟨_, _, _, rfl⟩
        have HO5 : Hid (BoxC w5 w2.heap.size (.int .i64 kd) (.slice none 0 0) (.slice ra rn rc) (.slice kka kkn kkc)) := by unfold Hid; rw [hw5, ← hkv]; exact HJ.out.box
        have HZ5 : Hid (BoxC w5 w.heap.size (.int .i64 0) (.slice none 0 0) (.slice none 0 0) (.slice none 0 0)) := by unfold Hid; rw [hw5]; exact HZr.out
        have HP5 : Hid (PsBad w5 pb p) := by unfold Hid; rw [hw5]; exact HPr.out.of rfl
        have HBt5 : Hid (Bt pb w.heap.size w w5) := by unfold Hid; rw [hw5]; exact bt_drewN HJ.out.bt nd
        obtain ⟨o0, o1, o2, o3⟩ := HO5.out.cells
        obtain ⟨z0, z1, z2, z3⟩ := HZ5.out.cells
        have zf0 := HZ5.out.frz 0
        have zf1 := HZ5.out.frz 1
        have zf2 := HZ5.out.frz 2
        have zf3 := HZ5.out.frz 3
        clear hw5 hkv hxs
        go_wp2
        obtain ⟨hVs, hBs⟩ := set4_mem HZ5.out (.int .i64 kd) (.slice none 0 0) (.slice ra rn rc) (.slice kka kkn kkc) HBt5.out (Nat.le_refl _)
        obtain ⟨s0, s1, s2, s3⟩ := hVs.cells
        refine bodyPost_ret (v := .agg #[.int .i64 kd, .slice none 0 0, .slice ra rn rc, .slice kka kkn kkc]) (by simp [results, Tryz.results98, go_sem, s0, s1, s2, s3]) rfl ?_
        exact SP.fell hBs HCb.out (HP5.out.of (heap_set4 _ _ _ _ _ (by omega)))

end Go.Proofs.YtckhjoancfbkfaaGreat
