/- A concept that is drawn: the step. -/
import Derived.Test.YtnmljalcndfjmaaGreatDrawCon
namespace Go.Proofs.YtnmljalcndfjmaaGreat
open Go.RowKit

set_option maxRecDepth 100000 in
set_option maxHeartbeats 4000000 in
theorem l2draw_succ (f : Nat) (hf : f ≤ 1000) {B : Nat} {a : Option Addr} {n cap : Nat} {zs : List Int} {hi : Nat} (ih : ∀ (w : World), Cur w B a n cap zs hi → Calls Tryz.prog 76 #[.pointer (some ⟨B, 0, none⟩), .int .i64 f] w (DcP B a n cap zs hi f w)) {w : World} (c : Cur w B a n cap zs hi) :
    Calls Tryz.prog 76 #[.pointer (some ⟨B, 0, none⟩), .int .i64 ((f : Int) + 1)] w (DcP B a n cap zs hi (f + 1) w) := by
  have hB := c.lt
  have hb0 : Below w.heap.size w (w.alloc (.cells #[.int .i64 0, .slice none 0 0, .slice none 0 0, .slice none 0 0] 30)) := (Below.refl _ _).alloc (Nat.le_refl _) _
  have HM0 : Hid (DrM B a n cap zs hi w (w.alloc (.cells #[.int .i64 0, .slice none 0 0, .slice none 0 0, .slice none 0 0] 30))) := ⟨c.of (hb0.mono hB), Bt.of_below hb0, BoxC.new w _ _ _ _⟩
  clear hb0 c
  have hd : ¬ (f : Int) + 1 ≤ 0 := by omega
  go_enter Tryz.func76, Tryz.ntmps76
  go_wp2_with fail
  refine (l1Once_any HM0.out.cur 3 (by omega)).mono ?_
  rintro e w1 ⟨y, rfl, hc1, ho1⟩
  have HM1 : Hid (DrM B a n cap zs hi w w1) := HM0.out.only hB hc1 ho1
  clear hc1 ho1 HM0
  cases y
  · go_wp2_with fail
    refine (l1Below_any HM1.out.cur 5 (by omega)).mono ?_
    rintro e w2 ⟨m, rfl, ⟨hm0, hm1⟩, hc2, ho2⟩
    have HM2 : Hid (DrM B a n cap zs hi w w2) := HM1.out.only hB hc2 ho2
    clear hc2 ho2
    obtain ⟨kd, hkd, hk3, hk7⟩ : ∃ kd : Int, IntKind.i64.wrap (3 + m) = kd ∧ 3 ≤ kd ∧ kd ≤ 7 := ⟨3 + m, wrap64_id (by omega), by omega, by omega⟩
    obtain ⟨N, HKS, hN1, hN2⟩ : ∃ N : Nat, Hid (kidS kd = (N : Int)) ∧ 1 ≤ N ∧ N ≤ 2 := by
      rcases kidS_37 ⟨hk3, hk7⟩ with e | e
      · exact ⟨1, e, by omega, by omega⟩
      · exact ⟨2, e, by omega, by omega⟩
    have hdw : IntKind.i64.wrap ((f : Int) + 1 - 1) = f := by rw [Int.add_sub_cancel]; exact wrap64_id (by omega)
    have hdf : IntKind.i64.wrap (f : Int) = f := wrap64_id (by omega)
    have HTw : Hid (TkM 0 B w 0 [] []) := tkm_nil B w
    obtain ⟨W4, HW4⟩ : ∃ W, Hid (W = w2.alloc (.cells #[.int .i64 kd, .slice none 0 0, .slice none 0 0, .slice none 0 0] 30)) := ⟨_, rfl⟩
    have hb4 : Below w2.heap.size w2 W4 := by rw [HW4.out]; exact (Below.refl _ _).alloc (Nat.le_refl _) _
    have HO4 : Hid (BoxC W4 w2.heap.size (.int .i64 kd) (.slice none 0 0) (.slice none 0 0) (.slice none 0 0)) := by unfold Hid; rw [HW4.out]; exact BoxC.new w2 _ _ _ _
    have HM4 : Hid (DrM B a n cap zs hi w W4) := HM2.out.below hB hb4
    have hwob : w.heap.size < w2.heap.size := HM2.out.box.lt
    have hob4 : w2.heap.size < W4.heap.size := HO4.out.lt
    clear hb4
    go_upto_region 10 with fail
    try dsimp only
    rw [← HW4.out]
    by_cases hk6 : (6 : Int) ≤ kd
    · obtain ⟨W5, HW5⟩ : ∃ W, Hid (W = W4.alloc (.cells #[.string { data := #[114] }, .string { data := #[115] }] 9)) := ⟨_, rfl⟩
      have hb5 : Below W4.heap.size W4 W5 := by rw [HW5.out]; exact (Below.refl _ _).alloc (Nat.le_refl _) _
      have hs5 : W4.heap.size < W5.heap.size := by rw [HW5.out]; simp
      have HWs : Hid (∀ i : Nat, i < 2 → ∃ s : ByteArray, W5.cell? ⟨W4.heap.size, i, none⟩ = some (.string s) ∧ s.size ≤ 1 ∧ lowOk (numsOf s) = true) := by
        intro i hi
        rw [HW5.out]
        match i, hi with
        | 0, _ | 1, _ => exact ⟨_, by simp; rfl, by decide, by decide⟩
      have HM5 : Hid (DrM B a n cap zs hi w W5) := HM4.out.below hB hb5
      have HO5 : Hid (BoxC W5 w2.heap.size (.int .i64 kd) (.slice none 0 0) (.slice none 0 0) (.slice none 0 0)) := (hb5.block _ hob4).trans HO4.out
      clear hb5
      go_wp2_with fail
      rw [← HW5.out]
      refine (l1Below_any HM5.out.cur 2 (by omega)).mono ?_
      rintro e w6 ⟨x, rfl, ⟨hx0, hx1⟩, hc6, ho6⟩
      obtain ⟨j, hj⟩ : ∃ j : Nat, x = (j : Int) := ⟨x.toNat, by omega⟩
      subst hj
      have hj2 : j < 2 := by omega
      obtain ⟨s, hsc, hss, hsw'⟩ := HWs.out j hj2
      have HSw : Hid (lowOk (numsOf s) = true) := hsw'
      clear hsw'
      have hsc6 : w6.cell? ⟨W4.heap.size, j, none⟩ = some (.string s) := (World.cell?_of_block (w := W5) (ho6.other W4.heap.size hs5 (by omega))).trans hsc
      have HM6 : Hid (DrM B a n cap zs hi w w6) := HM5.out.only hB hc6 ho6
      have HO6 : Hid (BoxC w6 w2.heap.size (.int .i64 kd) (.slice none 0 0) (.slice none 0 0) (.slice none 0 0)) := (ho6.other _ (by omega) (by omega)).trans HO5.out
      have hs6 : W4.heap.size < w6.heap.size := Nat.lt_of_lt_of_le hs5 ho6.below.size
      have hji : (j : Int) < 2 := by omega
      obtain ⟨W8, HW8⟩ : ∃ W, Hid (W = Lib.bytesWorld w6 5 s) := ⟨_, rfl⟩
      obtain ⟨cp, HCP⟩ : ∃ cp, Hid (cp = grownCap w6 s.size 0 5) := ⟨_, rfl⟩
      have hcv : (convert 9 22 (.string s)).run Tryz.prog w6 = .ok (.slice (some ⟨w6.heap.size, 0, none⟩) s.size cp) W8 := by
        rw [HW8.out, HCP.out]
        exact Lib.run_convert_string_bytes w6 9 22 5 s Tryz.underlying9 Tryz.underlying22 Tryz.underlying5
      have hb8 : Below w6.heap.size w6 W8 := by rw [HW8.out]; exact bytes_below w6 5 s
      have hs8 : w6.heap.size < W8.heap.size := by rw [HW8.out, Lib.bytesWorld_size]; omega
      have HM8 : Hid (DrM B a n cap zs hi w W8) := HM6.out.below hB hb8
      have HO8 : Hid (BoxC W8 w2.heap.size (.int .i64 kd) (.slice none 0 0) (.slice none 0 0) (.slice none 0 0)) := (hb8.block _ (by omega)).trans HO6.out
      have HR8 : Hid (RolR W8 (.slice (some ⟨w6.heap.size, 0, none⟩) s.size cp) (numsOf s) w6.heap.size) := by unfold Hid; rw [HW8.out, HCP.out]; exact rol_conv w6 s (by omega)
      clear hsc hc6 ho6 hb8 hx0 hx1
      obtain ⟨_, _, o2, _⟩ := HO8.out.cells
      have of2 := HO8.out.frz 2
      go_upto_region 12 with fail
      obtain ⟨Wc, HWc⟩ : ∃ W, Hid (W = W8.setCell ⟨w2.heap.size, 2, none⟩ (.slice (some ⟨w6.heap.size, 0, none⟩) s.size cp)) := ⟨_, rfl⟩
      rw [← HWc.out]
      have hsz : Wc.heap.size = W8.heap.size := by rw [HWc.out]; simp
      obtain ⟨ra, hra⟩ : ∃ ra : Option Addr, ra = some ⟨w6.heap.size, 0, none⟩ := ⟨_, rfl⟩
      obtain ⟨rn, hrn⟩ : ∃ rn, rn = s.size := ⟨_, rfl⟩
      obtain ⟨rc, hrc⟩ : ∃ rc, rc = cp := ⟨_, rfl⟩
      obtain ⟨role, hrole⟩ : ∃ role, role = numsOf s := ⟨_, rfl⟩
      obtain ⟨br, hbr⟩ : ∃ br, br = w6.heap.size := ⟨_, rfl⟩
      rw [← hra, ← hrn, ← hrc, ← hrole, ← hbr] at HR8
      rw [← hra, ← hrn, ← hrc] at HWc
      have HRl : Hid (role.length ≤ 1 ∧ roleFit (.mk kd [] role []) = true) := by
        unfold Hid
        rw [hrole, numsOf_len]
        refine ⟨by omega, ?_⟩
        have hk67 : kd = 6 ∨ kd = 7 := by omega
        rcases hk67 with e | e <;> subst e <;> exact HSw.out
      have hobc : w2.heap.size < Wc.heap.size := by omega
      have hwWc : w.heap.size < Wc.heap.size := by omega
      have HMc : Hid (DrM B a n cap zs hi w Wc) := by unfold Hid; rw [HWc.out]; exact HM8.out.set hB hwob _
      have HSt : Hid (StatR B w Wc.heap.size w2.heap.size br role) := ⟨by omega, hobc, hB, fun _ => by omega⟩
      have HI0 : Hid (InvR B [] [] 0 w Wc.heap.size w2.heap.size (f + 1) kd (.slice ra rn rc) role br Wc (.slice none 0 0) [] [] [] 0) := ⟨RowK.nil _ _ _, by simp, fun x hx => by simp at hx, Use.nil _ _ _ _ _ _, by rw [HWc.out]; exact BoxC.set2S HO8.out _, HR8.out.keep (fun _ => by rw [HWc.out]; exact Below.heap_setCell _ _ _ _ (by show br ≠ w2.heap.size; omega)), HMc.out.bt, Nat.le_refl _⟩
      have HRu : Hid (Use [] [] 0 0 (w.heap.size + 1) Wc.heap.size (leafB br 0 role.length)) := by
        intro x hx
        obtain ⟨q, hq, rfl⟩ := mem_leafB.1 hx
        exact .inl ⟨by show w.heap.size + 1 ≤ br; omega, by show br < Wc.heap.size; omega⟩
      clear hra hrn hrc hrole hbr hsz o2 of2 hcv hsc6 hs8 hs6 hs5
      obtain ⟨i0, hi0, hz0, hz1, hz2⟩ := info_parts Tryz.infoCon4
      go_wp2_with fail
      go_loopw [7] (fun q wr => ∃ (m : Nat) (kv : Value) (cs : List CN) (Ls : List (List (Addr × IntKind))) (xs : List Value), m ≤ N ∧ q = .int .i64 m ∧ cs.length = m ∧ (bulks cs ≤ m * (1 + 4 ^ (f + 1)) ∧ wfL cs = true) ∧ InvR B [] [] 0 w Wc.heap.size w2.heap.size (f + 1) kd (.slice ra rn rc) role br wr kv cs Ls xs 0 ∧ InvW wr Ls.flatten (f + 1) xs ∧ DrM B a n cap zs hi w wr) (fun q _ => N - (intOf q).toNat)
      case atStart => exact ⟨0, .slice none 0 0, [], [], [], Nat.zero_le _, rfl, rfl, ⟨by simp [bulks], rfl⟩, HI0.out, InvW.nil _ _ _, HMc.out⟩
      case round =>
        obtain ⟨m, kv, cs, Ls, xs, hm, rfl, hcl, hbk, hinv, hiw, hmr⟩ := hrel
        have HIW : Hid (InvW wr Ls.flatten (f + 1) xs) := hiw
        have HI : Hid (InvR B [] [] 0 w Wc.heap.size w2.heap.size (f + 1) kd (.slice ra rn rc) role br wr kv cs Ls xs 0) := hinv
        have HMr : Hid (DrM B a n cap zs hi w wr) := hmr
        have HCl : Hid (cs.length = m) := hcl
        have HBk : Hid (bulks cs ≤ m * (1 + 4 ^ (f + 1)) ∧ wfL cs = true) := hbk
        clear hinv hmr hcl hbk hiw
        have hobr : w2.heap.size < wr.heap.size := HI.out.box.lt
        have hszr : Wc.heap.size ≤ wr.heap.size := HI.out.sz
        have hpr : B < wr.heap.size := by omega
        go_wp2_with fail
        refine (l2kids_any kd wr).mono ?_
        rintro e wk ⟨rfl, hwk⟩
        rw [hwk, HKS.out]; clear hwk
        by_cases hlt' : m < N
        · have hmi : (m : Int) < (N : Int) := by omega
          obtain ⟨o0, o1, o2, o3⟩ := HI.out.box.cells
          go_wp2_with fail
          first | go_region_law
            (first
            | (refine step_append_lies _ rfl (.tmp 50) (.tmp 55) 28 rfl Wc.heap.size 30 i0 (.agg #[.int .i64 0, .slice none 0 0, .slice none 0 0, .slice none 0 0]) 4 80 Tryz.underlying28 hi0 hz0 hz1 hz2 rfl (by decide) kv m xs (by simp [Act.eval]) HRow5.out ⟨w5.heap.size, 0, none⟩ 1 1 [.int .i64 zk, .slice zna znn znc, .slice zra zrn zrc, .slice zka zkn zkc] (by simp [Act.eval]) rfl (new4 _ _ _ _ _ _ _ rfl) (one4 _ _ _ _ _ _ _ _ _ _) (by decide) (by unfold maxLen; omega) (by omega) hsz5 _ rfl ?_; intro g1 cap1 w6 hown hgrow hat hlt6; have HA : Hid (BoxC w6 w2.heap.size (.int .i64 kd) (.slice none 0 0) (.slice ra rn rc) kv ∧ InvR B [] [] 0 w Wc.heap.size w2.heap.size (f + 1) kd (.slice ra rn rc) role br (w6.setCell ⟨w2.heap.size, 3, none⟩ (.slice (some ⟨g1, 0, none⟩) (m + 1) cap1)) (.slice (some ⟨g1, 0, none⟩) (m + 1) cap1) (cs ++ [c]) (Ls ++ [L5]) (xs ++ [.int .i64 zk, .slice zna znn znc, .slice zra zrn zrc, .slice zka zkn zkc]) 0) := InvR.app HSt.out HTw.out HI5.out HI.out.us HkB.out hszr HO5.out (Nat.le_refl 0) (Nat.le_refl 0) (by rw [HCl.out]) hown hgrow hat; have HIW7 : Hid (InvW (w6.setCell ⟨w2.heap.size, 3, none⟩ (.slice (some ⟨g1, 0, none⟩) (m + 1) cap1)) (Ls ++ [L5]).flatten (f + 1) (xs ++ [.int .i64 zk, .slice zna znn znc, .slice zra zrn zrc, .slice zka zkn zkc])) := InvW.step HIW5.out HSt.out HI5.out hszr HI.out.us HkB.out HO5.out HW5.out hgrow _; have HM6 : Hid (DrM B a n cap zs hi w w6) := HM5b.out.grown hB hgrow HkN.out hwWc; obtain ⟨_, _, _, o36⟩ := HA.out.1.cells; have f36 := HA.out.1.frz 3; clear hown hgrow hat)
            | (go_simp; refine (ih wr.drew (HMr.out.cur.keepB (w' := wr.drew) (fun _ _ => rfl))).mono ?_; rintro e w5 hP; obtain ⟨y0, y1, y2, y3, c, L5, he5, hO5, hW5, hk5, hwf5, hC5, hb5⟩ := hP; subst he5; obtain ⟨hy0, ⟨zna, znn, znc, hy1⟩, ⟨zra, zrn, zrc, hy2⟩, ⟨zka, zkn, zkc, hy3⟩⟩ := hO5.ow.form; rw [hy0, hy1, hy2, hy3] at hO5; rw [hy3] at hW5; rw [hy0, hy1, hy2, hy3]; clear hy0 hy1 hy2 hy3; obtain ⟨zk, hzk⟩ : ∃ zk, zk = c.kind := ⟨_, rfl⟩; rw [← hzk] at hO5; rw [← hzk]; have HB5 : Hid (Bt B wr.heap.size wr w5) := (Bt.refl _ _ _).drew.trans hb5; have HI5a : Hid (InvR B [] [] 0 w Wc.heap.size w2.heap.size (f + 1) kd (.slice ra rn rc) role br w5 kv cs Ls xs 0) := HI.out.keep HSt.out HTw.out HB5.out; have HB5b : Hid (Below w5.heap.size w5 (w5.alloc (.cells #[.int .i64 zk, .slice zna znn znc, .slice zra zrn zrc, .slice zka zkn zkc] 30))) := (Below.refl _ _).alloc (Nat.le_refl _) _; have HI5 : Hid (InvR B [] [] 0 w Wc.heap.size w2.heap.size (f + 1) kd (.slice ra rn rc) role br (w5.alloc (.cells #[.int .i64 zk, .slice zna znn znc, .slice zra zrn zrc, .slice zka zkn zkc] 30)) kv cs Ls xs 0) := HI5a.out.keep HSt.out HTw.out (Bt.of_below HB5b.out); have HM5 : Hid (DrM B a n cap zs hi w w5) := ⟨hC5, HMr.out.bt.trans (HB5.out.mono HMr.out.bt.size), (HB5.out.block _ HMr.out.box.lt (by omega)).trans HMr.out.box⟩; have HM5b : Hid (DrM B a n cap zs hi w (w5.alloc (.cells #[.int .i64 zk, .slice zna znn znc, .slice zra zrn zrc, .slice zka zkn zkc] 30))) := HM5.out.below hB HB5b.out; have HO5 : Hid (OwnR [] [] 0 0 wr.heap.size (w5.alloc (.cells #[.int .i64 zk, .slice zna znn znc, .slice zra zrn zrc, .slice zka zkn zkc] 30)) (f + 1) (.agg #[.int .i64 zk, .slice zna znn znc, .slice zra zrn zrc, .slice zka zkn zkc]) c L5) := OwnR.bt hO5 HTw.out hpr (Bt.of_below HB5b.out) (Nat.le_of_lt HM5.out.cur.lt); have HRow5 : Hid ((w5.alloc (.cells #[.int .i64 zk, .slice zna znn znc, .slice zra zrn zrc, .slice zka zkn zkc] 30)).ownsRow Wc.heap.size 30 4 kv m xs) := (by have := HI5.out.row.row; rw [HCl.out] at this; exact this); have HkB : Hid (∀ g, kv.ownBlock = some g → g < wr.heap.size) := (fun g hg => (HI.out.row.row.lt g hg).2); have HkN : Hid (∀ b, kv.ownBlock = some b → Wc.heap.size ≤ b) := (fun b e => (HI.out.row.row.lt _ e).1); have hsz5 : Wc.heap.size ≤ (w5.alloc (.cells #[.int .i64 zk, .slice zna znn znc, .slice zra zrn zrc, .slice zka zkn zkc] 30)).heap.size := HI5.out.sz; have HIW5 : Hid (InvW (w5.alloc (.cells #[.int .i64 zk, .slice zna znn znc, .slice zra zrn zrc, .slice zka zkn zkc] 30)) Ls.flatten (f + 1) xs) := InvW.bt (InvW.bt HIW.out HI.out HSt.out HB5.out) HI5a.out HSt.out (Bt.of_below HB5b.out); have HW5 : Hid (Wh (w5.alloc (.cells #[.int .i64 zk, .slice zna znn znc, .slice zra zrn zrc, .slice zka zkn zkc] 30)) L5 (f + 1) (.slice zka zkn zkc)) := hW5.keep (fun x hx => HB5b.out.block _ (hO5.us.lt HTw.out (Nat.le_of_lt HM5.out.cur.lt) x hx)); have HK5 : Hid (c.bulk ≤ 4 ^ (f + 1)) := hk5; have HWf5 : Hid (wfC c = true) := hwf5; obtain ⟨_, _, _, o35⟩ := HI5a.out.box.cells; have hlo5 : w2.heap.size < w5.heap.size := HI5a.out.box.lt; clear hwf5 hb5 hC5 hk5 hO5 hzk hW5)) | fail
          all_goals
            have HM7 : Hid (DrM B a n cap zs hi w (w6.setCell ⟨w2.heap.size, 3, none⟩ (.slice (some ⟨g1, 0, none⟩) (m + 1) cap1))) := HM6.out.set hB (by omega) _
            have HKm : Hid ((cs ++ [c]).length = m + 1 ∧ (bulks (cs ++ [c]) ≤ (m + 1) * (1 + 4 ^ (f + 1)) ∧ wfL (cs ++ [c]) = true)) := ⟨by rw [List.length_append, HCl.out]; rfl, bulks_snoc HBk.out.1 HK5.out, wfL_snoc HBk.out.2 HWf5.out⟩
            go_wp2_with fail
            go_roundw
            case rel => exact ⟨m + 1, _, _, _, _, by omega, by go_num, HKm.out.1, HKm.out.2, HA.out.2, HIW7.out, HM7.out⟩
            case measure => simp [intOf]; omega
        · have hmi : ¬ (m : Int) < (N : Int) := by omega
          obtain ⟨kka, kkn, kkc, hkv⟩ := HI.out.row.isSlice
          rw [hkv] at HI
          obtain ⟨o0, o1, o2, o3⟩ := HI.out.box.cells
          obtain ⟨z0, z1, z2, z3⟩ := HMr.out.box.cells
          have zf0 := HMr.out.box.frz 0
          have zf1 := HMr.out.box.frz 1
          have zf2 := HMr.out.box.frz 2
          have zf3 := HMr.out.box.frz 3
          clear hkv
          go_wp2
          obtain ⟨L, hL, hLw⟩ := whole_rows HI.out HTw.out (i := 0) (s := w.heap.size + 1) (by omega) (by omega) (Nat.le_refl 0) (Nat.le_refl 0) HRu.out HIW.out (fun e => by have := HCl.out; omega) (HRu.out.lt HTw.out (by omega))
          have hbk : (CN.mk kd [] role cs).bulk ≤ 4 ^ (f + 1 + 1) := bulk_node HRl.out.1 HBk.out.1 (by omega)
          have hwf : wfC (CN.mk kd [] role cs) = true := wf_node hk3 hk7 HRl.out.2 (by rw [HKS.out]; have := HCl.out; omega) HBk.out.2
          obtain ⟨hVs, _⟩ := set4_mem HMr.out.box (.int .i64 kd) (.slice none 0 0) (.slice ra rn rc) (.slice kka kkn kkc) HMr.out.bt (Nat.le_refl _)
          obtain ⟨s0, s1, s2, s3⟩ := hVs.cells
          refine bodyPost_ret (v := .agg #[.int .i64 kd, .slice none 0 0, .slice ra rn rc, .slice kka kkn kkc]) (by simp [results, Tryz.results76, go_sem, s0, s1, s2, s3]) rfl ?_
          exact DrM.fin HMr.out hB hL hLw hbk hwf
    · obtain ⟨Wc, hWc⟩ : ∃ W, W = W4 := ⟨_, rfl⟩
      obtain ⟨ra, rn, rc, hrv⟩ : ∃ ra rn rc, Value.slice ra rn rc = .slice none 0 0 := ⟨_, _, _, rfl⟩
      obtain ⟨role, hrole⟩ : ∃ role : List Int, role = [] := ⟨_, rfl⟩
      obtain ⟨br, hbr⟩ : ∃ br : Nat, br = 0 := ⟨_, rfl⟩
      rw [← hWc] at HO4 HM4 hob4
      rw [← hWc]
      have HRl : Hid (role.length ≤ 1 ∧ roleFit (.mk kd [] role []) = true) := by
        unfold Hid
        rw [hrole]
        refine ⟨by simp, ?_⟩
        have hk67 : kd = 3 ∨ kd = 4 ∨ kd = 5 := by omega
        rcases hk67 with e | e | e <;> subst e <;> rfl
      have hwWc : w.heap.size < Wc.heap.size := by omega
      have HMc : Hid (DrM B a n cap zs hi w Wc) := HM4.out
      have HSt : Hid (StatR B w Wc.heap.size w2.heap.size br role) := ⟨by omega, hob4, hB, fun h => absurd hrole h⟩
      have HI0 : Hid (InvR B [] [] 0 w Wc.heap.size w2.heap.size (f + 1) kd (.slice ra rn rc) role br Wc (.slice none 0 0) [] [] [] 0) := ⟨RowK.nil _ _ _, by simp, fun x hx => by simp at hx, Use.nil _ _ _ _ _ _, by rw [hrv]; exact HO4.out, by rw [hrv, hrole]; exact RolR.nil _ _, HMc.out.bt, Nat.le_refl _⟩
      have HRu : Hid (Use [] [] 0 0 (w.heap.size + 1) Wc.heap.size (leafB br 0 role.length)) := by unfold Hid; rw [hrole]; exact Use.nil _ _ _ _ _ _
      clear hrv hrole hbr hWc HW4
      obtain ⟨i0, hi0, hz0, hz1, hz2⟩ := info_parts Tryz.infoCon4
      go_wp2_with fail
      go_loopw [7] (fun q wr => ∃ (m : Nat) (kv : Value) (cs : List CN) (Ls : List (List (Addr × IntKind))) (xs : List Value), m ≤ N ∧ q = .int .i64 m ∧ cs.length = m ∧ (bulks cs ≤ m * (1 + 4 ^ (f + 1)) ∧ wfL cs = true) ∧ InvR B [] [] 0 w Wc.heap.size w2.heap.size (f + 1) kd (.slice ra rn rc) role br wr kv cs Ls xs 0 ∧ InvW wr Ls.flatten (f + 1) xs ∧ DrM B a n cap zs hi w wr) (fun q _ => N - (intOf q).toNat)
      case atStart => exact ⟨0, .slice none 0 0, [], [], [], Nat.zero_le _, rfl, rfl, ⟨by simp [bulks], rfl⟩, HI0.out, InvW.nil _ _ _, HMc.out⟩
      case round =>
        obtain ⟨m, kv, cs, Ls, xs, hm, rfl, hcl, hbk, hinv, hiw, hmr⟩ := hrel
        have HIW : Hid (InvW wr Ls.flatten (f + 1) xs) := hiw
        have HI : Hid (InvR B [] [] 0 w Wc.heap.size w2.heap.size (f + 1) kd (.slice ra rn rc) role br wr kv cs Ls xs 0) := hinv
        have HMr : Hid (DrM B a n cap zs hi w wr) := hmr
        have HCl : Hid (cs.length = m) := hcl
        have HBk : Hid (bulks cs ≤ m * (1 + 4 ^ (f + 1)) ∧ wfL cs = true) := hbk
        clear hinv hmr hcl hbk hiw
        have hobr : w2.heap.size < wr.heap.size := HI.out.box.lt
        have hszr : Wc.heap.size ≤ wr.heap.size := HI.out.sz
        have hpr : B < wr.heap.size := by omega
        go_wp2_with fail
        refine (l2kids_any kd wr).mono ?_
        rintro e wk ⟨rfl, hwk⟩
        rw [hwk, HKS.out]; clear hwk
        by_cases hlt' : m < N
        · have hmi : (m : Int) < (N : Int) := by omega
          obtain ⟨o0, o1, o2, o3⟩ := HI.out.box.cells
          go_wp2_with fail
          first | go_region_law
            (first
            | (refine step_append_lies _ rfl (.tmp 50) (.tmp 55) 28 rfl Wc.heap.size 30 i0 (.agg #[.int .i64 0, .slice none 0 0, .slice none 0 0, .slice none 0 0]) 4 80 Tryz.underlying28 hi0 hz0 hz1 hz2 rfl (by decide) kv m xs (by simp [Act.eval]) HRow5.out ⟨w5.heap.size, 0, none⟩ 1 1 [.int .i64 zk, .slice zna znn znc, .slice zra zrn zrc, .slice zka zkn zkc] (by simp [Act.eval]) rfl (new4 _ _ _ _ _ _ _ rfl) (one4 _ _ _ _ _ _ _ _ _ _) (by decide) (by unfold maxLen; omega) (by omega) hsz5 _ rfl ?_; intro g1 cap1 w6 hown hgrow hat hlt6; have HA : Hid (BoxC w6 w2.heap.size (.int .i64 kd) (.slice none 0 0) (.slice ra rn rc) kv ∧ InvR B [] [] 0 w Wc.heap.size w2.heap.size (f + 1) kd (.slice ra rn rc) role br (w6.setCell ⟨w2.heap.size, 3, none⟩ (.slice (some ⟨g1, 0, none⟩) (m + 1) cap1)) (.slice (some ⟨g1, 0, none⟩) (m + 1) cap1) (cs ++ [c]) (Ls ++ [L5]) (xs ++ [.int .i64 zk, .slice zna znn znc, .slice zra zrn zrc, .slice zka zkn zkc]) 0) := InvR.app HSt.out HTw.out HI5.out HI.out.us HkB.out hszr HO5.out (Nat.le_refl 0) (Nat.le_refl 0) (by rw [HCl.out]) hown hgrow hat; have HIW7 : Hid (InvW (w6.setCell ⟨w2.heap.size, 3, none⟩ (.slice (some ⟨g1, 0, none⟩) (m + 1) cap1)) (Ls ++ [L5]).flatten (f + 1) (xs ++ [.int .i64 zk, .slice zna znn znc, .slice zra zrn zrc, .slice zka zkn zkc])) := InvW.step HIW5.out HSt.out HI5.out hszr HI.out.us HkB.out HO5.out HW5.out hgrow _; have HM6 : Hid (DrM B a n cap zs hi w w6) := HM5b.out.grown hB hgrow HkN.out hwWc; obtain ⟨_, _, _, o36⟩ := HA.out.1.cells; have f36 := HA.out.1.frz 3; clear hown hgrow hat)
            | (go_simp; refine (ih wr.drew (HMr.out.cur.keepB (w' := wr.drew) (fun _ _ => rfl))).mono ?_; rintro e w5 hP; obtain ⟨y0, y1, y2, y3, c, L5, he5, hO5, hW5, hk5, hwf5, hC5, hb5⟩ := hP; subst he5; obtain ⟨hy0, ⟨zna, znn, znc, hy1⟩, ⟨zra, zrn, zrc, hy2⟩, ⟨zka, zkn, zkc, hy3⟩⟩ := hO5.ow.form; rw [hy0, hy1, hy2, hy3] at hO5; rw [hy3] at hW5; rw [hy0, hy1, hy2, hy3]; clear hy0 hy1 hy2 hy3; obtain ⟨zk, hzk⟩ : ∃ zk, zk = c.kind := ⟨_, rfl⟩; rw [← hzk] at hO5; rw [← hzk]; have HB5 : Hid (Bt B wr.heap.size wr w5) := (Bt.refl _ _ _).drew.trans hb5; have HI5a : Hid (InvR B [] [] 0 w Wc.heap.size w2.heap.size (f + 1) kd (.slice ra rn rc) role br w5 kv cs Ls xs 0) := HI.out.keep HSt.out HTw.out HB5.out; have HB5b : Hid (Below w5.heap.size w5 (w5.alloc (.cells #[.int .i64 zk, .slice zna znn znc, .slice zra zrn zrc, .slice zka zkn zkc] 30))) := (Below.refl _ _).alloc (Nat.le_refl _) _; have HI5 : Hid (InvR B [] [] 0 w Wc.heap.size w2.heap.size (f + 1) kd (.slice ra rn rc) role br (w5.alloc (.cells #[.int .i64 zk, .slice zna znn znc, .slice zra zrn zrc, .slice zka zkn zkc] 30)) kv cs Ls xs 0) := HI5a.out.keep HSt.out HTw.out (Bt.of_below HB5b.out); have HM5 : Hid (DrM B a n cap zs hi w w5) := ⟨hC5, HMr.out.bt.trans (HB5.out.mono HMr.out.bt.size), (HB5.out.block _ HMr.out.box.lt (by omega)).trans HMr.out.box⟩; have HM5b : Hid (DrM B a n cap zs hi w (w5.alloc (.cells #[.int .i64 zk, .slice zna znn znc, .slice zra zrn zrc, .slice zka zkn zkc] 30))) := HM5.out.below hB HB5b.out; have HO5 : Hid (OwnR [] [] 0 0 wr.heap.size (w5.alloc (.cells #[.int .i64 zk, .slice zna znn znc, .slice zra zrn zrc, .slice zka zkn zkc] 30)) (f + 1) (.agg #[.int .i64 zk, .slice zna znn znc, .slice zra zrn zrc, .slice zka zkn zkc]) c L5) := OwnR.bt hO5 HTw.out hpr (Bt.of_below HB5b.out) (Nat.le_of_lt HM5.out.cur.lt); have HRow5 : Hid ((w5.alloc (.cells #[.int .i64 zk, .slice zna znn znc, .slice zra zrn zrc, .slice zka zkn zkc] 30)).ownsRow Wc.heap.size 30 4 kv m xs) := (by have := HI5.out.row.row; rw [HCl.out] at this; exact this); have HkB : Hid (∀ g, kv.ownBlock = some g → g < wr.heap.size) := (fun g hg => (HI.out.row.row.lt g hg).2); have HkN : Hid (∀ b, kv.ownBlock = some b → Wc.heap.size ≤ b) := (fun b e => (HI.out.row.row.lt _ e).1); have hsz5 : Wc.heap.size ≤ (w5.alloc (.cells #[.int .i64 zk, .slice zna znn znc, .slice zra zrn zrc, .slice zka zkn zkc] 30)).heap.size := HI5.out.sz; have HIW5 : Hid (InvW (w5.alloc (.cells #[.int .i64 zk, .slice zna znn znc, .slice zra zrn zrc, .slice zka zkn zkc] 30)) Ls.flatten (f + 1) xs) := InvW.bt (InvW.bt HIW.out HI.out HSt.out HB5.out) HI5a.out HSt.out (Bt.of_below HB5b.out); have HW5 : Hid (Wh (w5.alloc (.cells #[.int .i64 zk, .slice zna znn znc, .slice zra zrn zrc, .slice zka zkn zkc] 30)) L5 (f + 1) (.slice zka zkn zkc)) := hW5.keep (fun x hx => HB5b.out.block _ (hO5.us.lt HTw.out (Nat.le_of_lt HM5.out.cur.lt) x hx)); have HK5 : Hid (c.bulk ≤ 4 ^ (f + 1)) := hk5; have HWf5 : Hid (wfC c = true) := hwf5; obtain ⟨_, _, _, o35⟩ := HI5a.out.box.cells; have hlo5 : w2.heap.size < w5.heap.size := HI5a.out.box.lt; clear hwf5 hb5 hC5 hk5 hO5 hzk hW5)) | fail
          all_goals
            have HM7 : Hid (DrM B a n cap zs hi w (w6.setCell ⟨w2.heap.size, 3, none⟩ (.slice (some ⟨g1, 0, none⟩) (m + 1) cap1))) := HM6.out.set hB (by omega) _
            have HKm : Hid ((cs ++ [c]).length = m + 1 ∧ (bulks (cs ++ [c]) ≤ (m + 1) * (1 + 4 ^ (f + 1)) ∧ wfL (cs ++ [c]) = true)) := ⟨by rw [List.length_append, HCl.out]; rfl, bulks_snoc HBk.out.1 HK5.out, wfL_snoc HBk.out.2 HWf5.out⟩
            go_wp2_with fail
            go_roundw
            case rel => exact ⟨m + 1, _, _, _, _, by omega, by go_num, HKm.out.1, HKm.out.2, HA.out.2, HIW7.out, HM7.out⟩
            case measure => simp [intOf]; omega
        · have hmi : ¬ (m : Int) < (N : Int) := by omega
          obtain ⟨kka, kkn, kkc, hkv⟩ := HI.out.row.isSlice
          rw [hkv] at HI
          obtain ⟨o0, o1, o2, o3⟩ := HI.out.box.cells
          obtain ⟨z0, z1, z2, z3⟩ := HMr.out.box.cells
          have zf0 := HMr.out.box.frz 0
          have zf1 := HMr.out.box.frz 1
          have zf2 := HMr.out.box.frz 2
          have zf3 := HMr.out.box.frz 3
          clear hkv
          go_wp2
          obtain ⟨L, hL, hLw⟩ := whole_rows HI.out HTw.out (i := 0) (s := w.heap.size + 1) (by omega) (by omega) (Nat.le_refl 0) (Nat.le_refl 0) HRu.out HIW.out (fun e => by have := HCl.out; omega) (HRu.out.lt HTw.out (by omega))
          have hbk : (CN.mk kd [] role cs).bulk ≤ 4 ^ (f + 1 + 1) := bulk_node HRl.out.1 HBk.out.1 (by omega)
          have hwf : wfC (CN.mk kd [] role cs) = true := wf_node hk3 hk7 HRl.out.2 (by rw [HKS.out]; have := HCl.out; omega) HBk.out.2
          obtain ⟨hVs, _⟩ := set4_mem HMr.out.box (.int .i64 kd) (.slice none 0 0) (.slice ra rn rc) (.slice kka kkn kkc) HMr.out.bt (Nat.le_refl _)
          obtain ⟨s0, s1, s2, s3⟩ := hVs.cells
          refine bodyPost_ret (v := .agg #[.int .i64 kd, .slice none 0 0, .slice ra rn rc, .slice kka kkn kkc]) (by simp [results, Tryz.results76, go_sem, s0, s1, s2, s3]) rfl ?_
          exact DrM.fin HMr.out hB hL hLw hbk hwf
  · go_wp2_with fail
    refine (l1Below_any HM1.out.cur 8 (by omega)).mono ?_
    rintro e w2 ⟨m, rfl, ⟨hm0, hm1⟩, hc2, ho2⟩
    have HM2 : Hid (DrM B a n cap zs hi w w2) := HM1.out.only hB hc2 ho2
    clear hc2 ho2
    obtain ⟨z0, z1, z2, z3⟩ := HM2.out.box.cells
    have zf0 := HM2.out.box.frz 0
    have zf1 := HM2.out.box.frz 1
    have zf2 := HM2.out.box.frz 2
    have zf3 := HM2.out.box.frz 3
    by_cases h0 : m = 0
    · subst h0
      go_wp2
      obtain ⟨hVs, _⟩ := set4_mem HM2.out.box (.int .i64 0) (.slice none 0 0) (.slice none 0 0) (.slice none 0 0) HM2.out.bt (Nat.le_refl _)
      obtain ⟨s0, s1, s2, s3⟩ := hVs.cells
      refine bodyPost_ret (v := .agg #[.int .i64 0, .slice none 0 0, .slice none 0 0, .slice none 0 0]) (by simp [results, Tryz.results76, go_sem, s0, s1, s2, s3]) rfl ?_
      exact DrM.fin HM2.out hB (ownR_nul 0 _ _ _) (Wh.nil _ _ _) (by simp [CN.bulk, bulks]) (by rw [wfC_eq]; rfl)
    · have h0' : (m == 0) = false := by simpa using h0
      by_cases h1 : m = 1
      · subst h1
        go_wp2
        obtain ⟨hVs, _⟩ := set4_mem HM2.out.box (.int .i64 1) (.slice none 0 0) (.slice none 0 0) (.slice none 0 0) HM2.out.bt (Nat.le_refl _)
        obtain ⟨s0, s1, s2, s3⟩ := hVs.cells
        refine bodyPost_ret (v := .agg #[.int .i64 1, .slice none 0 0, .slice none 0 0, .slice none 0 0]) (by simp [results, Tryz.results76, go_sem, s0, s1, s2, s3]) rfl ?_
        exact DrM.fin HM2.out hB (ownR_nul 1 _ _ _) (Wh.nil _ _ _) (by simp [CN.bulk, bulks]) (by rw [wfC_eq]; rfl)
      · have h1' : (m == 1) = false := by simpa using h1
        obtain ⟨W3, HW3⟩ : ∃ W, Hid (W = w2.alloc (.cells #[.string { data := #[65] }, .string { data := #[66] }, .string { data := #[67] }] 9)) := ⟨_, rfl⟩
        have hb3 : Below w2.heap.size w2 W3 := by rw [HW3.out]; exact (Below.refl _ _).alloc (Nat.le_refl _) _
        have hs3 : w2.heap.size < W3.heap.size := by rw [HW3.out]; simp
        have HWs : Hid (∀ i : Nat, i < 3 → ∃ s : ByteArray, W3.cell? ⟨w2.heap.size, i, none⟩ = some (.string s) ∧ s.size ≤ 1 ∧ shapeB (.mk 2 (numsOf s) [] []) = true) := by
          intro i hi
          rw [HW3.out]
          match i, hi with
          | 0, _ | 1, _ | 2, _ => exact ⟨_, by simp; rfl, by decide, by kernel_rfl⟩
        have HM3 : Hid (DrM B a n cap zs hi w W3) := HM2.out.below hB hb3
        clear hb3 z0 z1 z2 z3 zf0 zf1 zf2 zf3
        go_wp2_with fail
        rw [← HW3.out]
        refine (l1Below_any HM3.out.cur 3 (by omega)).mono ?_
        rintro e w4 ⟨x, rfl, ⟨hx0, hx1⟩, hc4, ho4⟩
        obtain ⟨j, hj⟩ : ∃ j : Nat, x = (j : Int) := ⟨x.toNat, by omega⟩
        subst hj
        have hj3 : j < 3 := by omega
        obtain ⟨s, hsc, hss, hsw'⟩ := HWs.out j hj3
        have HSw : Hid (wfC (.mk 2 (numsOf s) [] []) = true) := by unfold Hid; rw [wfC_eq, hsw']; rfl
        clear hsw'
        have hsw : w.heap.size < w2.heap.size := HM2.out.box.lt
        have hsc4 : w4.cell? ⟨w2.heap.size, j, none⟩ = some (.string s) := (World.cell?_of_block (w := W3) (ho4.other w2.heap.size hs3 (by omega))).trans hsc
        have HM4 : Hid (DrM B a n cap zs hi w w4) := HM3.out.only hB hc4 ho4
        have hs4 : w2.heap.size < w4.heap.size := Nat.lt_of_lt_of_le hs3 ho4.below.size
        have hji : (j : Int) < 3 := by omega
        obtain ⟨W8, HW8⟩ : ∃ W, Hid (W = Lib.bytesWorld w4 5 s) := ⟨_, rfl⟩
        obtain ⟨cp, HCP⟩ : ∃ cp, Hid (cp = grownCap w4 s.size 0 5) := ⟨_, rfl⟩
        have hcv : (convert 9 22 (.string s)).run Tryz.prog w4 = .ok (.slice (some ⟨w4.heap.size, 0, none⟩) s.size cp) W8 := by
          rw [HW8.out, HCP.out]
          exact Lib.run_convert_string_bytes w4 9 22 5 s Tryz.underlying9 Tryz.underlying22 Tryz.underlying5
        have hb8 : Below w4.heap.size w4 W8 := by rw [HW8.out]; exact bytes_below w4 5 s
        have hs8 : w4.heap.size < W8.heap.size := by rw [HW8.out, Lib.bytesWorld_size]; omega
        have HM8 : Hid (DrM B a n cap zs hi w W8) := HM4.out.below hB hb8
        have HR8 : Hid (RolR W8 (.slice (some ⟨w4.heap.size, 0, none⟩) s.size cp) (numsOf s) w4.heap.size) := by unfold Hid; rw [HW8.out, HCP.out]; exact rol_conv w4 s (by omega)
        clear hsc hc4 ho4 hb8 hx0 hx1
        obtain ⟨z0, z1, z2, z3⟩ := HM8.out.box.cells
        have zf0 := HM8.out.box.frz 0
        have zf1 := HM8.out.box.frz 1
        have zf2 := HM8.out.box.frz 2
        have zf3 := HM8.out.box.frz 3
        go_wp2
        obtain ⟨hVs, _⟩ := set4_mem HM8.out.box (.int .i64 2) (.slice (some ⟨w4.heap.size, 0, none⟩) s.size cp) (.slice none 0 0) (.slice none 0 0) HM8.out.bt (Nat.le_refl _)
        obtain ⟨s0, s1, s2, s3⟩ := hVs.cells
        refine bodyPost_ret (v := .agg #[.int .i64 2, .slice (some ⟨w4.heap.size, 0, none⟩) s.size cp, .slice none 0 0, .slice none 0 0]) (by simp [results, Tryz.results76, go_sem, s0, s1, s2, s3]) rfl ?_
        exact DrM.fin HM8.out hB (ownR_name HR8.out (by omega) hs8) (Wh.nil _ _ _) (by have := four_le (f + 1); simp [CN.bulk, bulks, numsOf_len]; omega) HSw.out

theorem l2draw_any : ∀ (f : Nat), f ≤ 1000 → ∀ {B : Nat} {a : Option Addr} {n cap : Nat} {zs : List Int} {hi : Nat} {w : World}, Cur w B a n cap zs hi → Calls Tryz.prog 76 #[.pointer (some ⟨B, 0, none⟩), .int .i64 f] w (DcP B a n cap zs hi f w)
  | 0, _, _, _, _, _, _, _, _, c => l2draw_zero c
  | f + 1, h, _, _, _, _, _, _, _, c => l2draw_succ f (by omega) (fun _ => l2draw_any f (by omega)) c

end Go.Proofs.YtnmljalcndfjmaaGreat
