/- Several texts in one: SpecToks, ImplTok1. -/
import Derived.Test.YtnmljalcndfjmaaGreatNG5
import Derived.Test.YtnmljalcndfjmaaGreatNG1
import Derived.Deep.DeepCutAuto
namespace Go.Proofs.YtnmljalcndfjmaaGreat

section
open Go.RowKit

theorem toksFrom_stop (zs : List Int) (f i : Nat) (acc : List Tok) (h : zs.length ≤ i) : toksFrom zs f i acc = (acc, -1) := by
  cases f with
  | zero => rfl
  | succ f => rw [toksFrom, if_neg (by omega)]

theorem toksFrom_blank (zs : List Int) (f i : Nat) (acc : List Tok) (h : i < zs.length) (hb : blankB (zs.getD i 0) = true) : toksFrom zs (f + 1) i acc = toksFrom zs f (i + 1) acc := by
  rw [toksFrom, if_pos h, if_pos hb]

theorem toksFrom_bad (zs : List Int) (f i : Nat) (acc : List Tok) (h : i < zs.length) (hb : blankB (zs.getD i 0) = false) (hk : kindOf (piece zs i) = 0) : toksFrom zs (f + 1) i acc = ([], (i : Int)) := by
  rw [toksFrom, if_pos h, if_neg (by rw [hb]; exact Bool.false_ne_true), if_pos hk]

theorem toksFrom_tok (zs : List Int) (f i : Nat) (acc : List Tok) (h : i < zs.length) (hb : blankB (zs.getD i 0) = false) (hk : kindOf (piece zs i) ≠ 0) : toksFrom zs (f + 1) i acc = toksFrom zs f (pend zs i) (acc ++ [tokAt zs i]) := by
  rw [toksFrom, if_pos h, if_neg (by rw [hb]; exact Bool.false_ne_true), if_neg hk]

/-- What is at place i: a value of three cells, the tokens' own memory, whether it is a token. -/
structure OneAt (zs : List Int) (i : Nat) (w w' : World) (kd : Int) (tv : Value) (e : Nat) (ok : Bool) (g : Nat × Nat) : Prop where
  bel : Below w.heap.size w w'
  stop : e = pend zs i
  okv : ok = !(kindOf (piece zs i) == 0)
  good : ok = true → kd = (tokAt zs i).kind ∧ tv = txv (tokAt zs i) g
  mem : ok = true → (tokAt zs i).text ≠ [] → w.heap.size ≤ g.1 ∧ Row w' g.1 g.2 (tokAt zs i).text ∧ g.2 ≤ 9223372036854775807
  form : ∃ a n c, tv = .slice a n c

theorem l1one_any (a : Option Addr) (n cap : Nat) (zs : List Int) (i : Nat) (w : World) {lo hi : Nat} (h : Rd lo hi w a n cap zs) (hhi : hi ≤ w.heap.size) (hi' : i < n) (hbig : n ≤ 1048576) :
    Calls Tryz.prog 155 #[.slice a n cap, .int .i64 i] w fun e w' => ∃ kd tv st ok g, e = .returned (.tuple #[.agg #[.int .i64 kd, .int .i64 i, tv], .int .i64 (st : Nat), .bool ok]) ∧ OneAt zs i w w' kd tv st ok g := by
  have hl := h.len
  by_cases h40 : zs.getD i 0 = 40
  · obtain ⟨hp, he⟩ := piece_open zs i (by omega) h40
    refine (l1one_open a n cap zs i w h hhi hi' h40).mono fun e w' ⟨he', hb⟩ => ?_
    refine ⟨3, .slice none 0 0, i + 1, true, (0, 0), by rw [he']; simp, hb, he.symm, ?_, ?_, ?_, ⟨_, _, _, rfl⟩⟩
    · rw [hp, kind_open]; rfl
    · intro _; simp only [tokAt, hp, kind_open]; exact ⟨trivial, by simp [txv]⟩
    · intro _ h; simp [tokAt, hp, kind_open] at h
  · by_cases h41 : zs.getD i 0 = 41
    · obtain ⟨hp, he⟩ := piece_close zs i (by omega) h41
      refine (l1one_close a n cap zs i w h hhi hi' h41).mono fun e w' ⟨he', hb⟩ => ?_
      refine ⟨4, .slice none 0 0, i + 1, true, (0, 0), by rw [he']; simp, hb, he.symm, ?_, ?_, ?_, ⟨_, _, _, rfl⟩⟩
      · rw [hp, kind_close]; rfl
      · intro _; simp only [tokAt, hp, kind_close]; exact ⟨trivial, by simp [txv]⟩
      · intro _ h; simp [tokAt, hp, kind_close] at h
    · refine (l1one_word a n cap zs i w h hhi hi' h40 h41 hbig).mono fun e w' ⟨g, c, he', hb, hg, hr, hc⟩ => ?_
      have hp0 : (piece zs i).getD 0 0 = zs.getD i 0 := by rw [piece_getD zs i 0 (by omega) (by have := pend_gt zs i; omega)]; rfl
      have hk := kind_word (piece zs i) (by rw [hp0]; exact h40) (by rw [hp0]; exact h41)
      have hpl := piece_length zs i (by omega)
      have hpos := pend_gt zs i
      have hne : piece zs i ≠ [] := fun e => by rw [e] at hpl; simp at hpl; omega
      have hw12 : wordKind (zs.getD i 0) = 1 ∨ wordKind (zs.getD i 0) = 2 := by unfold wordKind; split <;> simp
      rw [hp0] at hk
      refine ⟨_, _, pend zs i, _, (g, c), he', hb, rfl, ?_, ?_, ?_, ⟨_, _, _, rfl⟩⟩
      · rw [hk]
        cases hok : wordOk (piece zs i)
        · simp
        · rw [if_pos rfl]
          rcases hw12 with e | e <;> rw [e] <;> rfl
      · intro hok
        rw [if_pos hok] at hk
        have ht : (tokAt zs i).text = piece zs i := by simp only [tokAt]; rw [hk, if_pos hw12]
        refine ⟨by simp only [tokAt]; rw [hk], ?_⟩
        rw [txv_cons _ (by rw [ht]; exact hne), ht, hpl]
      · intro hok _
        rw [if_pos hok] at hk
        have ht : (tokAt zs i).text = piece zs i := by simp only [tokAt]; rw [hk, if_pos hw12]
        exact ⟨hg, by rw [ht]; exact hr, hc⟩

theorem Tryz.infoTok3 : (Tryz.prog.info? 176).map (fun i => (i.zero, i.size, i.bytes)) = some (some (.agg #[.int .i64 0, .int .i64 0, .slice none 0 0]), 3, 40) := by kernel_rfl

theorem new3 (w : World) (g : Nat) (x y z : Value) (t : Nat) (hg : g = w.heap.size) : ∀ j u, [x, y, z][j]? = some u → (w.alloc (.cells #[x, y, z] t)).cell? ((⟨g, 0, none⟩ : Addr).add j) = some u := by
  intro j u hu
  subst hg
  rw [Addr.add_lit]
  match j, hu with
  | 0, hu => simp at hu; subst hu; simp
  | 1, hu => simp at hu; subst hu; simp
  | 2, hu => simp at hu; subst hu; simp

theorem one3 (kd k : Int) (ta : Option Addr) (tn tc : Nat) : ∀ u ∈ [Value.int .i64 kd, .int .i64 k, .slice ta tn tc], u.oneCell' = true := by
  intro u hu
  simp at hu
  rcases hu with rfl | rfl | rfl <;> rfl

theorem piece_byte {zs : List Int} (h : ∀ i, 0 ≤ zs.getD i 0 ∧ zs.getD i 0 ≤ 255) (k : Nat) : ∀ j, 0 ≤ (piece zs k).getD j 0 ∧ (piece zs k).getD j 0 ≤ 255 := by
  intro j
  have := h (k + j)
  simp only [piece, List.getD, List.getElem?_take, List.getElem?_drop] at this ⊢
  split
  · exact this
  · simp

theorem step_tok {w0 wr W w2 : World} {u v' : Value} {ts : List Tok} {gs : List (Nat × Nat)} {zs : List Int} {k : Nat} {kd : Int} {tv : Value} {g : Nat × Nat}
    (hO : OwnT w0.heap.size W u ts gs) (hB : Below w0.heap.size w0 W) (hG : kd = (tokAt zs k).kind ∧ tv = txv (tokAt zs k) g)
    (hM : (tokAt zs k).text ≠ [] → w0.heap.size ≤ g.1 ∧ wr.heap.size ≤ g.1 ∧ Row W g.1 g.2 (tokAt zs k).text ∧ g.2 ≤ 9223372036854775807)
    (hS : ∀ i, i < ts.length → (ts.getD i Tok.zero).text ≠ [] → (gs.getD i (0, 0)).1 < wr.heap.size) (hby : ∀ i, 0 ≤ zs.getD i 0 ∧ zs.getD i 0 ≤ 255)
    (hown : w2.ownsRow w0.heap.size 176 3 v' (ts.length + 1) (flatT ts gs ++ [.int .i64 kd, .int .i64 k, tv])) (hgrow : W.grownBy w2 u.ownBlock) :
    ∃ g' cap', v' = .slice (some ⟨g', 0, none⟩) (ts.length + 1) cap' ∧ OwnT w0.heap.size w2 v' (ts ++ [tokAt zs k]) (gs ++ [g]) ∧ Below w0.heap.size w0 w2 := by
  obtain ⟨rfl, rfl⟩ := hG
  have hO2 := hO.snoc (tokAt zs k) g (fun ht => ⟨(hM ht).1, (hM ht).2.2.1, (hM ht).2.2.2⟩) (by
      simp only [tokAt]; split
      · exact piece_byte hby k
      · simp) (fun ht i hi hti => by have := hS i hi hti; have := (hM ht).2.1; omega) hown hgrow
  have hb2 : Below w0.heap.size w0 w2 := hB.grown hgrow hB.size (fun x hx => by
      rcases hO.row.2 with ⟨rfl, _⟩ | ⟨g1, cap1, cur, rfl, hg1, _⟩
      · simp [Value.ownBlock] at hx
      · simp [Value.ownBlock] at hx; omega)
  rcases hown.2 with ⟨_, h0⟩ | ⟨g', cap', _, rfl, _⟩
  · omega
  · exact ⟨g', cap', rfl, hO2, hb2⟩

set_option maxRecDepth 100000 in
set_option maxHeartbeats 1000000 in
theorem specTokens_any (a : Option Addr) (n cap : Nat) (zs : List Int) (w : World) {lo hi : Nat} (h : Rd lo hi w a n cap zs) (hhi : hi ≤ w.heap.size) :
    Calls Tryz.prog 133 #[.slice a n cap] w fun e w' => ∃ v gs, e = .returned (.tuple #[v, .int .i64 (toks zs).2]) ∧ OwnT w.heap.size w' v (toks zs).1 gs ∧ Below w.heap.size w w' := by
  have H : Hid (Rd lo hi w a n cap zs) := h
  obtain ⟨hl, ⟨hn, hm⟩, hby, hcs⟩ := h
  by_cases hbig : 1500 < n
  · have HT : Hid (toks zs = ([], 0)) := by unfold Hid toks; rw [if_pos (by omega)]
    clear hby hcs hl
    go_enter Tryz.func133, Tryz.ntmps133
    go_wp2
    go_ret2
    exact ⟨_, [], by rw [HT.out]; rfl, by rw [HT.out]; exact OwnT.nil _ _, Below.refl _ _⟩
  · have HT : Hid (toks zs = toksFrom zs (n + 1) 0 []) := by unfold Hid toks; rw [if_neg (by omega), hl]
    have HL : Hid (zs.length = n) := hl
    have HBy : Hid (∀ i, 0 ≤ zs.getD i 0 ∧ zs.getD i 0 ≤ 255) := hby
    have HCell : Hid (∀ k, k < n → ∃ b off, a = some ⟨b, off, none⟩ ∧ b < w.heap.size ∧ w.cell? ⟨b, off + k, none⟩ = some (.int .u8 (zs.getD k 0))) := by
      intro k hk
      rcases hcs with h0 | ⟨b, off, e, _, hb, hcs⟩
      · omega
      · exact ⟨b, off, e, by omega, hcs k hk⟩
    clear hby hcs hl
    obtain ⟨i0, hi0, hz0, hz1, hz2⟩ := info_parts Tryz.infoTok3
    go_enter Tryz.func133, Tryz.ntmps133
    go_wp2
    go_loopw [4, 5] (fun v i wr => ∃ (k f : Nat) (ts : List Tok) (gs : List (Nat × Nat)), k ≤ n ∧ n + 1 ≤ f + k ∧ i = .int .i64 k ∧ OwnT w.heap.size wr v ts gs ∧ Below w.heap.size w wr ∧ toksFrom zs f k ts = toks zs ∧ ts.length ≤ k) (fun _ i _ => n - (intOf i).toNat)
    case atStart => exact ⟨0, n + 1, [], [], Nat.zero_le _, by omega, rfl, OwnT.nil _ _, Below.refl _ _, HT.out.symm, by simp⟩
    case round =>
      obtain ⟨k, f, ts, gs, hk, hf, rfl, hown, hbel, htok, htl⟩ := hrel
      have HO : Hid (OwnT w.heap.size wr _ ts gs) := hown
      have HB : Hid (Below w.heap.size w wr) := hbel
      have HK : Hid (toksFrom zs f k ts = toks zs) := htok
      by_cases hlt : k < n
      · obtain ⟨b, off, ha, hb, hck⟩ := HCell.out k hlt
        obtain ⟨c, hc⟩ : ∃ c, c = zs.getD k 0 := ⟨_, rfl⟩
        rw [← hc] at hck
        have HC : Hid (c = zs.getD k 0) := hc
        have hck' : wr.cell? ⟨b, off + k, none⟩ = some (.int .u8 c) := (hbel.cell (p := ⟨b, off + k, none⟩) hb).trans hck
        obtain ⟨f', rfl⟩ : ∃ f', f = f' + 1 := ⟨f - 1, by omega⟩
        clear hown hbel htok hc hck
        subst ha
        cases hb1 : (c == 32)
        · cases hb2 : (c == 10)
          · have hnb : blankB (zs.getD k 0) = false := by rw [← HC.out]; simp [blankB, hb1, hb2]
            go_wp2_with fail
            refine (l1one_any (some ⟨b, off, none⟩) n cap zs k _ (H.out.below HB.out hhi) (Nat.le_trans hhi HB.out.size) hlt (by omega)).mono ?_
            rintro e w1 ⟨kd, tv, st, ok, g, rfl, hone⟩
            obtain ⟨ta, tn, tc, rfl⟩ := hone.form
            have HOne : Hid (OneAt zs k wr w1 kd (.slice ta tn tc) st ok g) := hone
            clear hone
            cases ok
            · have HN : Hid (toks zs = ([], (k : Int))) := by
                rw [← HK.out]; exact toksFrom_bad zs f' k ts (by rw [HL.out]; exact hlt) hnb (by have := HOne.out.okv; simpa using this.symm)
              go_wp2
              go_ret2
              exact ⟨_, [], by rw [HN.out]; rfl, by rw [HN.out]; exact OwnT.nil _ _, (HB.out.trans (HOne.out.bel.mono HB.out.size)).alloc (Nat.le_trans HB.out.size HOne.out.bel.size) _⟩
            · have hstop := HOne.out.stop
              have HS : Hid (st = pend zs k) := hstop
              have hst1 : k < st := by rw [hstop]; exact pend_gt zs k
              have hst2 : st ≤ n := by rw [hstop, ← HL.out]; exact pend_le zs k (by rw [HL.out]; exact hlt)
              have HN : Hid (toksFrom zs f' st (ts ++ [tokAt zs k]) = toks zs) := by
                rw [← HK.out, hstop]; exact (toksFrom_tok zs f' k ts (by rw [HL.out]; exact hlt) hnb (fun e => by have := HOne.out.okv; rw [e] at this; simp at this)).symm
              have HGood := HOne.out.good rfl
              have HMem := HOne.out.mem rfl
              have hbW : Below wr.heap.size wr ((w1.alloc (Obj.cells #[Value.int IntKind.i64 kd, Value.int IntKind.i64 k, Value.slice ta tn tc] 176)).alloc (Obj.cells #[Value.int IntKind.i64 kd, Value.int IntKind.i64 k, Value.slice ta tn tc] 176)) := (HOne.out.bel.alloc HOne.out.bel.size _).alloc (by have := HOne.out.bel.size; simp; omega) _
              have HOW : Hid (OwnT w.heap.size ((w1.alloc (Obj.cells #[Value.int IntKind.i64 kd, Value.int IntKind.i64 k, Value.slice ta tn tc] 176)).alloc (Obj.cells #[Value.int IntKind.i64 kd, Value.int IntKind.i64 k, Value.slice ta tn tc] 176)) u4 ts gs) := HO.out.below hbW
              have HBW : Hid (Below w.heap.size w ((w1.alloc (Obj.cells #[Value.int IntKind.i64 kd, Value.int IntKind.i64 k, Value.slice ta tn tc] 176)).alloc (Obj.cells #[Value.int IntKind.i64 kd, Value.int IntKind.i64 k, Value.slice ta tn tc] 176))) := HB.out.trans (hbW.mono HB.out.size)
              have HS1 : Hid (∀ i, i < ts.length → (ts.getD i Tok.zero).text ≠ [] → (gs.getD i (0, 0)).1 < wr.heap.size) := fun i hi ht => (HO.out.txt i hi ht).2.1.lt
              have HG : Hid (kd = (tokAt zs k).kind ∧ Value.slice ta tn tc = txv (tokAt zs k) g) := HGood
              have HM : Hid ((tokAt zs k).text ≠ [] → w.heap.size ≤ g.1 ∧ wr.heap.size ≤ g.1 ∧ Row ((w1.alloc (Obj.cells #[Value.int IntKind.i64 kd, Value.int IntKind.i64 k, Value.slice ta tn tc] 176)).alloc (Obj.cells #[Value.int IntKind.i64 kd, Value.int IntKind.i64 k, Value.slice ta tn tc] 176)) g.1 g.2 (tokAt zs k).text ∧ g.2 ≤ 9223372036854775807) :=
                fun ht => ⟨Nat.le_trans HB.out.size (HMem ht).1, (HMem ht).1, (HMem ht).2.1.allocOf.allocOf, (HMem ht).2.2⟩
              clear hstop hbW HGood HMem
              go_wp2_with (at_builtin; refine wpList_append_own _ rfl (.tmp 40) (.tmp 42) 161 rfl w.heap.size 176 i0 (.agg #[.int .i64 0, .int .i64 0, .slice none 0 0]) 3 40 Tryz.underlying161 hi0 hz0 hz1 hz2 rfl (by decide) u4 ts.length (flatT ts gs) rfl HOW.out.row ⟨w1.heap.size + 1, 0, none⟩ 1 1 [.int .i64 kd, .int .i64 k, .slice ta tn tc] rfl rfl (new3 _ _ _ _ _ _ (by simp)) (one3 _ _ _ _ _) (by unfold maxLen; omega) (by omega) HBW.out.size ?_; intro v' w2 hown' hgrow hnil; obtain ⟨g', cap', hv', hownT, hb2⟩ := step_tok HOW.out HBW.out HG.out HM.out HS1.out HBy.out hown' hgrow; subst hv'; have HF : Hid (OwnT w.heap.size w2 (.slice (some ⟨g', 0, none⟩) (ts.length + 1) cap') (ts ++ [tokAt zs k]) (gs ++ [g])) := hownT; have HB2 : Hid (Below w.heap.size w w2) := hb2; clear hown' hgrow hnil hownT hb2)
              go_roundw
              case rel => exact ⟨st, f', ts ++ [tokAt zs k], gs ++ [g], hst2, by omega, rfl, HF.out, HB2.out, HN.out, by simp; omega⟩
              case measure => simp [intOf]; omega
          · have HN : Hid (toksFrom zs f' (k + 1) ts = toks zs) := by rw [← HK.out]; exact (toksFrom_blank zs f' k ts (by rw [HL.out]; exact hlt) (by rw [← HC.out]; simp [blankB, hb2])).symm
            go_wp2
            go_roundw
            case rel => exact ⟨k + 1, f', ts, gs, by omega, by omega, by go_num, HO.out, HB.out, HN.out, by omega⟩
            case measure => simp [intOf]; omega
        · have HN : Hid (toksFrom zs f' (k + 1) ts = toks zs) := by rw [← HK.out]; exact (toksFrom_blank zs f' k ts (by rw [HL.out]; exact hlt) (by rw [← HC.out]; simp [blankB, hb1])).symm
          go_wp2
          go_roundw
          case rel => exact ⟨k + 1, f', ts, gs, by omega, by omega, by go_num, HO.out, HB.out, HN.out, by omega⟩
          case measure => simp [intOf]; omega
      · have HE : Hid (toks zs = (ts, -1)) := by rw [← HK.out]; exact toksFrom_stop zs f k ts (by rw [HL.out]; omega)
        clear hown hbel htok
        go_wp2
        go_ret2
        exact ⟨_, gs, by rw [HE.out]; rfl, by rw [HE.out]; exact HO.out, HB.out⟩
end

section
open Go.RowKit

theorem isBlank_any (c : Int) (w : World) : Calls Tryz.prog 170 #[.int .u8 c] w fun e w' => e = .returned (.bool (blankB c)) ∧ w' = w := by
  cases h : (c == 32)
  · go_enter Tryz.func170, Tryz.ntmps170
    go_wp2
    go_ret
    exact ⟨by simp [blankB, h], rfl⟩
  · go_enter Tryz.func170, Tryz.ntmps170
    go_wp2
    go_ret
    exact ⟨by simp [blankB, h], rfl⟩

def brackB (c : Int) : Bool := c == 40 || c == 41

theorem isBracket_any (c : Int) (w : World) : Calls Tryz.prog 176 #[.int .u8 c] w fun e w' => e = .returned (.bool (brackB c)) ∧ w' = w := by
  cases h : (c == 40)
  · go_enter Tryz.func176, Tryz.ntmps176
    go_wp2
    go_ret
    exact ⟨by simp [brackB, h], rfl⟩
  · go_enter Tryz.func176, Tryz.ntmps176
    go_wp2
    go_ret
    exact ⟨by simp [brackB, h], rfl⟩

/-- Where the program's piece at i ends: a blank is one by itself. -/
def pendI (zs : List Int) (i : Nat) : Nat := if blankB (zs.getD i 0) then i + 1 else pend zs i

theorem pendI_short (zs : List Int) (i : Nat) (h : blankB (zs.getD i 0) = true ∨ brackB (zs.getD i 0) = true) : pendI zs i = i + 1 := by
  unfold pendI
  by_cases hb : blankB (zs.getD i 0) = true
  · rw [if_pos hb]
  · rw [if_neg hb]
    have h2 : brackB (zs.getD i 0) = true := by rcases h with h | h; exact absurd h hb; exact h
    unfold pend
    rw [if_pos]
    generalize zs.getD i 0 = c at h2
    simpa [brackB] using h2

theorem pendI_long (zs : List Int) (i : Nat) (h : blankB (zs.getD i 0) = false) (h' : brackB (zs.getD i 0) = false) : pendI zs i = i + 1 + runLow zs (i + 1) := by
  unfold pendI
  rw [h]
  simp only [Bool.false_eq_true, if_false]
  unfold pend
  rw [if_neg]
  generalize zs.getD i 0 = c at h'
  simpa [brackB] using h'

set_option maxHeartbeats 400000 in
theorem pieceEnd_any (a : Option Addr) (n cap : Nat) (zs : List Int) (i : Nat) (w : World) {lo hi : Nat} (h : Rd lo hi w a n cap zs) (hi' : i < n) :
    Calls Tryz.prog 169 #[.slice a n cap, .int .i64 i] w fun e w' => e = .returned (.int .i64 (pendI zs i)) ∧ w' = w := by
  obtain ⟨hl, ⟨hn, hm⟩, hby, hcs⟩ := h
  rcases hcs with h0 | ⟨b, off, rfl, hlo, hb, hcs⟩
  · omega
  · obtain ⟨c0, hc0⟩ : ∃ c, c = zs.getD i 0 := ⟨_, rfl⟩
    have hck : w.cell? ⟨b, off + i, none⟩ = some (.int .u8 c0) := by rw [hc0]; exact hcs i hi'
    have HCell : Hid (∀ j, j < n → w.cell? ⟨b, off + j, none⟩ = some (.int .u8 (zs.getD j 0))) := hcs
    have HC : Hid (c0 = zs.getD i 0) := hc0
    have HL : Hid (zs.length = n) := hl
    clear hcs hby hl hc0
    cases hbl : blankB c0
    · cases hbr : brackB c0
      · have HE : Hid (pendI zs i = i + 1 + runLow zs (i + 1)) := pendI_long zs i (by rw [← HC.out]; exact hbl) (by rw [← HC.out]; exact hbr)
        go_enter Tryz.func169, Tryz.ntmps169
        go_wp2_with (first | (go_at_call 170; refine (isBlank_any _ _).mono ?_; rintro e w1 ⟨rfl, hw⟩; subst hw; rw [hbl]) | (go_at_call 176; refine (isBracket_any _ _).mono ?_; rintro e w1 ⟨rfl, hw⟩; subst hw; rw [hbr]))
        go_loop [5] (fun v => ∃ k : Nat, i + 1 ≤ k ∧ k ≤ n ∧ v = .int .i64 k ∧ runLow zs (i + 1) = (k - (i + 1)) + runLow zs k) (fun v => n - (intOf v).toNat)
        case atStart => exact ⟨i + 1, by omega, by omega, by go_num, by simp⟩
        case round =>
          obtain ⟨k, hk, hkn, rfl, hrun⟩ := hrel
          have HR : Hid (runLow zs (i + 1) = (k - (i + 1)) + runLow zs k) := hrun
          clear hrun
          by_cases hkl : k < n
          · obtain ⟨c, HC'⟩ : ∃ c, Hid (c = zs.getD k 0) := ⟨_, rfl⟩
            have hck' := HCell.out k hkl
            rw [← HC'.out] at hck'
            have hkd : decide ((k : Int) < (n : Int)) = true := by simp; omega
            cases hlow : lowB c
            · have HZ : Hid (runLow zs k = 0) := runLow_stop zs k (.inr (by rw [← HC'.out]; exact hlow))
              go_wp2_with (go_at_call 145; refine (isLower_any _ _).mono ?_; rintro e w' ⟨rfl, rfl⟩; rw [hlow])
              go_ret
              exact ⟨ri (by have := HR.out; have := HZ.out; have := HE.out; omega), rfl⟩
            · have HZ : Hid (runLow zs k = runLow zs (k + 1) + 1) := runLow_go zs k (by rw [HL.out]; exact hkl) (by rw [← HC'.out]; exact hlow)
              go_wp2_with (go_at_call 145; refine (isLower_any _ _).mono ?_; rintro e w' ⟨rfl, rfl⟩; rw [hlow])
              go_round
              case rel => exact ⟨k + 1, by omega, by omega, by go_num, by have := HR.out; have := HZ.out; omega⟩
              case measure => simp [intOf]; omega
          · have hkd : decide ((k : Int) < (n : Int)) = false := by simp; omega
            have HZ : Hid (runLow zs k = 0) := runLow_stop zs k (.inl (by rw [HL.out]; omega))
            go_wp2
            go_ret
            exact ⟨ri (by have := HR.out; have := HZ.out; have := HE.out; omega), rfl⟩
      · have HE : Hid (pendI zs i = i + 1) := pendI_short zs i (.inr (by rw [← HC.out]; exact hbr))
        go_enter Tryz.func169, Tryz.ntmps169
        go_wp2_with (first | (go_at_call 170; refine (isBlank_any _ _).mono ?_; rintro e w1 ⟨rfl, hw⟩; subst hw; rw [hbl]) | (go_at_call 176; refine (isBracket_any _ _).mono ?_; rintro e w1 ⟨rfl, hw⟩; subst hw; rw [hbr]))
        go_ret
        exact ⟨ri (by have := HE.out; omega), rfl⟩
    · have HE : Hid (pendI zs i = i + 1) := pendI_short zs i (.inl (by rw [← HC.out]; exact hbl))
      go_enter Tryz.func169, Tryz.ntmps169
      go_wp2_with (go_at_call 170; refine (isBlank_any _ _).mono ?_; rintro e w1 ⟨rfl, hw⟩; subst hw; rw [hbl])
      go_ret
      exact ⟨ri (by have := HE.out; omega), rfl⟩

theorem strOf_toList (p : List Int) : (strOfNums p).toList = p.map fun n => UInt8.ofNat n.toNat := by
  rw [ByteArray.toList_eq]; rfl

theorem str_one (p : List Int) (hb : ∀ i, 0 ≤ p.getD i 0 ∧ p.getD i 0 ≤ 255) (c : Nat) (hc : c ≤ 255) : ((strOfNums p).toList == [UInt8.ofNat c]) = decide (p = [(c : Int)]) := by
  rw [strOf_toList, Bool.eq_iff_iff, beq_iff_eq, decide_eq_true_iff]
  constructor
  · intro h
    have hlen : p.length = 1 := by have := congrArg List.length h; simpa using this
    obtain ⟨x, rfl⟩ := List.length_eq_one_iff.1 hlen
    · have hx := hb 0
      simp at hx h
      have h2 := congrArg UInt8.toNat h
      simp only [UInt8.toNat_ofNat'] at h2
      rw [Nat.mod_eq_of_lt (by omega), Nat.mod_eq_of_lt (by omega)] at h2
      simp; omega
  · intro h
    rw [h]; simp

set_option maxHeartbeats 400000 in
theorem pieceKind_any (a : Option Addr) (n cap : Nat) (p : List Int) (w : World) {lo hi : Nat} (h : Rd lo hi w a n cap p) :
    Calls Tryz.prog 159 #[.slice a n cap] w fun e w' => e = .returned (.int .i64 (kindOf p)) ∧ w' = w := by
  have hcv := conv_any h
  have h40 := str_one p h.byte 40 (by omega)
  have h41 := str_one p h.byte 41 (by omega)
  have H : Hid (Rd lo hi w a n cap p) := h
  obtain ⟨s, hs⟩ : ∃ s, s = strOfNums p := ⟨_, rfl⟩
  rw [← hs] at hcv h40 h41
  clear hs h
  cases hu : upOk p
  · cases hl : lowOk p
    · by_cases e40 : p = [40]
      · have hb : (s.toList == [40]) = true := by rw [show ([40] : List UInt8) = [UInt8.ofNat 40] from rfl, h40]; simpa using e40
        have HK : Hid (kindOf p = 3) := by unfold Hid kindOf; rw [hu, hl, if_neg (by simp), if_neg (by simp), if_pos e40]
        clear h40 h41 e40
        go_enter Tryz.func159, Tryz.ntmps159
        go_wp2_with (first | (go_at_call 68; refine (implUpperOk_any _ _ _ p _ H.out).mono ?_; rintro e w1 ⟨rfl, hw⟩; subst hw; rw [hu]) | (go_at_call 48; refine (implLowerOk_any _ _ _ p _ H.out).mono ?_; rintro e w1 ⟨rfl, hw⟩; subst hw; rw [hl]))
        go_ret
        exact ⟨ri HK.out.symm, rfl⟩
      · have hb : (s.toList == [40]) = false := by rw [show ([40] : List UInt8) = [UInt8.ofNat 40] from rfl, h40]; simpa using e40
        by_cases e41 : p = [41]
        · have hb' : (s.toList == [41]) = true := by rw [show ([41] : List UInt8) = [UInt8.ofNat 41] from rfl, h41]; simpa using e41
          have HK : Hid (kindOf p = 4) := by unfold Hid kindOf; rw [hu, hl, if_neg (by simp), if_neg (by simp), if_neg e40, if_pos e41]
          clear h40 h41 e40 e41
          go_enter Tryz.func159, Tryz.ntmps159
          go_wp2_with (first | (go_at_call 68; refine (implUpperOk_any _ _ _ p _ H.out).mono ?_; rintro e w1 ⟨rfl, hw⟩; subst hw; rw [hu]) | (go_at_call 48; refine (implLowerOk_any _ _ _ p _ H.out).mono ?_; rintro e w1 ⟨rfl, hw⟩; subst hw; rw [hl]))
          go_ret
          exact ⟨ri HK.out.symm, rfl⟩
        · have hb' : (s.toList == [41]) = false := by rw [show ([41] : List UInt8) = [UInt8.ofNat 41] from rfl, h41]; simpa using e41
          have HK : Hid (kindOf p = 0) := by unfold Hid kindOf; rw [hu, hl, if_neg (by simp), if_neg (by simp), if_neg e40, if_neg e41]
          clear h40 h41 e40 e41
          go_enter Tryz.func159, Tryz.ntmps159
          go_wp2_with (first | (go_at_call 68; refine (implUpperOk_any _ _ _ p _ H.out).mono ?_; rintro e w1 ⟨rfl, hw⟩; subst hw; rw [hu]) | (go_at_call 48; refine (implLowerOk_any _ _ _ p _ H.out).mono ?_; rintro e w1 ⟨rfl, hw⟩; subst hw; rw [hl]))
          go_ret
          exact ⟨ri HK.out.symm, rfl⟩
    · have HK : Hid (kindOf p = 2) := by unfold Hid kindOf; rw [hu, hl, if_neg (by simp), if_pos rfl]
      clear h40 h41
      go_enter Tryz.func159, Tryz.ntmps159
      go_wp2_with (first | (go_at_call 68; refine (implUpperOk_any _ _ _ p _ H.out).mono ?_; rintro e w1 ⟨rfl, hw⟩; subst hw; rw [hu]) | (go_at_call 48; refine (implLowerOk_any _ _ _ p _ H.out).mono ?_; rintro e w1 ⟨rfl, hw⟩; subst hw; rw [hl]))
      go_ret
      exact ⟨ri HK.out.symm, rfl⟩
  · have HK : Hid (kindOf p = 1) := by unfold Hid kindOf; rw [hu, if_pos rfl]
    clear h40 h41
    go_enter Tryz.func159, Tryz.ntmps159
    go_wp2_with (go_at_call 68; refine (implUpperOk_any _ _ _ p _ H.out).mono ?_; rintro e w1 ⟨rfl, hw⟩; subst hw; rw [hu])
    go_ret
    exact ⟨ri HK.out.symm, rfl⟩

set_option maxHeartbeats 400000 in
/-- A copy of bytes, of one at least, in a row of its own. -/
theorem clone_any (b off n cap : Nat) (p : List Int) (w : World) {lo hi : Nat} (h : Rd lo hi w (some ⟨b, off, none⟩) n cap p) (hhi : hi ≤ w.heap.size) (hn : 0 < n) (hbig : n ≤ 1048576) :
    Calls Tryz.prog 81 #[.slice (some ⟨b, off, none⟩) n cap] w fun e w' => ∃ g c, e = .returned (.slice (some ⟨g, 0, none⟩) n c) ∧ w.heap.size ≤ g ∧ Row w' g c p ∧ c ≤ 9223372036854775807 ∧ Below w.heap.size w w' := by
  obtain ⟨hl, ⟨hle, hm⟩, hby, hcs⟩ := h
  rcases hcs with h0 | ⟨b', off', e, hlo, hb, hcs⟩
  · omega
  · simp only [Option.some.injEq, Addr.mk.injEq, and_true] at e
    obtain ⟨rfl, rfl⟩ := e
    have hnil := fun w : World => Lib.run_eql_slice_nil (P := Tryz.prog) (t := 22) (a := some ⟨b, off, none⟩) (n := n) (c := cap) (w := w)
    obtain ⟨i0, hi0, hz0, hz1, hz2⟩ := info_parts Tryz.info5
    have HN : Hid (∀ W : World, Below w.heap.size w W → ∀ j u, (p.map (Value.int .u8))[j]? = some u → W.cell? ((⟨b, off, none⟩ : Addr).add j) = some u) := by
      intro W hW j u hu
      have hj : j < p.length := by simpa using (List.getElem?_eq_some_iff.1 hu).1
      rw [Addr.add_lit, hW.cell (p := ⟨b, off + j, none⟩) (by show b < _; omega), hcs j (by omega), ← hu]
      simp [List.getD, hj]
    have HL : Hid (p.length = n) := hl
    clear hcs hby hl
    go_enter Tryz.func81, Tryz.ntmps81
    go_wp2_with (at_builtin; refine wpList_append_own _ rfl (.tmp 5) (.tmp 6) 22 rfl w.heap.size 5 i0 (.int .u8 0) 1 1 Tryz.underlying22 hi0 hz0 hz1 hz2 rfl (by decide) (.slice (some ⟨w.heap.size, 0, none⟩) 0 0) 0 [] rfl (ownsRow_empty _ _ _ rfl (Nat.le_refl _)) ⟨b, off, none⟩ n cap (p.map (Value.int .u8)) rfl (by simp [HL.out]) (HN.out _ ((Below.refl _ _).alloc (Nat.le_refl _) _)) (oneC _) (by unfold maxLen; omega) (by omega) (by simp) ?_; intro v' w1 hown' hgrow _; obtain ⟨g, c, hv, hg, hrow, hc⟩ := row_of_owns hown' (by omega); rw [Nat.zero_add] at hv; subst hv; have hb1 := ((Below.refl w.heap.size w).alloc (Nat.le_refl _) _).grown hgrow (by simp) (fun k e => by simp [Value.ownBlock] at e; omega); have HR : Hid (Row w1 g c p) := hrow; have HB : Hid (Below w.heap.size w w1) := hb1; clear hown' hgrow hrow hb1)
    go_ret
    exact ⟨g, c, rfl, hg, HR.out, hc, HB.out⟩
end

end Go.Proofs.YtnmljalcndfjmaaGreat
