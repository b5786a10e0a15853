/- Several texts in one: ConMark, SpecTok, OwnT. -/
import Derived.Test.YtnmljalcndfjmaaGreatNG1
import Derived.Test.YtnmljalcndfjmaaGreatNG3
import Derived.Test.YtnmljalcndfjmaaGreatNG4
import Derived.Deep.DeepCutAuto
namespace Go.Proofs.YtnmljalcndfjmaaGreat

section
open Go.RowKit

/-- Only numbers were turned, and only in the blocks from lo on, below hi. -/
structure MarkRel (lo hi : Nat) (w w' : World) : Prop where
  os : w'.os = w.os
  tape : w'.tape = w.tape
  output : w'.output = w.output
  size : w.heap.size ≤ w'.heap.size
  out : ∀ b, b < w.heap.size → (b < lo ∨ hi ≤ b) → w'.heap[b]? = w.heap[b]?
  cell : ∀ (p : Addr) (v : Value), w.cell? p = some v → w'.cell? p = some v ∨ ∃ kd m m', v = .int kd m ∧ w'.cell? p = some (.int kd m')
  frz : ∀ p : Addr, p.block < w.heap.size → w'.frozen? p = w.frozen? p

theorem MarkRel.refl (lo hi : Nat) (w : World) : MarkRel lo hi w w := ⟨rfl, rfl, rfl, Nat.le_refl _, fun _ _ _ => rfl, fun _ _ h => .inl h, fun _ _ => rfl⟩

theorem MarkRel.trans {lo hi : Nat} {a b c : World} (h : MarkRel lo hi a b) (k : MarkRel lo hi b c) : MarkRel lo hi a c := by
  refine ⟨k.os.trans h.os, k.tape.trans h.tape, k.output.trans h.output, Nat.le_trans h.size k.size, fun x h1 h2 => (k.out x (Nat.lt_of_lt_of_le h1 h.size) h2).trans (h.out x h1 h2), fun p v hp => ?_, fun p hp => (k.frz p (Nat.lt_of_lt_of_le hp h.size)).trans (h.frz p hp)⟩
  rcases h.cell p v hp with h1 | ⟨kd, m, m', e, h1⟩
  · exact k.cell p v h1
  · rcases k.cell p _ h1 with h2 | ⟨kd2, m2, m2', e2, h2⟩
    · exact .inr ⟨kd, m, m', e, h2⟩
    · simp only [Value.int.injEq] at e2
      obtain ⟨rfl, _⟩ := e2
      exact .inr ⟨kd, m, m2', e, h2⟩

theorem MarkRel.of_below {lo hi : Nat} {w w' : World} (h : Below w.heap.size w w') : MarkRel lo hi w w' :=
  ⟨h.os, h.tape, h.output, h.size, fun b h1 _ => h.block b h1, fun p _ hp => .inl ((h.cell (p := p) (block_lt_of_cell hp)).trans hp), fun p hp => World.frozen?_of_block (w := w) (h.block p.block hp)⟩

theorem MarkRel.set {lo hi : Nat} {w : World} {a : Addr} {kd : IntKind} {m : Int} (h : w.cell? a = some (.int kd m)) (h1 : lo ≤ a.block) (h2 : a.block < hi) (m' : Int) : MarkRel lo hi w (w.setCell a (.int kd m')) := by
  have hb := (Below.refl a.block w).setCell (p := a) (Nat.le_refl _) (.int kd m')
  refine ⟨hb.os, hb.tape, hb.output, hb.size, fun b _ hb' => Below.heap_setCell w a _ b (by omega), fun p v hp => ?_, fun p _ => by simp⟩
  by_cases e : a = p
  · subst e
    rw [h] at hp
    cases hp
    exact .inr ⟨kd, m, m', rfl, World.cell?_setCell_same _ _ _ h⟩
  · exact .inl (by rw [World.cell?_setCell_other _ _ _ _ e]; exact hp)

theorem MarkRel.keep {lo hi : Nat} {w w' : World} (h : MarkRel lo hi w w') {p : Addr} {v : Value} (hp : w.cell? p = some v) (hv : ∀ kd m, v ≠ .int kd m) : w'.cell? p = some v := by
  rcases h.cell p v hp with h1 | ⟨kd, m, _, e, _⟩
  · exact h1
  · exact absurd e (hv kd m)

theorem MarkRel.int {lo hi : Nat} {w w' : World} (h : MarkRel lo hi w w') {p : Addr} {kd : IntKind} {m : Int} (hp : w.cell? p = some (.int kd m)) : ∃ m', w'.cell? p = some (.int kd m') := by
  rcases h.cell p _ hp with h1 | ⟨kd', m1, m', e, h1⟩
  · exact ⟨m, h1⟩
  · simp only [Value.int.injEq] at e
    obtain ⟨rfl, _⟩ := e
    exact ⟨m', h1⟩

/-- A slice of bytes, whatever they are. -/
structure ShB (lo hi : Nat) (w : World) (a : Option Addr) (n cap : Nat) : Prop where
  fits : n ≤ cap ∧ cap ≤ 9223372036854775807
  cells : n = 0 ∨ ∃ b off, a = some ⟨b, off, none⟩ ∧ lo ≤ b ∧ b < hi ∧ ∀ i, i < n → ∃ z, w.cell? ⟨b, off + i, none⟩ = some (.int .u8 z)

theorem Rd.sh {lo hi : Nat} {w : World} {a : Option Addr} {n cap : Nat} {zs : List Int} (h : Rd lo hi w a n cap zs) : ShB lo hi w a n cap := by
  obtain ⟨_, hm, _, hc⟩ := h
  refine ⟨hm, ?_⟩
  rcases hc with h0 | ⟨b, off, e, h1, h2, hc⟩
  · exact .inl h0
  · exact .inr ⟨b, off, e, h1, h2, fun i hi => ⟨_, hc i hi⟩⟩

/-- A concept, whatever its numbers are: c says how long its lists are. -/
def ShC (lo hi : Nat) (w : World) : Nat → Value → CN → Prop
  | 0, _, _ => False
  | d + 1, v, c => ∃ k na nn nc ra rn rc ka kn kc, v = .agg #[.int .i64 k, .slice na nn nc, .slice ra rn rc, .slice ka kn kc] ∧
      c.name.length = nn ∧ ShB lo hi w na nn nc ∧ c.role.length = rn ∧ ShB lo hi w ra rn rc ∧ RdL (ShC lo hi w d) lo hi w ka kn kc c.kids

theorem RdC.sh {lo hi : Nat} {w : World} : ∀ {d : Nat} {v : Value} {c : CN}, RdC lo hi w d v c → ShC lo hi w d v c := by
  intro d
  induction d with
  | zero => intro v c h; exact h
  | succ d ih =>
    intro v c h
    obtain ⟨na, nn, nc, ra, rn, rc, ka, kn, kc, hv, h1, h2, h3⟩ := h
    exact ⟨_, na, nn, nc, ra, rn, rc, ka, kn, kc, hv, h1.len, h1.sh, h2.len, h2.sh, h3.imp (fun v c h => ih h) (Same.refl _ _ _) (Nat.le_refl _) (Nat.le_refl _)⟩

theorem ShC.form {lo hi : Nat} {w : World} {d : Nat} {v0 v1 v2 v3 : Value} {c : CN} (h : ShC lo hi w d (.agg #[v0, v1, v2, v3]) c) : ∃ k na nn nc ra rn rc ka kn kc, v0 = .int .i64 k ∧ v1 = .slice na nn nc ∧ v2 = .slice ra rn rc ∧ v3 = .slice ka kn kc := by
  cases d with
  | zero => exact h.elim
  | succ d =>
    obtain ⟨k, na, nn, nc, ra, rn, rc, ka, kn, kc, hv, _⟩ := h
    simp only [Value.agg.injEq, Array.mk.injEq, List.cons.injEq, and_true] at hv
    exact ⟨k, na, nn, nc, ra, rn, rc, ka, kn, kc, hv.1, hv.2.1, hv.2.2.1, hv.2.2.2⟩
end

section
open Go.RowKit

set_option maxHeartbeats 400000 in
theorem l1one_open (a : Option Addr) (n cap : Nat) (zs : List Int) (i : Nat) (w : World) {lo hi : Nat} (h : Rd lo hi w a n cap zs) (hhi : hi ≤ w.heap.size) (hi' : i < n) (hc : zs.getD i 0 = 40) :
    Calls Tryz.prog 155 #[.slice a n cap, .int .i64 i] w fun e w' => e = .returned (.tuple #[.agg #[.int .i64 3, .int .i64 i, .slice none 0 0], .int .i64 ((i : Int) + 1), .bool true]) ∧ Below w.heap.size w w' := by
  obtain ⟨hl, ⟨hn, hm⟩, hby, hcs⟩ := h
  rcases hcs with h0 | ⟨b, off, rfl, hlo, hb, hcs⟩
  · omega
  · have hck : w.cell? ⟨b, off + i, none⟩ = some (.int .u8 40) := by rw [← hc]; exact hcs i hi'
    have hlt : b < w.heap.size := by omega
    clear hcs hby hl hc
    go_enter Tryz.func155, Tryz.ntmps155
    go_wp2
    exact bodyPost_ret (v := .tuple #[.agg #[.int .i64 3, .int .i64 i, .slice none 0 0], .int .i64 ((i : Int) + 1), .bool true]) (by simp [results, Tryz.results155, go_sem]) rfl ⟨rfl, ((Below.refl _ _).alloc (Nat.le_refl _) _).alloc (by simp) _⟩

set_option maxHeartbeats 400000 in
theorem l1one_close (a : Option Addr) (n cap : Nat) (zs : List Int) (i : Nat) (w : World) {lo hi : Nat} (h : Rd lo hi w a n cap zs) (hhi : hi ≤ w.heap.size) (hi' : i < n) (hc : zs.getD i 0 = 41) :
    Calls Tryz.prog 155 #[.slice a n cap, .int .i64 i] w fun e w' => e = .returned (.tuple #[.agg #[.int .i64 4, .int .i64 i, .slice none 0 0], .int .i64 ((i : Int) + 1), .bool true]) ∧ Below w.heap.size w w' := by
  obtain ⟨hl, ⟨hn, hm⟩, hby, hcs⟩ := h
  rcases hcs with h0 | ⟨b, off, rfl, hlo, hb, hcs⟩
  · omega
  · have hck : w.cell? ⟨b, off + i, none⟩ = some (.int .u8 41) := by rw [← hc]; exact hcs i hi'
    have hlt : b < w.heap.size := by omega
    clear hcs hby hl hc
    go_enter Tryz.func155, Tryz.ntmps155
    go_wp2
    exact bodyPost_ret (v := .tuple #[.agg #[.int .i64 4, .int .i64 i, .slice none 0 0], .int .i64 ((i : Int) + 1), .bool true]) (by simp [results, Tryz.results155, go_sem]) rfl ⟨rfl, ((Below.refl _ _).alloc (Nat.le_refl _) _).alloc (by simp) _⟩

theorem ownsRow_empty (w : World) (g base : Nat) (hg : g = w.heap.size) (hb : base ≤ g) : (w.alloc (.cells #[] 5)).ownsRow base 5 1 (.slice (some ⟨g, 0, none⟩) 0 0) 0 [] := by
  subst hg; exact World.ownsRow_lit w #[] 0 hb (by decide) rfl

theorem oneC (zs : List Int) : ∀ u ∈ zs.map (Value.int .u8), u.oneCell' = true := by
  intro u hu; simp only [List.mem_map] at hu; obtain ⟨x, _, rfl⟩ := hu; rfl

theorem after_text {w w1 : World} {i : Int} (hgrow : (((w.alloc (Obj.cells #[Value.int IntKind.i64 0, Value.int IntKind.i64 0, Value.slice none 0 0] 176)).alloc (Obj.cells #[Value.int IntKind.i64 0, Value.int IntKind.i64 i, Value.slice none 0 0] 176)).alloc (Obj.cells #[] 5)).grownBy w1 (Value.slice (some ⟨w.heap.size + 1 + 1, 0, none⟩) 0 0).ownBlock) :
    w1.cell? ⟨w.heap.size, 0, none⟩ = some (.int .i64 0) ∧ w1.cell? ⟨w.heap.size, 1, none⟩ = some (.int .i64 0) ∧ w1.cell? ⟨w.heap.size, 2, none⟩ = some (.slice none 0 0) ∧
    w1.cell? ⟨w.heap.size + 1, 0, none⟩ = some (.int .i64 0) ∧ w1.cell? ⟨w.heap.size + 1, 1, none⟩ = some (.int .i64 i) ∧ w1.cell? ⟨w.heap.size + 1, 2, none⟩ = some (.slice none 0 0) ∧
    (∀ o, w1.frozen? ⟨w.heap.size, o, none⟩ = false) ∧ (∀ o, w1.frozen? ⟨w.heap.size + 1, o, none⟩ = false) ∧ Below w.heap.size w w1 := by
  have hB := (Below.refl (w.heap.size + 2) _).grown hgrow (by simp) (fun k e => by simp [Value.ownBlock] at e; omega)
  refine ⟨(hB.cell (p := ⟨w.heap.size, 0, none⟩) (by simp)).trans (by go_simp), (hB.cell (p := ⟨w.heap.size, 1, none⟩) (by simp)).trans (by go_simp), (hB.cell (p := ⟨w.heap.size, 2, none⟩) (by simp)).trans (by go_simp),
    (hB.cell (p := ⟨w.heap.size + 1, 0, none⟩) (by simp)).trans (by go_simp), (hB.cell (p := ⟨w.heap.size + 1, 1, none⟩) (by simp)).trans (by go_simp), (hB.cell (p := ⟨w.heap.size + 1, 2, none⟩) (by simp)).trans (by go_simp),
    fun o => (hB.frozen (p := ⟨w.heap.size, o, none⟩) (by simp)).trans (by go_simp), fun o => (hB.frozen (p := ⟨w.heap.size + 1, o, none⟩) (by simp)).trans (by go_simp), ?_⟩
  exact ((((Below.refl _ _).alloc (Nat.le_refl _) _).alloc (by simp) _).alloc (by simp; omega) _).trans (hB.mono (by omega))

theorem row_of_owns {w : World} {base n : Nat} {v : Value} {zs : List Int} (h : w.ownsRow base 5 1 v n (zs.map (Value.int .u8))) (hn : 0 < n) :
    ∃ g c, v = .slice (some ⟨g, 0, none⟩) n c ∧ base ≤ g ∧ Row w g c zs ∧ c ≤ 9223372036854775807 := by
  obtain ⟨h1, h2⟩ := h
  rcases h2 with ⟨_, h0⟩ | ⟨g, cap, cur, hv, hg, hh, hc1, hc2, hc3, hc4⟩
  · omega
  · simp only [List.length_map, Nat.mul_one] at h1 hc3 hc4
    refine ⟨g, cap, hv, hg, ⟨cur, hh, hc3, by omega, fun i hi => ?_⟩, hc2⟩
    have e : (cur.toList.take n)[i]? = (zs.map (Value.int .u8))[i]? := by rw [hc4]
    rw [List.getElem?_take, if_pos (by omega)] at e
    simp only [Array.getElem?_toList] at e
    rw [e]
    simp [List.getD, hi]

set_option maxHeartbeats 4000000 in
theorem l1one_word (a : Option Addr) (n cap : Nat) (zs : List Int) (i : Nat) (w : World) {lo hi : Nat} (h : Rd lo hi w a n cap zs) (hhi : hi ≤ w.heap.size) (hi' : i < n) (hc : zs.getD i 0 ≠ 40) (hc' : zs.getD i 0 ≠ 41) (hbig : n ≤ 1048576) :
    Calls Tryz.prog 155 #[.slice a n cap, .int .i64 i] w fun e w' => ∃ g c, e = .returned (.tuple #[.agg #[.int .i64 (wordKind (zs.getD i 0)), .int .i64 i, .slice (some ⟨g, 0, none⟩) (pend zs i - i) c], .int .i64 (pend zs i), .bool (wordOk (piece zs i))]) ∧ Below w.heap.size w w' ∧ w.heap.size ≤ g ∧ Row w' g c (piece zs i) ∧ c ≤ 9223372036854775807 := by
  obtain ⟨hl, ⟨hn, hm⟩, hby, hcs⟩ := h
  rcases hcs with h0 | ⟨b, off, rfl, hlo, hb, hcs⟩
  · omega
  · obtain ⟨c0, hc0⟩ : ∃ c, c = zs.getD i 0 := ⟨_, rfl⟩
    have hck : w.cell? ⟨b, off + i, none⟩ = some (.int .u8 c0) := by rw [hc0]; exact hcs i hi'
    have hlt : b < w.heap.size := by omega
    have h40 : (c0 == 40) = false := by rw [hc0]; simpa using hc
    have h41 : (c0 == 41) = false := by rw [hc0]; simpa using hc'
    have HCell : Hid (∀ j, j < n → w.cell? ⟨b, off + j, none⟩ = some (.int .u8 (zs.getD j 0))) := hcs
    have HC : Hid (c0 = zs.getD i 0) := hc0
    have HL : Hid (zs.length = n) := hl
    have HN : Hid (∀ W : World, Below w.heap.size w W → ∀ j u, ((piece zs i).map (Value.int .u8))[j]? = some u → W.cell? ((⟨b, off + i, none⟩ : Addr).add j) = some u) := by
      intro W hW j u hu
      have hj : j < (piece zs i).length := by simpa using (List.getElem?_eq_some_iff.1 hu).1
      rw [Addr.add_lit, hW.cell (p := ⟨b, off + i + j, none⟩) hlt, Nat.add_assoc, hcs (i + j) (by have := pend_le zs i (by omega); rw [piece_length zs i (by omega)] at hj; omega)]
      rw [← piece_getD zs i j (by omega) (by rw [piece_length zs i (by omega)] at hj; exact hj), ← hu]
      simp [List.getD, hj]
    have HP : Hid ((piece zs i).length = pend zs i - i) := piece_length zs i (by omega)
    have HPE : Hid (pend zs i = i + 1 + runLow zs (i + 1)) := by unfold Hid pend; rw [if_neg (fun h => h.elim hc hc')]
    have HBy : Hid (∀ j, 0 ≤ (piece zs i).getD j 0 ∧ (piece zs i).getD j 0 ≤ 255) := by
      intro j
      by_cases hj : j < pend zs i - i
      · rw [piece_getD zs i j (by omega) hj]; exact hby _
      · rw [List.getD, List.getElem?_eq_none (by rw [piece_length zs i (by omega)]; omega)]; simp
    clear hcs hby hl hc hc' hc0
    obtain ⟨i0, hi0, hz0, hz1, hz2⟩ := info_parts Tryz.info5
    rw [← HC.out]
    go_enter Tryz.func155, Tryz.ntmps155
    go_wp2
    go_loop [8] (fun v => ∃ k : Nat, i + 1 ≤ k ∧ k ≤ n ∧ v = .int .i64 k ∧ runLow zs (i + 1) = (k - (i + 1)) + runLow zs k) (fun v => n - (intOf v).toNat)
    case atStart => exact ⟨i + 1, by omega, by omega, by go_num, by simp⟩
    case round =>
      obtain ⟨k, hk, hkn, rfl, hrun⟩ := hrel
      have HR : Hid (runLow zs (i + 1) = (k - (i + 1)) + runLow zs k) := hrun
      clear hrun
      obtain ⟨c, HC'⟩ : ∃ c, Hid (c = zs.getD k 0) := ⟨_, rfl⟩
      go_upto_region 9 with fail
      go_cut [43] (fun s W => s = .bool (decide (k < n) && lowB c) ∧ W = ((w.alloc (Obj.cells #[Value.int IntKind.i64 0, Value.int IntKind.i64 0, Value.slice none 0 0] 176)).alloc (Obj.cells #[Value.int IntKind.i64 0, Value.int IntKind.i64 i, Value.slice none 0 0] 176)))
      case first =>
        by_cases hkl : k < n
        · have hck' : w.cell? ⟨b, off + k, none⟩ = some (.int .u8 c) := by rw [HC'.out]; exact HCell.out k hkl
          have hkd : decide ((k : Int) < (n : Int)) = true := by simp; omega
          go_wp2_with (go_at_call 56; refine (l1small_any _ _).mono ?_; rintro e w' ⟨rfl, rfl⟩)
          go_meet
          case rel => exact ⟨by simp [hkl], rfl⟩
        · have hkd : decide ((k : Int) < (n : Int)) = false := by simp; omega
          go_wp2
          go_meet
          case rel => exact ⟨by simp [hkl], rfl⟩
      case rest =>
        obtain ⟨rfl, rfl⟩ := hcut
        cases hX : (decide (k < n) && lowB c)
        · have HE : Hid (runLow zs k = 0) := by
            refine runLow_stop zs k ?_
            rw [Bool.and_eq_false_iff] at hX
            rcases hX with h | h
            · left; rw [HL.out]; simpa using h
            · right; rw [← HC'.out]; exact h
          have HPK : Hid (pend zs i = k) := by have := HR.out; have := HE.out; have := HPE.out; unfold Hid; omega
          have hpl : (piece zs i).length = k - i := by rw [HP.out, HPK.out]
          go_upto_if 58 with (first | (at_builtin; refine wpList_append_own _ rfl (.tmp 46) (.tmp 50) 22 rfl (w.heap.size + 2) 5 i0 (.int .u8 0) 1 1 Tryz.underlying22 hi0 hz0 hz1 hz2 rfl (by decide) (.slice (some ⟨w.heap.size + 1 + 1, 0, none⟩) 0 0) 0 [] rfl (ownsRow_empty _ _ _ (by simp) (by omega)) ⟨b, off + i, none⟩ (k - i) (cap - i) ((piece zs i).map (Value.int .u8)) rfl (by simp [hpl]) (HN.out _ ((((Below.refl _ _).alloc (Nat.le_refl _) _).alloc (by simp) _).alloc (by simp <;> omega) _)) (oneC _) (by unfold maxLen; omega) (by omega) (by simp) ?_; intro v' w1 hown' hgrow hnil; obtain ⟨g, cg, hv', hg, hrow, hcg⟩ := row_of_owns hown' (by omega); rw [Nat.zero_add] at hv'; subst hv'; obtain ⟨q0, q1, q2, r0, r1, r2, fq, fr, hW1⟩ := after_text hgrow; have hbc := (hW1.cell (p := ⟨b, off + i, none⟩) hlt).trans hck; have HW1 : Hid (Below w.heap.size w w1) := hW1; have HRow : Hid (Row w1 g cg (piece zs i)) := hrow; have hb1 : b ≠ w.heap.size + 1 := (by omega); have hne0 : g ≠ w.heap.size := (by omega); have hne1 : g ≠ w.heap.size + 1 := (by omega); clear hown' hgrow hnil hrow hck hW1) | (go_at_call 132; refine (l1great_any _ _).mono ?_; rintro e w2 ⟨rfl, hw2⟩; subst hw2))
          go_cut [] (fun W => W.cell? ⟨w.heap.size + 1, 0, none⟩ = some (.int .i64 (wordKind c0)) ∧ W.cell? ⟨w.heap.size + 1, 1, none⟩ = some (.int .i64 i) ∧ W.cell? ⟨w.heap.size + 1, 2, none⟩ = some (.slice (some ⟨g, 0, none⟩) (k - i) cg) ∧ (∃ m0 m1, W.cell? ⟨w.heap.size, 0, none⟩ = some (.int .i64 m0) ∧ W.cell? ⟨w.heap.size, 1, none⟩ = some (.int .i64 m1)) ∧ W.cell? ⟨w.heap.size, 2, none⟩ = some (.slice none 0 0) ∧ (∀ o, W.frozen? ⟨w.heap.size, o, none⟩ = false) ∧ Row W g cg (piece zs i) ∧ Below w.heap.size w W)
          case first =>
            cases hup : upB c0
            · go_wp2
              go_meet
              case rel =>
                have hk2 : wordKind c0 = 2 := by simp [wordKind, hup]
                rw [hk2]
                refine ⟨by first | (go_simp; done) | exact World.cell?_setCell_same' _ _ _ (by rw [World.cell?_setCell_same' _ _ _ (by rw [World.cell?_setCell_other _ _ _ _ (by simp), r0]; rfl)]; rfl), by go_simp, by go_simp, ⟨0, 0, by go_simp, by go_simp⟩, by go_simp, fun o => by go_simp, ?_, ?_⟩
                · simp only [row_set _ _ _ _ _ _ _ hne1]; exact HRow.out
                · simp only [below_set _ _ _ _ _ _ (Nat.le_succ w.heap.size)]; exact HW1.out
            · go_wp2
              go_meet
              case rel =>
                have hk2 : wordKind c0 = 1 := by simp [wordKind, hup]
                rw [hk2]
                refine ⟨by first | (go_simp; done) | exact World.cell?_setCell_same' _ _ _ (by rw [World.cell?_setCell_same' _ _ _ (by rw [World.cell?_setCell_other _ _ _ _ (by simp), r0]; rfl)]; rfl), by go_simp, by go_simp, ⟨0, 0, by go_simp, by go_simp⟩, by go_simp, fun o => by go_simp, ?_, ?_⟩
                · simp only [row_set _ _ _ _ _ _ _ hne1]; exact HRow.out
                · simp only [below_set _ _ _ _ _ _ (Nat.le_succ w.heap.size)]; exact HW1.out
          case rest =>
            obtain ⟨r0, r1, r2, ⟨m0, m1, q0, q1⟩, q2, fq, hrow, hW⟩ := hcut
            have HRow' : Hid (Row wc g cg (piece zs i)) := hrow
            have HW' : Hid (Below w.heap.size w wc) := hW
            obtain ⟨kd, hkd⟩ : ∃ kd, kd = wordKind c0 := ⟨_, rfl⟩
            rw [← hkd] at r0
            have HKD : Hid (kd = wordKind c0) := hkd
            clear hrow hW HRow HW1 hbc hkd
            cases hu : upOk (piece zs i)
            · go_wp2
              first | go_region_with (first | (go_at_call 84; refine (specUpperOk_any _ _ _ (piece zs i) _ (lo := g) (hi := g + 1) ?_).mono ?_; exact Row.rd (by rw [row_drew]; exact HRow'.out) hpl HBy.out hcg (Nat.le_refl _) (Nat.lt_succ_self _); rintro e w3 ⟨rfl, rfl⟩; rw [hu]) | (go_at_call 18; refine (specLowerOk_any _ _ _ (piece zs i) _ (lo := g) (hi := g + 1) ?_).mono ?_; exact Row.rd (by rw [row_drew]; exact HRow'.out) hpl HBy.out hcg (Nat.le_refl _) (Nat.lt_succ_self _); rintro e w3 ⟨rfl, rfl⟩)) | fail
              all_goals
                go_wp2
                refine bodyPost_ret (v := .tuple #[.agg #[.int .i64 kd, .int .i64 i, .slice (some ⟨g, 0, none⟩) (k - i) cg], .int .i64 k, .bool (lowOk (piece zs i))]) (by simp [results, Tryz.results155, go_sem, q0, q1, q2]) rfl ⟨g, cg, ?_, ?_, by omega, ?_, hcg⟩
                · rw [HPK.out, HKD.out]; simp [wordOk, hu]
                · simp only [below_drewE, below_set _ _ _ _ _ _ (Nat.le_refl w.heap.size)]; exact HW'.out
                · simp only [row_drew, row_set _ _ _ _ _ _ _ hne0]; exact HRow'.out
            · go_wp2
              first | go_region_with (first | (go_at_call 84; refine (specUpperOk_any _ _ _ (piece zs i) _ (lo := g) (hi := g + 1) ?_).mono ?_; exact Row.rd (by rw [row_drew]; exact HRow'.out) hpl HBy.out hcg (Nat.le_refl _) (Nat.lt_succ_self _); rintro e w3 ⟨rfl, rfl⟩; rw [hu]) | (go_at_call 18; refine (specLowerOk_any _ _ _ (piece zs i) _ (lo := g) (hi := g + 1) ?_).mono ?_; exact Row.rd (by rw [row_drew]; exact HRow'.out) hpl HBy.out hcg (Nat.le_refl _) (Nat.lt_succ_self _); rintro e w3 ⟨rfl, rfl⟩)) | fail
              all_goals
                go_wp2
                refine bodyPost_ret (v := .tuple #[.agg #[.int .i64 kd, .int .i64 i, .slice (some ⟨g, 0, none⟩) (k - i) cg], .int .i64 k, .bool true]) (by simp [results, Tryz.results155, go_sem, q0, q1, q2]) rfl ⟨g, cg, ?_, ?_, by omega, ?_, hcg⟩
                · rw [HPK.out, HKD.out]; simp [wordOk, hu]
                · simp only [below_drewE, below_set _ _ _ _ _ _ (Nat.le_refl w.heap.size)]; exact HW'.out
                · simp only [row_drew, row_set _ _ _ _ _ _ _ hne0]; exact HRow'.out
        · have hX' : k < n ∧ lowB c = true := by simpa using hX
          have HE : Hid (runLow zs k = runLow zs (k + 1) + 1) := runLow_go zs k (by rw [HL.out]; exact hX'.1) (by rw [← HC'.out]; exact hX'.2)
          have hkl := hX'.1
          clear hX'
          go_wp2
          go_round
          case rel => exact ⟨k + 1, by omega, by omega, by go_num, by have := HR.out; have := HE.out; omega⟩
          case measure => simp [intOf]; omega
end

section
open Go.RowKit

/-- The value of a token's text, its row's block and capacity being g. -/
def txv (t : Tok) (g : Nat × Nat) : Value := if t.text = [] then .slice none 0 0 else .slice (some ⟨g.1, 0, none⟩) t.text.length g.2

def flatT : List Tok → List (Nat × Nat) → List Value
  | t :: ts, g :: gs => .int .i64 t.kind :: .int .i64 t.place :: txv t g :: flatT ts gs
  | _, _ => []

theorem flatT_snoc : ∀ (ts : List Tok) (gs : List (Nat × Nat)) (t : Tok) (g : Nat × Nat), gs.length = ts.length → flatT (ts ++ [t]) (gs ++ [g]) = flatT ts gs ++ [.int .i64 t.kind, .int .i64 t.place, txv t g]
  | [], [], t, g, _ => rfl
  | [], _ :: _, _, _, h => by simp at h
  | _ :: _, [], _, _, h => by simp at h
  | t0 :: ts, g0 :: gs, t, g, h => by
    simp only [List.cons_append, flatT]
    rw [flatT_snoc ts gs t g (by simpa using h)]

theorem flatT_get : ∀ (ts : List Tok) (gs : List (Nat × Nat)) (i : Nat), gs.length = ts.length → i < ts.length →
    (flatT ts gs)[i * 3]? = some (.int .i64 (ts.getD i Tok.zero).kind) ∧ (flatT ts gs)[i * 3 + 1]? = some (.int .i64 (ts.getD i Tok.zero).place) ∧ (flatT ts gs)[i * 3 + 2]? = some (txv (ts.getD i Tok.zero) (gs.getD i (0, 0)))
  | [], _, _, _, hi => by simp at hi
  | _ :: _, [], _, h, _ => by simp at h
  | t0 :: ts, g0 :: gs, 0, _, _ => by simp [flatT]
  | t0 :: ts, g0 :: gs, i + 1, h, hi => by
    obtain ⟨h0, h1, h2⟩ := flatT_get ts gs i (by simpa using h) (by simpa using hi)
    have e : (i + 1) * 3 = i * 3 + 1 + 1 + 1 := by omega
    have e1 : (i + 1) * 3 + 1 = i * 3 + 1 + 1 + 1 + 1 := by omega
    have e2 : (i + 1) * 3 + 2 = i * 3 + 2 + 1 + 1 + 1 := by omega
    refine ⟨?_, ?_, ?_⟩
    · rw [e]; simpa [flatT] using h0
    · rw [e1]; simpa [flatT] using h1
    · rw [e2]; simpa [flatT] using h2

structure OwnT (base : Nat) (w : World) (v : Value) (ts : List Tok) (gs : List (Nat × Nat)) : Prop where
  len : gs.length = ts.length
  row : w.ownsRow base 176 3 v ts.length (flatT ts gs)
  txt : ∀ i, i < ts.length → (ts.getD i Tok.zero).text ≠ [] → base ≤ (gs.getD i (0, 0)).1 ∧ Row w (gs.getD i (0, 0)).1 (gs.getD i (0, 0)).2 (ts.getD i Tok.zero).text ∧ (gs.getD i (0, 0)).2 ≤ 9223372036854775807
  byte : ∀ i, i < ts.length → ∀ j, 0 ≤ (ts.getD i Tok.zero).text.getD j 0 ∧ (ts.getD i Tok.zero).text.getD j 0 ≤ 255
  dist : ∀ i j, i < j → j < ts.length → (ts.getD i Tok.zero).text ≠ [] → (ts.getD j Tok.zero).text ≠ [] → (gs.getD i (0, 0)).1 ≠ (gs.getD j (0, 0)).1

theorem OwnT.nil (base : Nat) (w : World) : OwnT base w (.slice none 0 0) [] [] :=
  ⟨rfl, World.ownsRow_nil _ _ _ _, fun i hi => by simp at hi, fun i hi => by simp at hi, fun i j _ hj => by simp at hj⟩

theorem owns_of_blocks {w w' : World} {base e size n : Nat} {v : Value} {xs : List Value} (h : w.ownsRow base e size v n xs) (hs : ∀ g, g < w.heap.size → w'.heap[g]? = w.heap[g]?) : w'.ownsRow base e size v n xs := by
  obtain ⟨h1, h2⟩ := h
  refine ⟨h1, ?_⟩
  rcases h2 with h2 | ⟨g, cap, cur, hv, hg, hh, r⟩
  · exact .inl h2
  · exact .inr ⟨g, cap, cur, hv, hg, by rw [hs g (Array.getElem?_eq_some_iff.1 hh).1]; exact hh, r⟩

theorem OwnT.below {base : Nat} {w w' : World} {v : Value} {ts : List Tok} {gs : List (Nat × Nat)} (h : OwnT base w v ts gs) (hb : Below w.heap.size w w') : OwnT base w' v ts gs := by
  obtain ⟨h1, h2, h3, h4, h5⟩ := h
  exact ⟨h1, owns_of_blocks h2 (fun g hg => hb.block g hg), fun i hi ht => ⟨(h3 i hi ht).1, (h3 i hi ht).2.1.below hb (h3 i hi ht).2.1.lt, (h3 i hi ht).2.2⟩, h4, h5⟩

theorem getD_snoc_lt {α : Type} (l : List α) (x d : α) (i : Nat) (h : i < l.length) : (l ++ [x]).getD i d = l.getD i d := by rw [List.getD, List.getElem?_append_left h, List.getD]
theorem getD_snoc_eq {α : Type} (l : List α) (x d : α) : (l ++ [x]).getD l.length d = x := by simp [List.getD]

/-- One token more. -/
theorem OwnT.snoc {base : Nat} {w w1 : World} {v v' : Value} {ts : List Tok} {gs : List (Nat × Nat)} (h : OwnT base w v ts gs) (t : Tok) (g : Nat × Nat)
    (ht : t.text ≠ [] → base ≤ g.1 ∧ Row w g.1 g.2 t.text ∧ g.2 ≤ 9223372036854775807) (hby : ∀ j, 0 ≤ t.text.getD j 0 ∧ t.text.getD j 0 ≤ 255)
    (hd : t.text ≠ [] → ∀ i, i < ts.length → (ts.getD i Tok.zero).text ≠ [] → (gs.getD i (0, 0)).1 ≠ g.1)
    (hown : w1.ownsRow base 176 3 v' (ts.length + 1) (flatT ts gs ++ [.int .i64 t.kind, .int .i64 t.place, txv t g])) (hgrow : w.grownBy w1 v.ownBlock) : OwnT base w1 v' (ts ++ [t]) (gs ++ [g]) := by
  obtain ⟨h1, h2, h3, h4, h5⟩ := h
  have keep : ∀ x c zs, Row w x c zs → Row w1 x c zs := by
    intro x c zs hr
    refine hr.of_block (hgrow.block x hr.lt (fun e => ?_))
    obtain ⟨c', hc', _⟩ := hr
    rcases h2.2 with ⟨rfl, _⟩ | ⟨g', cap, cur, rfl, _, hh, _⟩
    · simp [Value.ownBlock] at e
    · simp [Value.ownBlock] at e
      rw [e, hh] at hc'
      simp at hc'
  refine ⟨by simp [h1], ?_, ?_, ?_, ?_⟩
  · rw [flatT_snoc ts gs t g h1]; simpa using hown
  · intro i hi hne
    simp only [List.length_append, List.length_cons, List.length_nil] at hi
    by_cases e : i < ts.length
    · rw [getD_snoc_lt _ _ _ _ e] at hne ⊢
      rw [getD_snoc_lt _ _ _ _ (by omega)]
      exact ⟨(h3 i e hne).1, keep _ _ _ (h3 i e hne).2.1, (h3 i e hne).2.2⟩
    · have e' : i = ts.length := by omega
      subst e'
      rw [getD_snoc_eq] at hne ⊢
      rw [← h1, getD_snoc_eq]
      exact ⟨(ht hne).1, keep _ _ _ (ht hne).2.1, (ht hne).2.2⟩
  · intro i hi
    simp only [List.length_append, List.length_cons, List.length_nil] at hi
    by_cases e : i < ts.length
    · rw [getD_snoc_lt _ _ _ _ e]; exact h4 i e
    · have e' : i = ts.length := by omega
      subst e'
      rw [getD_snoc_eq]; exact hby
  · intro i j hij hj hni hnj
    simp only [List.length_append, List.length_cons, List.length_nil] at hj
    rw [getD_snoc_lt _ _ _ _ (by omega)] at hni
    rw [getD_snoc_lt _ _ _ i (by omega)]
    by_cases e : j < ts.length
    · rw [getD_snoc_lt _ _ _ _ e] at hnj
      rw [getD_snoc_lt _ _ _ _ (by omega)]
      exact h5 i j hij e hni hnj
    · have e' : j = ts.length := by omega
      subst e'
      rw [getD_snoc_eq] at hnj
      rw [← h1, getD_snoc_eq]
      exact hd hnj i (by omega) hni

/-- Where the texts lie. -/
def txOf (ts : List Tok) (gs : List (Nat × Nat)) (i : Nat) : Nat × Nat × Nat := ((gs.getD i (0, 0)).1, 0, (ts.getD i Tok.zero).text.length)

theorem txv_nil {t : Tok} (g : Nat × Nat) (h : t.text = []) : txv t g = .slice none 0 0 := by unfold txv; rw [if_pos h]
theorem txv_cons {t : Tok} (g : Nat × Nat) (h : t.text ≠ []) : txv t g = .slice (some ⟨g.1, 0, none⟩) t.text.length g.2 := by unfold txv; rw [if_neg h]

theorem txv_form (t : Tok) (g : Nat × Nat) : ∃ a c, txv t g = .slice a t.text.length c := by
  unfold txv
  split
  · rename_i h; exact ⟨none, 0, by rw [h]; rfl⟩
  · exact ⟨_, _, rfl⟩

theorem OwnT.rd {base : Nat} {w : World} {v : Value} {ts : List Tok} {gs : List (Nat × Nat)} (h : OwnT base w v ts gs) :
    ∃ a cap, v = .slice a ts.length cap ∧ RdT base w.heap.size w a ts.length cap ts := by
  obtain ⟨h1, h2, h3, h4, h5⟩ := h
  rcases h2.2 with ⟨hv, h0⟩ | ⟨g, cap, cur, hv, hg, hh, hc1, hc2, hc3, hc4⟩
  · exact ⟨none, 0, by rw [hv, h0], ⟨rfl, ⟨by omega, by omega⟩, .inl h0⟩⟩
  · subst hv
    unfold maxLen at hc2
    refine ⟨_, _, rfl, ⟨rfl, ⟨hc1, hc2⟩, .inr ⟨g, 0, rfl, hg, (Array.getElem?_eq_some_iff.1 hh).1, fun i hi => ?_⟩⟩⟩
    obtain ⟨f0, f1, f2⟩ := flatT_get ts gs i h1 hi
    simp only [Nat.zero_add]
    rw [h2.cellAt (i * 3) (by omega), h2.cellAt (i * 3 + 1) (by omega), h2.cellAt (i * 3 + 2) (by omega), f0, f1, f2]
    by_cases ht : (ts.getD i Tok.zero).text = []
    · refine ⟨none, 0, 0, rfl, rfl, by rw [txv_nil _ ht], ?_⟩
      rw [ht]; exact Rd.none_of (by omega)
    · obtain ⟨t1, t2, t3⟩ := h3 i hi ht
      exact ⟨_, _, _, rfl, rfl, by rw [txv_cons _ ht], t2.rd rfl (h4 i hi) t3 t1 t2.lt⟩

theorem mem_leafT {b off : Nat} {tx : Nat → Nat × Nat × Nat} {n : Nat} {x : Addr × IntKind} (h : x ∈ leafT b off tx n) :
    ∃ i, i < n ∧ (x = (⟨b, off + i * 3, none⟩, .i64) ∨ x = (⟨b, off + i * 3 + 1, none⟩, .i64) ∨ ∃ j, j < (tx i).2.2 ∧ x = (⟨(tx i).1, (tx i).2.1 + j, none⟩, .u8)) := by
  simp only [leafT, List.mem_flatMap, List.mem_range, List.mem_cons, leafB, List.mem_map] at h
  obtain ⟨i, hi, h⟩ := h
  refine ⟨i, hi, ?_⟩
  rcases h with h | h | ⟨j, hj, h⟩
  · exact .inl h
  · exact .inr (.inl h)
  · exact .inr (.inr ⟨j, hj, h.symm⟩)

/-- Its cells can be marked, one by one: they are there, may be written, and are each another. -/
theorem OwnT.leaf {base : Nat} {w : World} {v : Value} {ts : List Tok} {gs : List (Nat × Nat)} (h : OwnT base w v ts gs) (hlen : ∀ i, (ts.getD i Tok.zero).text.length ≤ 1048576) :
    ∃ a cap b, v = .slice a ts.length cap ∧ (ts.length = 0 ∨ a = some ⟨b, 0, none⟩) ∧ HeadT w b 0 (txOf ts gs) ts.length ∧ LeafOk w (leafT b 0 (txOf ts gs) ts.length) ∧
      ((leafT b 0 (txOf ts gs) ts.length).map (·.1)).Nodup ∧ ∀ x ∈ leafT b 0 (txOf ts gs) ts.length, base ≤ x.1.block ∧ x.1.block < w.heap.size := by
  obtain ⟨h1, h2, h3, h4, h5⟩ := h
  rcases h2.2 with ⟨hv, h0⟩ | ⟨g, cap, cur, hv, hg, hh, hc1, hc2, hc3, hc4⟩
  · refine ⟨none, 0, 0, by rw [hv, h0], .inl h0, ?_, ?_, ?_, ?_⟩
    · intro i hi; omega
    · rw [h0]; intro x hx; simp [leafT] at hx
    · rw [h0]; simp [leafT]
    · rw [h0]; intro x hx; simp [leafT] at hx
  · subst hv
    have hgs := (Array.getElem?_eq_some_iff.1 hh).1
    have hcell : ∀ i, i < ts.length → w.cell? ⟨g, i * 3, none⟩ = some (.int .i64 (ts.getD i Tok.zero).kind) ∧ w.cell? ⟨g, i * 3 + 1, none⟩ = some (.int .i64 (ts.getD i Tok.zero).place) ∧ w.cell? ⟨g, i * 3 + 2, none⟩ = some (txv (ts.getD i Tok.zero) (gs.getD i (0, 0))) := by
      intro i hi
      obtain ⟨f0, f1, f2⟩ := flatT_get ts gs i h1 hi
      rw [h2.cellAt (i * 3) (by omega), h2.cellAt (i * 3 + 1) (by omega), h2.cellAt (i * 3 + 2) (by omega)]
      exact ⟨f0, f1, f2⟩
    have hne : ∀ i, i < ts.length → (ts.getD i Tok.zero).text ≠ [] → (gs.getD i (0, 0)).1 ≠ g := by
      intro i hi ht e
      obtain ⟨_, ⟨c, hc, _⟩, _⟩ := h3 i hi ht
      rw [e, hh] at hc
      simp at hc
    have hpos : ∀ i j, j < (txOf ts gs i).2.2 → (ts.getD i Tok.zero).text ≠ [] := by
      intro i j hj e
      simp only [txOf] at hj
      rw [e] at hj
      simp at hj
    refine ⟨_, _, g, rfl, .inr rfl, ?_, ?_, ?_, ?_⟩
    · intro i hi
      simp only [Nat.zero_add]
      by_cases ht : (ts.getD i Tok.zero).text = []
      · refine ⟨none, 0, ?_, .inl (by simp only [txOf]; rw [ht]; rfl), hlen i⟩
        rw [(hcell i hi).2.2, txv_nil _ ht]; simp only [txOf]; rw [ht]; rfl
      · exact ⟨_, _, by rw [(hcell i hi).2.2, txv_cons _ ht]; rfl, .inr rfl, hlen i⟩
    · intro x hx
      obtain ⟨i, hi, e | e | ⟨j, hj, e⟩⟩ := mem_leafT hx
      · subst e; simp only [Nat.zero_add]
        exact ⟨⟨_, (hcell i hi).1⟩, h2.frozenAt _⟩
      · subst e; simp only [Nat.zero_add]
        exact ⟨⟨_, (hcell i hi).2.1⟩, h2.frozenAt _⟩
      · subst e
        obtain ⟨_, hr, _⟩ := h3 i hi (hpos i j hj)
        simp only [txOf, Nat.zero_add] at hj ⊢
        exact ⟨⟨_, hr.cell hj⟩, hr.frozen _⟩
    · have key : ∀ n, n ≤ ts.length → ((leafT g 0 (txOf ts gs) n).map (·.1)).Nodup := by
        intro n
        induction n with
        | zero => intro _; simp [leafT]
        | succ n ih =>
          intro hn
          rw [leafT_succ, List.map_append, List.nodup_append]
          refine ⟨ih (by omega), ?_, ?_⟩
          · simp only [List.map_cons, List.nodup_cons, leafB, List.map_map, List.mem_cons, List.mem_map, List.mem_range, Function.comp]
            refine ⟨?_, ?_, ?_⟩
            · rintro (h | ⟨j, hj, h⟩)
              · simp at h
              · simp only [Addr.mk.injEq] at h
                exact hne n (by omega) (hpos n j hj) h.1
            · rintro ⟨j, hj, h⟩
              simp only [Addr.mk.injEq] at h
              exact hne n (by omega) (hpos n j hj) h.1
            · rw [List.nodup_iff_pairwise_ne, List.pairwise_iff_getElem]
              intro i j hi hj hij
              simp <;> omega
          · intro p hp q hq e
            subst e
            simp only [List.mem_map] at hp hq
            obtain ⟨x, hx, rfl⟩ := hp
            obtain ⟨y, hy, hxy⟩ := hq
            obtain ⟨i, hi, hx⟩ := mem_leafT hx
            simp only [List.mem_cons, leafB, List.mem_map, List.mem_range] at hy
            rcases hx with rfl | rfl | ⟨j, hj, rfl⟩ <;> rcases hy with rfl | rfl | ⟨j', hj', rfl⟩ <;> simp only [Addr.mk.injEq] at hxy
            · omega
            · omega
            · exact hne n (by omega) (hpos n j' hj') hxy.1
            · omega
            · omega
            · exact hne n (by omega) (hpos n j' hj') hxy.1
            · exact hne i (by omega) (hpos i j hj) hxy.1.symm
            · exact hne i (by omega) (hpos i j hj) hxy.1.symm
            · exact h5 i n hi (by omega) (hpos i j hj) (hpos n j' hj') hxy.1.symm
      exact key _ (Nat.le_refl _)
    · intro x hx
      obtain ⟨i, hi, e | e | ⟨j, hj, e⟩⟩ := mem_leafT hx
      · subst e; exact ⟨hg, hgs⟩
      · subst e; exact ⟨hg, hgs⟩
      · subst e
        obtain ⟨hb, hr, _⟩ := h3 i hi (hpos i j hj)
        exact ⟨hb, hr.lt⟩
end

end Go.Proofs.YtnmljalcndfjmaaGreat
