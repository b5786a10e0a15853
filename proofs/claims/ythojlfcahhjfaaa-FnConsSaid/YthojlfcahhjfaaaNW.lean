/- Several texts in one: ConMem, Words, Conv, Kept, ConMath. -/
import Derived.Test.YthojlfcahhjfaaaNBase
import Derived.WalkKit
import Derived.WalkSpells
import Derived.WalkLawsBesides
import Derived.Laws.BytesArg
namespace Go.Proofs.Ythojlfcahhjfaaa

section
open Go.RowKit

/-- A concept: its kind, its name, its role, its kids. -/
inductive CN where
  | mk (kind : Int) (name role : List Int) (kids : List CN)

def CN.kind : CN → Int | .mk k _ _ _ => k
def CN.name : CN → List Int | .mk _ n _ _ => n
def CN.role : CN → List Int | .mk _ _ r _ => r
def CN.kids : CN → List CN | .mk _ _ _ ks => ks
def CN.zero : CN := .mk 0 [] [] []
instance : Inhabited CN := ⟨CN.zero⟩

mutual
/-- How much it holds beyond itself. -/
def CN.bulk : CN → Nat
  | .mk _ n r ks => n.length + r.length + bulks ks
def bulks : List CN → Nat
  | [] => 0
  | c :: cs => 1 + c.bulk + bulks cs
end

theorem CN.bulk_eq (c : CN) : c.bulk = c.name.length + c.role.length + bulks c.kids := by
  cases c; rw [CN.bulk]; rfl

theorem bulks_append (xs ys : List CN) : bulks (xs ++ ys) = bulks xs + bulks ys := by
  induction xs with
  | nil => simp [bulks]
  | cons x xs ih => simp only [List.cons_append, bulks, ih]; omega

theorem take_succ_getD {α : Type} (l : List α) (d : α) (k : Nat) (h : k < l.length) : l.take (k + 1) = l.take k ++ [l.getD k d] := by
  rw [List.take_succ_eq_append_getElem h]
  simp [List.getD, h]

theorem bulks_take_succ (cs : List CN) (k : Nat) (h : k < cs.length) : bulks (cs.take (k + 1)) = bulks (cs.take k) + 1 + (cs.getD k CN.zero).bulk := by
  rw [take_succ_getD cs CN.zero k h, bulks_append]
  simp only [bulks]
  omega

theorem bulks_take_le (cs : List CN) (k : Nat) : bulks (cs.take k) ≤ bulks cs := by
  have := bulks_append (cs.take k) (cs.drop k)
  rw [List.take_append_drop] at this
  omega

theorem length_le_bulks (cs : List CN) : cs.length ≤ bulks cs := by
  induction cs with
  | nil => simp
  | cons c cs ih => simp only [List.length_cons, bulks]; omega

theorem getD_bulk_le (cs : List CN) (k : Nat) (h : k < cs.length) : (cs.getD k CN.zero).bulk + 1 ≤ bulks cs := by
  have := bulks_take_succ cs k h
  have := bulks_take_le cs (k + 1)
  omega

/-- A slice's value reads as these, each of four cells, 'R' saying what four cells read as. -/
structure RdL (R : Value → CN → Prop) (lo hi : Nat) (w : World) (a : Option Addr) (n cap : Nat) (cs : List CN) : Prop where
  len : cs.length = n
  fits : n ≤ cap ∧ cap ≤ 9223372036854775807
  cells : n = 0 ∨ ∃ b off, a = some ⟨b, off, none⟩ ∧ lo ≤ b ∧ b < hi ∧ ∀ i, i < n → ∃ v0 v1 v2 v3,
    w.cell? ⟨b, off + i * 4, none⟩ = some v0 ∧ w.cell? ⟨b, off + i * 4 + 1, none⟩ = some v1 ∧ w.cell? ⟨b, off + i * 4 + 2, none⟩ = some v2 ∧ w.cell? ⟨b, off + i * 4 + 3, none⟩ = some v3 ∧
    R (.agg #[v0, v1, v2, v3]) (cs.getD i CN.zero)

/-- A value reads as this concept, in at most d steps. -/
def RdC (lo hi : Nat) (w : World) : Nat → Value → CN → Prop
  | 0, _, _ => False
  | d + 1, v, c => ∃ na nn nc ra rn rc ka kn kc, v = .agg #[.int .i64 c.kind, .slice na nn nc, .slice ra rn rc, .slice ka kn kc] ∧
      Rd lo hi w na nn nc c.name ∧ Rd lo hi w ra rn rc c.role ∧ RdL (RdC lo hi w d) lo hi w ka kn kc c.kids

theorem RdL.imp {R S : Value → CN → Prop} {lo hi lo' hi' : Nat} {w w' : World} {a : Option Addr} {n cap : Nat} {cs : List CN} (h : RdL R lo hi w a n cap cs)
    (hRS : ∀ v c, R v c → S v c) (hs : Same lo hi w w') (h1 : lo' ≤ lo) (h2 : hi ≤ hi') : RdL S lo' hi' w' a n cap cs := by
  obtain ⟨hl, hm, hc⟩ := h
  refine ⟨hl, hm, ?_⟩
  rcases hc with h0 | ⟨b, off, e, q1, q2, hc⟩
  · exact .inl h0
  · refine .inr ⟨b, off, e, by omega, by omega, fun i hi => ?_⟩
    obtain ⟨v0, v1, v2, v3, c0, c1, c2, c3, hr⟩ := hc i hi
    exact ⟨v0, v1, v2, v3, (hs.cell (p := ⟨b, _, none⟩) q1 q2).trans c0, (hs.cell (p := ⟨b, _, none⟩) q1 q2).trans c1, (hs.cell (p := ⟨b, _, none⟩) q1 q2).trans c2, (hs.cell (p := ⟨b, _, none⟩) q1 q2).trans c3, hRS _ _ hr⟩

theorem RdC.same {lo hi : Nat} {w w' : World} (hs : Same lo hi w w') : ∀ {d : Nat} {v : Value} {c : CN}, RdC lo hi w d v c → RdC lo hi w' d v c := by
  intro d
  induction d with
  | zero => intro v c h; exact h
  | succ d ih =>
    intro v c h
    obtain ⟨na, nn, nc, ra, rn, rc, ka, kn, kc, hv, h1, h2, h3⟩ := h
    exact ⟨na, nn, nc, ra, rn, rc, ka, kn, kc, hv, h1.same hs, h2.same hs, h3.imp (fun v c h => ih h) hs (Nat.le_refl _) (Nat.le_refl _)⟩

theorem RdC.mono {lo hi lo' hi' : Nat} {w : World} (q1 : lo' ≤ lo) (q2 : hi ≤ hi') : ∀ {d : Nat} {v : Value} {c : CN}, RdC lo hi w d v c → RdC lo' hi' w d v c := by
  intro d
  induction d with
  | zero => intro v c h; exact h
  | succ d ih =>
    intro v c h
    obtain ⟨na, nn, nc, ra, rn, rc, ka, kn, kc, hv, h1, h2, h3⟩ := h
    exact ⟨na, nn, nc, ra, rn, rc, ka, kn, kc, hv, h1.mono q1 q2, h2.mono q1 q2, h3.imp (fun v c h => ih h) (Same.refl _ _ _) q1 q2⟩

theorem RdC.below {lo hi B : Nat} {w w' : World} {d : Nat} {v : Value} {c : CN} (h : RdC lo hi w d v c) (hb : Below B w w') (hB : hi ≤ B) : RdC lo hi w' d v c := h.same (Same.of_below hb hB)

theorem RdL.same {lo hi d : Nat} {w w' : World} {a : Option Addr} {n cap : Nat} {cs : List CN} (h : RdL (RdC lo hi w d) lo hi w a n cap cs) (hs : Same lo hi w w') : RdL (RdC lo hi w' d) lo hi w' a n cap cs :=
  h.imp (fun _ _ h => h.same hs) hs (Nat.le_refl _) (Nat.le_refl _)

theorem RdL.below {lo hi d B : Nat} {w w' : World} {a : Option Addr} {n cap : Nat} {cs : List CN} (h : RdL (RdC lo hi w d) lo hi w a n cap cs) (hb : Below B w w') (hB : hi ≤ B) : RdL (RdC lo hi w' d) lo hi w' a n cap cs := h.same (Same.of_below hb hB)

/-- No cell of these blocks is frozen. -/
def Free (lo hi : Nat) (w : World) : Prop := ∀ b, lo ≤ b → b < hi → ∀ o, w.frozen? ⟨b, o, none⟩ = false

theorem Free.same {lo hi : Nat} {w w' : World} (h : Free lo hi w) (hs : Same lo hi w w') : Free lo hi w' := by
  intro b h1 h2 o
  exact (World.frozen?_of_block (w := w) (hs b h1 h2)).trans (h b h1 h2 o)

theorem Free.mono {lo hi lo' hi' : Nat} {w : World} (h : Free lo hi w) (q1 : lo ≤ lo') (q2 : hi' ≤ hi) : Free lo' hi' w := fun b h1 h2 o => h b (by omega) (by omega) o

theorem Free.join {lo mid hi : Nat} {w : World} (h : Free lo mid w) (k : Free mid hi w) : Free lo hi w := by
  intro b h1 h2 o
  by_cases e : b < mid
  · exact h b h1 e o
  · exact k b (by omega) h2 o

theorem Free.set {lo hi : Nat} {w : World} (h : Free lo hi w) (a : Addr) (v : Value) : Free lo hi (w.setCell a v) := by
  intro b h1 h2 o
  have := h b h1 h2 o
  simpa using this

theorem Free.one (w : World) (c : Array Value) (t : TypeId) : Free w.heap.size (w.heap.size + 1) (w.alloc (.cells c t)) := by
  intro b h1 h2 o
  have e : b = w.heap.size := by omega
  subst e
  have hb : (w.alloc (.cells c t)).heap[w.heap.size]? = some (.cells c t) := by
    show (w.heap.push _)[w.heap.size]? = _
    simp
  unfold World.frozen?
  simp only []
  rw [hb]
  simp

theorem Free.alloc {lo : Nat} {w : World} (h : Free lo w.heap.size w) (c : Array Value) (t : TypeId) : Free lo (w.heap.size + 1) (w.alloc (.cells c t)) :=
  (h.same (Same.of_below ((Below.refl w.heap.size w).alloc (Nat.le_refl _) _) (Nat.le_refl _))).join (Free.one w c t)

theorem Free.nil (w : World) (lo : Nat) : Free lo lo w := fun b h1 h2 => absurd h2 (by omega)

/-- What is free up to the heap's end stays so behind a call that turned nothing below, and whose own blocks are free. -/
theorem Free.next {lo : Nat} {w w' : World} (h : Free lo w.heap.size w) (hb : Below w.heap.size w w') (k : Free w.heap.size w'.heap.size w') : Free lo w'.heap.size w' :=
  (h.same (Same.of_below hb (Nat.le_refl _))).join k
end

section
open Go.RowKit

def lowB (c : Int) : Bool := decide (97 ≤ c) && decide (c ≤ 122)
def upB (c : Int) : Bool := decide (65 ≤ c) && decide (c ≤ 90)

theorem isLower_any (c : Int) (w : World) : Calls Try.prog 90 #[.int .u8 c] w fun e w' => e = .returned (.bool (lowB c)) ∧ w' = w := by
  by_cases h : 97 ≤ c
  · go_enter Try.func90, Try.ntmps90
    go_wp2
    go_ret
    exact ⟨by simp [lowB, h], rfl⟩
  · have hd : decide (97 ≤ c) = false := by simpa using h
    go_enter Try.func90, Try.ntmps90
    go_wp2
    go_ret
    exact ⟨by simp [lowB]; omega, rfl⟩

theorem l1small_any (c : Int) (w : World) : Calls Try.prog 121 #[.int .u8 c] w fun e w' => e = .returned (.bool (lowB c)) ∧ w' = w := by
  by_cases h : 97 ≤ c
  · go_enter Try.func121, Try.ntmps121
    go_wp2
    go_ret
    exact ⟨by simp [lowB, h], rfl⟩
  · have hd : decide (97 ≤ c) = false := by simpa using h
    go_enter Try.func121, Try.ntmps121
    go_wp2
    go_ret
    exact ⟨by simp [lowB]; omega, rfl⟩

theorem isUpper_any (c : Int) (w : World) : Calls Try.prog 52 #[.int .u8 c] w fun e w' => e = .returned (.bool (upB c)) ∧ w' = w := by
  by_cases h : 65 ≤ c
  · go_enter Try.func52, Try.ntmps52
    go_wp2
    go_ret
    exact ⟨by simp [upB, h], rfl⟩
  · have hd : decide (65 ≤ c) = false := by simpa using h
    go_enter Try.func52, Try.ntmps52
    go_wp2
    go_ret
    exact ⟨by simp [upB]; omega, rfl⟩

theorem l1great_any (c : Int) (w : World) : Calls Try.prog 120 #[.int .u8 c] w fun e w' => e = .returned (.bool (upB c)) ∧ w' = w := by
  by_cases h : 65 ≤ c
  · go_enter Try.func120, Try.ntmps120
    go_wp2
    go_ret
    exact ⟨by simp [upB, h], rfl⟩
  · have hd : decide (65 ≤ c) = false := by simpa using h
    go_enter Try.func120, Try.ntmps120
    go_wp2
    go_ret
    exact ⟨by simp [upB]; omega, rfl⟩

def longB (n : Nat) : Bool := decide (1 ≤ n) && decide (n ≤ 6)

theorem nameLong_any (a : Option Addr) (n cap : Nat) (w : World) : Calls Try.prog 51 #[.slice a n cap] w fun e w' => e = .returned (.bool (longB n)) ∧ w' = w := by
  by_cases h : (1 : Int) ≤ (n : Int)
  · have h' : 1 ≤ n := by omega
    go_enter Try.func51, Try.ntmps51
    go_wp2
    go_ret
    exact ⟨by simp [longB, h']; omega, rfl⟩
  · have hd : decide ((1 : Int) ≤ (n : Int)) = false := by simpa using h
    go_enter Try.func51, Try.ntmps51
    go_wp2
    go_ret
    exact ⟨by simp [longB]; omega, rfl⟩

theorem all_take_succ (zs : List Int) (k : Nat) (h : k < zs.length) : (zs.take (k + 1)).all lowB = ((zs.take k).all lowB && lowB (zs.getD k 0)) := by
  rw [List.take_succ_eq_append_getElem h, List.all_append]; simp [List.getD, h]

theorem all_false_of (zs : List Int) (k : Nat) (h : k < zs.length) (hf : lowB (zs.getD k 0) = false) : zs.all lowB = false := by
  rw [List.all_eq_false]; exact ⟨zs[k], List.getElem_mem h, by simpa [List.getD, h] using hf⟩

set_option maxHeartbeats 400000 in
theorem allLower_any (a : Option Addr) (n cap : Nat) (zs : List Int) (w : World) {lo hi : Nat} (h : Rd lo hi w a n cap zs) :
    Calls Try.prog 53 #[.slice a n cap] w fun e w' => e = .returned (.bool (zs.all lowB)) ∧ w' = w := by
  obtain ⟨hl, ⟨hn, hm⟩, hby, hc⟩ := h
  rcases hc with h0 | ⟨b, off, rfl, hlo, hb, hc⟩
  · subst h0
    have hz : zs = [] := List.eq_nil_of_length_eq_zero hl
    go_enter Try.func53, Try.ntmps53
    go_wp2
    refine wp_loop_rounds 1 ?_
    rw [rounds_succ]
    go_wp2
    go_ret
    exact ⟨by simp [hz], rfl⟩
  · go_enter Try.func53, Try.ntmps53
    go_wp2
    go_loop [7] (fun i => ∃ k : Nat, k ≤ n ∧ i = .int .i64 k ∧ (zs.take k).all lowB = true) (fun i => n - (intOf i).toNat)
    case atStart => exact ⟨0, Nat.zero_le _, rfl, by simp⟩
    case round =>
      obtain ⟨k, hk, rfl, hall⟩ := hrel
      have HA : Hid ((zs.take k).all lowB = true) := hall
      clear hall
      by_cases hlt : k < n
      · obtain ⟨c, HC⟩ : ∃ c, Hid (c = zs.getD k 0) := ⟨_, rfl⟩
        have hck : w.cell? ⟨b, off + k, none⟩ = some (.int .u8 c) := by rw [HC.out]; exact hc k hlt
        clear hc hby
        cases hlow : lowB c
        · have hf := all_false_of zs k (by omega) (by rw [← HC.out]; exact hlow)
          have HF : Hid (zs.all lowB = false) := hf
          clear hf
          go_wp2_with (go_at_call 90; refine (isLower_any _ _).mono ?_; rintro e w' ⟨rfl, rfl⟩; rw [hlow])
          go_ret
          exact ⟨rb HF.out.symm, rfl⟩
        · have hf := all_take_succ zs k (by omega)
          rw [HA.out, ← HC.out, hlow] at hf
          have HF : Hid ((zs.take (k + 1)).all lowB = true) := hf
          clear hf
          go_wp2_with (go_at_call 90; refine (isLower_any _ _).mono ?_; rintro e w' ⟨rfl, rfl⟩; rw [hlow])
          go_round
          case rel => exact ⟨k + 1, by omega, by go_num, HF.out⟩
          case measure => simp [intOf]; omega
      · have ht : zs.take k = zs := List.take_of_length_le (by omega)
        have HF : Hid (zs.all lowB = true) := by rw [← ht]; exact HA.out
        clear ht hc hby
        go_wp2
        go_ret
        exact ⟨rb HF.out.symm, rfl⟩

/-- A capital and small letters behind it, 1 to 6 in all. -/
def upOk (zs : List Int) : Bool := longB zs.length && (upB (zs.getD 0 0) && (zs.drop 1).all lowB)
def lowOk (zs : List Int) : Bool := longB zs.length && zs.all lowB

set_option maxHeartbeats 400000 in
theorem implUpperOk_any (a : Option Addr) (n cap : Nat) (zs : List Int) (w : World) {lo hi : Nat} (h : Rd lo hi w a n cap zs) :
    Calls Try.prog 15 #[.slice a n cap] w fun e w' => e = .returned (.bool (upOk zs)) ∧ w' = w := by
  obtain ⟨hl, ⟨hn, hm⟩, hby, hc⟩ := h
  cases hlong : longB n
  · have HF : Hid (upOk zs = false) := by simp [upOk, Hid, hl, hlong]
    clear hby hc hl
    go_enter Try.func15, Try.ntmps15
    go_wp2_with (go_at_call 51; refine (nameLong_any _ _ _ _).mono ?_; rintro e w' ⟨rfl, rfl⟩; rw [hlong])
    go_ret
    exact ⟨rb HF.out.symm, rfl⟩
  · have h1 : 1 ≤ n ∧ n ≤ 6 := by simpa [longB] using hlong
    rcases hc with h0 | ⟨b, off, rfl, hlo, hb, hc⟩
    · omega
    · obtain ⟨c, HC⟩ : ∃ c, Hid (c = zs.getD 0 0) := ⟨_, rfl⟩
      have hck : w.cell? ⟨b, off, none⟩ = some (.int .u8 c) := by rw [HC.out]; exact hc 0 (by omega)
      have hT : Hid (Rd lo hi w (some ⟨b, off + 1, none⟩) (n - 1) (cap - 1) (zs.drop 1)) := Rd.tail ⟨hl, ⟨hn, hm⟩, hby, .inr ⟨b, off, rfl, hlo, hb, hc⟩⟩ h1.1
      have HU : Hid (upOk zs = (upB c && (zs.drop 1).all lowB)) := by unfold Hid upOk; rw [hl, hlong, HC.out]; rfl
      have hE : Hid (n ≤ 1 → Rd lo hi w (some ⟨b, off, none⟩) (n - 1) 0 (zs.drop 1)) := by
        intro h
        have e1 : n - 1 = 0 := by omega
        have e2 : zs.drop 1 = [] := by rw [List.drop_eq_nil_iff, hl]; omega
        rw [e1, e2]; exact Rd.none_of (by omega)
      clear hby hc hl
      obtain ⟨g1, g6⟩ := h1
      cases hup : upB c
      · have HF : Hid (upOk zs = false) := by unfold Hid; rw [HU.out, hup]; rfl
        go_enter Try.func15, Try.ntmps15
        go_wp2_with (first | (go_at_call 51; refine (nameLong_any _ _ _ _).mono ?_; rintro e w' ⟨rfl, rfl⟩; rw [hlong]) | (go_at_call 52; refine (isUpper_any _ _).mono ?_; rintro e w' ⟨rfl, rfl⟩; rw [hup]))
        go_ret
        exact ⟨rb HF.out.symm, rfl⟩
      · have HF : Hid (upOk zs = (zs.drop 1).all lowB) := by unfold Hid; rw [HU.out, hup]; rfl
        go_enter Try.func15, Try.ntmps15
        go_wp2_with (first | (go_at_call 51; refine (nameLong_any _ _ _ _).mono ?_; rintro e w' ⟨rfl, rfl⟩; rw [hlong]) | (go_at_call 52; refine (isUpper_any _ _).mono ?_; rintro e w' ⟨rfl, rfl⟩; rw [hup]))
        all_goals
          refine (allLower_any _ _ _ (zs.drop 1) _ (lo := lo) (hi := hi) (by first | exact hT.out | exact hE.out (by omega))).mono ?_
          rintro e w'' ⟨rfl, rfl⟩
          go_wp2
          go_ret
          exact ⟨rb (by rw [HF.out, List.drop_one]), rfl⟩

set_option maxHeartbeats 400000 in
theorem specUpperOk_any (a : Option Addr) (n cap : Nat) (zs : List Int) (w : World) {lo hi : Nat} (h : Rd lo hi w a n cap zs) :
    Calls Try.prog 94 #[.slice a n cap] w fun e w' => e = .returned (.bool (upOk zs)) ∧ w' = w := by
  obtain ⟨hl, ⟨hn, hm⟩, hby, hc⟩ := h
  cases hlong : longB n
  · have HF : Hid (upOk zs = false) := by simp [upOk, Hid, hl, hlong]
    have h1 : n < 1 ∨ 6 < n := by simp [longB] at hlong; omega
    clear hby hc hl
    rcases h1 with h1 | h1
    · go_enter Try.func94, Try.ntmps94
      go_wp2
      go_ret
      exact ⟨rb HF.out.symm, rfl⟩
    · have hd : decide ((n : Int) < 1) = false := by simp; omega
      go_enter Try.func94, Try.ntmps94
      go_wp2
      go_ret
      exact ⟨rb HF.out.symm, rfl⟩
  · have h1 : 1 ≤ n ∧ n ≤ 6 := by simpa [longB] using hlong
    have hd : decide ((n : Int) < 1) = false := by simp; omega
    have hd6 : decide ((6 : Int) < (n : Int)) = false := by simp; omega
    rcases hc with h0 | ⟨b, off, rfl, hlo, hb, hc⟩
    · omega
    · obtain ⟨c, HC⟩ : ∃ c, Hid (c = zs.getD 0 0) := ⟨_, rfl⟩
      have hck : w.cell? ⟨b, off, none⟩ = some (.int .u8 c) := by rw [HC.out]; exact hc 0 (by omega)
      have HU : Hid (upOk zs = (upB c && (zs.drop 1).all lowB)) := by unfold Hid upOk; rw [hl, hlong, HC.out]; rfl
      have HCell : Hid (∀ j, j + 1 < n → w.cell? ⟨b, off + (j + 1), none⟩ = some (.int .u8 ((zs.drop 1).getD j 0))) := by
        intro j hj; have := hc (j + 1) hj; simpa [List.getD] using this
      have HL : Hid ((zs.drop 1).length = n - 1) := by simp [Hid, hl]
      clear hby hc hl
      obtain ⟨g1, g6⟩ := h1
      cases hup : upB c
      · have HF : Hid (upOk zs = false) := by unfold Hid; rw [HU.out, hup]; rfl
        go_enter Try.func94, Try.ntmps94
        go_wp2_with (go_at_call 120; refine (l1great_any _ _).mono ?_; rintro e w' ⟨rfl, rfl⟩; rw [hup])
        go_ret
        exact ⟨rb HF.out.symm, rfl⟩
      · have HF : Hid (upOk zs = (zs.drop 1).all lowB) := by unfold Hid; rw [HU.out, hup]; rfl
        obtain ⟨ys, HY⟩ : ∃ ys, Hid (ys = zs.drop 1) := ⟨_, rfl⟩
        rw [← HY.out] at HF HL HCell
        go_enter Try.func94, Try.ntmps94
        go_wp2_with (go_at_call 120; refine (l1great_any _ _).mono ?_; rintro e w1 ⟨rfl, hw⟩; subst hw; rw [hup])
        go_loop [3] (fun i => ∃ k : Nat, k + 1 ≤ n ∧ i = .int .i64 (k + 1 : Nat) ∧ (ys.take k).all lowB = true) (fun i => n - (intOf i).toNat)
        case atStart => exact ⟨0, by omega, rfl, by simp⟩
        case round =>
          obtain ⟨k, hk, rfl, hall⟩ := hrel
          have HA : Hid ((ys.take k).all lowB = true) := hall
          clear hall
          by_cases hlt : k + 1 < n
          · obtain ⟨c', HC'⟩ : ∃ c, Hid (c = ys.getD k 0) := ⟨_, rfl⟩
            have hck' : w1.cell? ⟨b, off + (k + 1), none⟩ = some (.int .u8 c') := by rw [HC'.out]; exact HCell.out k hlt
            cases hlow : lowB c'
            · have HF' : Hid (ys.all lowB = false) := all_false_of ys k (by rw [HL.out]; omega) (by rw [← HC'.out]; exact hlow)
              go_wp2_with (go_at_call 121; refine (l1small_any _ _).mono ?_; rintro e w' ⟨rfl, rfl⟩; rw [hlow])
              go_ret
              exact ⟨rb (HF.out.trans HF'.out).symm, rfl⟩
            · have hf := all_take_succ ys k (by rw [HL.out]; omega)
              rw [HA.out, ← HC'.out, hlow] at hf
              have HF' : Hid ((ys.take (k + 1)).all lowB = true) := hf
              clear hf
              go_wp2_with (go_at_call 121; refine (l1small_any _ _).mono ?_; rintro e w' ⟨rfl, rfl⟩; rw [hlow])
              go_round
              case rel => exact ⟨k + 1, by omega, by go_num, HF'.out⟩
              case measure => simp [intOf]; omega
          · have ht : ys.take k = ys := List.take_of_length_le (by rw [HL.out]; omega)
            have HF' : Hid (ys.all lowB = true) := by rw [← ht]; exact HA.out
            clear ht
            go_wp2
            go_ret
            exact ⟨rb (HF.out.trans HF'.out).symm, rfl⟩

set_option maxHeartbeats 400000 in
theorem implLowerOk_any (a : Option Addr) (n cap : Nat) (zs : List Int) (w : World) {lo hi : Nat} (h : Rd lo hi w a n cap zs) :
    Calls Try.prog 16 #[.slice a n cap] w fun e w' => e = .returned (.bool (lowOk zs)) ∧ w' = w := by
  have hl := h.len
  cases hlong : longB n
  · have HF : Hid (lowOk zs = false) := by simp [lowOk, Hid, hl, hlong]
    clear h hl
    go_enter Try.func16, Try.ntmps16
    go_wp2_with (go_at_call 51; refine (nameLong_any _ _ _ _).mono ?_; rintro e w' ⟨rfl, rfl⟩; rw [hlong])
    go_ret
    exact ⟨rb HF.out.symm, rfl⟩
  · have HF : Hid (lowOk zs = zs.all lowB) := by simp [lowOk, Hid, hl, hlong]
    have H : Hid (Rd lo hi w a n cap zs) := h
    clear h hl
    go_enter Try.func16, Try.ntmps16
    go_wp2_with (first | (go_at_call 51; refine (nameLong_any _ _ _ _).mono ?_; rintro e w' ⟨rfl, rfl⟩; rw [hlong]) | (go_at_call 53; refine (allLower_any _ _ _ zs _ H.out).mono ?_; rintro e w' ⟨rfl, rfl⟩))
    go_ret
    exact ⟨rb HF.out.symm, rfl⟩

set_option maxHeartbeats 400000 in
theorem specLowerOk_any (a : Option Addr) (n cap : Nat) (ys : List Int) (w : World) {lo hi : Nat} (h : Rd lo hi w a n cap ys) :
    Calls Try.prog 96 #[.slice a n cap] w fun e w' => e = .returned (.bool (lowOk ys)) ∧ w' = w := by
  obtain ⟨hl, ⟨hn, hm⟩, hby, hc⟩ := h
  cases hlong : longB n
  · have HF : Hid (lowOk ys = false) := by simp [lowOk, Hid, hl, hlong]
    have h1 : n < 1 ∨ 6 < n := by simp [longB] at hlong; omega
    clear hby hc hl
    rcases h1 with h1 | h1
    · go_enter Try.func96, Try.ntmps96
      go_wp2
      go_ret
      exact ⟨rb HF.out.symm, rfl⟩
    · have hd : decide ((n : Int) < 1) = false := by simp; omega
      go_enter Try.func96, Try.ntmps96
      go_wp2
      go_ret
      exact ⟨rb HF.out.symm, rfl⟩
  · have h1 : 1 ≤ n ∧ n ≤ 6 := by simpa [longB] using hlong
    have hd : decide ((n : Int) < 1) = false := by simp; omega
    have hd6 : decide ((6 : Int) < (n : Int)) = false := by simp; omega
    rcases hc with h0 | ⟨b, off, rfl, hlo, hb, hc⟩
    · omega
    · have HF : Hid (lowOk ys = ys.all lowB) := by simp [lowOk, Hid, hl, hlong]
      have HCell : Hid (∀ j, j < n → w.cell? ⟨b, off + j, none⟩ = some (.int .u8 (ys.getD j 0))) := hc
      have HL : Hid (ys.length = n) := hl
      clear hby hc hl
      obtain ⟨g1, g6⟩ := h1
      go_enter Try.func96, Try.ntmps96
      go_wp2
      go_loop [3] (fun i => ∃ k : Nat, k ≤ n ∧ i = .int .i64 k ∧ (ys.take k).all lowB = true) (fun i => n - (intOf i).toNat)
      case atStart => exact ⟨0, by omega, rfl, by simp⟩
      case round =>
        obtain ⟨k, hk, rfl, hall⟩ := hrel
        have HA : Hid ((ys.take k).all lowB = true) := hall
        clear hall
        by_cases hlt : k < n
        · obtain ⟨c', HC'⟩ : ∃ c, Hid (c = ys.getD k 0) := ⟨_, rfl⟩
          have hck' : w.cell? ⟨b, off + k, none⟩ = some (.int .u8 c') := by rw [HC'.out]; exact HCell.out k hlt
          cases hlow : lowB c'
          · have HF' : Hid (ys.all lowB = false) := all_false_of ys k (by rw [HL.out]; omega) (by rw [← HC'.out]; exact hlow)
            go_wp2_with (go_at_call 121; refine (l1small_any _ _).mono ?_; rintro e w' ⟨rfl, rfl⟩; rw [hlow])
            go_ret
            exact ⟨rb (HF.out.trans HF'.out).symm, rfl⟩
          · have hf := all_take_succ ys k (by rw [HL.out]; omega)
            rw [HA.out, ← HC'.out, hlow] at hf
            have HF' : Hid ((ys.take (k + 1)).all lowB = true) := hf
            clear hf
            go_wp2_with (go_at_call 121; refine (l1small_any _ _).mono ?_; rintro e w' ⟨rfl, rfl⟩; rw [hlow])
            go_round
            case rel => exact ⟨k + 1, by omega, by go_num, HF'.out⟩
            case measure => simp [intOf]; omega
        · have ht : ys.take k = ys := List.take_of_length_le (by rw [HL.out]; omega)
          have HF' : Hid (ys.all lowB = true) := by rw [← ht]; exact HA.out
          clear ht
          go_wp2
          go_ret
          exact ⟨rb (HF.out.trans HF'.out).symm, rfl⟩
end

section
open Go.RowKit

theorem conv_any {a : Option Addr} {n cap : Nat} {zs : List Int} {w : World} {lo hi : Nat} (h : Rd lo hi w a n cap zs) : (convert 22 9 (.slice a n cap)).run Try.prog w = .ok (.string (strOfNums zs)) w := by
  obtain ⟨hl, _, _, hc⟩ := h
  rcases hc with h0 | ⟨b, off, rfl, hlo, hb, hc⟩
  · subst h0
    have hz : zs = [] := List.eq_nil_of_length_eq_zero hl
    subst hz
    rw [run_convert_bytes_string w 22 9 5 _ 0 cap Try.underlying22 Try.underlying5 Try.underlying9]
    cases a <;> simp [Conv.bytesToString, loadCells]
    all_goals rfl
  · exact run_convert_bytes_arg w 22 5 Try.underlying22 Try.underlying5 b off n cap zs hl hc 9 Try.underlying9
end

section
open Go.RowKit

/-- Top, Bot, Not, And, Or, Some, All, Sub, Eq, Dis, Role, Is, Rel, by their bytes. -/
def keptWords : List (List UInt8) := [[84, 111, 112], [66, 111, 116], [78, 111, 116], [65, 110, 100], [79, 114], [83, 111, 109, 101], [65, 108, 108], [83, 117, 98], [69, 113], [68, 105, 115], [82, 111, 108, 101], [73, 115], [82, 101, 108]]
def keptB (l : List UInt8) : Bool := (l == [84, 111, 112]) || ((l == [66, 111, 116]) || ((l == [78, 111, 116]) || ((l == [65, 110, 100]) || ((l == [79, 114]) || ((l == [83, 111, 109, 101]) || ((l == [65, 108, 108]) || ((l == [83, 117, 98]) || ((l == [69, 113]) || ((l == [68, 105, 115]) || ((l == [82, 111, 108, 101]) || ((l == [73, 115]) || (l == [82, 101, 108]))))))))))))

set_option maxRecDepth 100000 in
set_option maxHeartbeats 1000000 in
theorem implKept_any (a : Option Addr) (n cap : Nat) (zs : List Int) (w : World) {lo hi : Nat} (h : Rd lo hi w a n cap zs) :
    Calls Try.prog 17 #[.slice a n cap] w fun e w' => e = .returned (.bool (keptB (strOfNums zs).toList)) ∧ w' = w := by
  have hcv := conv_any h
  obtain ⟨s, hs⟩ : ∃ s, s = strOfNums zs := ⟨_, rfl⟩
  rw [← hs] at hcv ⊢
  clear hs h
  go_enter Try.func17, Try.ntmps17
  go_wp2
  all_goals
    go_ret
    refine ⟨rb ?_, rfl⟩
    clear hcv
    first | (simp only [keptB, *, Bool.true_or, Bool.false_or]; done) | (exfalso; simp_all; done)

theorem keptB_eq (l : List UInt8) : keptB l = keptWords.any (fun x => x == l) := by
  simp only [keptB, keptWords, List.any_cons, List.any_nil, Bool.or_false, Bool.beq_comm (a := l)]

def wordVal (j : Nat) : Value := .string ⟨(keptWords.getD j []).toArray⟩

theorem toList_mk (l : List UInt8) : (ByteArray.mk l.toArray).toList = l := by
  rw [ByteArray.toList_eq]

theorem any_take_succ (k : Nat) (hk : k < 13) (l : List UInt8) : (keptWords.take (k + 1)).any (fun x => x == l) = ((keptWords.take k).any (fun x => x == l) || (keptWords.getD k [] == l)) := by
  have : k < keptWords.length := by simp [keptWords]; omega
  rw [List.take_succ_eq_append_getElem this, List.any_append]; simp [List.getD, this]

theorem any_true_of (k : Nat) (hk : k < 13) (l : List UInt8) (h : (keptWords.getD k [] == l) = true) : keptB l = true := by
  have hk' : k < keptWords.length := by simp [keptWords]; omega
  rw [keptB_eq, List.any_eq_true]
  exact ⟨keptWords[k], List.getElem_mem hk', by simpa [List.getD, hk'] using h⟩

set_option maxRecDepth 100000 in
set_option maxHeartbeats 1000000 in
theorem specKept_any (a : Option Addr) (n cap : Nat) (zs : List Int) (w : World) {lo hi : Nat} (h : Rd lo hi w a n cap zs) (hhi : hi ≤ w.heap.size) :
    Calls Try.prog 95 #[.slice a n cap] w fun e w' => e = .returned (.bool (keptB (strOfNums zs).toList)) ∧ Below w.heap.size w w' := by
  have H : Hid (Rd lo hi w a n cap zs) := h
  clear h
  obtain ⟨s, HS⟩ : ∃ s, Hid (s = strOfNums zs) := ⟨_, rfl⟩
  rw [← HS.out]
  go_enter Try.func95, Try.ntmps95
  go_wp2
  go_loopw [4] (fun i wr => ∃ k : Nat, k ≤ 13 ∧ i = .int .i64 k ∧ wr.rowIs w.heap.size 9 13 wordVal ∧ Below w.heap.size w wr ∧ (keptWords.take k).any (fun x => x == s.toList) = false) (fun i _ => 13 - (intOf i).toNat)
  case atStart =>
    refine ⟨0, Nat.zero_le _, rfl, ?_, (Below.refl _ _).alloc (Nat.le_refl _) _, by simp⟩
    refine World.rowIs_alloc w _ 9 wordVal (fun i hi => ?_)
    simp at hi
    match i, hi with
    | 0, _ | 1, _ | 2, _ | 3, _ | 4, _ | 5, _ | 6, _ | 7, _ | 8, _ | 9, _ | 10, _ | 11, _ | 12, _ => rfl
  case round =>
    obtain ⟨k, hk, rfl, hrow, hbel, hany⟩ := hrel
    have HN : Hid ((keptWords.take k).any (fun x => x == s.toList) = false) := hany
    clear hany
    by_cases hlt : k < 13
    · have hki : (k : Int) < 13 := by omega
      obtain ⟨t, HT⟩ : ∃ t, Hid (t = ByteArray.mk (keptWords.getD k []).toArray) := ⟨_, rfl⟩
      have hcell : wr.cell? ⟨w.heap.size, k, none⟩ = some (.string t) := by rw [HT.out]; exact hrow.cell hlt
      have hcv : ∀ m, (convert 22 9 (.slice a n cap)).run Try.prog (wr.drewN m) = .ok (.string s) (wr.drewN m) := by
        intro m; rw [HS.out]; exact conv_any (H.out.below (below_drewN hbel m) hhi)
      have HR : Hid (wr.rowIs w.heap.size 9 13 wordVal) := hrow
      have HB : Hid (Below w.heap.size w wr) := hbel
      clear hrow hbel
      cases hb : (t.toList == s.toList)
      · have HF : Hid ((keptWords.take (k + 1)).any (fun x => x == s.toList) = false) := by
          unfold Hid; rw [any_take_succ k hlt, HN.out, Bool.false_or]; rw [HT.out, toList_mk] at hb; exact hb
        go_wp2
        go_quiet (fail)
        go_wp2
        go_roundw
        case rel => exact ⟨k + 1, by omega, by go_num, World.rowIs.of_block HR.out rfl, below_drewN HB.out _, HF.out⟩
        case measure => simp [intOf]; omega
      · have HF : Hid (keptB s.toList = true) := any_true_of k hlt _ (by rw [HT.out, toList_mk] at hb; exact hb)
        go_wp2
        go_quiet (fail)
        go_wp2
        go_ret
        exact ⟨rb HF.out.symm, below_drewN HB.out _⟩
    · have HF : Hid (keptB s.toList = false) := by
        have e : keptWords.take k = keptWords := List.take_of_length_le (by simp [keptWords]; omega)
        unfold Hid; rw [keptB_eq, ← e]; exact HN.out
      have HB : Hid (Below w.heap.size w wr) := hbel
      clear hrow hbel
      go_wp2
      go_ret
      exact ⟨rb HF.out.symm, HB.out⟩
end

section
open Go.RowKit

/-- How many kids a concept of this kind has; of no kind: -1. -/
def kidN (k : Int) : Int := if k = 0 ∨ k = 1 ∨ k = 2 then 0 else if k = 3 ∨ k = 6 ∨ k = 7 then 1 else if k = 4 ∨ k = 5 then 2 else -1
def roleB (k : Int) : Bool := decide (k = 6) || decide (k = 7)
def nameFit (c : CN) : Bool := if c.kind = 2 then (upOk c.name && !keptB (strOfNums c.name).toList) else decide (c.name.length = 0)
def roleFit (c : CN) : Bool := if roleB c.kind = true then lowOk c.role else decide (c.role.length = 0)
def shapeB (c : CN) : Bool := nameFit c && (roleFit c && decide ((c.kids.length : Int) = kidN c.kind))

mutual
/-- All parts, from the outside on, each with its depth. -/
def parts : CN → Nat → List (Nat × CN)
  | .mk k n r ks, deep => (deep, .mk k n r ks) :: partsL ks (deep + 1)
def partsL : List CN → Nat → List (Nat × CN)
  | [], _ => []
  | c :: cs, deep => parts c deep ++ partsL cs deep
end

theorem parts_eq (c : CN) (deep : Nat) : parts c deep = (deep, c) :: partsL c.kids (deep + 1) := by
  cases c; rw [parts]; rfl

theorem partsL_append (xs ys : List CN) (deep : Nat) : partsL (xs ++ ys) deep = partsL xs deep ++ partsL ys deep := by
  induction xs with
  | nil => simp [partsL]
  | cons x xs ih => simp only [List.cons_append, partsL, ih, List.append_assoc]

theorem partsL_take_succ (cs : List CN) (k deep : Nat) (h : k < cs.length) : partsL (cs.take (k + 1)) deep = partsL (cs.take k) deep ++ parts (cs.getD k CN.zero) deep := by
  rw [take_succ_getD cs CN.zero k h, partsL_append]
  simp only [partsL, List.append_nil]

theorem partsL_take_drop (cs : List CN) (k deep : Nat) : partsL cs deep = partsL (cs.take k) deep ++ partsL (cs.drop k) deep := by
  rw [← partsL_append, List.take_append_drop]

def okOne (x : Nat × CN) : Bool := decide (x.1 ≤ 6) && shapeB x.2

/-- It is one that may be. -/
def conOk (c : CN) : Bool := decide ((parts c 1).length ≤ 16) && (parts c 1).all okOne

/-- What is left behind these parts; -1: it may not be. -/
def leftOf (left : Int) (L : List (Nat × CN)) : Int := if (L.length : Int) ≤ left ∧ L.all okOne = true then left - L.length else -1

theorem leftOf_pos {left : Int} {L : List (Nat × CN)} (h : (L.length : Int) ≤ left) (k : L.all okOne = true) : leftOf left L = left - L.length := if_pos ⟨h, k⟩
theorem leftOf_neg {left : Int} {L : List (Nat × CN)} (h : ¬ ((L.length : Int) ≤ left ∧ L.all okOne = true)) : leftOf left L = -1 := if_neg h

theorem leftOf_append {left : Int} (L M : List (Nat × CN)) : leftOf left (L ++ M) = if leftOf left L < 0 then -1 else leftOf (leftOf left L) M := by
  by_cases h1 : (L.length : Int) ≤ left ∧ L.all okOne = true
  · rw [leftOf_pos h1.1 h1.2, if_neg (by omega)]
    by_cases h2 : (M.length : Int) ≤ left - L.length ∧ M.all okOne = true
    · rw [leftOf_pos h2.1 h2.2, leftOf_pos (by rw [List.length_append]; omega) (by rw [List.all_append, h1.2, h2.2]; rfl), List.length_append]; omega
    · rw [leftOf_neg h2, leftOf_neg]
      rintro ⟨h3, h4⟩
      rw [List.length_append] at h3
      rw [List.all_append, Bool.and_eq_true] at h4
      exact h2 ⟨by omega, h4.2⟩
  · rw [leftOf_neg h1, if_pos (by omega), leftOf_neg]
    rintro ⟨h3, h4⟩
    rw [List.length_append] at h3
    rw [List.all_append, Bool.and_eq_true] at h4
    exact h1 ⟨by omega, h4.1⟩

theorem leftOf_le {left : Int} (h : 0 ≤ left) (L : List (Nat × CN)) : leftOf left L ≤ left := by
  unfold leftOf; split <;> omega

theorem leftOf_nil (left : Int) (h : 0 ≤ left) : leftOf left [] = left := by simp [leftOf, h]

/-- The outermost part is refused. -/
theorem leftOf_bad (c : CN) (deep : Nat) (left : Int) (h : left - 1 < 0 ∨ 6 < deep ∨ shapeB c = false) : leftOf left (parts c deep) = -1 := by
  rw [parts_eq]
  unfold leftOf
  rw [if_neg]
  rintro ⟨h1, h2⟩
  simp only [List.length_cons, List.all_cons, okOne, Bool.and_eq_true, decide_eq_true_eq] at h1 h2
  rcases h with h | h | h
  · omega
  · omega
  · rw [h2.1.2] at h; cases h

theorem leftOf_good (c : CN) (deep : Nat) (left : Int) (h1 : 0 ≤ left - 1) (h2 : deep ≤ 6) (h3 : shapeB c = true) : leftOf left (parts c deep) = leftOf (left - 1) (partsL c.kids (deep + 1)) := by
  rw [parts_eq, show ((deep, c) :: partsL c.kids (deep + 1)) = [(deep, c)] ++ partsL c.kids (deep + 1) from rfl, leftOf_append]
  have e : leftOf left [(deep, c)] = left - 1 := by
    unfold leftOf
    rw [if_pos ⟨by simp; omega, by simp [okOne, h2, h3]⟩]; simp
  rw [e, if_neg (by omega)]

theorem conOk_left (c : CN) : conOk c = decide (0 ≤ leftOf 16 (parts c 1)) := by
  unfold conOk leftOf
  by_cases h1 : (parts c 1).length ≤ 16
  · by_cases h2 : (parts c 1).all okOne = true
    · rw [if_pos ⟨by omega, h2⟩, h2]; simp; omega
    · rw [if_neg (fun h => h2 h.2)]; simp at h2 ⊢; intro _; exact h2
  · rw [if_neg (by omega)]; simp [h1]
end

end Go.Proofs.Ythojlfcahhjfaaa
