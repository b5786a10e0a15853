/- Several texts in one: ConMark, ConShape, ConSame. -/
import Derived.Test.YtedihcjhfkdkjaaNG1
import Derived.Test.YtedihcjhfkdkjaaNG4
import Derived.Deep.RegionWith
import Derived.Deep.DeepCutAuto
namespace Go.Proofs.Ytedihcjhfkdkjaa

section
open Go.RowKit

/-- Only numbers were turned, and only in the blocks from lo on, below hi. -/
structure MarkRel (lo hi : Nat) (w w' : World) : Prop where
  os : w'.os = w.os
  tape : w'.tape = w.tape
  output : w'.output = w.output
  size : w.heap.size ≤ w'.heap.size
  out : ∀ b, b < w.heap.size → (b < lo ∨ hi ≤ b) → w'.heap[b]? = w.heap[b]?
  cell : ∀ (p : Addr) (v : Value), w.cell? p = some v → w'.cell? p = some v ∨ ∃ kd m m', v = .int kd m ∧ w'.cell? p = some (.int kd m')
  frz : ∀ p : Addr, p.block < w.heap.size → w'.frozen? p = w.frozen? p

theorem MarkRel.refl (lo hi : Nat) (w : World) : MarkRel lo hi w w := ⟨rfl, rfl, rfl, Nat.le_refl _, fun _ _ _ => rfl, fun _ _ h => .inl h, fun _ _ => rfl⟩

theorem MarkRel.trans {lo hi : Nat} {a b c : World} (h : MarkRel lo hi a b) (k : MarkRel lo hi b c) : MarkRel lo hi a c := by
  refine ⟨k.os.trans h.os, k.tape.trans h.tape, k.output.trans h.output, Nat.le_trans h.size k.size, fun x h1 h2 => (k.out x (Nat.lt_of_lt_of_le h1 h.size) h2).trans (h.out x h1 h2), fun p v hp => ?_, fun p hp => (k.frz p (Nat.lt_of_lt_of_le hp h.size)).trans (h.frz p hp)⟩
  rcases h.cell p v hp with h1 | ⟨kd, m, m', e, h1⟩
  · exact k.cell p v h1
  · rcases k.cell p _ h1 with h2 | ⟨kd2, m2, m2', e2, h2⟩
    · exact .inr ⟨kd, m, m', e, h2⟩
    · simp only [Value.int.injEq] at e2
      obtain ⟨rfl, _⟩ := e2
      exact .inr ⟨kd, m, m2', e, h2⟩

theorem MarkRel.of_below {lo hi : Nat} {w w' : World} (h : Below w.heap.size w w') : MarkRel lo hi w w' :=
  ⟨h.os, h.tape, h.output, h.size, fun b h1 _ => h.block b h1, fun p _ hp => .inl ((h.cell (p := p) (block_lt_of_cell hp)).trans hp), fun p hp => World.frozen?_of_block (w := w) (h.block p.block hp)⟩

theorem MarkRel.set {lo hi : Nat} {w : World} {a : Addr} {kd : IntKind} {m : Int} (h : w.cell? a = some (.int kd m)) (h1 : lo ≤ a.block) (h2 : a.block < hi) (m' : Int) : MarkRel lo hi w (w.setCell a (.int kd m')) := by
  have hb := (Below.refl a.block w).setCell (p := a) (Nat.le_refl _) (.int kd m')
  refine ⟨hb.os, hb.tape, hb.output, hb.size, fun b _ hb' => Below.heap_setCell w a _ b (by omega), fun p v hp => ?_, fun p _ => by simp⟩
  by_cases e : a = p
  · subst e
    rw [h] at hp
    cases hp
    exact .inr ⟨kd, m, m', rfl, World.cell?_setCell_same _ _ _ h⟩
  · exact .inl (by rw [World.cell?_setCell_other _ _ _ _ e]; exact hp)

theorem MarkRel.keep {lo hi : Nat} {w w' : World} (h : MarkRel lo hi w w') {p : Addr} {v : Value} (hp : w.cell? p = some v) (hv : ∀ kd m, v ≠ .int kd m) : w'.cell? p = some v := by
  rcases h.cell p v hp with h1 | ⟨kd, m, _, e, _⟩
  · exact h1
  · exact absurd e (hv kd m)

theorem MarkRel.int {lo hi : Nat} {w w' : World} (h : MarkRel lo hi w w') {p : Addr} {kd : IntKind} {m : Int} (hp : w.cell? p = some (.int kd m)) : ∃ m', w'.cell? p = some (.int kd m') := by
  rcases h.cell p _ hp with h1 | ⟨kd', m1, m', e, h1⟩
  · exact ⟨m, h1⟩
  · simp only [Value.int.injEq] at e
    obtain ⟨rfl, _⟩ := e
    exact ⟨m', h1⟩

/-- A slice of bytes, whatever they are. -/
structure ShB (lo hi : Nat) (w : World) (a : Option Addr) (n cap : Nat) : Prop where
  fits : n ≤ cap ∧ cap ≤ 9223372036854775807
  cells : n = 0 ∨ ∃ b off, a = some ⟨b, off, none⟩ ∧ lo ≤ b ∧ b < hi ∧ ∀ i, i < n → ∃ z, w.cell? ⟨b, off + i, none⟩ = some (.int .u8 z)

theorem Rd.sh {lo hi : Nat} {w : World} {a : Option Addr} {n cap : Nat} {zs : List Int} (h : Rd lo hi w a n cap zs) : ShB lo hi w a n cap := by
  obtain ⟨_, hm, _, hc⟩ := h
  refine ⟨hm, ?_⟩
  rcases hc with h0 | ⟨b, off, e, h1, h2, hc⟩
  · exact .inl h0
  · exact .inr ⟨b, off, e, h1, h2, fun i hi => ⟨_, hc i hi⟩⟩

/-- A concept, whatever its numbers are: c says how long its lists are. -/
def ShC (lo hi : Nat) (w : World) : Nat → Value → CN → Prop
  | 0, _, _ => False
  | d + 1, v, c => ∃ k na nn nc ra rn rc ka kn kc, v = .agg #[.int .i64 k, .slice na nn nc, .slice ra rn rc, .slice ka kn kc] ∧
      c.name.length = nn ∧ ShB lo hi w na nn nc ∧ c.role.length = rn ∧ ShB lo hi w ra rn rc ∧ RdL (ShC lo hi w d) lo hi w ka kn kc c.kids

theorem RdC.sh {lo hi : Nat} {w : World} : ∀ {d : Nat} {v : Value} {c : CN}, RdC lo hi w d v c → ShC lo hi w d v c := by
  intro d
  induction d with
  | zero => intro v c h; exact h
  | succ d ih =>
    intro v c h
    obtain ⟨na, nn, nc, ra, rn, rc, ka, kn, kc, hv, h1, h2, h3⟩ := h
    exact ⟨_, na, nn, nc, ra, rn, rc, ka, kn, kc, hv, h1.len, h1.sh, h2.len, h2.sh, h3.imp (fun v c h => ih h) (Same.refl _ _ _) (Nat.le_refl _) (Nat.le_refl _)⟩

theorem ShC.form {lo hi : Nat} {w : World} {d : Nat} {v0 v1 v2 v3 : Value} {c : CN} (h : ShC lo hi w d (.agg #[v0, v1, v2, v3]) c) : ∃ k na nn nc ra rn rc ka kn kc, v0 = .int .i64 k ∧ v1 = .slice na nn nc ∧ v2 = .slice ra rn rc ∧ v3 = .slice ka kn kc := by
  cases d with
  | zero => exact h.elim
  | succ d =>
    obtain ⟨k, na, nn, nc, ra, rn, rc, ka, kn, kc, hv, _⟩ := h
    simp only [Value.agg.injEq, Array.mk.injEq, List.cons.injEq, and_true] at hv
    exact ⟨k, na, nn, nc, ra, rn, rc, ka, kn, kc, hv.1, hv.2.1, hv.2.2.1, hv.2.2.2⟩
end

section
open Go.RowKit

set_option maxHeartbeats 400000 in
theorem kidCount_any (k : Int) (w : World) : Calls Try.prog 60 #[.int .i64 k] w fun e w' => e = .returned (.int .i64 (kidN k)) ∧ w' = w := by
  go_enter Try.func60, Try.ntmps60
  go_wp2
  all_goals
    go_ret
    refine ⟨ri ?_, rfl⟩
    first | (simp_all [kidN]; done) | (unfold kidN; simp_all; omega)

set_option maxHeartbeats 400000 in
theorem hasRole_any (k : Int) (w : World) : Calls Try.prog 70 #[.int .i64 k] w fun e w' => e = .returned (.bool (roleB k)) ∧ w' = w := by
  by_cases h : k = 6
  · subst h
    go_enter Try.func70, Try.ntmps70
    go_wp2
    go_ret
    exact ⟨rfl, rfl⟩
  · have h6 : (k == 6) = false := by simpa using h
    have HE : Hid (roleB k = (k == 7)) := by unfold Hid roleB; simp [h]; rfl
    go_enter Try.func70, Try.ntmps70
    go_wp2
    go_ret
    exact ⟨rb HE.out.symm, rfl⟩

set_option maxRecDepth 100000 in
set_option maxHeartbeats 1000000 in
theorem nameFits_any {d : Nat} {v : Value} {c : CN} {w : World} {lo hi : Nat} (h : RdC lo hi w d v c) (hhi : hi ≤ w.heap.size) :
    Calls Try.prog 58 #[v] w fun e w' => e = .returned (.bool (nameFit c)) ∧ Below w.heap.size w w' := by
  cases d with
  | zero => exact h.elim
  | succ d =>
    obtain ⟨na, nn, nc, ra, rn, rc, ka, kn, kc, rfl, hn, _, _⟩ := h
    have hnl := hn.len
    have hb0 : Below w.heap.size w (w.alloc (.cells #[.int .i64 c.kind, .slice na nn nc, .slice ra rn rc, .slice ka kn kc] 25)) := (Below.refl _ _).alloc (Nat.le_refl _) _
    have HB0 : Hid (Below w.heap.size w (w.alloc (.cells #[.int .i64 c.kind, .slice na nn nc, .slice ra rn rc, .slice ka kn kc] 25))) := hb0
    have HN : Hid (Rd lo hi (w.alloc (.cells #[.int .i64 c.kind, .slice na nn nc, .slice ra rn rc, .slice ka kn kc] 25)) na nn nc c.name) := hn.below hb0 hhi
    have HNF : Hid (nameFit c = if c.kind = 2 then (upOk c.name && !keptB (strOfNums c.name).toList) else decide (nn = 0)) := by unfold Hid nameFit; rw [hnl]
    obtain ⟨k, hkd⟩ : ∃ k, k = c.kind := ⟨_, rfl⟩
    rw [← hkd] at HB0 HN HNF ⊢
    clear hb0 hn hkd hnl
    by_cases k2 : k = 2
    · subst k2
      rw [if_pos rfl] at HNF
      cases hU : upOk c.name
      · have HX : Hid (nameFit c = false) := by unfold Hid; rw [HNF.out, hU]; rfl
        go_enter Try.func58, Try.ntmps58
        go_wp2_with (first | (go_at_call 86; refine (implUpperOk_any na nn nc c.name _ HN.out).mono ?_; rintro e w' ⟨rfl, hw⟩; rw [hw, hU]; clear hw))
        go_ret
        exact ⟨rb HX.out.symm, HB0.out⟩
      · obtain ⟨kp, hkp⟩ : ∃ kp, kp = keptB (strOfNums c.name).toList := ⟨_, rfl⟩
        have HX : Hid (nameFit c = !kp) := by unfold Hid; rw [HNF.out, hU, hkp]; rfl
        have HKp : Hid (kp = keptB (strOfNums c.name).toList) := hkp
        clear hkp
        go_enter Try.func58, Try.ntmps58
        go_wp2_with (first | (go_at_call 86; refine (implUpperOk_any na nn nc c.name _ HN.out).mono ?_; rintro e w' ⟨rfl, hw⟩; rw [hw, hU]; clear hw) | (go_at_call 69; refine (implKept_any na nn nc c.name _ HN.out).mono ?_; rintro e w' ⟨rfl, hw⟩; rw [hw, ← HKp.out]; clear hw))
        go_ret
        exact ⟨rb HX.out.symm, HB0.out⟩
    · rw [if_neg k2] at HNF
      have hk2 : (k == 2) = false := by simpa using k2
      have HX : Hid (nameFit c = ((nn : Int) == 0)) := by unfold Hid; rw [HNF.out]; by_cases h : nn = 0 <;> simp [h]
      go_enter Try.func58, Try.ntmps58
      go_wp2_with fail
      go_ret
      exact ⟨rb (by rw [HX.out]), HB0.out⟩

set_option maxRecDepth 100000 in
set_option maxHeartbeats 1000000 in
theorem roleFits_any {d : Nat} {v : Value} {c : CN} {w : World} {lo hi : Nat} (h : RdC lo hi w d v c) (hhi : hi ≤ w.heap.size) :
    Calls Try.prog 59 #[v] w fun e w' => e = .returned (.bool (roleFit c)) ∧ Below w.heap.size w w' := by
  cases d with
  | zero => exact h.elim
  | succ d =>
    obtain ⟨na, nn, nc, ra, rn, rc, ka, kn, kc, rfl, _, hr, _⟩ := h
    have hrl := hr.len
    have hb0 : Below w.heap.size w (w.alloc (.cells #[.int .i64 c.kind, .slice na nn nc, .slice ra rn rc, .slice ka kn kc] 25)) := (Below.refl _ _).alloc (Nat.le_refl _) _
    have HB0 : Hid (Below w.heap.size w (w.alloc (.cells #[.int .i64 c.kind, .slice na nn nc, .slice ra rn rc, .slice ka kn kc] 25))) := hb0
    have HR : Hid (Rd lo hi (w.alloc (.cells #[.int .i64 c.kind, .slice na nn nc, .slice ra rn rc, .slice ka kn kc] 25)) ra rn rc c.role) := hr.below hb0 hhi
    have HRF : Hid (roleFit c = if roleB c.kind = true then lowOk c.role else decide (rn = 0)) := by unfold Hid roleFit; rw [hrl]
    obtain ⟨k, hkd⟩ : ∃ k, k = c.kind := ⟨_, rfl⟩
    rw [← hkd] at HB0 HR HRF ⊢
    clear hb0 hr hkd hrl
    cases hm : roleB k
    · have HX : Hid (roleFit c = ((rn : Int) == 0)) := by unfold Hid; rw [HRF.out, hm, if_neg (by simp)]; by_cases h : rn = 0 <;> simp [h]
      go_enter Try.func59, Try.ntmps59
      go_wp2_with (first | (go_at_call 70; refine (hasRole_any _ _).mono ?_; rintro e w' ⟨rfl, hw⟩; rw [hw, hm]; clear hw))
      go_ret
      exact ⟨rb (by rw [HX.out]), HB0.out⟩
    · have HX : Hid (roleFit c = lowOk c.role) := by unfold Hid; rw [HRF.out, hm, if_pos rfl]
      go_enter Try.func59, Try.ntmps59
      go_wp2_with (first | (go_at_call 70; refine (hasRole_any _ _).mono ?_; rintro e w' ⟨rfl, hw⟩; rw [hw, hm]; clear hw) | (go_at_call 87; refine (implLowerOk_any ra rn rc c.role _ HR.out).mono ?_; rintro e w' ⟨rfl, hw⟩; rw [hw]; clear hw))
      go_ret
      exact ⟨rb HX.out.symm, HB0.out⟩
end

section
open Go.RowKit

mutual
def sameC : CN → CN → Bool
  | .mk k n r ks, .mk k' n' r' ks' => decide (k = k') && (decide (n = n') && (decide (r = r') && sameL ks ks'))
def sameL : List CN → List CN → Bool
  | [], [] => true
  | a :: xs1, b :: ys1 => sameC a b && sameL xs1 ys1
  | _, _ => false
end

mutual
theorem sameC_iff : ∀ a b : CN, sameC a b = true ↔ a = b
  | .mk k n r ks, .mk k' n' r' ks' => by
    rw [sameC]
    simp only [Bool.and_eq_true, decide_eq_true_eq, sameL_iff ks ks', CN.mk.injEq]
theorem sameL_iff : ∀ xs1 ys1 : List CN, sameL xs1 ys1 = true ↔ xs1 = ys1
  | [], [] => by simp [sameL]
  | a :: xs1, b :: ys1 => by
    rw [sameL, Bool.and_eq_true, sameC_iff a b, sameL_iff xs1 ys1, List.cons.injEq]
  | [], b :: ys1 => by simp [sameL]
  | a :: xs1, [] => by simp [sameL]
end

theorem sameC_eq (c c' : CN) : sameC c c' = (decide (c.kind = c'.kind) && (decide (c.name = c'.name) && (decide (c.role = c'.role) && sameL c.kids c'.kids))) := by
  cases c; cases c'; rw [sameC]; rfl

theorem sameL_false_of {xs1 ys1 : List CN} (h : xs1 ≠ ys1) : sameL xs1 ys1 = false := by
  cases e : sameL xs1 ys1
  · rfl
  · exact absurd ((sameL_iff xs1 ys1).1 e) h

theorem str_inj {xs ys : List Int} (hx : ∀ i, 0 ≤ xs.getD i 0 ∧ xs.getD i 0 ≤ 255) (hy : ∀ i, 0 ≤ ys.getD i 0 ∧ ys.getD i 0 ≤ 255) : ((strOfNums xs).toList == (strOfNums ys).toList) = decide (xs = ys) := by
  have e : ∀ zs : List Int, (strOfNums zs).toList = zs.map (fun n => UInt8.ofNat n.toNat) := fun zs => by rw [ByteArray.toList_eq]; rfl
  rw [e, e]
  by_cases h : xs = ys
  · subst h; simp
  · rw [decide_eq_false h]
    cases hb : (xs.map (fun n : Int => UInt8.ofNat n.toNat) == ys.map (fun n : Int => UInt8.ofNat n.toNat))
    · rfl
    · refine absurd ?_ h
      have hb' := eq_of_beq hb
      have hl : xs.length = ys.length := by have := congrArg List.length hb'; simpa using this
      refine List.ext_getElem hl (fun i h1 h2 => ?_)
      have hi := congrArg (fun l => l[i]?) hb'
      simp only [List.getElem?_map, List.getElem?_eq_getElem h1, List.getElem?_eq_getElem h2, Option.map_some, Option.some.injEq] at hi
      have a1 := hx i
      have a2 := hy i
      simp only [List.getD, List.getElem?_eq_getElem h1, List.getElem?_eq_getElem h2, Option.getD_some] at a1 a2
      have hi' := congrArg UInt8.toNat hi
      simp only [UInt8.toNat_ofNat'] at hi'
      omega

set_option maxRecDepth 100000 in
set_option maxHeartbeats 1000000 in
theorem bytesEqual_any {a a' : Option Addr} {n cap n' cap' : Nat} {xs ys : List Int} {w : World} {lo hi lo' hi' : Nat} (h : Rd lo hi w a n cap xs) (h' : Rd lo' hi' w a' n' cap' ys) : Calls Try.prog 31 #[.slice a n cap, .slice a' n' cap'] w fun e w' => e = .returned (.bool (decide (xs = ys))) ∧ w' = w := by
  have hc1 : (convert 22 9 (.slice a n cap)).run Try.prog w = .ok (.string (strOfNums xs)) w := conv_any h
  have hc2 : (convert 22 9 (.slice a' n' cap')).run Try.prog w = .ok (.string (strOfNums ys)) w := conv_any h'
  have hE := str_inj h.byte h'.byte
  obtain ⟨s, hs⟩ : ∃ s, s = strOfNums xs := ⟨_, rfl⟩
  obtain ⟨t, ht⟩ : ∃ t, t = strOfNums ys := ⟨_, rfl⟩
  obtain ⟨b, hb⟩ : ∃ b, b = decide (xs = ys) := ⟨_, rfl⟩
  rw [← hb]
  rw [← hs] at hc1 hE
  rw [← ht, ← hb] at hE
  rw [← ht] at hc2
  clear h h' hs ht hb
  go_enter Try.func31, Try.ntmps31
  go_wp2
  go_ret
  exact ⟨by first | rfl | exact rb hE, rfl⟩

def SmC (d : Nat) : Prop := ∀ (v v' : Value) (c c' : CN) (d' : Nat) (w : World) (lo hi lo' hi' : Nat), RdC lo hi w d v c → RdC lo' hi' w d' v' c' → hi ≤ w.heap.size → hi' ≤ w.heap.size →
  Calls Try.prog 41 #[v, v'] w fun e w' => e = .returned (.bool (sameC c c')) ∧ Below w.heap.size w w'

def SmL (d d' : Nat) : Prop := ∀ (a : Option Addr) (n cap : Nat) (cs : List CN) (a' : Option Addr) (n' cap' : Nat) (cs' : List CN) (w : World) (lo hi lo' hi' : Nat), RdL (RdC lo hi w d) lo hi w a n cap cs → RdL (RdC lo' hi' w d') lo' hi' w a' n' cap' cs' → hi ≤ w.heap.size → hi' ≤ w.heap.size →
  Calls Try.prog 61 #[.slice a n cap, .slice a' n' cap', .func (.func 41) #[] #[]] w fun e w' => e = .returned (.bool (sameL cs cs')) ∧ Below w.heap.size w w'

set_option maxRecDepth 100000 in
set_option maxHeartbeats 2000000 in
theorem smL_of {d d' : Nat} (H : SmC d) : SmL d d' := by
  intro a n cap cs a' n' cap' cs' w lo hi lo' hi' h h' hhi hhi'
  have HR : Hid (RdL (RdC lo hi w d) lo hi w a n cap cs) := h
  have HR' : Hid (RdL (RdC lo' hi' w d') lo' hi' w a' n' cap' cs') := h'
  have HL : Hid (cs.length = n) := h.len
  have HL' : Hid (cs'.length = n') := h'.len
  have hfit := h.fits
  have hfit' := h'.fits
  clear h h'
  by_cases hnn : n = n'
  · subst hnn
    have hb0 : ((n : Int) != (n : Int)) = false := by simp
    go_enter Try.func61, Try.ntmps61
    go_wp2_with fail
    go_loopw [17] (fun i wr => ∃ j : Nat, j ≤ n ∧ i = .int .i64 j ∧ cs.take j = cs'.take j ∧ Below w.heap.size w wr) (fun i _ => n - (intOf i).toNat)
    case atStart => exact ⟨0, Nat.zero_le _, rfl, by simp, Below.refl _ _⟩
    case round =>
      obtain ⟨j, hj, rfl, htk, hbel⟩ := hrel
      have HT : Hid (cs.take j = cs'.take j) := htk
      have HBe : Hid (Below w.heap.size w wr) := hbel
      by_cases hlt : j < n
      · have hji : (j : Int) < (n : Int) := by omega
        have hjl : j < cs.length := by rw [HL.out]; exact hlt
        have hjl' : j < cs'.length := by rw [HL'.out]; exact hlt
        have hR := HR.out.below hbel hhi
        have hR' := HR'.out.below hbel hhi'
        rcases hR.cells with hz | ⟨b, off, e1, _, hbhi, hc⟩
        · omega
        · rcases hR'.cells with hz | ⟨b', off', e1', _, hbhi', hc'⟩
          · omega
          · subst e1
            subst e1'
            obtain ⟨v0, v1, v2, v3, q0, q1, q2, q3, hrd⟩ := hc j hlt
            obtain ⟨u0, u1, u2, u3, p0, p1, p2, p3, hrd'⟩ := hc' j hlt
            obtain ⟨yk, yna, ynn, ync, yra, yrn, yrc, yka, ykn, ykc, rfl, rfl, rfl, rfl⟩ := hrd.sh.form
            obtain ⟨xk, xna, xnn, xnc, xra, xrn, xrc, xka, xkn, xkc, rfl, rfl, rfl, rfl⟩ := hrd'.sh.form
            have hsz := hbel.size
            have hblt : b < wr.heap.size := by omega
            have hblt' : b' < wr.heap.size := by omega
            obtain ⟨W4, hW4⟩ : ∃ W4, W4 = (wr.alloc (.cells #[.int .i64 yk, .slice yna ynn ync, .slice yra yrn yrc, .slice yka ykn ykc] 25)).alloc (.cells #[.int .i64 xk, .slice xna xnn xnc, .slice xra xrn xrc, .slice xka xkn xkc] 25) := ⟨_, rfl⟩
            have HW4 : Hid (W4 = (wr.alloc (.cells #[.int .i64 yk, .slice yna ynn ync, .slice yra yrn yrc, .slice yka ykn ykc] 25)).alloc (.cells #[.int .i64 xk, .slice xna xnn xnc, .slice xra xrn xrc, .slice xka xkn xkc] 25)) := hW4
            have hb4 : Below wr.heap.size wr W4 := by rw [hW4]; exact ((Below.refl _ _).alloc (Nat.le_refl _) _).alloc (by simp) _
            have HA : Hid (RdC lo hi W4 d (.agg #[.int .i64 yk, .slice yna ynn ync, .slice yra yrn yrc, .slice yka ykn ykc]) (cs.getD j CN.zero)) := hrd.below hb4 (by omega)
            have HA' : Hid (RdC lo' hi' W4 d' (.agg #[.int .i64 xk, .slice xna xnn xnc, .slice xra xrn xrc, .slice xka xkn xkc]) (cs'.getD j CN.zero)) := hrd'.below hb4 (by omega)
            have HB4 : Hid (Below w.heap.size w W4) := hbel.trans (hb4.mono hsz)
            obtain ⟨r, hr⟩ : ∃ r, r = sameC (cs.getD j CN.zero) (cs'.getD j CN.zero) := ⟨_, rfl⟩
            have HRr : Hid (r = sameC (cs.getD j CN.zero) (cs'.getD j CN.zero)) := hr
            clear hR hR' hc hc' hrd hrd' hb4 hW4 hbel htk hr
            go_wp2_with fail
            rw [← HW4.out]
            refine (H _ _ (cs.getD j CN.zero) (cs'.getD j CN.zero) d' W4 lo hi lo' hi' HA.out HA'.out (Nat.le_trans hhi HB4.out.size) (Nat.le_trans hhi' HB4.out.size)).mono ?_
            rintro e w5 ⟨rfl, hb5⟩
            rw [← HRr.out]
            have HB5 : Hid (Below w.heap.size w w5) := HB4.out.trans (hb5.mono HB4.out.size)
            clear hb5
            cases r with
            | false =>
              have HF : Hid (sameL cs cs' = false) := sameL_false_of (fun e => by
                have h1 := HRr.out
                rw [e] at h1
                rw [(sameC_iff _ _).2 rfl] at h1
                cases h1)
              go_wp2_with fail
              go_ret
              exact ⟨rb HF.out.symm, HB5.out⟩
            | true =>
              have HF : Hid (cs.take (j + 1) = cs'.take (j + 1)) := by
                unfold Hid
                rw [take_succ_getD cs CN.zero j hjl, take_succ_getD cs' CN.zero j hjl', HT.out, (sameC_iff _ _).1 HRr.out.symm]
              go_wp2_with fail
              go_roundw
              case rel => exact ⟨j + 1, by omega, by go_num, HF.out, HB5.out⟩
              case measure => simp [intOf]; omega
      · have HF : Hid (sameL cs cs' = true) := (sameL_iff _ _).2 (by
          have h1 := HT.out
          rwa [List.take_of_length_le (by rw [HL.out]; omega), List.take_of_length_le (by rw [HL'.out]; omega)] at h1)
        clear htk hbel
        go_wp2_with fail
        go_ret
        exact ⟨rb HF.out.symm, HBe.out⟩
  · have hb : ((n : Int) != (n' : Int)) = true := by simp; omega
    have HF : Hid (sameL cs cs' = false) := sameL_false_of (fun e => hnn (by rw [← HL.out, ← HL'.out, e]))
    clear hnn
    go_enter Try.func61, Try.ntmps61
    go_wp2_with fail
    go_ret
    exact ⟨rb HF.out.symm, Below.refl _ _⟩

set_option maxRecDepth 100000 in
set_option maxHeartbeats 4000000 in
theorem smC_of {d : Nat} (H0 : ∀ d0, d = d0 + 1 → ∀ d', SmL d0 d') : SmC d := by
  intro v v' c c' d' w lo hi lo' hi' h h' hhi hhi'
  cases d with
  | zero => exact h.elim
  | succ d =>
    cases d' with
    | zero => exact h'.elim
    | succ d' =>
      have H := H0 d rfl d'
      obtain ⟨na, nn, nc, ra, rn, rc, ka, kn, kc, rfl, hn, hr, hks⟩ := h
      obtain ⟨na', nn', nc', ra', rn', rc', ka', kn', kc', rfl, hn', hr', hks'⟩ := h'
      obtain ⟨k, hk⟩ : ∃ k, k = c.kind := ⟨_, rfl⟩
      obtain ⟨k', hk'⟩ : ∃ k, k = c'.kind := ⟨_, rfl⟩
      rw [← hk, ← hk']
      have HZ : Hid (sameC c c' = (decide (k = k') && (decide (c.name = c'.name) && (decide (c.role = c'.role) && sameL c.kids c'.kids)))) := by unfold Hid; rw [hk, hk']; exact sameC_eq c c'
      obtain ⟨W0, hW0⟩ : ∃ W0, W0 = (w.alloc (.cells #[.int .i64 k, .slice na nn nc, .slice ra rn rc, .slice ka kn kc] 25)).alloc (.cells #[.int .i64 k', .slice na' nn' nc', .slice ra' rn' rc', .slice ka' kn' kc'] 25) := ⟨_, rfl⟩
      have HW0 : Hid (W0 = (w.alloc (.cells #[.int .i64 k, .slice na nn nc, .slice ra rn rc, .slice ka kn kc] 25)).alloc (.cells #[.int .i64 k', .slice na' nn' nc', .slice ra' rn' rc', .slice ka' kn' kc'] 25)) := hW0
      have HB : Hid (Below w.heap.size w W0) := by rw [hW0]; exact ((Below.refl _ _).alloc (Nat.le_refl _) _).alloc (by simp) _
      have hbx : BoxC W0 w.heap.size (.int .i64 k) (.slice na nn nc) (.slice ra rn rc) (.slice ka kn kc) := by rw [hW0]; exact (BoxC.new w _ _ _ _).below ((Below.refl _ _).alloc (Nat.le_refl _) _) (by simp)
      have hby : BoxC W0 (w.heap.size + 1) (.int .i64 k') (.slice na' nn' nc') (.slice ra' rn' rc') (.slice ka' kn' kc') := by
        rw [hW0]
        have := BoxC.new (w.alloc (.cells #[.int .i64 k, .slice na nn nc, .slice ra rn rc, .slice ka kn kc] 25)) (.int .i64 k') (.slice na' nn' nc') (.slice ra' rn' rc') (.slice ka' kn' kc')
        rwa [World.size_alloc] at this
      obtain ⟨z0, z1, z2, z3⟩ := hbx.cells
      obtain ⟨y0, y1, y2, y3⟩ := hby.cells
      have HN : Hid (Rd lo hi w na nn nc c.name) := hn
      have HR : Hid (Rd lo hi w ra rn rc c.role) := hr
      have HKs : Hid (RdL (RdC lo hi w d) lo hi w ka kn kc c.kids) := hks
      have HN' : Hid (Rd lo' hi' w na' nn' nc' c'.name) := hn'
      have HR' : Hid (Rd lo' hi' w ra' rn' rc' c'.role) := hr'
      have HKs' : Hid (RdL (RdC lo' hi' w d') lo' hi' w ka' kn' kc' c'.kids) := hks'
      clear hk hk' hn hr hks hn' hr' hks' hW0 hbx hby H0
      by_cases h0 : k = k'
      · have b0 : (k == k') = true := by simpa using h0
        cases hNn : decide (c.name = c'.name)
        · have HE : Hid (sameC c c' = false) := by unfold Hid; rw [HZ.out]; simp [hNn]
          clear h0
          go_enter Try.func41, Try.ntmps41
          go_upto_region 1 with fail
          rw [← HW0.out]
          go_wp2_with (first | (go_at_call_of 31 na; refine (bytesEqual_any (HN.out.below HB.out hhi) (HN'.out.below HB.out hhi')).mono ?_; rintro e w' ⟨rfl, hw⟩; rw [hw, hNn]; clear hw) | (go_at_call_of 31 ra; refine (bytesEqual_any (HR.out.below HB.out hhi) (HR'.out.below HB.out hhi')).mono ?_; rintro e w' ⟨rfl, hw⟩; rw [hw, hRr]; clear hw) | (go_at_call 61; refine (H ka kn kc c.kids ka' kn' kc' c'.kids W0 lo hi lo' hi' (HKs.out.below HB.out hhi) (HKs'.out.below HB.out hhi') (Nat.le_trans hhi HB.out.size) (Nat.le_trans hhi' HB.out.size)).mono ?_; rintro e w1 ⟨rfl, hb1⟩; rw [hKk]; have HB1 : Hid (Below w.heap.size w w1) := HB.out.trans (hb1.mono HB.out.size); clear hb1))
          go_ret
          exact ⟨rb HE.out.symm, by first | exact HB1.out | exact HB.out⟩
        · cases hRr : decide (c.role = c'.role)
          · have HE : Hid (sameC c c' = false) := by unfold Hid; rw [HZ.out]; simp [hRr]
            clear h0
            go_enter Try.func41, Try.ntmps41
            go_upto_region 1 with fail
            rw [← HW0.out]
            go_wp2_with (first | (go_at_call_of 31 na; refine (bytesEqual_any (HN.out.below HB.out hhi) (HN'.out.below HB.out hhi')).mono ?_; rintro e w' ⟨rfl, hw⟩; rw [hw, hNn]; clear hw) | (go_at_call_of 31 ra; refine (bytesEqual_any (HR.out.below HB.out hhi) (HR'.out.below HB.out hhi')).mono ?_; rintro e w' ⟨rfl, hw⟩; rw [hw, hRr]; clear hw) | (go_at_call 61; refine (H ka kn kc c.kids ka' kn' kc' c'.kids W0 lo hi lo' hi' (HKs.out.below HB.out hhi) (HKs'.out.below HB.out hhi') (Nat.le_trans hhi HB.out.size) (Nat.le_trans hhi' HB.out.size)).mono ?_; rintro e w1 ⟨rfl, hb1⟩; rw [hKk]; have HB1 : Hid (Below w.heap.size w w1) := HB.out.trans (hb1.mono HB.out.size); clear hb1))
            go_ret
            exact ⟨rb HE.out.symm, by first | exact HB1.out | exact HB.out⟩
          · cases hKk : sameL c.kids c'.kids
            · have HE : Hid (sameC c c' = false) := by unfold Hid; rw [HZ.out]; simp [hKk]
              clear h0
              go_enter Try.func41, Try.ntmps41
              go_upto_region 1 with fail
              rw [← HW0.out]
              go_wp2_with (first | (go_at_call_of 31 na; refine (bytesEqual_any (HN.out.below HB.out hhi) (HN'.out.below HB.out hhi')).mono ?_; rintro e w' ⟨rfl, hw⟩; rw [hw, hNn]; clear hw) | (go_at_call_of 31 ra; refine (bytesEqual_any (HR.out.below HB.out hhi) (HR'.out.below HB.out hhi')).mono ?_; rintro e w' ⟨rfl, hw⟩; rw [hw, hRr]; clear hw) | (go_at_call 61; refine (H ka kn kc c.kids ka' kn' kc' c'.kids W0 lo hi lo' hi' (HKs.out.below HB.out hhi) (HKs'.out.below HB.out hhi') (Nat.le_trans hhi HB.out.size) (Nat.le_trans hhi' HB.out.size)).mono ?_; rintro e w1 ⟨rfl, hb1⟩; rw [hKk]; have HB1 : Hid (Below w.heap.size w w1) := HB.out.trans (hb1.mono HB.out.size); clear hb1))
              go_ret
              exact ⟨rb HE.out.symm, by first | exact HB1.out | exact HB.out⟩
            · have HE : Hid (sameC c c' = true) := by unfold Hid; rw [HZ.out]; simp [h0, hNn, hRr, hKk]
              clear h0
              go_enter Try.func41, Try.ntmps41
              go_upto_region 1 with fail
              rw [← HW0.out]
              go_wp2_with (first | (go_at_call_of 31 na; refine (bytesEqual_any (HN.out.below HB.out hhi) (HN'.out.below HB.out hhi')).mono ?_; rintro e w' ⟨rfl, hw⟩; rw [hw, hNn]; clear hw) | (go_at_call_of 31 ra; refine (bytesEqual_any (HR.out.below HB.out hhi) (HR'.out.below HB.out hhi')).mono ?_; rintro e w' ⟨rfl, hw⟩; rw [hw, hRr]; clear hw) | (go_at_call 61; refine (H ka kn kc c.kids ka' kn' kc' c'.kids W0 lo hi lo' hi' (HKs.out.below HB.out hhi) (HKs'.out.below HB.out hhi') (Nat.le_trans hhi HB.out.size) (Nat.le_trans hhi' HB.out.size)).mono ?_; rintro e w1 ⟨rfl, hb1⟩; rw [hKk]; have HB1 : Hid (Below w.heap.size w w1) := HB.out.trans (hb1.mono HB.out.size); clear hb1))
              go_ret
              exact ⟨rb HE.out.symm, by first | exact HB1.out | exact HB.out⟩
      · have b0 : (k == k') = false := by simpa using h0
        have HE : Hid (sameC c c' = false) := by unfold Hid; rw [HZ.out]; simp [h0]
        clear h0
        go_enter Try.func41, Try.ntmps41
        go_upto_region 1 with fail
        rw [← HW0.out]
        go_wp2_with fail
        go_ret
        exact ⟨rb HE.out.symm, HB.out⟩

theorem smC_any : ∀ d, SmC d
  | 0 => smC_of (fun d0 h => by omega)
  | d + 1 => smC_of (fun d0 h d' => by obtain rfl : d = d0 := (by omega); exact smL_of (smC_any d))
end

end Go.Proofs.Ytedihcjhfkdkjaa
