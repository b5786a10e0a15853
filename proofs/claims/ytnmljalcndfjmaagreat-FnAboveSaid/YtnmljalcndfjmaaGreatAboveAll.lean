/- Several texts in one: AboveM, AboveS, AboveI, AboveF. -/
import Derived.Test.YtnmljalcndfjmaaGreatKbSpecM
import Derived.Test.YtnmljalcndfjmaaGreatNG17
import Derived.Test.YtnmljalcndfjmaaGreatKbOkFn
import Derived.Test.YtnmljalcndfjmaaGreatKbAddM
namespace Go.Proofs.YtnmljalcndfjmaaGreat

section
open Go.RowKit

/-- One thing told, gone by once. -/
def abS (l : List (List Int)) (x : AX) : List (List Int) := if x.kind = 3 ∧ x.r ∈ l then insW l x.s else l
def passA (xs : List AX) (l : List (List Int)) : List (List Int) := xs.foldl abS l
def rounds (xs : List AX) (l : List (List Int)) : Nat → List (List Int)
  | 0 => l
  | n + 1 => passA xs (rounds xs l n)
def above3 (xs : List AX) (role : List Int) : List (List Int) := rounds xs [role] 3

def Edge (xs : List AX) (u v : List Int) : Prop := ∃ x ∈ xs, x.kind = 3 ∧ x.r = u ∧ x.s = v
inductive Reach (xs : List AX) (u : List Int) : List Int → Prop
  | refl : Reach xs u u
  | step {v z : List Int} : Reach xs u v → Edge xs v z → Reach xs u z

theorem Reach.trans {xs : List AX} {u v z : List Int} (h : Reach xs u v) (k : Reach xs v z) : Reach xs u z := by
  induction k with
  | refl => exact h
  | step _ e ih => exact .step ih e

theorem abS_mem {l : List (List Int)} {x : AX} (hg : GoodV l) (hb : Byt x.s) (z : List Int) : z ∈ abS l x ↔ z ∈ l ∨ (x.kind = 3 ∧ x.r ∈ l ∧ z = x.s) := by
  unfold abS
  split
  · rename_i h
    rw [insW_mem hb hg.srt hg.byt]
    constructor
    · rintro (e | e)
      · exact .inr ⟨h.1, h.2, e⟩
      · exact .inl e
    · rintro (e | ⟨_, _, e⟩)
      · exact .inr e
      · exact .inl e
  · rename_i h
    exact ⟨fun e => .inl e, fun e => e.elim id (fun e => absurd ⟨e.1, e.2.1⟩ h)⟩

theorem abS_good {l : List (List Int)} {x : AX} (hg : GoodV l) (hb : Byt x.s) : GoodV (abS l x) := by
  unfold abS; split
  · exact hg.ins hb
  · exact hg

theorem abS_len {l : List (List Int)} {x : AX} (hg : GoodV l) (hb : Byt x.s) : l.length ≤ (abS l x).length ∧ ((abS l x).length = l.length → abS l x = l) := by
  unfold abS; split
  · refine ⟨(insW_len hb hg.srt hg.byt).1, fun e => ?_⟩
    by_cases h : x.s ∈ l
    · exact insW_old hb hg.srt hg.byt h
    · have := insW_new hb hg.srt hg.byt h
      omega
  · exact ⟨Nat.le_refl _, fun _ => rfl⟩

theorem passA_all (xs : List AX) : ∀ (l : List (List Int)), GoodV l → (∀ x ∈ xs, Byt x.s) → GoodV (passA xs l) ∧ (∀ z ∈ l, z ∈ passA xs l) ∧ l.length ≤ (passA xs l).length ∧ ((passA xs l).length = l.length → passA xs l = l) := by
  induction xs with
  | nil => intro l hg _; exact ⟨hg, fun z hz => hz, Nat.le_refl _, fun _ => rfl⟩
  | cons x xs ih =>
    intro l hg hb
    have hx := hb x (by simp)
    have g1 := abS_good (x := x) hg hx
    have l1 := abS_len (x := x) hg hx
    obtain ⟨h1, h2, h3, h4⟩ := ih (abS l x) g1 (fun y hy => hb y (by simp [hy]))
    refine ⟨h1, fun z hz => h2 z ((abS_mem hg hx z).2 (.inl hz)), by show _ ≤ (passA xs (abS l x)).length; omega, fun e => ?_⟩
    have e' : (passA xs (abS l x)).length = l.length := e
    show passA xs (abS l x) = l
    have e1 := l1.2 (by omega)
    rw [h4 (by omega), e1]

theorem passA_edge (xs : List AX) : ∀ (l : List (List Int)), GoodV l → (∀ x ∈ xs, Byt x.s) → ∀ x ∈ xs, x.kind = 3 → x.r ∈ l → x.s ∈ passA xs l := by
  induction xs with
  | nil => intro l _ _ x hx; simp at hx
  | cons y xs ih =>
    intro l hg hb x hx hk hr
    have hy := hb y (by simp)
    have g1 := abS_good (x := y) hg hy
    rcases List.mem_cons.1 hx with rfl | hx
    · exact (passA_all xs _ g1 (fun z hz => hb z (by simp [hz]))).2.1 _ ((abS_mem hg hy _).2 (.inr ⟨hk, hr, rfl⟩))
    · exact ih _ g1 (fun z hz => hb z (by simp [hz])) x hx hk ((abS_mem hg hy _).2 (.inl hr))

theorem passA_sub {P : List Int → Prop} (xs : List AX) : ∀ (l : List (List Int)), GoodV l → (∀ x ∈ xs, Byt x.s) → (∀ z ∈ l, P z) → (∀ x ∈ xs, x.kind = 3 → P x.r → P x.s) → ∀ z ∈ passA xs l, P z := by
  induction xs with
  | nil => intro l _ _ h _ z hz; exact h z hz
  | cons x xs ih =>
    intro l hg hb h hs
    have hx := hb x (by simp)
    refine ih (abS l x) (abS_good hg hx) (fun y hy => hb y (by simp [hy])) (fun z hz => ?_) (fun y hy => hs y (by simp [hy]))
    rcases (abS_mem hg hx z).1 hz with e | ⟨e1, e2, rfl⟩
    · exact h z e
    · exact hs x (by simp) e1 (h _ e2)

theorem nodup_len : ∀ (l m : List (List Int)), l.Nodup → (∀ z ∈ l, z ∈ m) → l.length ≤ m.length
  | [], _, _, _ => Nat.zero_le _
  | a :: l, m, hn, hs => by
    have hn' := List.nodup_cons.1 hn
    have ha := hs a (by simp)
    have := nodup_len l (m.erase a) hn'.2 (fun z hz => by
      refine (List.mem_erase_of_ne (fun e => ?_)).2 (hs z (by simp [hz]))
      subst e
      exact hn'.1 hz)
    rw [List.length_erase_of_mem ha] at this
    have hp : 0 < m.length := List.length_pos_of_mem ha
    rw [List.length_cons]
    omega

theorem srt_nodup {l : List (List Int)} (h : Srt l) : l.Nodup := by
  refine List.Pairwise.imp ?_ h
  intro a b hab e
  subst e
  rw [ltW_self] at hab
  cases hab

/-! ### Roles are among the words -/

theorem addW_mem {l : List (List Int)} {wd : List Int} (hg : GoodV l) (hb : Byt wd) (z : List Int) : z ∈ addW l wd ↔ z ∈ l ∨ (wd.length ≠ 0 ∧ z = wd) := by
  unfold addW
  split
  · rename_i h
    exact ⟨.inl, fun e => e.elim id (fun e => absurd h e.1)⟩
  · rename_i h
    rw [insW_mem hb hg.srt hg.byt]
    exact ⟨fun e => e.elim (fun e => .inr ⟨h, e⟩) .inl, fun e => e.elim .inr (fun e => .inl e.2)⟩

theorem rl_mem {ps : List (Nat × CN)} : ∀ {l : List (List Int)}, GoodV l → BytP ps → ∀ z ∈ l, z ∈ ps.foldl rlP l := by
  induction ps with
  | nil => intro l _ _ z hz; exact hz
  | cons p ps ih =>
    intro l hg hb z hz
    have hp := (hb p (by simp)).2
    exact ih (hg.add hp) (fun q hq => hb q (by simp [hq])) z ((addW_mem hg hp z).2 (.inl hz))

theorem stR_mem {l : List (List Int)} {x : AX} (hg : GoodV l) (h : AxB x) : (∀ z ∈ l, z ∈ stR l x) ∧ (x.r.length ≠ 0 → x.r ∈ stR l x) ∧ (x.s.length ≠ 0 → x.s ∈ stR l x) := by
  unfold stR
  have g1 : GoodV (rolesC x.c l) := by rw [rolesC_parts x.c 1]; exact (hg.rl h.c).1
  have g2 : GoodV (rolesC x.d (rolesC x.c l)) := by rw [rolesC_parts x.d 1]; exact (g1.rl h.d).1
  have g3 := g2.add h.r
  refine ⟨fun z hz => ?_, fun e => ?_, fun e => ?_⟩
  · refine (addW_mem g3 h.s z).2 (.inl ((addW_mem g2 h.r z).2 (.inl ?_)))
    rw [rolesC_parts x.d 1]
    refine rl_mem g1 h.d z ?_
    rw [rolesC_parts x.c 1]
    exact rl_mem hg h.c z hz
  · exact (addW_mem g3 h.s _).2 (.inl ((addW_mem g2 h.r _).2 (.inr ⟨e, rfl⟩)))
  · exact (addW_mem g3 h.s _).2 (.inr ⟨e, rfl⟩)

theorem stR_Good {l : List (List Int)} {x : AX} (hg : GoodV l) (h : AxB x) : GoodV (stR l x) := by
  unfold stR
  have g1 : GoodV (rolesC x.c l) := by rw [rolesC_parts x.c 1]; exact (hg.rl h.c).1
  have g2 : GoodV (rolesC x.d (rolesC x.c l)) := by rw [rolesC_parts x.d 1]; exact (g1.rl h.d).1
  exact (g2.add h.r).add h.s

theorem foldR_mem : ∀ (xs : List AX) (l : List (List Int)), GoodV l → (∀ x ∈ xs, AxB x) → (∀ z ∈ l, z ∈ xs.foldl stR l) ∧ ∀ x ∈ xs, (x.r.length ≠ 0 → x.r ∈ xs.foldl stR l) ∧ (x.s.length ≠ 0 → x.s ∈ xs.foldl stR l)
  | [], l, _, _ => ⟨fun z hz => hz, fun x hx => by simp at hx⟩
  | y :: xs, l, hg, hb => by
    have hy := hb y (by simp)
    have hm := stR_mem hg hy
    obtain ⟨h1, h2⟩ := foldR_mem xs (stR l y) (stR_Good hg hy) (fun x hx => hb x (by simp [hx]))
    refine ⟨fun z hz => h1 z (hm.1 z hz), fun x hx => ?_⟩
    rcases List.mem_cons.1 hx with rfl | hx
    · exact ⟨fun e => h1 _ (hm.2.1 e), fun e => h1 _ (hm.2.2 e)⟩
    · exact h2 x hx

theorem low_ne {zs : List Int} (h : lowOk zs = true) : zs.length ≠ 0 := by
  intro e
  rw [List.eq_nil_of_length_eq_zero e] at h
  revert h
  decide +kernel

theorem ok_rs {x : AX} (h : axOk x = true) (hk : x.kind = 3) : lowOk x.r = true ∧ lowOk x.s = true := by
  unfold axOk at h
  simp only [Bool.and_eq_true] at h
  obtain ⟨_, _, _, h1, h2, _⟩ := h
  have e1 : wantR x.kind = true := by unfold wantR; simp [hk]
  have e2 : wantS x.kind = true := by unfold wantS; simp [hk]
  rw [e1] at h1
  rw [e2] at h2
  exact ⟨by simpa [fitL] using h1, by simpa [fitL] using h2⟩

/-- All words that there may be. -/
def univ (xs : List AX) (role : List Int) : List (List Int) := role :: kbR xs

structure KbF (xs : List AX) : Prop where
  axb : ∀ x ∈ xs, AxB x
  ok : ∀ x ∈ xs, axOk x = true
  few : (kbR xs).length ≤ 3

theorem KbF.of {xs : List AX} (h : kbB xs = true) (hax : ∀ x ∈ xs, AxB x) : KbF xs := by
  unfold kbB at h
  simp only [Bool.and_eq_true] at h
  exact ⟨hax, List.all_eq_true.1 h.2.1, of_decide_eq_true h.2.2.2.1⟩

theorem KbF.edge {xs : List AX} (h : KbF xs) (role : List Int) : ∀ x ∈ xs, x.kind = 3 → x.s ∈ univ xs role := by
  intro x hx hk
  have h2 := (ok_rs (h.ok x hx) hk).2
  have := ((foldR_mem xs [] GoodV.nil h.axb).2 x hx).2 (low_ne h2)
  exact List.mem_cons_of_mem _ this

theorem KbF.bytS {xs : List AX} (h : KbF xs) : ∀ x ∈ xs, Byt x.s := fun x hx => (h.axb x hx).s

theorem univ_len {xs : List AX} (h : KbF xs) (role : List Int) : (univ xs role).length ≤ 4 := by have := h.few; unfold univ; rw [List.length_cons]; omega

theorem good_one {role : List Int} (h : Byt role) : GoodV [role] := ⟨List.pairwise_singleton _ _, fun z hz => by simp only [List.mem_singleton] at hz; subst hz; exact h⟩

theorem rounds_all {xs : List AX} (h : KbF xs) {role : List Int} (hr : Byt role) : ∀ n, GoodV (rounds xs [role] n) ∧ (∀ z ∈ rounds xs [role] n, z ∈ univ xs role) ∧ role ∈ rounds xs [role] n ∧ (∀ z ∈ rounds xs [role] n, Reach xs role z)
  | 0 => ⟨good_one hr, fun z hz => by simp only [rounds, List.mem_singleton] at hz; subst hz; exact List.mem_cons_self .., by simp [rounds], fun z hz => by simp only [rounds, List.mem_singleton] at hz; subst hz; exact .refl⟩
  | n + 1 => by
    obtain ⟨h1, h2, h3, h4⟩ := rounds_all h hr n
    obtain ⟨g1, g2, _, _⟩ := passA_all xs _ h1 h.bytS
    exact ⟨g1, passA_sub (P := fun z => z ∈ univ xs role) xs _ h1 h.bytS h2 (fun x hx hk _ => h.edge role x hx hk), g2 _ h3, passA_sub (P := Reach xs role) xs _ h1 h.bytS h4 (fun x hx hk hrr => .step hrr ⟨x, hx, hk, rfl, rfl⟩)⟩

theorem rounds_len {xs : List AX} (h : KbF xs) {role : List Int} (hr : Byt role) (n : Nat) : (rounds xs [role] n).length ≤ 4 := by
  obtain ⟨h1, h2, _, _⟩ := rounds_all h hr n
  have := nodup_len _ _ (srt_nodup h1.srt) h2
  have := univ_len h role
  omega

theorem rounds_grow {xs : List AX} (h : KbF xs) {role : List Int} (hr : Byt role) : ∀ n, passA xs (rounds xs [role] n) = rounds xs [role] n ∨ n + 1 ≤ (rounds xs [role] n).length
  | 0 => .inr (by simp [rounds])
  | n + 1 => by
    obtain ⟨h1, _, _, _⟩ := rounds_all h hr n
    obtain ⟨_, _, g3, g4⟩ := passA_all xs _ h1 h.bytS
    rcases rounds_grow h hr n with e | e
    · left
      show passA xs (passA xs (rounds xs [role] n)) = passA xs (rounds xs [role] n)
      rw [e, e]
    · by_cases e' : (passA xs (rounds xs [role] n)).length = (rounds xs [role] n).length
      · left
        have := g4 e'
        show passA xs (passA xs (rounds xs [role] n)) = passA xs (rounds xs [role] n)
        rw [this, this]
      · right
        show n + 1 + 1 ≤ (passA xs (rounds xs [role] n)).length
        omega

/-- Behind three rounds nothing is left. -/
theorem above3_closed {xs : List AX} (h : KbF xs) {role : List Int} (hr : Byt role) : passA xs (above3 xs role) = above3 xs role := by
  obtain ⟨h1, _, _, _⟩ := rounds_all h hr 3
  obtain ⟨_, _, g3, g4⟩ := passA_all xs _ h1 h.bytS
  rcases rounds_grow h hr 3 with e | e
  · exact e
  · have := rounds_len h hr 4
    exact g4 (by have : (rounds xs [role] 4).length = (passA xs (rounds xs [role] 3)).length := rfl; omega)

theorem closed_reach {xs : List AX} {l : List (List Int)} {u : List Int} (hu : u ∈ l) (hc : ∀ a b, a ∈ l → Edge xs a b → b ∈ l) : ∀ z, Reach xs u z → z ∈ l := by
  intro z hz
  induction hz with
  | refl => exact hu
  | step _ e ih => exact hc _ _ ih e

theorem above3_mem {xs : List AX} (h : KbF xs) {role : List Int} (hr : Byt role) (z : List Int) : z ∈ above3 xs role ↔ Reach xs role z := by
  obtain ⟨h1, _, h3, h4⟩ := rounds_all h hr 3
  refine ⟨h4 z, fun hz => closed_reach h3 (fun a b ha ⟨x, hx, hk, e1, e2⟩ => ?_) z hz⟩
  have := passA_edge xs _ h1 h.bytS x hx hk (by rw [e1]; exact ha)
  have e := above3_closed h hr
  unfold above3 at e
  rw [e, e2] at this
  exact this

/-! ### Going up -/

/-- What is seen behind going up from low, when l was seen before. -/
structure Climbed (xs : List AX) (l : List (List Int)) (low : List Int) (l' : List (List Int)) : Prop where
  sub : ∀ z ∈ l, z ∈ l'
  has : low ∈ l'
  next : ∀ a ∈ l', a ∉ l → ∀ b, Edge xs a b → b ∈ l'
  reach : ∀ z ∈ l', z ∈ l ∨ Reach xs low z

/-- On the way: low is new, and the first j things told are gone by. -/
structure OnWay (xs : List AX) (j : Nat) (l : List (List Int)) (low : List Int) (l' : List (List Int)) : Prop where
  sub : ∀ z ∈ l, z ∈ l'
  has : low ∈ l'
  next : ∀ a ∈ l', a ∉ l → a ≠ low → ∀ b, Edge xs a b → b ∈ l'
  here : ∀ x ∈ xs.take j, x.kind = 3 → x.r = low → x.s ∈ l'
  reach : ∀ z ∈ l', z ∈ l ∨ Reach xs low z

theorem OnWay.start {xs : List AX} {l : List (List Int)} {low : List Int} (hg : GoodV l) (hb : Byt low) : OnWay xs 0 l low (insW l low) := by
  have hm := fun z => insW_mem (x := z) hb hg.srt hg.byt
  refine ⟨fun z hz => (hm z).2 (.inr hz), (hm low).2 (.inl rfl), fun a ha hn hne => ?_, fun x hx => by simp at hx, fun z hz => ?_⟩
  · rcases (hm a).1 ha with e | e
    · exact absurd e hne
    · exact absurd e hn
  · rcases (hm z).1 hz with e | e
    · subst e; exact .inr .refl
    · exact .inl e

theorem OnWay.pass {xs : List AX} {j : Nat} {l l' : List (List Int)} {low : List Int} (h : OnWay xs j l low l') (hj : j < xs.length) (hno : ¬ ((xs.getD j AX.zero).kind = 3 ∧ (xs.getD j AX.zero).r = low)) : OnWay xs (j + 1) l low l' := by
  refine ⟨h.sub, h.has, h.next, fun x hx hk hr => ?_, h.reach⟩
  rw [List.take_succ_eq_append_getElem hj, List.mem_append] at hx
  rcases hx with hx | hx
  · exact h.here x hx hk hr
  · simp only [List.mem_singleton] at hx
    have e : xs.getD j AX.zero = xs[j] := by simp [List.getD, hj]
    rw [e, ← hx] at hno
    exact absurd ⟨hk, hr⟩ hno

theorem OnWay.climb {xs : List AX} {j : Nat} {l l' l2 : List (List Int)} {low : List Int} (h : OnWay xs j l low l') (hj : j < xs.length) (hk : (xs.getD j AX.zero).kind = 3) (hr : (xs.getD j AX.zero).r = low) (hc : Climbed xs l' (xs.getD j AX.zero).s l2) : OnWay xs (j + 1) l low l2 := by
  have e : xs.getD j AX.zero = xs[j] := by simp [List.getD, hj]
  have hmem : xs.getD j AX.zero ∈ xs := by rw [e]; exact List.getElem_mem hj
  refine ⟨fun z hz => hc.sub z (h.sub z hz), hc.sub _ h.has, fun a ha hn hne b hb => ?_, fun x hx hk' hr' => ?_, fun z hz => ?_⟩
  · by_cases ha' : a ∈ l'
    · exact hc.sub _ (h.next a ha' hn hne b hb)
    · exact hc.next a ha ha' b hb
  · rw [List.take_succ_eq_append_getElem hj, List.mem_append] at hx
    rcases hx with hx | hx
    · exact hc.sub _ (h.here x hx hk' hr')
    · simp only [List.mem_singleton] at hx
      rw [hx, ← e]
      exact hc.has
  · rcases hc.reach z hz with e' | e'
    · exact h.reach z e'
    · exact .inr (Reach.trans (.step .refl ⟨_, hmem, hk, hr, rfl⟩) e')

theorem OnWay.done {xs : List AX} {j : Nat} {l l' : List (List Int)} {low : List Int} (h : OnWay xs j l low l') (hj : xs.length ≤ j) : Climbed xs l low l' := by
  refine ⟨h.sub, h.has, fun a ha hn b hb => ?_, h.reach⟩
  by_cases e : a = low
  · subst e
    obtain ⟨x, hx, hk, hr, rfl⟩ := hb
    exact h.here x (by rw [List.take_of_length_le hj]; exact hx) hk hr
  · exact h.next a ha hn e b hb

theorem Climbed.old {xs : List AX} {l : List (List Int)} {low : List Int} (h : low ∈ l) : Climbed xs l low l := ⟨fun _ hz => hz, h, fun _ ha hn => absurd ha hn, fun _ hz => .inl hz⟩

theorem Climbed.above {xs : List AX} (h : KbF xs) {role : List Int} (hr : Byt role) {l : List (List Int)} (hg : GoodV l) (hc : Climbed xs [] role l) : l = above3 xs role := by
  obtain ⟨h1, _, _, _⟩ := rounds_all h hr 3
  refine srt_ext hg.srt h1.srt (fun z => ?_)
  rw [above3_mem h hr z]
  refine ⟨fun hz => ?_, fun hz => closed_reach hc.has (fun a b ha hb => hc.next a ha (by simp) b hb) z hz⟩
  rcases hc.reach z hz with e | e
  · simp at e
  · exact e
end

section
open Go.RowKit Go.Deep

theorem not_mem_of {l : List (List Int)} {z : List Int} (h : ∀ i, i < l.length → l.getD i [] ≠ z) : z ∉ l := by
  intro hz
  obtain ⟨i, hi, rfl⟩ := List.mem_iff_getElem.1 hz
  exact h i hi (by simp [List.getD, hi])

/-- How far the look through the list is. -/
def Looked (P : List (List Int)) (x : AX) (q : Nat) (L : List (List Int)) : Prop := (L = P ∧ ∀ i, i < q → P.getD i [] ≠ x.r) ∨ (L = insW P x.s ∧ x.r ∈ P)

theorem Looked.good {P L : List (List Int)} {x : AX} {q : Nat} (h : Looked P x q L) (hg : GoodV P) (hb : Byt x.s) : GoodV L ∧ L.length ≤ P.length + 1 := by
  rcases h with ⟨rfl, _⟩ | ⟨rfl, _⟩
  · exact ⟨hg, by omega⟩
  · exact ⟨hg.ins hb, (insW_len hb hg.srt hg.byt).2⟩

theorem Looked.done {P L : List (List Int)} {x : AX} {q : Nat} (h : Looked P x q L) (hq : L.length ≤ q) (hk : x.kind = 3) : L = abS P x := by
  rcases h with ⟨rfl, h⟩ | ⟨rfl, hr⟩
  · unfold abS
    rw [if_neg (fun e => not_mem_of (fun i hi => h i (by omega)) e.2)]
  · unfold abS
    rw [if_pos ⟨hk, hr⟩]

theorem Looked.else {P L : List (List Int)} {x : AX} (h : Looked P x 0 L) (hk : x.kind ≠ 3) (hr : ¬ x.r ∈ P ∨ L = P) : L = abS P x := by
  unfold abS
  rw [if_neg (fun e => hk e.1)]
  rcases h with ⟨e, _⟩ | ⟨_, e⟩
  · exact e
  · rcases hr with hr | hr
    · exact absurd e hr
    · exact hr

end

section
open Go.RowKit Go.Deep

/-- What the way up reads. -/
structure EnvA (w : World) (ps pk pc b : Nat) (a : Option Addr) (n cap lo hi dp : Nat) (xs : List AX) : Prop where
  seen : w.cell? ⟨ps, 0, none⟩ = some (.map (some b))
  kb : w.cell? ⟨pk, 0, none⟩ = some (.slice a n cap)
  fn : w.cell? ⟨pc, 0, none⟩ = some (.func (.func 49) #[] #[.pointer (some ⟨ps, 0, none⟩), .pointer (some ⟨pk, 0, none⟩), .pointer (some ⟨pc, 0, none⟩)])
  rd : RdK lo hi w dp a n cap xs
  lt : (ps < w.heap.size ∧ pk < w.heap.size ∧ pc < w.heap.size) ∧ hi ≤ w.heap.size
  ne : (ps ≠ b ∧ pk ≠ b ∧ pc ≠ b) ∧ hi ≤ b

theorem EnvA.grs {w w' : World} {ps pk pc b : Nat} {a : Option Addr} {n cap lo hi dp : Nat} {xs : List AX} (h : EnvA w ps pk pc b a n cap lo hi dp xs) (hg : GrS (fun k => k = b) w w') : EnvA w' ps pk pc b a n cap lo hi dp xs := by
  obtain ⟨h1, h2, h3, h4, ⟨⟨l1, l2, l3⟩, l4⟩, ⟨⟨n1, n2, n3⟩, n4⟩⟩ := h
  have hs := hg.size
  refine ⟨?_, ?_, ?_, h4.same (fun k _ hk => hg.block k (by omega) (fun e => by omega)), ⟨⟨by omega, by omega, by omega⟩, by omega⟩, ⟨⟨n1, n2, n3⟩, n4⟩⟩
  · rw [World.cell?_of_block (w := w) (hg.block ps l1 n1)]; exact h1
  · rw [World.cell?_of_block (w := w) (hg.block pk l2 n2)]; exact h2
  · rw [World.cell?_of_block (w := w) (hg.block pc l3 n3)]; exact h3

theorem low_6 {zs : List Int} (h : lowOk zs = true) : zs.length ≤ 6 := by
  unfold lowOk longB at h
  simp only [Bool.and_eq_true] at h
  exact of_decide_eq_true h.1.2

def ClimbP (ps pk pc b : Nat) (a : Option Addr) (n cap lo hi dp : Nat) (xs : List AX) (U : List (List Int)) (m : Nat) : Prop := ∀ (L : List (List Int)) (low : List Int) (w : World), EnvA w ps pk pc b a n cap lo hi dp xs → WSet w b L → (∀ z ∈ L, z ∈ U) → low ∈ U → Byt low → low.length ≤ 6 → U.length ≤ L.length + m →
  Calls Tryz.prog 49 #[.string (strOfNums low), .pointer (some ⟨ps, 0, none⟩), .pointer (some ⟨pk, 0, none⟩), .pointer (some ⟨pc, 0, none⟩)] w fun e w' => e = .returned (.tuple #[]) ∧ ∃ L', WSet w' b L' ∧ (∀ z ∈ L', z ∈ U) ∧ Climbed xs L low L' ∧ GrS (fun k => k = b) w w'

set_option maxRecDepth 100000 in
set_option maxHeartbeats 4000000 in
theorem climb_of {ps pk pc b : Nat} {a : Option Addr} {n cap lo hi dp : Nat} {xs : List AX} {U : List (List Int)} (hF : KbF xs) (hU : ∀ x ∈ xs, x.kind = 3 → x.s ∈ U) (hU4 : U.length ≤ 4) (m : Nat) (IH : ∀ m', m = m' + 1 → ClimbP ps pk pc b a n cap lo hi dp xs U m') : ClimbP ps pk pc b a n cap lo hi dp xs U m := by
  intro L low w hE hS hLU hlU hby hl6 hm
  have hnd : ∀ M : List (List Int), GoodV M → (∀ z ∈ M, z ∈ U) → M.length ≤ U.length := fun M hg hs => nodup_len _ _ (srt_nodup hg.srt) hs
  have hL4 := hnd L hS.good hLU
  have HE : Hid (EnvA w ps pk pc b a n cap lo hi dp xs) := hE
  have HS : Hid (WSet w b L) := hS
  have HLU : Hid (∀ z ∈ L, z ∈ U) := hLU
  have HBy : Hid (Byt low) := hby
  have HG : Hid (GoodV L) := hS.good
  have HI : Hid (∀ z, z ∈ insW L low ↔ z = low ∨ z ∈ L) := fun z => insW_mem hby hS.good.srt hS.good.byt
  have HIU : Hid (∀ z ∈ insW L low, z ∈ U) := fun z hz => ((HI.out z).1 hz).elim (fun e => by rw [e]; exact hlU) (hLU z)
  have HL : Hid (xs.length = n) := hE.rd.len
  have hf := hE.rd.fits
  have z0 := hE.seen
  have z1 := hE.kb
  clear hE hS hLU hby hlU
  obtain ⟨sl, hsl⟩ : ∃ s, s = strOfNums low := ⟨_, rfl⟩
  have HSl : Hid (sl = strOfNums low) := hsl
  rw [← hsl]
  clear hsl
  go_enter Tryz.func49, Tryz.ntmps49
  go_wp2_with fail
  rw [HSl.out]
  refine (setAdd_any HS.out HBy.out (by omega) (by omega)).mono ?_
  rintro e w1 ⟨rfl, hS1, hg1⟩
  rw [← HSl.out]
  have HG1 : Hid (GrS (fun k => k = b) w w1) := GrS.of_grown hg1 (fun k hk => by cases hk; rfl)
  have HS1 : Hid (WSet w1 b (insW L low)) := hS1
  have HE1 : Hid (EnvA w1 ps pk pc b a n cap lo hi dp xs) := HE.out.grs HG1.out
  clear z0 z1 hg1 hS1
  have z0 := HE1.out.seen
  have z1 := HE1.out.kb
  by_cases hmem : low ∈ L
  · have hd : decide (low ∉ L) = false := by simp [hmem]
    have HEq : Hid (insW L low = L) := insW_old HBy.out HG.out.srt HG.out.byt hmem
    have HM : Hid (low ∈ L) := hmem
    rw [hd]
    clear hd hmem
    go_wp2_with fail
    refine bodyPost_ret (results_none rfl _ _ _) rfl ?_
    exact ⟨rfl, L, by have := HS1.out; rwa [HEq.out] at this, HLU.out, Climbed.old HM.out, HG1.out⟩
  · have hd : decide (low ∉ L) = true := by simp [hmem]
    have HNew : Hid ((insW L low).length = L.length + 1) := insW_new HBy.out HG.out.srt HG.out.byt hmem
    have hUL : L.length + 1 ≤ U.length := by have := hnd _ (HG.out.ins HBy.out) HIU.out; have := HNew.out; omega
    obtain ⟨m', hm'⟩ : ∃ m', m = m' + 1 := ⟨m - 1, by omega⟩
    have HIH : Hid (ClimbP ps pk pc b a n cap lo hi dp xs U m') := IH m' hm'
    have HND : Hid (∀ M : List (List Int), GoodV M → (∀ z ∈ M, z ∈ U) → M.length ≤ U.length) := hnd
    have HOn0 : Hid (OnWay xs 0 L low (insW L low)) := OnWay.start HG.out HBy.out
    have HF : Hid (KbF xs) := hF
    have HU : Hid (∀ x ∈ xs, x.kind = 3 → x.s ∈ U) := hU
    rw [hd]
    clear hd hmem IH hnd hF hU
    go_wp2_with fail
    go_loopw [14] (fun i wr => ∃ (j : Nat) (M : List (List Int)), j ≤ n ∧ i = .int .i64 j ∧ WSet wr b M ∧ (∀ z ∈ M, z ∈ U) ∧ OnWay xs j L low M ∧ GrS (fun k => k = b) w wr) (fun i _ => n - (intOf i).toNat)
    case atStart => exact ⟨0, _, Nat.zero_le _, rfl, HS1.out, HIU.out, HOn0.out, HG1.out⟩
    case round =>
      obtain ⟨j, M, hj, rfl, hSM, hMU, hOn, hgr⟩ := hrel
      have HSM : Hid (WSet wr b M) := hSM
      have HMU : Hid (∀ z ∈ M, z ∈ U) := hMU
      have HOn : Hid (OnWay xs j L low M) := hOn
      have HGr : Hid (GrS (fun k => k = b) w wr) := hgr
      have HEr : Hid (EnvA wr ps pk pc b a n cap lo hi dp xs) := HE.out.grs hgr
      have hML : L.length + 1 ≤ M.length := by
        have h1 : ∀ z ∈ insW L low, z ∈ M := fun z hz => ((HI.out z).1 hz).elim (fun e => by rw [e]; exact hOn.has) (hOn.sub z)
        have h2 := nodup_len _ _ (srt_nodup (HG.out.ins HBy.out).srt) h1
        have := HNew.out
        omega
      have y0 := HEr.out.seen
      have y1 := HEr.out.kb
      clear hSM hMU hOn hgr z0 z1
      by_cases hlt : j < n
      · have hjl : j < xs.length := by rw [HL.out]; exact hlt
        rcases HEr.out.rd.cells with hz | ⟨gb, off, e1, hblo, hbhi, hc⟩
        · omega
        · subst e1
          obtain ⟨c0, c1, c2, c3, d0, d1, d2, d3, ra, rn, rc, sa, sn, sc, aa, an, ac, ba, bn, bc, q0, q1, q2, q3, q4, q5, q6, q7, q8, q9, q10, q11, q12, hrd⟩ := hc j hlt
          obtain ⟨k, xna, xnn, xnc, xra, xrn, xrc, xka, xkn, xkc, rfl, rfl, rfl, rfl⟩ := hrd.c.sh.form
          obtain ⟨l, yna, ynn, ync, yra, yrn, yrc, yka, ykn, ykc, rfl, rfl, rfl, rfl⟩ := hrd.d.sh.form
          have hmem : xs.getD j AX.zero ∈ xs := by rw [List.getD_eq_getElem?_getD, List.getElem?_eq_getElem hjl]; exact List.getElem_mem hjl
          have HPass : Hid (¬ ((xs.getD j AX.zero).kind = 3 ∧ (xs.getD j AX.zero).r = low) → OnWay xs (j + 1) L low M) := fun hno => HOn.out.pass hjl hno
          have HClimb : Hid ((xs.getD j AX.zero).kind = 3 → (xs.getD j AX.zero).r = low → ∀ l2, Climbed xs M (xs.getD j AX.zero).s l2 → OnWay xs (j + 1) L low l2) := fun hk hr l2 hc => HOn.out.climb hjl hk hr hc
          have HAx : Hid (AxB (xs.getD j AX.zero)) := HF.out.axb _ hmem
          have HXs : Hid ((xs.getD j AX.zero).kind = 3 → (xs.getD j AX.zero).s ∈ U ∧ (xs.getD j AX.zero).s.length ≤ 6) := fun hk => ⟨HU.out _ hmem hk, low_6 (ok_rs (HF.out.ok _ hmem) hk).2⟩
          have hji : (j : Int) < (n : Int) := by omega
          obtain ⟨x, hx⟩ : ∃ x, x = xs.getD j AX.zero := ⟨_, rfl⟩
          rw [← hx] at hrd HAx HPass HClimb HXs q0
          obtain ⟨kk, hkk⟩ : ∃ kk, kk = x.kind := ⟨_, rfl⟩
          rw [← hkk] at q0
          have HKk : Hid (kk = x.kind) := hkk
          obtain ⟨W0, hW0⟩ : ∃ v0, v0 = wr.alloc (.cells #[.int .i64 kk, .int .i64 k, .slice xna xnn xnc, .slice xra xrn xrc, .slice xka xkn xkc, .int .i64 l, .slice yna ynn ync, .slice yra yrn yrc, .slice yka ykn ykc, .slice ra rn rc, .slice sa sn sc, .slice aa an ac, .slice ba bn bc] 49) := ⟨_, rfl⟩
          have HW0 : Hid (W0 = wr.alloc (.cells #[.int .i64 kk, .int .i64 k, .slice xna xnn xnc, .slice xra xrn xrc, .slice xka xkn xkc, .int .i64 l, .slice yna ynn ync, .slice yra yrn yrc, .slice yka ykn ykc, .slice ra rn rc, .slice sa sn sc, .slice aa an ac, .slice ba bn bc] 49)) := hW0
          have hb0 : Below wr.heap.size wr W0 := by rw [hW0]; exact (Below.refl _ _).alloc (Nat.le_refl _) _
          have HG0 : Hid (GrS (fun k => k = b) w W0) := HGr.out.trans (GrS.of_below hb0)
          have HE0 : Hid (EnvA W0 ps pk pc b _ n cap lo hi dp xs) := HEr.out.grs (GrS.of_below hb0)
          have HS0 : Hid (WSet W0 b M) := HSM.out.below hb0 HSM.out.lt
          have hbA : BoxA 49 W0 wr.heap.size kk (.int .i64 k) (.slice xna xnn xnc) (.slice xra xrn xrc) (.slice xka xkn xkc) (.int .i64 l) (.slice yna ynn ync) (.slice yra yrn yrc) (.slice yka ykn ykc) (.slice ra rn rc) (.slice sa sn sc) (.slice aa an ac) (.slice ba bn bc) := by rw [hW0]; exact BoxA.new _ wr _ _ _ _ _ _ _ _ _ _ _ _ _
          have hle := HEr.out.lt.2
          have hR0 : Rd lo hi W0 ra rn rc x.r := hrd.r.below hb0 hle
          have hS0 : Rd lo hi W0 sa sn sc x.s := hrd.s.below hb0 hle
          have hcv0 : (convert 22 9 (.slice ra rn rc)).run Tryz.prog W0 = .ok (.string (strOfNums x.r)) W0 := conv_any hR0
          have hcv1 : (convert 22 9 (.slice sa sn sc)).run Tryz.prog W0 = .ok (.string (strOfNums x.s)) W0 := conv_any hS0
          obtain ⟨eq, heq⟩ : ∃ eq, eq = decide (x.r = low) := ⟨_, rfl⟩
          have HEq : Hid (eq = decide (x.r = low)) := heq
          obtain ⟨sx, hsx⟩ : ∃ s, s = strOfNums x.r := ⟨_, rfl⟩
          obtain ⟨sy, hsy⟩ : ∃ s, s = strOfNums x.s := ⟨_, rfl⟩
          have HSy : Hid (sy = strOfNums x.s) := hsy
          have hbl : (sx.toList == sl.toList) = eq := by rw [hsx, HSl.out, heq]; exact str_inj hR0.byte HBy.out
          rw [← hsx] at hcv0
          rw [← hsy] at hcv1
          obtain ⟨m0, m1, m2, m3, m4, m5, m6, m7, m8, m9, m10, m11, m12⟩ := hbA.cells
          have y2 := HE0.out.fn
          have hgw : gb < wr.heap.size := by omega
          clear hc hrd hmem hx hkk hW0 hb0 hbA hR0 hS0 heq hsx hsy hle hblo hbhi
          by_cases hk : kk = 3
          · subst hk
            cases eq with
            | true =>
              have HO2 : Hid (∀ l2, Climbed xs M x.s l2 → OnWay xs (j + 1) L low l2) := HClimb.out HKk.out.symm (of_decide_eq_true HEq.out.symm)
              have HX2 : Hid (x.s ∈ U ∧ x.s.length ≤ 6) := HXs.out HKk.out.symm
              go_upto_region 4 with fail
              rw [← HW0.out]
              clear q0 q1 q2 q3 q4 q5 q6 q7 q8 q9 q10 q11 q12
              go_wp2_with fail
              rw [HSy.out]
              refine (HIH.out M x.s W0 HE0.out HS0.out HMU.out HX2.out.1 HAx.out.s HX2.out.2 (by omega)).mono ?_
              rintro e w2 ⟨rfl, M2, hS2, hM2, hC2, hg2⟩
              have HS2 : Hid (WSet w2 b M2 ∧ ∀ z ∈ M2, z ∈ U) := ⟨hS2, hM2⟩
              have HO3 : Hid (OnWay xs (j + 1) L low M2) := HO2.out M2 hC2
              have HG2 : Hid (GrS (fun k => k = b) w w2) := HG0.out.trans hg2
              clear hS2 hM2 hC2 hg2 m0 m1 m2 m3 m4 m5 m6 m7 m8 m9 m10 m11 m12
              go_wp2_with fail
              go_roundw
              case rel => exact ⟨j + 1, M2, by omega, by go_num, HS2.out.1, HS2.out.2, HO3.out, HG2.out⟩
              case measure => simp [intOf]; omega
            | false =>
              have HO2 : Hid (OnWay xs (j + 1) L low M) := HPass.out (fun e => of_decide_eq_false HEq.out.symm e.2)
              go_upto_region 4 with fail
              rw [← HW0.out]
              clear q0 q1 q2 q3 q4 q5 q6 q7 q8 q9 q10 q11 q12
              go_wp2_with fail
              go_roundw
              case rel => exact ⟨j + 1, M, by omega, by go_num, HS0.out, HMU.out, HO2.out, HG0.out⟩
              case measure => simp [intOf]; omega
          · have g3 : (kk == 3) = false := by simpa using hk
            have HO2 : Hid (OnWay xs (j + 1) L low M) := HPass.out (fun e => hk (by rw [HKk.out]; exact e.1))
            go_upto_region 4 with fail
            rw [← HW0.out]
            clear q0 q1 q2 q3 q4 q5 q6 q7 q8 q9 q10 q11 q12
            go_wp2_with fail
            go_roundw
            case rel => exact ⟨j + 1, M, by omega, by go_num, HS0.out, HMU.out, HO2.out, HG0.out⟩
            case measure => simp [intOf]; omega
      · have HD : Hid (Climbed xs L low M) := HOn.out.done (by rw [HL.out]; omega)
        go_wp2_with fail
        refine bodyPost_end (results_none rfl _ _ _) rfl ?_
        exact ⟨rfl, M, HSM.out, HMU.out, HD.out, HGr.out⟩

theorem climb_any {ps pk pc b : Nat} {a : Option Addr} {n cap lo hi dp : Nat} {xs : List AX} {U : List (List Int)} (hF : KbF xs) (hU : ∀ x ∈ xs, x.kind = 3 → x.s ∈ U) (hU4 : U.length ≤ 4) : ∀ m, ClimbP ps pk pc b a n cap lo hi dp xs U m
  | 0 => climb_of hF hU hU4 0 (fun m' h => by omega)
  | m + 1 => climb_of hF hU hU4 (m + 1) (fun m' h => by obtain rfl : m = m' := (by omega); exact climb_any hF hU hU4 m)
end

section
open Go.RowKit Go.Deep

def aboveN (xs : List AX) (role : List Int) : List (List Int) := if (kbB xs && lowOk role) = true then above3 xs role else []

theorem kbB_all {xs : List AX} (h : kbB xs = true) : xs.all axOk = true := by
  unfold kbB at h
  simp only [Bool.and_eq_true] at h
  exact h.2.1

theorem above3_facts {xs : List AX} (h : KbF xs) {role : List Int} (hb : Byt role) (hl : lowOk role = true) : (above3 xs role).length ≤ 4 ∧ GoodV (above3 xs role) ∧ ∀ z ∈ above3 xs role, z ≠ [] ∧ z.length ≤ 6 := by
  refine ⟨rounds_len h hb 3, (rounds_all h hb 3).1, fun z hz => ?_⟩
  have hok : lowOk z = true := by
    cases (above3_mem h hb z).1 hz with
    | refl => exact hl
    | step _ e =>
      obtain ⟨x, hx, hk, _, rfl⟩ := e
      exact (ok_rs (h.ok x hx) hk).2
  exact ⟨fun e => low_ne hok (by rw [e]; rfl), low_6 hok⟩

theorem wl_at {l : List (List Int)} (h : ∀ z ∈ l, z ≠ [] ∧ z.length ≤ 6) (i : Nat) : (l.getD i []).length ≤ 1000 := by
  by_cases hi : i < l.length
  · have := (h (l.getD i []) (by rw [List.getD_eq_getElem?_getD, List.getElem?_eq_getElem hi]; exact List.getElem_mem hi)).2
    omega
  · simp [List.getD, List.getElem?_eq_none (Nat.le_of_not_lt hi)]

theorem aboveN_facts {lo hi dp : Nat} {w : World} {a : Option Addr} {n cap : Nat} {xs : List AX} (h : RdK lo hi w dp a n cap xs) {role : List Int} (hb : Byt role) : (aboveN xs role).length ≤ 4 ∧ GoodV (aboveN xs role) ∧ ∀ z ∈ aboveN xs role, z ≠ [] ∧ z.length ≤ 6 := by
  unfold aboveN
  split
  · rename_i e
    rw [Bool.and_eq_true] at e
    exact above3_facts (KbF.of e.1 (h.axb (kbB_all e.1))) hb e.2
  · exact ⟨by simp, GoodV.nil, fun z hz => by simp at hz⟩

set_option maxRecDepth 100000 in
set_option maxHeartbeats 4000000 in
theorem implAbove_any {a : Option Addr} {n cap : Nat} {xs : List AX} {dp : Nat} {oa : Option Addr} {on oc : Nat} {role : List Int} {w : World} {lo hi lo2 hi2 : Nat} (h : RdK lo hi w dp a n cap xs) (hr : Rd lo2 hi2 w oa on oc role) (hhi : hi ≤ w.heap.size) (hhi2 : hi2 ≤ w.heap.size) (hbk : ∀ x ∈ xs, x.c.bulk ≤ 1048576 ∧ x.d.bulk ≤ 1048576) :
    Calls Tryz.prog 16 #[.agg #[.slice a n cap], .slice oa on oc] w fun e w' => ∃ v gs, e = .returned v ∧ OwnW w.heap.size w' v (aboveN xs role) gs ∧ Below w.heap.size w w' := by
  have HK : Hid (RdK lo hi w dp a n cap xs) := h
  have HR : Hid (Rd lo2 hi2 w oa on oc role) := hr
  obtain ⟨Wb, hWb⟩ : ∃ W0, W0 = w.alloc (.cells #[.slice a n cap] 42) := ⟨_, rfl⟩
  have HWb : Hid (Wb = w.alloc (.cells #[.slice a n cap] 42)) := hWb
  have hsb : w.heap.size < Wb.heap.size := by rw [hWb]; simp
  have HB0 : Hid (Below w.heap.size w Wb) := by unfold Hid; rw [hWb]; exact (Below.refl _ _).alloc (Nat.le_refl _) _
  have HBx0 : Hid (Boxed Wb w.heap.size 42 (.slice a n cap)) := by unfold Hid; rw [hWb]; exact Boxed.new w _ _
  have HBk : Hid (∀ x ∈ xs, x.c.bulk ≤ 1048576 ∧ x.d.bulk ≤ 1048576) := hbk
  have hf := h.fits
  have z0 := HBx0.out.cell
  obtain ⟨ok, hok0⟩ : ∃ ok, ok = kbB xs := ⟨_, rfl⟩
  have HOK : Hid (ok = kbB xs) := hok0
  obtain ⟨lk, hlk0⟩ : ∃ ok, ok = lowOk role := ⟨_, rfl⟩
  have HLK : Hid (lk = lowOk role) := hlk0
  clear h hr hWb hok0 hlk0 hbk
  go_enter Tryz.func16, Tryz.ntmps16
  go_wp2_with fail
  rw [← HWb.out]
  refine (implKbOk_any (HK.out.below HB0.out hhi) (by omega) HBk.out).mono ?_
  rintro e w1 ⟨rfl, hb1⟩
  rw [← HOK.out]
  have HB1 : Hid (Below w.heap.size w w1) := HB0.out.trans (hb1.mono (Nat.le_of_lt hsb))
  have hbx1 : Boxed w1 w.heap.size 42 (.slice a n cap) := (hb1.block _ hsb).trans HBx0.out
  have HBx1 : Hid (Boxed w1 w.heap.size 42 (.slice a n cap)) := hbx1
  have hs1 := hb1.size
  clear hb1 z0
  have z0 := hbx1.cell
  clear hbx1
  cases ok with
  | false =>
    have HE : Hid (aboveN xs role = []) := by unfold Hid aboveN; rw [← HOK.out]; rfl
    go_wp2_with fail
    go_ret
    exact ⟨_, [], rfl, by rw [HE.out]; exact OwnW.nil _ _, HB1.out⟩
  | true =>
    go_wp2_with fail
    refine (implLowerOk_any oa on oc role w1 (HR.out.below HB1.out hhi2)).mono ?_
    rintro e w2 ⟨rfl, hw2⟩
    rw [← HLK.out, hw2]
    clear hw2
    cases lk with
    | false =>
      have HE : Hid (aboveN xs role = []) := by unfold Hid aboveN; rw [← HOK.out, ← HLK.out]; rfl
      go_wp2_with fail
      go_ret
      exact ⟨_, [], rfl, by rw [HE.out]; exact OwnW.nil _ _, HB1.out⟩
    | true =>
      have HE : Hid (aboveN xs role = above3 xs role) := by unfold Hid aboveN; rw [← HOK.out, ← HLK.out]; rfl
      have HF : Hid (KbF xs) := KbF.of HOK.out.symm (HK.out.axb (kbB_all HOK.out.symm))
      have HBy : Hid (Byt role) := HR.out.byte
      obtain ⟨hl4, hgd, hwl⟩ := above3_facts HF.out HBy.out HLK.out.symm
      have HGd : Hid (GoodV (above3 xs role)) := hgd
      have HWl : Hid (∀ z ∈ above3 xs role, z ≠ [] ∧ z.length ≤ 6) := hwl
      clear hgd hwl
      have HCv : Hid (∀ V, Below w1.heap.size w1 V → (convert 22 9 (.slice oa on oc)).run Tryz.prog V = .ok (.string (strOfNums role)) V) := fun V hV => conv_any ((HR.out.below HB1.out hhi2).below hV (by omega))
      obtain ⟨W2, hW2⟩ : ∃ W, W = ((w1.alloc (.map #[] 0)).alloc (.cells #[.map (some w1.heap.size)] 86)).alloc (.cells #[(.func (.func 49) #[] #[.pointer (some ⟨w1.heap.size + 1, 0, none⟩), .pointer (some ⟨w.heap.size, 0, none⟩), .pointer (some ⟨w1.heap.size + 1 + 1, 0, none⟩)])] 87) := ⟨_, rfl⟩
      have HW2 : Hid (W2 = ((w1.alloc (.map #[] 0)).alloc (.cells #[.map (some w1.heap.size)] 86)).alloc (.cells #[(.func (.func 49) #[] #[.pointer (some ⟨w1.heap.size + 1, 0, none⟩), .pointer (some ⟨w.heap.size, 0, none⟩), .pointer (some ⟨w1.heap.size + 1 + 1, 0, none⟩)])] 87)) := hW2
      have hb2 : Below w1.heap.size w1 W2 := by rw [hW2]; exact (((Below.refl _ _).alloc (Nat.le_refl _) _).alloc (by simp) _).alloc (by simp; omega) _
      have HB2 : Hid (Below w1.heap.size w1 W2) := hb2
      have hs2 : W2.heap.size = w1.heap.size + 3 := by rw [hW2]; simp
      have HS2 : Hid (W2.heap.size = w1.heap.size + 3) := hs2
      have hset : WSet W2 w1.heap.size [] := by
        rw [hW2]
        exact ((WSet.made w1).below ((Below.refl _ _).alloc (Nat.le_refl _) _) (by simp)).below ((Below.refl _ _).alloc (Nat.le_refl _) _) (by simp; omega)
      have HSet : Hid (WSet W2 w1.heap.size []) := hset
      have hseen : W2.cell? ⟨w1.heap.size + 1, 0, none⟩ = some (.map (some w1.heap.size)) := by
        have hx := Boxed.new (w1.alloc (.map #[] 0)) 86 (.map (some w1.heap.size))
        rw [World.size_alloc] at hx
        rw [hW2]
        exact Boxed.cell (((Below.refl ((w1.alloc (.map #[] 0)).alloc (.cells #[.map (some w1.heap.size)] 86)).heap.size _).alloc (Nat.le_refl _) (.cells #[(.func (.func 49) #[] #[.pointer (some ⟨w1.heap.size + 1, 0, none⟩), .pointer (some ⟨w.heap.size, 0, none⟩), .pointer (some ⟨w1.heap.size + 1 + 1, 0, none⟩)])] 87)).block _ (by simp) |>.trans hx)
      have hfn : W2.cell? ⟨w1.heap.size + 1 + 1, 0, none⟩ = some (.func (.func 49) #[] #[.pointer (some ⟨w1.heap.size + 1, 0, none⟩), .pointer (some ⟨w.heap.size, 0, none⟩), .pointer (some ⟨w1.heap.size + 1 + 1, 0, none⟩)]) := by
        have hx := Boxed.new ((w1.alloc (.map #[] 0)).alloc (.cells #[.map (some w1.heap.size)] 86)) 87 (.func (.func 49) #[] #[.pointer (some ⟨w1.heap.size + 1, 0, none⟩), .pointer (some ⟨w.heap.size, 0, none⟩), .pointer (some ⟨w1.heap.size + 1 + 1, 0, none⟩)])
        rw [World.size_alloc, World.size_alloc] at hx
        rw [hW2]
        exact hx.cell
      have hkb : W2.cell? ⟨w.heap.size, 0, none⟩ = some (.slice a n cap) := (hb2.cell (p := ⟨w.heap.size, 0, none⟩) (show w.heap.size < w1.heap.size by omega)).trans z0
      have HEnv : Hid (EnvA W2 (w1.heap.size + 1) w.heap.size (w1.heap.size + 1 + 1) w1.heap.size a n cap lo hi dp xs) := ⟨hseen, hkb, hfn, (HK.out.below HB1.out hhi).below hb2 (by omega), ⟨⟨by omega, by omega, by omega⟩, by omega⟩, ⟨⟨by omega, by omega, by omega⟩, by omega⟩⟩
      have hcv := HCv.out W2 hb2
      have hmm := run_makeMap (P := Tryz.prog)
      clear hW2 hb2 hs2 hset hkb hseen
      go_upto_region 6 with fail
      rw [← HW2.out]
      clear hmm z0
      go_wp2_with fail
      refine (climb_any HF.out (HF.out.edge role) (univ_len HF.out role) 4 [] role W2 HEnv.out HSet.out (fun z hz => by simp at hz) (List.mem_cons_self ..) HBy.out (low_6 HLK.out.symm) (by have := univ_len HF.out role; simp only [List.length_nil]; omega)).mono ?_
      rintro e w3 ⟨rfl, L3, hS3, hU3, hC3, hg3⟩
      have hL3 : L3 = above3 xs role := Climbed.above HF.out HBy.out hS3.good hC3
      have HS3 : Hid (WSet w3 w1.heap.size (above3 xs role)) := by unfold Hid; rw [← hL3]; exact hS3
      have HB3 : Hid (Below w.heap.size w w3) := (HB1.out.trans (HB2.out.mono HB1.out.size)).trans (hg3.below (B := w.heap.size) (fun k hk => by omega) (by have := HS2.out; omega))
      have z3 := (HEnv.out.grs hg3).seen
      clear hS3 hU3 hC3 hg3 hL3
      go_wp2_with fail
      refine (ascTexts_any HS3.out (by omega) (fun i => wl_at HWl.out i)).mono ?_
      rintro e w4 ⟨v4, gs, rfl, hO, hb4⟩
      have HO : Hid (OwnW w.heap.size w4 v4 (above3 xs role) gs) := hO.base HB3.out.size
      have HB4 : Hid (Below w.heap.size w w4) := HB3.out.trans (hb4.mono HB3.out.size)
      clear hO hb4
      go_wp2_with fail
      go_ret
      exact ⟨v4, gs, rfl, by rw [HE.out]; exact HO.out, HB4.out⟩
end

end Go.Proofs.YtnmljalcndfjmaaGreat
