/- Words in order, each once: plain facts on lists of bytes. -/
import Derived.Test.YtpedjcabapldgaaDoorWdMem
import Derived.Test.YtpedjcabapldgaaDoorCmpB
import Derived.Test.YtpedjcabapldgaaDoorConSame
namespace Go.Proofs.YtpedjcabapldgaaDoor
open Go.RowKit

--BEGIN
/-- Each number is a byte. -/
def Byt (zs : List Int) : Prop := ∀ i, 0 ≤ zs.getD i 0 ∧ zs.getD i 0 ≤ 255
def ltW (xs ys : List Int) : Bool := Op.bytesLess (strOfNums xs).toList (strOfNums ys).toList

theorem lessW_trans : ∀ a b c : List UInt8, Op.bytesLess a b = true → Op.bytesLess b c = true → Op.bytesLess a c = true
  | _, _, [], _, h => by simp [Op.bytesLess] at h
  | [], _, c :: cs, _, _ => by simp [Op.bytesLess]
  | a :: xs, [], _ :: _, h, _ => by simp [Op.bytesLess] at h
  | a :: xs, b :: bs, c :: cs, h1, h2 => by
    have ih := lessW_trans xs bs cs
    simp only [Op.bytesLess, Bool.or_eq_true, decide_eq_true_eq, Bool.and_eq_true, beq_iff_eq] at h1 h2 ⊢
    rcases h1 with h1 | ⟨rfl, h1⟩
    · rcases h2 with h2 | ⟨rfl, h2⟩
      · exact .inl (UInt8.lt_trans h1 h2)
      · exact .inl h1
    · rcases h2 with h2 | ⟨rfl, h2⟩
      · exact .inl h2
      · exact .inr ⟨rfl, ih h1 h2⟩

theorem ltW_trans {a b c : List Int} (h : ltW a b = true) (k : ltW b c = true) : ltW a c = true := lessW_trans _ _ _ h k
theorem ltW_self (a : List Int) : ltW a a = false := less_self _
theorem ltW_asymm {a b : List Int} (h : ltW a b = true) : ltW b a = false := by
  cases e : ltW b a
  · rfl
  · have := ltW_trans h e; rw [ltW_self] at this; cases this
theorem ltW_tri {a b : List Int} (ha : Byt a) (hb : Byt b) (h : ltW a b = false) (k : ltW b a = false) : a = b := by
  cases e : ((strOfNums a).toList == (strOfNums b).toList)
  · have := less_tri _ _ h e
    unfold ltW at k; rw [this] at k; cases k
  · rw [str_inj ha hb] at e; exact of_decide_eq_true e

theorem cmpZ_eq (xs ys : List Int) : cmpZ xs ys = if ltW xs ys = true then -1 else if ltW ys xs = true then 1 else 0 := (less_cmp _ _).symm

/-- One step of the putting: what was written so far, and whether the word was. -/
def insS (wd : List Int) (s : List (List Int) × Bool) (x : List Int) : List (List Int) × Bool :=
  (if cmpZ wd x = 0 then (if s.2 = false ∧ cmpZ wd x ≤ 0 then s.1 ++ [wd] else s.1) else (if s.2 = false ∧ cmpZ wd x ≤ 0 then s.1 ++ [wd] else s.1) ++ [x], s.2 || decide (cmpZ wd x ≤ 0))
def insF (l : List (List Int)) (wd : List Int) : List (List Int) × Bool := l.foldl (insS wd) ([], false)
def insW (l : List (List Int)) (wd : List Int) : List (List Int) := if (insF l wd).2 = true then (insF l wd).1 else (insF l wd).1 ++ [wd]

theorem insF_nil (wd : List Int) : insF [] wd = ([], false) := rfl
theorem insF_snoc (l : List (List Int)) (x wd : List Int) : insF (l ++ [x]) wd = insS wd (insF l wd) x := by unfold insF; rw [List.foldl_append]; rfl
theorem insF_take (l : List (List Int)) (wd : List Int) (k : Nat) (h : k < l.length) : insF (l.take (k + 1)) wd = insS wd (insF (l.take k) wd) (l.getD k []) := by
  rw [take_succ_getD l [] k h, insF_snoc]

def Srt (l : List (List Int)) : Prop := l.Pairwise (fun a b => ltW a b = true)
def Byts (l : List (List Int)) : Prop := ∀ z ∈ l, Byt z
def low (l : List (List Int)) (wd : List Int) : List (List Int) := l.filter (fun x => ltW x wd)
def upp (l : List (List Int)) (wd : List Int) : List (List Int) := l.filter (fun x => ltW wd x)
def flg (l : List (List Int)) (wd : List Int) : Bool := l.any (fun x => !ltW x wd)

theorem flg_false {l : List (List Int)} {wd : List Int} (h : flg l wd = false) : ∀ x ∈ l, ltW x wd = true := by
  intro x hx
  unfold flg at h
  rw [List.any_eq_false] at h
  simpa using h x hx

theorem low_all {l : List (List Int)} {wd : List Int} (h : ∀ x ∈ l, ltW x wd = true) : low l wd = l := List.filter_eq_self.2 h
theorem upp_none {l : List (List Int)} {wd : List Int} (h : ∀ x ∈ l, ltW x wd = true) : upp l wd = [] := by
  unfold upp
  rw [List.filter_eq_nil_iff]
  intro x hx
  rw [ltW_asymm (h x hx)]
  simp

theorem snoc_ind {P : List (List Int) → Prop} (h0 : P []) (hs : ∀ l x, P l → P (l ++ [x])) : ∀ l, P l := by
  intro l
  have : ∀ l : List (List Int), P l.reverse := by
    intro l
    induction l with
    | nil => exact h0
    | cons x l ih => rw [List.reverse_cons]; exact hs _ _ ih
  have h := this l.reverse
  rwa [List.reverse_reverse] at h

theorem insF_srt (wd : List Int) (hw : Byt wd) : ∀ l, Srt l → Byts l → insF l wd = (if flg l wd = true then low l wd ++ wd :: upp l wd else l, flg l wd) := by
  refine snoc_ind (P := fun l => Srt l → Byts l → insF l wd = (if flg l wd = true then low l wd ++ wd :: upp l wd else l, flg l wd)) ?_ ?_
  · intro _ _; rfl
  · intro l x ih hs hb
    have hs' := hs
    unfold Srt at hs'
    rw [List.pairwise_append] at hs'
    obtain ⟨hl, _, hx⟩ := hs'
    have hbl : Byts l := fun z hz => hb z (List.mem_append_left _ hz)
    have hbx : Byt x := hb x (List.mem_append_right _ (List.mem_singleton.2 rfl))
    rw [insF_snoc, ih hl hbl]
    have eL : low (l ++ [x]) wd = low l wd ++ (if ltW x wd = true then [x] else []) := by unfold low; rw [List.filter_append]; cases h : ltW x wd <;> simp [h]
    have eU : upp (l ++ [x]) wd = upp l wd ++ (if ltW wd x = true then [x] else []) := by unfold upp; rw [List.filter_append]; cases h : ltW wd x <;> simp [h]
    have eF : flg (l ++ [x]) wd = (flg l wd || !ltW x wd) := by unfold flg; rw [List.any_append]; simp
    rw [eL, eU, eF]
    cases hf : flg l wd
    · have hall := flg_false hf
      rw [low_all hall, upp_none hall]
      unfold insS
      rw [cmpZ_eq]
      cases h1 : ltW wd x
      · cases h2 : ltW x wd
        · simp
        · simp
      · rw [ltW_asymm h1]
        simp
    · have hlt : ltW wd x = true := by
        unfold flg at hf
        rw [List.any_eq_true] at hf
        obtain ⟨y, hy, hyw⟩ := hf
        have h1 := hx y hy x (List.mem_singleton.2 rfl)
        cases h2 : ltW wd y
        · have := ltW_tri (hbl y hy) hw (by simpa using hyw) h2
          subst this; exact h1
        · exact ltW_trans h2 h1
      unfold insS
      rw [cmpZ_eq, hlt, ltW_asymm hlt]
      simp

theorem insW_srt {l : List (List Int)} {wd : List Int} (hw : Byt wd) (hs : Srt l) (hb : Byts l) : insW l wd = low l wd ++ wd :: upp l wd := by
  unfold insW
  rw [insF_srt wd hw l hs hb]
  cases hf : flg l wd
  · have hall := flg_false hf
    rw [low_all hall, upp_none hall]
    simp
  · simp

theorem insW_Srt {l : List (List Int)} {wd : List Int} (hw : Byt wd) (hs : Srt l) (hb : Byts l) : Srt (insW l wd) := by
  rw [insW_srt hw hs hb]
  unfold Srt low upp at *
  rw [List.pairwise_append, List.pairwise_cons]
  refine ⟨hs.filter _, ⟨fun a ha => by simpa using (List.mem_filter.1 ha).2, hs.filter _⟩, fun a ha b hb => ?_⟩
  have h1 : ltW a wd = true := by simpa using (List.mem_filter.1 ha).2
  rcases List.mem_cons.1 hb with rfl | hb
  · exact h1
  · exact ltW_trans h1 (by simpa using (List.mem_filter.1 hb).2)

theorem insW_mem {l : List (List Int)} {wd x : List Int} (hw : Byt wd) (hs : Srt l) (hb : Byts l) : x ∈ insW l wd ↔ x = wd ∨ x ∈ l := by
  rw [insW_srt hw hs hb]
  unfold low upp
  simp only [List.mem_append, List.mem_filter, List.mem_cons]
  constructor
  · rintro (⟨h, _⟩ | h | ⟨h, _⟩)
    · exact .inr h
    · exact .inl h
    · exact .inr h
  · rintro (h | h)
    · exact .inr (.inl h)
    · cases h1 : ltW x wd
      · cases h2 : ltW wd x
        · exact .inr (.inl (ltW_tri (hb x h) hw h1 h2))
        · exact .inr (.inr ⟨h, rfl⟩)
      · exact .inl ⟨h, rfl⟩

theorem insW_Byts {l : List (List Int)} {wd : List Int} (hw : Byt wd) (hs : Srt l) (hb : Byts l) : Byts (insW l wd) := by
  intro z hz
  rcases (insW_mem hw hs hb).1 hz with rfl | h
  · exact hw
  · exact hb z h

/-- Two lists in order that have the same words are one. -/
theorem srt_ext : ∀ {l m : List (List Int)}, Srt l → Srt m → (∀ x, x ∈ l ↔ x ∈ m) → l = m
  | [], [], _, _, _ => rfl
  | [], y :: m, _, _, h => absurd ((h y).2 (by simp)) (by simp)
  | x :: l, [], _, _, h => absurd ((h x).1 (by simp)) (by simp)
  | x :: l, y :: m, hl, hm, h => by
    have hl' := List.pairwise_cons.1 hl
    have hm' := List.pairwise_cons.1 hm
    have e : x = y := by
      rcases List.mem_cons.1 ((h x).1 (by simp)) with e | hx
      · exact e
      · rcases List.mem_cons.1 ((h y).2 (by simp)) with e | hy
        · exact e.symm
        · have := ltW_trans (hl'.1 y hy) (hm'.1 x hx); rw [ltW_self] at this; cases this
    subst e
    congr 1
    refine srt_ext hl'.2 hm'.2 (fun z => ?_)
    constructor
    · intro hz
      rcases List.mem_cons.1 ((h z).1 (by simp [hz])) with rfl | hz'
      · have := hl'.1 z hz; rw [ltW_self] at this; cases this
      · exact hz'
    · intro hz
      rcases List.mem_cons.1 ((h z).2 (by simp [hz])) with rfl | hz'
      · have := hm'.1 z hz; rw [ltW_self] at this; cases this
      · exact hz'

theorem insW_old {l : List (List Int)} {wd : List Int} (hw : Byt wd) (hs : Srt l) (hb : Byts l) (h : wd ∈ l) : insW l wd = l :=
  srt_ext (insW_Srt hw hs hb) hs (fun x => by rw [insW_mem hw hs hb]; exact ⟨fun h' => h'.elim (fun e => e ▸ h) id, .inr⟩)

theorem insW_new {l : List (List Int)} {wd : List Int} (hw : Byt wd) (hs : Srt l) (hb : Byts l) (h : wd ∉ l) : (insW l wd).length = l.length + 1 := by
  rw [insW_srt hw hs hb, List.length_append, List.length_cons]
  have : ∀ m : List (List Int), (∀ x ∈ m, x ∈ l) → (low m wd).length + (upp m wd).length = m.length := by
    intro m
    induction m with
    | nil => intro _; rfl
    | cons y m ih =>
      intro hm
      have ih := ih (fun x hx => hm x (by simp [hx]))
      unfold low upp at ih ⊢
      cases h1 : ltW y wd
      · cases h2 : ltW wd y
        · exact absurd (ltW_tri (hb y (hm y (by simp))) hw h1 h2 ▸ hm y (by simp)) h
        · simp only [List.filter_cons, h1, h2, List.length_cons, if_true, Bool.false_eq_true, if_false]; omega
      · have h2 := ltW_asymm h1
        simp only [List.filter_cons, h1, h2, List.length_cons, if_true, Bool.false_eq_true, if_false]; omega
  have := this l (fun _ h => h)
  omega

theorem insW_len {l : List (List Int)} {wd : List Int} (hw : Byt wd) (hs : Srt l) (hb : Byts l) : l.length ≤ (insW l wd).length ∧ (insW l wd).length ≤ l.length + 1 := by
  by_cases h : wd ∈ l
  · rw [insW_old hw hs hb h]; omega
  · rw [insW_new hw hs hb h]; omega

/-- A word that is none is not put. -/
def addW (l : List (List Int)) (wd : List Int) : List (List Int) := if wd.length = 0 then l else insW l wd

theorem addW_Srt {l : List (List Int)} {wd : List Int} (hw : Byt wd) (hs : Srt l) (hb : Byts l) : Srt (addW l wd) := by unfold addW; split; exact hs; exact insW_Srt hw hs hb
theorem addW_Byts {l : List (List Int)} {wd : List Int} (hw : Byt wd) (hs : Srt l) (hb : Byts l) : Byts (addW l wd) := by unfold addW; split; exact hb; exact insW_Byts hw hs hb
theorem addW_len {l : List (List Int)} {wd : List Int} (hw : Byt wd) (hs : Srt l) (hb : Byts l) : (addW l wd).length ≤ l.length + 1 := by unfold addW; split; omega; exact (insW_len hw hs hb).2
theorem Srt.nil : Srt [] := List.Pairwise.nil
theorem Byts.nil : Byts [] := fun _ h => absurd h (by simp)
--END

end Go.Proofs.YtpedjcabapldgaaDoor
