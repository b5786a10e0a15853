/- What is above what: facts that the law asks for. -/
import Derived.Test.YtnmljalcndfjmaaGreatAboveAll
import Derived.Test.YtnmljalcndfjmaaGreatKbNmFn
namespace Go.Proofs.YtnmljalcndfjmaaGreat
open Go.RowKit

theorem aboveN_of {xs : List AX} {role : List Int} (hk : kbB xs = true) (hl : lowOk role = true) : aboveN xs role = above3 xs role := by
  unfold aboveN
  rw [hk, hl]
  rfl
theorem aboveN_yes {xs : List AX} {y z : List Int} (h : z ∈ aboveN xs y) : kbB xs = true ∧ lowOk y = true := by
  unfold aboveN at h
  split at h
  · rename_i q
    simpa using q
  · simp at h
theorem above_self {xs : List AX} (hF : KbF xs) {role : List Int} (hb : Byt role) (hk : kbB xs = true) (hl : lowOk role = true) : role ∈ aboveN xs role := by
  rw [aboveN_of hk hl, above3_mem hF hb]
  exact .refl
theorem above_trans {xs : List AX} (hF : KbF xs) {role y z : List Int} (hb : Byt role) (hby : Byt y) (hy : y ∈ aboveN xs role) (hz : z ∈ aboveN xs y) : z ∈ aboveN xs role := by
  obtain ⟨hk, hl⟩ := aboveN_yes hy
  obtain ⟨_, hly⟩ := aboveN_yes hz
  rw [aboveN_of hk hl, above3_mem hF hb] at hy ⊢
  rw [aboveN_of hk hly, above3_mem hF hby] at hz
  exact hy.trans hz
theorem above_edge {xs : List AX} (hF : KbF xs) {role : List Int} (hb : Byt role) {x : AX} (hx : x ∈ xs) (h3 : x.kind = 3) (hr : x.r ∈ aboveN xs role) : x.s ∈ aboveN xs role := by
  obtain ⟨hk, hl⟩ := aboveN_yes hr
  rw [aboveN_of hk hl, above3_mem hF hb] at hr ⊢
  exact hr.trans (.step .refl ⟨x, hx, h3, rfl, rfl⟩)

theorem stI_mem {l : List (List Int)} {x : AX} (hg : GoodV l) (h : AxB x) : (∀ z ∈ l, z ∈ stI l x) ∧ (x.a.length ≠ 0 → x.a ∈ stI l x) := by
  have h1 : GoodV (addW l x.a) := GoodV.add hg h.a
  refine ⟨fun z hz => ?_, fun ha => ?_⟩
  · unfold stI
    rw [addW_mem h1 h.b]
    exact .inl ((addW_mem hg h.a z).2 (.inl hz))
  · unfold stI
    rw [addW_mem h1 h.b]
    exact .inl ((addW_mem hg h.a _).2 (.inr ⟨ha, rfl⟩))

theorem foldI_mem : ∀ (xs : List AX) (l : List (List Int)), GoodV l → (∀ x ∈ xs, AxB x) → (∀ z ∈ l, z ∈ xs.foldl stI l) ∧ ∀ x ∈ xs, x.a.length ≠ 0 → x.a ∈ xs.foldl stI l
  | [], l, _, _ => ⟨fun _ hz => hz, by simp⟩
  | x :: xs, l, hg, h => by
    have hx := h x (by simp)
    have h1 : GoodV (stI l x) := by unfold stI; exact (GoodV.add (GoodV.add hg hx.a) hx.b)
    obtain ⟨i1, i2⟩ := foldI_mem xs (stI l x) h1 (fun y hy => h y (by simp [hy]))
    obtain ⟨s1, s2⟩ := stI_mem hg hx
    refine ⟨fun z hz => i1 z (s1 z hz), fun y hy ha => ?_⟩
    rcases List.mem_cons.1 hy with rfl | hy
    · exact i1 _ (s2 ha)
    · exact i2 y hy ha

theorem kbI_has {xs : List AX} (h : ∀ x ∈ xs, AxB x) {x : AX} (hx : x ∈ xs) (ha : x.a.length ≠ 0) : x.a ∈ kbI xs := (foldI_mem xs [] GoodV.nil h).2 x hx ha
theorem kbR_has {xs : List AX} (h : ∀ x ∈ xs, AxB x) {x : AX} (hx : x ∈ xs) (hr : x.r.length ≠ 0) : x.r ∈ kbR xs := ((foldR_mem xs [] GoodV.nil h).2 x hx).1 hr

end Go.Proofs.YtnmljalcndfjmaaGreat
