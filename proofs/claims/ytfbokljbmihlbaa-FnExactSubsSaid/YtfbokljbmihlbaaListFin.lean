/- An answer that is a list of concepts in memory of its own: what it reads as, its cells for the marks. -/
import Derived.Test.YtfbokljbmihlbaaConSubs4
import Derived.Test.YtfbokljbmihlbaaConFin
namespace Go.Proofs.Ytfbokljbmihlbaa
open Go.RowKit

/-- A list of concepts in memory of its own, from the block base on. -/
structure AnsL (base : Nat) (w : World) (d : Nat) (v : Value) (cs : List CN) (Ls : List (List (Addr × IntKind))) (xs : List Value) : Prop where
  row : RowK base w d v cs Ls xs
  sep : SepK base w Ls

theorem AnsL.below {base : Nat} {w w' : World} {d : Nat} {v : Value} {cs : List CN} {Ls : List (List (Addr × IntKind))} {xs : List Value} (h : AnsL base w d v cs Ls xs) (hb : Below w.heap.size w w') : AnsL base w' d v cs Ls xs :=
  ⟨h.row.below hb, h.sep.below hb h.row.lt⟩

theorem AnsL.same {base : Nat} {w w' : World} {d : Nat} {v : Value} {cs : List CN} {Ls : List (List (Addr × IntKind))} {xs : List Value} (h : AnsL base w d v cs Ls xs) (hk : ∀ b, base ≤ b → b < w.heap.size → w'.heap[b]? = w.heap[b]?) (hs : w.heap.size ≤ w'.heap.size) : AnsL base w' d v cs Ls xs := by
  obtain ⟨⟨h1, h2, h3, h4, h5⟩, h6⟩ := h
  have hlt := h2.lt
  refine ⟨⟨h1, ?_, fun i hi => ?_, fun x hx => Nat.lt_of_lt_of_le (h4 x hx) hs, h5⟩, ⟨h6.nd, fun x hx => (World.frozen?_of_block (w := w) (hk _ (h6.ge x hx) (h4 x hx))).trans (h6.fr x hx), h6.ge⟩⟩
  · obtain ⟨r1, r2⟩ := h2
    refine ⟨r1, ?_⟩
    rcases r2 with r2 | ⟨g, cap, cur, hv, hg, hh, r⟩
    · exact .inl r2
    · exact .inr ⟨g, cap, cur, hv, hg, by rw [hk g hg (Array.getElem?_eq_some_iff.1 hh).1]; exact hh, r⟩
  · obtain ⟨v0, v1, v2, v3, c0, c1, c2, c3, hr⟩ := h3 i hi
    exact ⟨v0, v1, v2, v3, c0, c1, c2, c3, hr.keep (fun x hx => hk _ (h6.ge x (getD_mem_flatten hx)) (h4 x (getD_mem_flatten hx)))⟩

theorem OwL.bulk {w : World} {d : Nat} {a : Option Addr} {cap b off : Nat} {cs : List CN} {Ls : Nat → List (Addr × IntKind)} (h : OwL (OwC w d) w a cs.length cap cs b off Ls) : (leafK b off Ls cs.length).length = bulks cs := by
  have key : ∀ j, j ≤ cs.length → (leafK b off Ls j).length = bulks (cs.take j) := by
    intro j
    induction j with
    | zero => intro _; simp [leafK, bulks]
    | succ j ihj =>
      intro hj
      rw [leafK_succ, List.length_append, ihj (by omega), bulks_take_succ _ _ (by omega)]
      rcases h.cells with g3 | ⟨_, g3⟩
      · omega
      · obtain ⟨v0, v1, v2, v3, c0, c1, c2, c3, hr⟩ := g3 j (by omega)
        rw [List.length_cons, hr.bulk]
        omega
  have := key cs.length (Nat.le_refl _)
  rwa [List.take_of_length_le (Nat.le_refl _)] at this

theorem OwL.lv {w : World} {d : Nat} {a : Option Addr} {n cap b off : Nat} {cs : List CN} {Ls : Nat → List (Addr × IntKind)} (h : OwL (OwC w d) w a n cap cs b off Ls) : LvL (LvC w d) w a n b off Ls := by
  rcases h.cells with g3 | ⟨e, g3⟩
  · exact .inl g3
  · refine .inr ⟨e, fun i hi => ?_⟩
    obtain ⟨v0, v1, v2, v3, c0, c1, c2, c3, hr⟩ := g3 i hi
    exact ⟨v1, v2, v3, c1, c2, c3, hr.lv⟩

/-- What is needed of it to be compared, marked and looked at. -/
structure FinL (base top : Nat) (w : World) (d : Nat) (a : Option Addr) (n cap : Nat) (cs : List CN) (b : Nat) (Lf : Nat → List (Addr × IntKind)) : Prop where
  rd : RdL (RdC base top w d) base top w a n cap cs
  lv : LvL (LvC w d) w a n b 0 Lf
  ok : LeafOk w (leafK b 0 Lf n)
  nd : ((leafK b 0 Lf n).map (·.1)).Nodup
  bl : ∀ x ∈ leafK b 0 Lf n, base ≤ x.1.block ∧ x.1.block < top
  ln : (leafK b 0 Lf n).length = bulks cs

theorem rowK_rd {base : Nat} {w : World} {d : Nat} {v : Value} {cs : List CN} {Ls : List (List (Addr × IntKind))} {xs : List Value} (h : RowK base w d v cs Ls xs) (hge : ∀ x ∈ Ls.flatten, base ≤ x.1.block) :
    ∃ a cap, v = .slice a cs.length cap ∧ RdL (RdC base w.heap.size w d) base w.heap.size w a cs.length cap cs := by
  obtain ⟨a, cap, b, hv, ho, hb⟩ := h.owL
  refine ⟨a, cap, hv, ho.len, ho.fits, ?_⟩
  rcases ho.cells with e | ⟨e, hc⟩
  · exact .inl e
  · rcases hb with hb | ⟨_, hb1, hb2, _⟩
    · exact .inl hb
    · refine .inr ⟨b, 0, e, hb1, hb2, fun i hi => ?_⟩
      obtain ⟨v0, v1, v2, v3, c0, c1, c2, c3, hr⟩ := hc i hi
      exact ⟨v0, v1, v2, v3, c0, c1, c2, c3, hr.rd (fun x hx => ⟨hge x (getD_mem_flatten hx), h.lt x (getD_mem_flatten hx)⟩)⟩

theorem FinL.of {base : Nat} {w : World} {d : Nat} {v : Value} {cs : List CN} {Ls : List (List (Addr × IntKind))} {xs : List Value} (h : AnsL base w d v cs Ls xs) :
    ∃ a cap b, v = .slice a cs.length cap ∧ FinL base w.heap.size w d a cs.length cap cs b (fun i => Ls.getD i []) := by
  obtain ⟨a, cap, b, hv, ho, hb⟩ := h.row.owL
  obtain ⟨a', cap', hv', hrd⟩ := rowK_rd h.row h.sep.ge
  rw [hv] at hv'
  simp only [Value.slice.injEq] at hv'
  obtain ⟨rfl, _, rfl⟩ := hv'
  have hlen := h.row.len
  have hbl : ∀ x ∈ leafK b 0 (fun i => Ls.getD i []) cs.length, base ≤ x.1.block ∧ x.1.block < w.heap.size := by
    intro x hx
    rcases leafK_flatten b Ls cs.length (by omega) x hx with e | e
    · rcases hb with hb | ⟨_, hb1, hb2, _⟩
      · rw [hb] at hx; simp [leafK] at hx
      · rw [e]; exact ⟨hb1, hb2⟩
    · exact ⟨h.sep.ge x e, h.row.lt x e⟩
  refine ⟨a, cap, b, hv, hrd, ho.lv, ?_, ?_, hbl, ho.bulk⟩
  · intro x hx
    obtain ⟨i, hi, hx'⟩ := mem_leafK.1 hx
    rcases ho.cells with e | ⟨_, hc⟩
    · omega
    · obtain ⟨v0, v1, v2, v3, c0, c1, c2, c3, hr⟩ := hc i hi
      rcases hx' with rfl | hx'
      · have := hr.form.1
        subst this
        refine ⟨⟨_, c0⟩, ?_⟩
        rcases hb with hb | ⟨_, _, _, hfz⟩
        · omega
        · exact hfz _
      · exact ⟨hr.leaf x hx', h.sep.fr x (getD_mem_flatten hx')⟩
  · by_cases h0 : cs.length = 0
    · rw [h0]; simp [leafK]
    · rcases hb with hb | ⟨hob, _, _, _⟩
      · omega
      · exact leafK_nodup h.sep (fun x hx e => h.row.off x hx (by rw [hob, e])) cs.length (by omega)

mutual
theorem parts_bulk : ∀ (c : CN) (deep : Nat), ∀ p ∈ parts c deep, p.2.bulk ≤ c.bulk
  | .mk k n r ks, deep => by
    intro p hp
    rw [parts] at hp
    rcases List.mem_cons.1 hp with rfl | hp
    · exact Nat.le_refl _
    · have := partsL_bulk ks (deep + 1) p hp
      rw [CN.bulk]
      omega
theorem partsL_bulk : ∀ (cs : List CN) (deep : Nat), ∀ p ∈ partsL cs deep, p.2.bulk ≤ bulks cs
  | [], _ => by intro p hp; simp [partsL] at hp
  | c :: cs, deep => by
    intro p hp
    rw [partsL] at hp
    rw [bulks]
    rcases List.mem_append.1 hp with hp | hp
    · have := parts_bulk c deep p hp; omega
    · have := partsL_bulk cs deep p hp; omega
end

theorem bulks_le_of {l : List CN} {B : Nat} (h : ∀ x ∈ l, x.bulk ≤ B) : bulks l ≤ l.length * (B + 1) := by
  induction l with
  | nil => simp [bulks]
  | cons c cs ih =>
    have h1 := h c (by simp)
    have h2 := ih (fun x hx => h x (by simp [hx]))
    rw [bulks, List.length_cons, Nat.add_mul]
    omega

theorem subsN_len (c : CN) : (subsN c).length ≤ 16 := by
  unfold subsN
  split
  · rename_i h
    have h1 := putsN_len [] (parts c 1)
    unfold conOk at h
    rw [Bool.and_eq_true] at h
    have h2 := of_decide_eq_true h.1
    simp only [List.length_nil] at h1
    omega
  · simp

theorem subsN_bulk (c : CN) : bulks (subsN c) ≤ 4000 := by
  have h1 := subsN_len c
  have h2 : ∀ x ∈ subsN c, x.bulk ≤ 208 := by
    unfold subsN
    split
    · rename_i h
      have hb := bulk_of_ok h
      exact putsN_all (P := fun x => x.bulk ≤ 208) _ (fun x hx => by simp at hx) (fun p hp => Nat.le_trans (parts_bulk c 1 p hp) hb)
    · intro x hx; simp at hx
  have h3 := bulks_le_of h2
  have h4 : (subsN c).length * (208 + 1) ≤ 16 * 209 := Nat.mul_le_mul_right _ h1
  omega

end Go.Proofs.Ytfbokljbmihlbaa
