/- The key that a literal's atom alone has: which two are alike; and that it is one of a map. -/
import Derived.Test.YtcaljggnihinaaaDoorTautI1A
import Derived.Test.YtcaljggnihinaaaDoorTautI1B
import Derived.Test.YtcaljggnihinaaaDoorTautI1C
import Derived.Test.YtcaljggnihinaaaDoorTautMap
import Derived.WideKeyArr
namespace Go.Proofs.YtcaljggnihinaaaDoor
open Go.RowKit Go.WideMaps
set_option linter.unusedVariables false

def keyL (k f r u a b : Int) (p : Nat) (m : Int) : List Int :=
  match p with
  | 0 => [k, f, r, u, m, 0, 0, 0, a, b, 0, 0, 0, 0, 0, 0, 0, 0]
  | 1 => [k, f, r, u, 0, 0, m, 0, a, b, 0, 0, 0, 0, 0, 0, 0, 0]
  | 2 => [k, f, r, u, 0, 0, 0, 0, a, b, m, 0, 0, 0, 0, 0, 0, 0]
  | 3 => [k, f, r, u, 0, 0, 0, 0, a, b, 0, 0, m, 0, 0, 0, 0, 0]
  | 4 => [k, f, r, u, 0, 0, 0, 0, a, b, 0, 0, 0, 0, m, 0, 0, 0]
  | _ => [k, f, r, u, 0, 0, 0, 0, a, b, 0, 0, 0, 0, 0, 0, m, 0]

theorem keyVs_inj {l l' : List Int} (h : keyVs l = keyVs l') : l = l' := by
  unfold keyVs at h
  have e : l.map (Value.int .i64) = l'.map (Value.int .i64) := by simpa using h
  exact List.map_inj_right (fun x y e => by cases e; rfl) |>.1 e

theorem keyL_inj {k f r u a b : Int} {p p' : Nat} {m m' : Int} (hp : p < 6) (hp' : p' < 6) (hm : m ≠ 0) (hm' : m' ≠ 0) (h : keyL k f r u a b p m = keyL k f r u a b p' m') : p = p' ∧ m = m' := by
  have c : ∀ q, q < 6 → q = 0 ∨ q = 1 ∨ q = 2 ∨ q = 3 ∨ q = 4 ∨ q = 5 := by omega
  rcases c p hp with rfl | rfl | rfl | rfl | rfl | rfl <;> rcases c p' hp' with rfl | rfl | rfl | rfl | rfl | rfl <;> simp_all [keyL]

theorem keyL_len (k f r u a b : Int) (p : Nat) (m : Int) : (keyL k f r u a b p m).length = 18 := by unfold keyL; split <;> rfl
theorem keyL_mem {k f r u a b : Int} {p : Nat} {m z : Int} (h : z ∈ keyL k f r u a b p m) : z = k ∨ z = f ∨ z = r ∨ z = u ∨ z = a ∨ z = b ∨ z = m ∨ z = 0 := by
  unfold keyL at h
  split at h <;> simp only [List.mem_cons, List.not_mem_nil, or_false] at h <;> omega

def keyX (k f r u a b : Int) (x : LT) : Value := .agg (keyVs (keyL k f r u a b x.place ((2 : Int) ^ x.atom)))

theorem pow_inj {a b : Nat} (h : (2 : Int) ^ a = (2 : Int) ^ b) : a = b := by
  have e : ((2 ^ a : Nat) : Int) = ((2 ^ b : Nat) : Int) := by rw [Int.natCast_pow, Int.natCast_pow]; exact h
  have e' : 2 ^ a = 2 ^ b := Int.ofNat.inj e
  rcases Nat.lt_trichotomy a b with h | h | h
  · have := Nat.pow_lt_pow_right (a := 2) (by omega) h; omega
  · exact h
  · have := Nat.pow_lt_pow_right (a := 2) (by omega) h; omega

theorem keyX_inj {k f r u a b : Int} {x y : LT} (hx : x.place < 6) (hy : y.place < 6) (h : keyX k f r u a b x = keyX k f r u a b y) : x.twin y := by
  unfold keyX at h
  injection h with h
  have := keyL_inj hx hy (Int.pow_ne_zero (by decide)) (Int.pow_ne_zero (by decide)) (keyVs_inj h)
  exact ⟨this.1, pow_inj this.2⟩

theorem keyX_twin {k f r u a b : Int} {x y : LT} (h : x.twin y) : keyX k f r u a b x = keyX k f r u a b y := by
  unfold keyX
  rw [h.1, h.2]

theorem mapM_some {α β : Type} (f : α → Option β) : ∀ (l : List α), (∀ x ∈ l, ∃ y, f x = some y) → ∃ ys, l.mapM f = some ys
  | [], _ => ⟨[], by simp⟩
  | x :: l, h => by
    obtain ⟨y, hy⟩ := h x (by simp)
    obtain ⟨ys, hys⟩ := mapM_some f l (fun z hz => h z (by simp [hz]))
    exact ⟨y :: ys, by simp [List.mapM_cons, hy, hys]⟩

theorem keyOf_ints {P : Program} {k e : TypeId} {n : Nat} (A : ArrKey P k e n) (he : P.underlying e = some (.int .i64)) (hsz : ∃ m, P.types.size = m + 1) (l : List Int) (hl : l.length = n) (hw : ∀ z ∈ l, (Lit.int .i64 z).wf = true) : ∃ s, keyOf P k (.agg (keyVs l)) = some s := by
  have hkt := A.keyType hsz
  obtain ⟨m, hm⟩ := hsz
  unfold keyOf
  simp only [A.hu]
  rw [if_pos (by simp [hkt, Value.formed, A.hu, A.size, keyVs, hl]), hm]
  unfold Program.keyLits
  simp only [A.hu, Value.cells]
  rw [if_pos (by rw [A.size]; simp [keyVs, hl])]
  obtain ⟨ys, hys⟩ := mapM_some (fun i => P.keyLits (m + 1) e (((keyVs l).toList.drop (i * P.cellsOf e)).take (P.cellsOf e))) (List.range n) (fun i hi => by
    have hi' : i < l.length := by rw [hl]; exact List.mem_range.1 hi
    refine ⟨[.int .i64 l[i]], ?_⟩
    rw [A.one, Nat.mul_one]
    have e1 : ((keyVs l).toList.drop i).take 1 = [.int .i64 l[i]] := by
      simp only [keyVs]
      rw [List.drop_eq_getElem_cons (by simpa using hi')]
      simp
    rw [e1]
    simp [Program.keyLits, he, hw _ (List.getElem_mem hi')])
  rw [hys]
  exact ⟨_, rfl⟩

theorem Tryd.laidOutK : laidOutB Tryd.prog = true := by kernel_rfl
theorem Tryd.arrKey : ArrKey Tryd.prog 51 3 18 := ⟨by kernel_rfl, by kernel_rfl, by kernel_rfl, by kernel_rfl⟩
theorem Tryd.lawKey : KeyLaw Tryd.prog 51 := Tryd.arrKey.law
theorem Tryd.mapKey : Tryd.prog.underlying 44 = some (.map 51 3) := by kernel_rfl
theorem Tryd.zeroInt (u : World) : (zeroValue 3).run Tryd.prog u = .ok (.int .i64 0) u := by kernel_rfl

theorem keyX_key {k f r u a b : Int} {x : LT} (hk : (Lit.int .i64 k).wf = true) (hf : (Lit.int .i64 f).wf = true) (hr : (Lit.int .i64 r).wf = true) (hu : (Lit.int .i64 u).wf = true) (ha : (Lit.int .i64 a).wf = true) (hb : (Lit.int .i64 b).wf = true) (hx : x.atom < 24) :
    ∃ s, keyOf Tryd.prog 51 (keyX k f r u a b x) = some s := by
  refine keyOf_ints Tryd.arrKey (by kernel_rfl) ⟨Tryd.prog.types.size - 1, by kernel_rfl⟩ _ (keyL_len _ _ _ _ _ _ _ _) ?_
  intro z hz
  have hm : (Lit.int .i64 ((2 : Int) ^ x.atom)).wf = true := by
    have : ∀ q, q < 24 → (Lit.int .i64 ((2 : Int) ^ q)).wf = true := by decide +kernel
    exact this _ hx
  rcases keyL_mem hz with rfl | rfl | rfl | rfl | rfl | rfl | rfl | rfl <;> first | assumption | rfl

theorem atomAlone_any {k f r u xp xn yp yn : Int} {ia : Option Addr} {im ic : Nat} {a b : Int} {x : LT} (hp : x.place < 6) (hn : x.atom < 24) (w : World) :
    Calls Tryd.prog 23 #[.agg #[.int .i64 k, .int .i64 f, .int .i64 r, .int .i64 u, .int .i64 xp, .int .i64 xn, .int .i64 yp, .int .i64 yn, .slice ia im ic, .int .i64 a, .int .i64 b], .agg #[.int .i64 (x.place : Nat), .int .i64 (x.atom : Nat), .bool x.no]] w fun e w' => e = .returned (keyX k f r u a b x) ∧ Below w.heap.size w w' := by
  have hm : IntKind.i64.wrap ((2 : Int) ^ x.atom) = (2 : Int) ^ x.atom := by
    have : ∀ q, q < 24 → IntKind.i64.wrap ((2 : Int) ^ q) = (2 : Int) ^ q := by decide +kernel
    exact this _ hn
  obtain ⟨p, t, no⟩ := x
  have c : ∀ q, q < 6 → q = 0 ∨ q = 1 ∨ q = 2 ∨ q = 3 ∨ q = 4 ∨ q = 5 := by omega
  dsimp only at hp hn hm ⊢
  rcases c p hp with rfl | rfl | rfl | rfl | rfl | rfl
  · exact atomAlone_0 _ hm hn
  · exact atomAlone_1 _ hm hn
  · exact atomAlone_2 _ hm hn
  · exact atomAlone_3 _ hm hn
  · exact atomAlone_4 _ hm hn
  · exact atomAlone_5 _ hm hn

end Go.Proofs.YtcaljggnihinaaaDoor
