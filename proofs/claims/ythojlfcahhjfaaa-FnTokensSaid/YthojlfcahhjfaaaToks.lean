/- What a slice of tokens reads as; the laws' comparison of two, their marking of one and their look at the marks: a contract each. -/
import Derived.Test.YthojlfcahhjfaaaBytes
import Derived.Deep.RegionWith
namespace Go.Proofs.Ythojlfcahhjfaaa
open Go.RowKit

/-- A token: its kind, its place, the bytes of its text. -/
structure Tok where
  kind : Int
  place : Int
  text : List Int

def Tok.zero : Tok := ⟨0, 0, []⟩

/-- A slice's value reads as these tokens. -/
structure RdT (lo hi : Nat) (w : World) (a : Option Addr) (n cap : Nat) (ts : List Tok) : Prop where
  len : ts.length = n
  fits : n ≤ cap ∧ cap ≤ 9223372036854775807
  cells : n = 0 ∨ ∃ b off, a = some ⟨b, off, none⟩ ∧ lo ≤ b ∧ b < hi ∧ ∀ i, i < n → ∃ ta tn tc,
    w.cell? ⟨b, off + i * 3, none⟩ = some (.int .i64 (ts.getD i Tok.zero).kind) ∧ w.cell? ⟨b, off + i * 3 + 1, none⟩ = some (.int .i64 (ts.getD i Tok.zero).place) ∧
    w.cell? ⟨b, off + i * 3 + 2, none⟩ = some (.slice ta tn tc) ∧ Rd lo hi w ta tn tc (ts.getD i Tok.zero).text

theorem RdT.same {lo hi : Nat} {w w' : World} {a : Option Addr} {n cap : Nat} {ts : List Tok} (h : RdT lo hi w a n cap ts) (hs : Same lo hi w w') : RdT lo hi w' a n cap ts := by
  obtain ⟨hl, hm, hc⟩ := h
  refine ⟨hl, hm, ?_⟩
  rcases hc with h0 | ⟨b, off, e, h1, h2, hc⟩
  · exact .inl h0
  · refine .inr ⟨b, off, e, h1, h2, fun i hi => ?_⟩
    obtain ⟨ta, tn, tc, c1, c2, c3, c4⟩ := hc i hi
    exact ⟨ta, tn, tc, (hs.cell (p := ⟨b, _, none⟩) h1 h2).trans c1, (hs.cell (p := ⟨b, _, none⟩) h1 h2).trans c2, (hs.cell (p := ⟨b, _, none⟩) h1 h2).trans c3, c4.same hs⟩

/-! ### marking -/

/-- Where a slice of tokens has its numbers and its bytes: block and place of each text, and how long it is. -/
def leafT (b off : Nat) (tx : Nat → Nat × Nat × Nat) (n : Nat) : List (Addr × IntKind) :=
  (List.range n).flatMap (fun i => (⟨b, off + i * 3, none⟩, .i64) :: (⟨b, off + i * 3 + 1, none⟩, .i64) :: leafB (tx i).1 (tx i).2.1 (tx i).2.2)

theorem leafT_succ (b off : Nat) (tx : Nat → Nat × Nat × Nat) (n : Nat) :
    leafT b off tx (n + 1) = leafT b off tx n ++ ((⟨b, off + n * 3, none⟩, .i64) :: (⟨b, off + n * 3 + 1, none⟩, .i64) :: leafB (tx n).1 (tx n).2.1 (tx n).2.2) := by
  simp [leafT, List.range_succ]

/-- The text of each token is a slice that leads where 'tx' says. -/
def HeadT (w : World) (b off : Nat) (tx : Nat → Nat × Nat × Nat) (n : Nat) : Prop :=
  ∀ i, i < n → ∃ ta tc, w.cell? ⟨b, off + i * 3 + 2, none⟩ = some (.slice ta (tx i).2.2 tc) ∧ ((tx i).2.2 = 0 ∨ ta = some ⟨(tx i).1, (tx i).2.1, none⟩) ∧ (tx i).2.2 ≤ 1048576

theorem HeadT.marks {b off n : Nat} {tx : Nat → Nat × Nat × Nat} {L : List (Addr × IntKind)} : ∀ {w : World}, HeadT w b off tx n → LeafOk w L → ∀ k, HeadT (marks w L k) b off tx n := by
  induction L with
  | nil => intro w h _ k; exact h
  | cons x L ih =>
    intro w h hL k
    obtain ⟨a, kd⟩ := x
    obtain ⟨⟨m, hm⟩, hf⟩ := hL (a, kd) (by simp)
    have h1' := hL.set hm (kd.wrap k)
    refine ih (fun i hi => ?_) (fun x hx => h1' x (by simp [hx])) (k + 1)
    obtain ⟨ta, tc, hc, r⟩ := h i hi
    refine ⟨ta, tc, ?_, r⟩
    rw [World.cell?_setCell_other _ _ _ _ (fun e => by rw [e] at hm; rw [hm] at hc; simp at hc)]
    exact hc

theorem leafT_sub {b off : Nat} {tx : Nat → Nat × Nat × Nat} : ∀ {n j : Nat}, j ≤ n → ∃ M, leafT b off tx n = leafT b off tx j ++ M := by
  intro n
  induction n with
  | zero => intro j hj; exact ⟨[], by rw [show j = 0 from by omega]; simp⟩
  | succ n ih =>
    intro j hj
    by_cases e : j = n + 1
    · exact ⟨[], by rw [e]; simp⟩
    · obtain ⟨M, hM⟩ := ih (show j ≤ n by omega)
      exact ⟨_, by rw [leafT_succ, hM, List.append_assoc]⟩

theorem leafT_chunk {b off : Nat} {tx : Nat → Nat × Nat × Nat} {n j : Nat} (h : j < n) : ∃ M, leafT b off tx n = leafT b off tx j ++ (((⟨b, off + j * 3, none⟩, .i64) :: (⟨b, off + j * 3 + 1, none⟩, .i64) :: leafB (tx j).1 (tx j).2.1 (tx j).2.2) ++ M) := by
  obtain ⟨M, hM⟩ := leafT_sub (b := b) (off := off) (tx := tx) (show j + 1 ≤ n from h)
  exact ⟨M, by rw [hM, leafT_succ, List.append_assoc]⟩

end Go.Proofs.Ythojlfcahhjfaaa
