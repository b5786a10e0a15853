/- The text of what is told: the model's function and the program's, a contract each. -/
import Derived.Test.YtodpaihndpjbfaaAxSay
import Derived.Test.YtodpaihndpjbfaaAxAdd
import Derived.Test.YtodpaihndpjbfaaAxSpec2
import Derived.Test.YtodpaihndpjbfaaAxImpl4
namespace Go.Proofs.Ytodpaihndpjbfaa
open Go.RowKit

theorem fldT_byte {dp : Nat} {c0 c1 c2 c3 d0 d1 d2 d3 : Value} {ra : Option Addr} {rn rc : Nat} {sa : Option Addr} {sn sc : Nat} {aa : Option Addr} {an ac : Nat} {ba : Option Addr} {bn bc : Nat} {x : AX} {w : World} {lo hi : Nat} (h : RdA lo hi w dp c0 c1 c2 c3 d0 d1 d2 d3 ra rn rc sa sn sc aa an ac ba bn bc x) (f : Nat) : ∀ y ∈ fldT x f, 0 ≤ y ∧ y ≤ 255 := by
  intro y hy
  unfold fldT at hy
  split at hy
  · exact textC_byte h.c y hy
  · split at hy
    · exact textC_byte h.d y hy
    · split at hy
      · exact h.r.mem y hy
      · split at hy
        · exact h.s.mem y hy
        · split at hy
          · exact h.a.mem y hy
          · exact h.b.mem y hy

theorem fldsT_byte {dp : Nat} {c0 c1 c2 c3 d0 d1 d2 d3 : Value} {ra : Option Addr} {rn rc : Nat} {sa : Option Addr} {sn sc : Nat} {aa : Option Addr} {an ac : Nat} {ba : Option Addr} {bn bc : Nat} {x : AX} {w : World} {lo hi : Nat} (h : RdA lo hi w dp c0 c1 c2 c3 d0 d1 d2 d3 ra rn rc sa sn sc aa an ac ba bn bc x) : ∀ (fs : List Nat) (gap : Int), 0 ≤ gap ∧ gap ≤ 255 → ∀ y ∈ fldsT x gap fs, 0 ≤ y ∧ y ≤ 255
  | [], _, _, y, hy => by simp [fldsT] at hy
  | f :: fs, gap, hg, y, hy => by
    simp only [fldsT, List.mem_append, List.mem_singleton] at hy
    rcases hy with (rfl | hy) | hy
    · exact hg
    · exact fldT_byte h f y hy
    · exact fldsT_byte h fs 32 (by omega) y hy

theorem axText_byte {dp : Nat} {c0 c1 c2 c3 d0 d1 d2 d3 : Value} {ra : Option Addr} {rn rc : Nat} {sa : Option Addr} {sn sc : Nat} {aa : Option Addr} {an ac : Nat} {ba : Option Addr} {bn bc : Nat} {x : AX} {w : World} {lo hi : Nat} (h : RdA lo hi w dp c0 c1 c2 c3 d0 d1 d2 d3 ra rn rc sa sn sc aa an ac ba bn bc x) : ∀ i, 0 ≤ (axText x).getD i 0 ∧ (axText x).getD i 0 ≤ 255 := by
  intro i
  by_cases hi : i < (axText x).length
  · have : ∀ y ∈ axText x, 0 ≤ y ∧ y ≤ 255 := by
      intro y hy
      unfold axText at hy
      split at hy
      · unfold axSay at hy
        simp only [List.mem_append, List.mem_singleton] at hy
        rcases hy with (hy | hy) | hy
        · exact axWord_byte _ y hy
        · exact fldsT_byte h _ 40 (by omega) y hy
        · omega
      · simp at hy
    have := this _ (List.getElem_mem hi)
    simpa [List.getD, hi] using this
  · rw [List.getD, List.getElem?_eq_none (by omega)]; simp

theorem fitL_len {zs : List Int} {wt : Bool} (h : fitL zs wt = true) : zs.length ≤ 6 := by
  unfold fitL at h
  split at h
  · exact (longB_of_low h).2
  · have := of_decide_eq_true h; omega

theorem fldT_len {x : AX} (h : axOk x = true) (f : Nat) : (fldT x f).length ≤ 320 := by
  obtain ⟨_, hC, hD, hR, hS, hA, hB⟩ := axOk_facts h
  have h1 := textC_320 (fitC_ok hC)
  have h2 := textC_320 (fitC_ok hD)
  have h3 := fitL_len hR
  have h4 := fitL_len hS
  have h5 := fitL_len hA
  have h6 := fitL_len hB
  unfold fldT
  repeat' split
  all_goals omega

theorem fldsT_len {x : AX} (h : axOk x = true) : ∀ (fs : List Nat) (gap : Int), (fldsT x gap fs).length ≤ 321 * fs.length
  | [], _ => by simp [fldsT]
  | f :: fs, gap => by
    have h1 := fldT_len h f
    have h2 := fldsT_len h fs 32
    simp only [fldsT, List.length_append, List.length_cons, List.length_nil]
    omega

theorem axText_len (x : AX) : (axText x).length ≤ 1000 := by
  unfold axText
  split
  · rename_i h
    have h1 := fldsT_len h (fieldsN x.kind) 40
    have h2 := axWord_len x.kind
    have h3 : (fieldsN x.kind).length ≤ 3 := by
      unfold fieldsN
      repeat' split
      all_goals simp
    unfold axSay
    simp only [List.length_append, List.length_cons, List.length_nil]
    omega
  · simp

theorem l3say_any {dp : Nat} {c0 c1 c2 c3 d0 d1 d2 d3 : Value} {ra : Option Addr} {rn rc : Nat} {sa : Option Addr} {sn sc : Nat} {aa : Option Addr} {an ac : Nat} {ba : Option Addr} {bn bc : Nat} {x : AX} {w : World} {lo hi : Nat} {base : Nat} {bv : Value} {xs : List Int} (h : RdA lo hi w dp c0 c1 c2 c3 d0 d1 d2 d3 ra rn rc sa sn sc aa an ac ba bn bc x) (hhi : hi ≤ base) (hbase : base ≤ w.heap.size) (hok : axOk x = true) (k : Int) (hk : k = x.kind) (hO : OwnB base w bv xs) (hlen : xs.length ≤ 536870912) :
    Calls Try.prog 187 #[bv, .agg #[.int .i64 k, c0, c1, c2, c3, d0, d1, d2, d3, .slice ra rn rc, .slice sa sn sc, .slice aa an ac, .slice ba bn bc]] w fun e w' => ∃ bv', e = .returned bv' ∧ OwnB base w' bv' (xs ++ axSay x) ∧ Keep5 base w w' := by
  have hr := (axOk_facts hok).1
  have hc : k = 0 ∨ k = 1 ∨ k = 2 ∨ k = 3 ∨ k = 4 ∨ k = 5 := by omega
  rcases hc with rfl | rfl | rfl | rfl | rfl | rfl
  · exact (l3say_0 h hhi hbase hok hk.symm hO hlen).mono (fun e w' ⟨b, h1, h2, h3⟩ => ⟨b, h1, h2, h3.k5⟩)
  · exact (l3say_1 h hhi hbase hok hk.symm hO hlen).mono (fun e w' ⟨b, h1, h2, h3⟩ => ⟨b, h1, h2, h3.k5⟩)
  · exact (l3say_2 h hhi hbase hok hk.symm hO hlen).mono (fun e w' ⟨b, h1, h2, h3⟩ => ⟨b, h1, h2, h3.k5⟩)
  · exact (l3say_3 h hhi hbase hok hk.symm hO hlen).mono (fun e w' ⟨b, h1, h2, h3⟩ => ⟨b, h1, h2, h3.k5⟩)
  · exact (l3say_4 h hhi hbase hok hk.symm hO hlen).mono (fun e w' ⟨b, h1, h2, h3⟩ => ⟨b, h1, h2, h3.k5⟩)
  · exact (l3say_5 h hhi hbase hok hk.symm hO hlen).mono (fun e w' ⟨b, h1, h2, h3⟩ => ⟨b, h1, h2, h3.k5⟩)

theorem addAx_any {dp : Nat} {c0 c1 c2 c3 d0 d1 d2 d3 : Value} {ra : Option Addr} {rn rc : Nat} {sa : Option Addr} {sn sc : Nat} {aa : Option Addr} {an ac : Nat} {ba : Option Addr} {bn bc : Nat} {x : AX} {w : World} {lo hi : Nat} {base : Nat} {bv : Value} {xs : List Int} (h : RdA lo hi w dp c0 c1 c2 c3 d0 d1 d2 d3 ra rn rc sa sn sc aa an ac ba bn bc x) (hhi : hi ≤ base) (hbase : base ≤ w.heap.size) (hok : axOk x = true) (k : Int) (hk : k = x.kind) (hO : OwnB base w bv xs) (hlen : xs.length ≤ 536870912) :
    Calls Try.prog 109 #[bv, .agg #[.int .i64 k, c0, c1, c2, c3, d0, d1, d2, d3, .slice ra rn rc, .slice sa sn sc, .slice aa an ac, .slice ba bn bc]] w fun e w' => ∃ bv', e = .returned bv' ∧ OwnB base w' bv' (xs ++ axSay x) ∧ Keep5 base w w' := by
  have hr := (axOk_facts hok).1
  have hc : k = 0 ∨ k = 1 ∨ k = 2 ∨ k = 3 ∨ k = 4 ∨ k = 5 := by omega
  rcases hc with rfl | rfl | rfl | rfl | rfl | rfl
  · exact addAx_g h hhi hbase hok 0 (by omega) hk.symm hO hlen
  · exact addAx_g h hhi hbase hok 1 (by omega) hk.symm hO hlen
  · exact addAx_g h hhi hbase hok 2 (by omega) hk.symm hO hlen
  · exact addAx_3 h hhi hbase hok hk.symm hO hlen
  · exact addAx_4 h hhi hbase hok hk.symm hO hlen
  · exact addAx_5 h hhi hbase hok hk.symm hO hlen

end Go.Proofs.Ytodpaihndpjbfaa
