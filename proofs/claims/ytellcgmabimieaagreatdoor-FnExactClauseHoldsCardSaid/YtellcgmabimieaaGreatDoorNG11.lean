/- Several texts in one: ClParts, ClStr1. -/
import Derived.Test.YtellcgmabimieaaGreatDoorNG7
import Derived.Laws.CopyRow
import Derived.Laws.IdiomCopy
import Derived.Test.YtellcgmabimieaaGreatDoorNG10
namespace Go.Proofs.YtellcgmabimieaaGreatDoor

section
open Go.RowKit
section
variable {P:Program}
theorem run_copy2 (w:World) (dT sT ty elem:TypeId) (g o dLen dCap:Nat) (a:Addr) (sLen sCap:Nat) (z:Array Value) (t:TypeId) (cs:List Value)
    (hu:P.underlying dT=some (.slice elem)) (hs:(P.info? elem).map (·.size)=some 2)
    (hg:w.heap[g]?=some (.cells z t (0,0))) (hn:cs.length=Nat.min sLen dLen*2)
    (E:∀ j v,cs[j]?=some v→w.cell? (a.add j)=some v) (F:o+cs.length≤z.size) (h1:∀ v∈cs,v.oneCell'=true) :
    (Builtin.copy_ #[dT,sT] ty #[.slice (some ⟨g,o,none⟩) dLen dCap,.slice (some a) sLen sCap]).run P w =
     .ok (goInt (Nat.min sLen dLen)) (w.setRow g (z.toList.take o++cs++z.toList.drop (o+cs.length)).toArray):=by
 have hl:=run_loadCells_list (P:=P) w a cs E;have J:=run_storeCells_at P g o t cs 0 z w hg (by simpa using F) h1;cases hq:P.info? elem with
 | none=>simp [hq] at hs
 | some i =>
  have hi:i.size=2:=by simpa [hq] using hs
  rw [hn] at hl;simp [Builtin.copy_,run_underlying hu,Builtin.lenOf,Builtin.firstCells,sizeOf,typeInfo,hq,hi,hl,J]
theorem run_copy2_none (w:World) (dT sT ty elem:TypeId) (d a:Option Addr) (dLen dCap sCap:Nat) (hu:P.underlying dT=some (.slice elem)) (hs:(P.info? elem).map (·.size)=some 2) :
    (Builtin.copy_ #[dT,sT] ty #[.slice d dLen dCap,.slice a 0 sCap]).run P w=.ok (goInt 0) w:=by
 cases hq:P.info? elem with
 | none=>simp [hq] at hs
 | some i =>
  have hl:∀ (x:Addr),(loadCells x 0).run P w=.ok #[] w:=fun x=>by simpa using run_loadCells_list (P:=P) w x [] (by simp)
  cases d <;> cases a <;> simp [Builtin.copy_,run_underlying hu,Builtin.lenOf,Builtin.firstCells,sizeOf,typeInfo,hq,storeCells,hl]
end
theorem Tryz.sizePart:(Tryz.prog.info? 48).map (·.size)=some 2:=by kernel_rfl
set_option maxRecDepth 100000 in
set_option maxHeartbeats 2000000 in
theorem partsOf_0 {k f r u xp xn yp yn:Int} {ia:Option Addr} {ic:Nat} {a b:Int} {w:World} :
    Calls Tryz.prog 105 #[.agg #[.int .i64 k,.int .i64 f,.int .i64 r,.int .i64 u,.int .i64 xp,.int .i64 xn,.int .i64 yp,.int .i64 yn,.slice ia 0 ic,.int .i64 a,.int .i64 b]] w fun e w'=>e=.returned (.agg #[.int .i64 xp,.int .i64 xn,.int .i64 yp,.int .i64 yn,.int .i64 0,.int .i64 0,.int .i64 0,.int .i64 0,.int .i64 0,.int .i64 0,.int .i64 0,.int .i64 0])∧Below w.heap.size w w':=by
 have A:∀ V:World,(Instr.build 148 #[(0,.agg #[.int .i64 xp,.int .i64 xn]),(1,.agg #[.int .i64 yp,.int .i64 yn])]).run Tryz.prog V=.ok (.agg #[.int .i64 xp,.int .i64 xn,.int .i64 yp,.int .i64 yn,.int .i64 0,.int .i64 0,.int .i64 0,.int .i64 0,.int .i64 0,.int .i64 0,.int .i64 0,.int .i64 0]) V:=fun V=>run_build V _ _ _ (by kernel_rfl)
 have L:∀ (V:World) (d:Option Addr) (dLen dCap:Nat) ty,(Builtin.copy_ #[49, 49] ty #[.slice d dLen dCap,.slice ia 0 ic]).run Tryz.prog V=.ok (goInt 0) V:=fun V d dLen dCap ty=>run_copy2_none V _ _ ty _ d ia dLen dCap ic Tryz.underlying49 Tryz.sizePart
 go_enter Tryz.func105, Tryz.ntmps105;go_upto_region 2 with fail
 first | go_region | fail
 all_goals
  go_wp2_with fail;refine bodyPost_ret (v:=.agg #[.int .i64 xp,.int .i64 xn,.int .i64 yp,.int .i64 yn,.int .i64 0,.int .i64 0,.int .i64 0,.int .i64 0,.int .i64 0,.int .i64 0,.int .i64 0,.int .i64 0]) (by simp [results, Tryz.results105,go_sem]) rfl ⟨rfl,?_⟩;exact ((((Below.refl _ _).alloc (Nat.le_refl _) _).alloc (by simp) _).alloc (by simp;omega) _).drew
theorem setRow_new (W:World) (z G:Array Value) (t:TypeId):(W.alloc (.cells z t)).setRow W.heap.size G=W.alloc (.cells G t):=by
 unfold World.setRow World.alloc
 congr 1
 apply Array.ext
 · simp
 intro i h1 h2;by_cases e:i=W.heap.size
 · subst e;simp [Array.getElem_modify]
 simp only [Array.getElem_modify];rw [if_neg (by omega)];simp at h2;simp [Array.getElem_push,show i<W.heap.size by omega]
set_option maxRecDepth 100000 in
set_option maxHeartbeats 2000000 in
theorem partsOf_4 {k f r u xp xn yp yn:Int} {bb q ic:Nat} {a b:Int} {p0 q0 p1 q1 p2 q2 p3 q3:Int} {w:World} {hi:Nat} (h:RP 0 hi w (some ⟨bb,q,none⟩) 4 ic [(p0,q0),(p1,q1),(p2,q2),(p3,q3)]) (N:hi≤w.heap.size) :
    Calls Tryz.prog 105 #[.agg #[.int .i64 k,.int .i64 f,.int .i64 r,.int .i64 u,.int .i64 xp,.int .i64 xn,.int .i64 yp,.int .i64 yn,.slice (some ⟨bb,q,none⟩) 4 ic,.int .i64 a,.int .i64 b]] w fun e w'=>e=.returned (.agg #[.int .i64 xp,.int .i64 xn,.int .i64 yp,.int .i64 yn,.int .i64 p0,.int .i64 q0,.int .i64 p1,.int .i64 q1,.int .i64 p2,.int .i64 q2,.int .i64 p3,.int .i64 q3])∧Below w.heap.size w w':=by
 have A:∀ V:World,(Instr.build 148 #[(0,.agg #[.int .i64 xp,.int .i64 xn]),(1,.agg #[.int .i64 yp,.int .i64 yn])]).run Tryz.prog V=.ok (.agg #[.int .i64 xp,.int .i64 xn,.int .i64 yp,.int .i64 yn,.int .i64 0,.int .i64 0,.int .i64 0,.int .i64 0,.int .i64 0,.int .i64 0,.int .i64 0,.int .i64 0]) V:=fun V=>run_build V _ _ _ (by kernel_rfl)
 have D:∀ (V:World),V.heap=(((w.alloc (.cells #[.int .i64 k,.int .i64 f,.int .i64 r,.int .i64 u,.int .i64 xp,.int .i64 xn,.int .i64 yp,.int .i64 yn,.slice (some ⟨bb,q,none⟩) 4 ic,.int .i64 a,.int .i64 b] 51)).alloc (.cells #[.int .i64 0,.int .i64 0,.int .i64 0,.int .i64 0,.int .i64 0,.int .i64 0,.int .i64 0,.int .i64 0,.int .i64 0,.int .i64 0,.int .i64 0,.int .i64 0] 148)).alloc (.cells #[.int .i64 xp,.int .i64 xn,.int .i64 yp,.int .i64 yn,.int .i64 0,.int .i64 0,.int .i64 0,.int .i64 0,.int .i64 0,.int .i64 0,.int .i64 0,.int .i64 0] 148)).heap→∀ ty,(Builtin.copy_ #[49, 49] ty #[.slice (some ⟨w.heap.size+1+1,4,none⟩) 4 4,.slice (some ⟨bb,q,none⟩) 4 ic]).run Tryz.prog V=.ok (goInt 4) (V.setRow (w.heap.size+1+1) #[.int .i64 xp,.int .i64 xn,.int .i64 yp,.int .i64 yn,.int .i64 p0,.int .i64 q0,.int .i64 p1,.int .i64 q1,.int .i64 p2,.int .i64 q2,.int .i64 p3,.int .i64 q3]):=by
  intro V hV ty;have hb:Below w.heap.size w (((w.alloc (.cells #[.int .i64 k,.int .i64 f,.int .i64 r,.int .i64 u,.int .i64 xp,.int .i64 xn,.int .i64 yp,.int .i64 yn,.slice (some ⟨bb,q,none⟩) 4 ic,.int .i64 a,.int .i64 b] 51)).alloc (.cells #[.int .i64 0,.int .i64 0,.int .i64 0,.int .i64 0,.int .i64 0,.int .i64 0,.int .i64 0,.int .i64 0,.int .i64 0,.int .i64 0,.int .i64 0,.int .i64 0] 148)).alloc (.cells #[.int .i64 xp,.int .i64 xn,.int .i64 yp,.int .i64 yn,.int .i64 0,.int .i64 0,.int .i64 0,.int .i64 0,.int .i64 0,.int .i64 0,.int .i64 0,.int .i64 0] 148)):=(((Below.refl _ _).alloc (Nat.le_refl _) _).alloc (by simp) _).alloc (by simp;omega) _;have hr:RP 0 hi V (some ⟨bb,q,none⟩) 4 ic [(p0,q0),(p1,q1),(p2,q2),(p3,q3)]:=h.same (fun x h1 h2=>by rw [hV];exact hb.block x (by omega));have hg:=World.alloc_heap_new ((w.alloc (.cells #[.int .i64 k,.int .i64 f,.int .i64 r,.int .i64 u,.int .i64 xp,.int .i64 xn,.int .i64 yp,.int .i64 yn,.slice (some ⟨bb,q,none⟩) 4 ic,.int .i64 a,.int .i64 b] 51)).alloc (.cells #[.int .i64 0,.int .i64 0,.int .i64 0,.int .i64 0,.int .i64 0,.int .i64 0,.int .i64 0,.int .i64 0,.int .i64 0,.int .i64 0,.int .i64 0,.int .i64 0] 148)) (.cells #[.int .i64 xp,.int .i64 xn,.int .i64 yp,.int .i64 yn,.int .i64 0,.int .i64 0,.int .i64 0,.int .i64 0,.int .i64 0,.int .i64 0,.int .i64 0,.int .i64 0] 148);rw [World.size_alloc,World.size_alloc,← hV] at hg;have hc:=fun i (hi:i<4)=>hr.at hi
  have I:=run_copy2 (P:=Tryz.prog) V 49 49 ty 48 (w.heap.size+1+1) 4 4 4 ⟨bb,q,none⟩ 4 ic #[.int .i64 xp,.int .i64 xn,.int .i64 yp,.int .i64 yn,.int .i64 0,.int .i64 0,.int .i64 0,.int .i64 0,.int .i64 0,.int .i64 0,.int .i64 0,.int .i64 0] 148 [.int .i64 p0,.int .i64 q0,.int .i64 p1,.int .i64 q1,.int .i64 p2,.int .i64 q2,.int .i64 p3,.int .i64 q3] Tryz.underlying49 Tryz.sizePart hg rfl (by
   intro j v hj
   match j with
   | 0=>simp at hj;subst hj;rw [show (⟨bb,q,none⟩:Addr).add 0=⟨bb,q+0*2,none⟩ from by simp [Addr.add_lit]];exact (hc 0 (by omega)).1
   | 1=>simp at hj;subst hj;rw [show (⟨bb,q,none⟩:Addr).add 1=⟨bb,q+0*2+1,none⟩ from by simp [Addr.add_lit];try omega];exact (hc 0 (by omega)).2.1
   | 2=>simp at hj;subst hj;rw [show (⟨bb,q,none⟩:Addr).add 2=⟨bb,q+1*2,none⟩ from by simp [Addr.add_lit]];exact (hc 1 (by omega)).1
   | 3=>simp at hj;subst hj;rw [show (⟨bb,q,none⟩:Addr).add 3=⟨bb,q+1*2+1,none⟩ from by simp [Addr.add_lit];try omega];exact (hc 1 (by omega)).2.1
   | 4=>simp at hj;subst hj;rw [show (⟨bb,q,none⟩:Addr).add 4=⟨bb,q+2*2,none⟩ from by simp [Addr.add_lit]];exact (hc 2 (by omega)).1
   | 5=>simp at hj;subst hj;rw [show (⟨bb,q,none⟩:Addr).add 5=⟨bb,q+2*2+1,none⟩ from by simp [Addr.add_lit];try omega];exact (hc 2 (by omega)).2.1
   | 6=>simp at hj;subst hj;rw [show (⟨bb,q,none⟩:Addr).add 6=⟨bb,q+3*2,none⟩ from by simp [Addr.add_lit]];exact (hc 3 (by omega)).1
   | 7=>simp at hj;subst hj;rw [show (⟨bb,q,none⟩:Addr).add 7=⟨bb,q+3*2+1,none⟩ from by simp [Addr.add_lit];try omega];exact (hc 3 (by omega)).2.1
   | j+8=>simp at hj) (by simp) (by simp [Value.oneCell'])
  exact I
 have L:∀ ty,(Builtin.copy_ #[49, 49] ty #[.slice (some ⟨w.heap.size+1+1,4,none⟩) 4 4,.slice (some ⟨bb,q,none⟩) 4 ic]).run Tryz.prog (((w.alloc (.cells #[.int .i64 k,.int .i64 f,.int .i64 r,.int .i64 u,.int .i64 xp,.int .i64 xn,.int .i64 yp,.int .i64 yn,.slice (some ⟨bb,q,none⟩) 4 ic,.int .i64 a,.int .i64 b] 51)).alloc (.cells #[.int .i64 0,.int .i64 0,.int .i64 0,.int .i64 0,.int .i64 0,.int .i64 0,.int .i64 0,.int .i64 0,.int .i64 0,.int .i64 0,.int .i64 0,.int .i64 0] 148)).alloc (.cells #[.int .i64 xp,.int .i64 xn,.int .i64 yp,.int .i64 yn,.int .i64 0,.int .i64 0,.int .i64 0,.int .i64 0,.int .i64 0,.int .i64 0,.int .i64 0,.int .i64 0] 148))=.ok (goInt 4) (((w.alloc (.cells #[.int .i64 k,.int .i64 f,.int .i64 r,.int .i64 u,.int .i64 xp,.int .i64 xn,.int .i64 yp,.int .i64 yn,.slice (some ⟨bb,q,none⟩) 4 ic,.int .i64 a,.int .i64 b] 51)).alloc (.cells #[.int .i64 0,.int .i64 0,.int .i64 0,.int .i64 0,.int .i64 0,.int .i64 0,.int .i64 0,.int .i64 0,.int .i64 0,.int .i64 0,.int .i64 0,.int .i64 0] 148)).alloc (.cells #[.int .i64 xp,.int .i64 xn,.int .i64 yp,.int .i64 yn,.int .i64 p0,.int .i64 q0,.int .i64 p1,.int .i64 q1,.int .i64 p2,.int .i64 q2,.int .i64 p3,.int .i64 q3] 148)):=by
  intro ty;rw [D _ rfl ty];have:=setRow_new ((w.alloc (.cells #[.int .i64 k,.int .i64 f,.int .i64 r,.int .i64 u,.int .i64 xp,.int .i64 xn,.int .i64 yp,.int .i64 yn,.slice (some ⟨bb,q,none⟩) 4 ic,.int .i64 a,.int .i64 b] 51)).alloc (.cells #[.int .i64 0,.int .i64 0,.int .i64 0,.int .i64 0,.int .i64 0,.int .i64 0,.int .i64 0,.int .i64 0,.int .i64 0,.int .i64 0,.int .i64 0,.int .i64 0] 148)) #[.int .i64 xp,.int .i64 xn,.int .i64 yp,.int .i64 yn,.int .i64 0,.int .i64 0,.int .i64 0,.int .i64 0,.int .i64 0,.int .i64 0,.int .i64 0,.int .i64 0] #[.int .i64 xp,.int .i64 xn,.int .i64 yp,.int .i64 yn,.int .i64 p0,.int .i64 q0,.int .i64 p1,.int .i64 q1,.int .i64 p2,.int .i64 q2,.int .i64 p3,.int .i64 q3] 148;rw [World.size_alloc,World.size_alloc] at this;rw [this]
 have M:∀ ty,(Builtin.copy_ #[49, 49] ty #[.slice (some ⟨w.heap.size+1+1,4,none⟩) 4 4,.slice (some ⟨bb,q,none⟩) 4 ic]).run Tryz.prog (((w.alloc (.cells #[.int .i64 k,.int .i64 f,.int .i64 r,.int .i64 u,.int .i64 xp,.int .i64 xn,.int .i64 yp,.int .i64 yn,.slice (some ⟨bb,q,none⟩) 4 ic,.int .i64 a,.int .i64 b] 51)).alloc (.cells #[.int .i64 0,.int .i64 0,.int .i64 0,.int .i64 0,.int .i64 0,.int .i64 0,.int .i64 0,.int .i64 0,.int .i64 0,.int .i64 0,.int .i64 0,.int .i64 0] 148)).alloc (.cells #[.int .i64 xp,.int .i64 xn,.int .i64 yp,.int .i64 yn,.int .i64 0,.int .i64 0,.int .i64 0,.int .i64 0,.int .i64 0,.int .i64 0,.int .i64 0,.int .i64 0] 148)).drew=.ok (goInt 4) (((w.alloc (.cells #[.int .i64 k,.int .i64 f,.int .i64 r,.int .i64 u,.int .i64 xp,.int .i64 xn,.int .i64 yp,.int .i64 yn,.slice (some ⟨bb,q,none⟩) 4 ic,.int .i64 a,.int .i64 b] 51)).alloc (.cells #[.int .i64 0,.int .i64 0,.int .i64 0,.int .i64 0,.int .i64 0,.int .i64 0,.int .i64 0,.int .i64 0,.int .i64 0,.int .i64 0,.int .i64 0,.int .i64 0] 148)).alloc (.cells #[.int .i64 xp,.int .i64 xn,.int .i64 yp,.int .i64 yn,.int .i64 p0,.int .i64 q0,.int .i64 p1,.int .i64 q1,.int .i64 p2,.int .i64 q2,.int .i64 p3,.int .i64 q3] 148)).drew:=by
  intro ty;rw [D (((w.alloc (.cells #[.int .i64 k,.int .i64 f,.int .i64 r,.int .i64 u,.int .i64 xp,.int .i64 xn,.int .i64 yp,.int .i64 yn,.slice (some ⟨bb,q,none⟩) 4 ic,.int .i64 a,.int .i64 b] 51)).alloc (.cells #[.int .i64 0,.int .i64 0,.int .i64 0,.int .i64 0,.int .i64 0,.int .i64 0,.int .i64 0,.int .i64 0,.int .i64 0,.int .i64 0,.int .i64 0,.int .i64 0] 148)).alloc (.cells #[.int .i64 xp,.int .i64 xn,.int .i64 yp,.int .i64 yn,.int .i64 0,.int .i64 0,.int .i64 0,.int .i64 0,.int .i64 0,.int .i64 0,.int .i64 0,.int .i64 0] 148)).drew rfl ty];have:=setRow_new ((w.alloc (.cells #[.int .i64 k,.int .i64 f,.int .i64 r,.int .i64 u,.int .i64 xp,.int .i64 xn,.int .i64 yp,.int .i64 yn,.slice (some ⟨bb,q,none⟩) 4 ic,.int .i64 a,.int .i64 b] 51)).alloc (.cells #[.int .i64 0,.int .i64 0,.int .i64 0,.int .i64 0,.int .i64 0,.int .i64 0,.int .i64 0,.int .i64 0,.int .i64 0,.int .i64 0,.int .i64 0,.int .i64 0] 148)) #[.int .i64 xp,.int .i64 xn,.int .i64 yp,.int .i64 yn,.int .i64 0,.int .i64 0,.int .i64 0,.int .i64 0,.int .i64 0,.int .i64 0,.int .i64 0,.int .i64 0] #[.int .i64 xp,.int .i64 xn,.int .i64 yp,.int .i64 yn,.int .i64 p0,.int .i64 q0,.int .i64 p1,.int .i64 q1,.int .i64 p2,.int .i64 q2,.int .i64 p3,.int .i64 q3] 148;rw [World.size_alloc,World.size_alloc] at this;rw [← this];rfl
 clear D;clear h;go_enter Tryz.func105, Tryz.ntmps105;go_upto_region 2 with fail
 first | go_region | fail
 all_goals
  go_wp2_with fail;refine bodyPost_ret (v:=.agg #[.int .i64 xp,.int .i64 xn,.int .i64 yp,.int .i64 yn,.int .i64 p0,.int .i64 q0,.int .i64 p1,.int .i64 q1,.int .i64 p2,.int .i64 q2,.int .i64 p3,.int .i64 q3]) (by simp [results, Tryz.results105,go_sem]) rfl ⟨rfl,?_⟩;exact ((((Below.refl _ _).alloc (Nat.le_refl _) _).alloc (by simp) _).alloc (by simp;omega) _).drew
end

section
open Go.RowKit
def six (xp xn yp yn:Int) (xs:List (Int × Int)):List (Int × Int):=[(xp,xn),(yp,yn),xs.getD 0 (0,0),xs.getD 1 (0,0),xs.getD 2 (0,0),xs.getD 3 (0,0)]
def cells12 (l:List (Int × Int)):Array Value:=#[.int .i64 (l.getD 0 (0,0)).1,.int .i64 (l.getD 0 (0,0)).2,.int .i64 (l.getD 1 (0,0)).1,.int .i64 (l.getD 1 (0,0)).2,.int .i64 (l.getD 2 (0,0)).1,.int .i64 (l.getD 2 (0,0)).2,.int .i64 (l.getD 3 (0,0)).1,.int .i64 (l.getD 3 (0,0)).2,.int .i64 (l.getD 4 (0,0)).1,.int .i64 (l.getD 4 (0,0)).2,.int .i64 (l.getD 5 (0,0)).1,.int .i64 (l.getD 5 (0,0)).2]
theorem partsOf_any {k f r u xp xn yp yn:Int} {ia:Option Addr} {im ic:Nat} {a b:Int} {xs:List (Int × Int)} {w:World} {lo hi:Nat} (h:RP lo hi w ia im ic xs) (z:hi≤w.heap.size) (q:im=0∨im=4) :
    Calls Tryz.prog 105 #[.agg #[.int .i64 k,.int .i64 f,.int .i64 r,.int .i64 u,.int .i64 xp,.int .i64 xn,.int .i64 yp,.int .i64 yn,.slice ia im ic,.int .i64 a,.int .i64 b]] w fun e w'=>e=.returned (.agg (cells12 (six xp xn yp yn xs)))∧Below w.heap.size w w':=by
 rcases q with rfl | rfl
 · have hx:xs=[]:=List.eq_nil_of_length_eq_zero h.len;subst hx;exact partsOf_0
 match xs,h.len with
 | [(p0,q0),(p1,q1),(p2,q2),(p3,q3)],_ =>
  obtain ⟨bb,o,rfl⟩:∃ bb o,ia=some ⟨bb,o,none⟩:=by
   rcases h.cells with h0 | ⟨bb,o,e1,_⟩
   · omega
   exact ⟨bb,o,e1⟩
  exact partsOf_4 (h.mono (Nat.zero_le _) (Nat.le_refl _)) z
end

end Go.Proofs.YtellcgmabimieaaGreatDoor
