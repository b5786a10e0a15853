/- Several texts in one: AxMem, ConTree, ConShape, ConShape2, ReadM, ConSame. -/
import Derived.Test.YtnmljalcndfjmaaGreatNG4
import Derived.Test.YtnmljalcndfjmaaGreatNG5
import Derived.Test.YtnmljalcndfjmaaGreatNG3
import Derived.RangeFuncNested
import Derived.RangeFuncBound
import Derived.RangeFuncCalls
import Derived.RangeFuncLeaves
import Derived.RangeFuncBox
import Derived.Shelf.Abstract
import Derived.Shelf.RegionOpen
import Derived.OwnWalkIn
import Derived.TacticsInMore
import Derived.LoopNIn
import Derived.LoopIn
import Derived.Laws.EntriesVeiled
import Derived.Deep.RegionWith
import Derived.Test.YtnmljalcndfjmaaGreatNG1
import Derived.Deep.DeepCutAuto
namespace Go.Proofs.YtnmljalcndfjmaaGreat

section
open Go.RowKit
structure AX where
 kind:Int
 c:CN
 d:CN
 r:List Int
 s:List Int
 a:List Int
 b:List Int
structure RdA (lo hi:Nat) (w:World) (dp:Nat) (c0 c1 c2 c3 d0 d1 d2 d3:Value) (ra:Option Addr) (rn rc:Nat) (sa:Option Addr) (sn sc:Nat) (aa:Option Addr) (an ac:Nat) (ba:Option Addr) (bn bc:Nat) (x:AX):Prop where
 c:RdC lo hi w dp (.agg #[c0,c1,c2,c3]) x.c
 d:RdC lo hi w dp (.agg #[d0,d1,d2,d3]) x.d
 r:Rd lo hi w ra rn rc x.r
 s:Rd lo hi w sa sn sc x.s
 a:Rd lo hi w aa an ac x.a
 b:Rd lo hi w ba bn bc x.b
theorem RdA.below {lo hi B:Nat} {w w':World} {dp:Nat} {c0 c1 c2 c3 d0 d1 d2 d3:Value} {ra:Option Addr} {rn rc:Nat} {sa:Option Addr} {sn sc:Nat} {aa:Option Addr} {an ac:Nat} {ba:Option Addr} {bn bc:Nat} {x:AX}
    (h:RdA lo hi w dp c0 c1 c2 c3 d0 d1 d2 d3 ra rn rc sa sn sc aa an ac ba bn bc x) (hb:Below B w w') (hB:hi≤B):RdA lo hi w' dp c0 c1 c2 c3 d0 d1 d2 d3 ra rn rc sa sn sc aa an ac ba bn bc x :=
 ⟨h.c.below hb hB,h.d.below hb hB,h.r.below hb hB,h.s.below hb hB,h.a.below hb hB,h.b.below hb hB⟩
def BoxA (t:Nat) (W:World) (p:Nat) (k:Int) (c0 c1 c2 c3 d0 d1 d2 d3:Value) (r s a b:Value):Prop:=W.heap[p]?=some (.cells #[.int .i64 k,c0,c1,c2,c3,d0,d1,d2,d3,r,s,a,b] t (0,0))
theorem BoxA.new (t:Nat) (W:World) (k:Int) (c0 c1 c2 c3 d0 d1 d2 d3 r s a b:Value):BoxA t (W.alloc (.cells #[.int .i64 k,c0,c1,c2,c3,d0,d1,d2,d3,r,s,a,b] t)) W.heap.size k c0 c1 c2 c3 d0 d1 d2 d3 r s a b:=World.alloc_heap_new W _
theorem BoxA.below {t:Nat} {W W':World} {p B:Nat} {k:Int} {c0 c1 c2 c3 d0 d1 d2 d3 r s a b:Value} (h:BoxA t W p k c0 c1 c2 c3 d0 d1 d2 d3 r s a b) (hb:Below B W W') (hB:p<B):BoxA t W' p k c0 c1 c2 c3 d0 d1 d2 d3 r s a b:=(hb.block p hB).trans h
theorem BoxA.lt {t:Nat} {W:World} {p:Nat} {k:Int} {c0 c1 c2 c3 d0 d1 d2 d3 r s a b:Value} (h:BoxA t W p k c0 c1 c2 c3 d0 d1 d2 d3 r s a b):p<W.heap.size:=(Array.getElem?_eq_some_iff.1 h).1
theorem BoxA.cells {t:Nat} {W:World} {p:Nat} {k:Int} {c0 c1 c2 c3 d0 d1 d2 d3 r s a b:Value} (h:BoxA t W p k c0 c1 c2 c3 d0 d1 d2 d3 r s a b) :
    W.cell? ⟨p,0,none⟩=some (.int .i64 k)∧W.cell? ⟨p,1,none⟩=some c0∧W.cell? ⟨p,2,none⟩=some c1∧W.cell? ⟨p,3,none⟩=some c2∧W.cell? ⟨p,4,none⟩=some c3∧W.cell? ⟨p,5,none⟩=some d0∧W.cell? ⟨p,6,none⟩=some d1∧W.cell? ⟨p,7,none⟩=some d2∧W.cell? ⟨p,8,none⟩=some d3 ∧
     W.cell? ⟨p,9,none⟩=some r∧W.cell? ⟨p,10,none⟩=some s∧W.cell? ⟨p,11,none⟩=some a∧W.cell? ⟨p,12,none⟩=some b:=by
 unfold BoxA at h;refine ⟨?_,?_,?_,?_,?_,?_,?_,?_,?_,?_,?_,?_,?_⟩ <;> simp [World.cell?,h]
def wantC (k:Int):Bool:=decide (k=0) || decide (k=1) || decide (k=2) || decide (k=4)
def wantD (k:Int):Bool:=decide (k=0) || decide (k=1) || decide (k=2)
def wantR (k:Int):Bool:=decide (k=3) || decide (k=5)
def wantS (k:Int):Bool:=decide (k=3)
def wantA (k:Int):Bool:=decide (k=4) || decide (k=5)
def wantB (k:Int):Bool:=decide (k=5)
def zeroB (c:CN):Bool:=decide (c.kind=0) && (decide (c.name.length=0) && (decide (c.role.length=0) && decide (c.kids.length=0)))
def fitC (c:CN) (wanted:Bool):Bool:=if wanted=true then conOk c else zeroB c
def fitL (zs:List Int) (wanted:Bool):Bool:=if wanted=true then lowOk zs else decide (zs.length=0)
def axOk (x:AX):Bool:=decide (0≤x.kind∧x.kind≤5) && (fitC x.c (wantC x.kind) && (fitC x.d (wantD x.kind) && (fitL x.r (wantR x.kind) && (fitL x.s (wantS x.kind) && (fitL x.a (wantA x.kind) && fitL x.b (wantB x.kind))))))
theorem ok_of_zero {c:CN} (h:zeroB c=true):conOk c=true:=by
 cases c with
 | mk k n r ks =>
  unfold zeroB at h;simp only [CN.kind,CN.name,CN.role,CN.kids,Bool.and_eq_true] at h;obtain ⟨h1,h2,h3,h4⟩:=h;have h1:=of_decide_eq_true h1;have h2:=of_decide_eq_true h2;have h3:=of_decide_eq_true h3;have h4:=of_decide_eq_true h4;have e2:=List.eq_nil_of_length_eq_zero h2;have e3:=List.eq_nil_of_length_eq_zero h3;have e4:=List.eq_nil_of_length_eq_zero h4;subst h1 e2 e3 e4;decide +kernel
end

section
open Go.RowKit Go.Shelf
attribute [local go_sem] Oper.semAt_some
set_option maxHeartbeats 1000000 in
theorem kidsOf_in (n:Nat) (v0 v1 v2 v3:Value) (w:World) :
    CallsIn Fence.wide n Tryz.prog 126 #[.agg #[v0,v1,v2,v3]] w fun e w'=>e=.returned v3∧w'=w.alloc (.cells #[v0,v1,v2,v3] 30):=by
 refine callsIn_of_wp Tryz.func126 rfl trivial ?_ rfl;simp only [Tryz.ntmps126,List.size_toArray,List.length_cons,List.length_nil,Nat.reduceAdd,Nat.reduceSub,Array.replicate_succ,Array.replicate_zero,List.push_toArray,List.append_toArray,List.nil_append,List.cons_append]
 gi_wp2
 go_ret;exact ⟨rfl,rfl⟩
set_option maxHeartbeats 1000000 in
theorem conTree_in (n:Nat) (k:Int) (na:Option Addr) (nn nc:Nat) (ra:Option Addr) (rn rc:Nat) (ka:Option Addr) (kn kc:Nat) (w:World) :
    CallsIn Fence.wide n Tryz.prog 77 #[.agg #[.int .i64 k,.slice na nn nc,.slice ra rn rc,.slice ka kn kc]] w fun e w'=>e=.returned (.agg #[.int .i64 k,.slice na nn nc,.slice ra rn rc,.slice ka kn kc,.func (.func 126) #[] #[]]) ∧
     w'=(w.alloc (.cells #[.int .i64 k,.slice na nn nc,.slice ra rn rc,.slice ka kn kc] 30)).alloc (.cells #[.int .i64 k,.slice na nn nc,.slice ra rn rc,.slice ka kn kc,.func (.func 126) #[] #[]] 114):=by
 refine callsIn_of_wp Tryz.func77 rfl trivial ?_ rfl;simp only [Tryz.ntmps77,List.size_toArray,List.length_cons,List.length_nil,Nat.reduceAdd,Nat.reduceSub,Array.replicate_succ,Array.replicate_zero,List.push_toArray,List.append_toArray,List.nil_append,List.cons_append]
 gi_wp2
 refine bodyPost_ret (v:=.agg #[.int .i64 k,.slice na nn nc,.slice ra rn rc,.slice ka kn kc,.func (.func 126) #[] #[]]) (by simp [results, Tryz.results77,go_sem]) rfl ⟨rfl,rfl⟩
set_option maxHeartbeats 1000000 in
theorem all_in (n:Nat) (k:Int) (na:Option Addr) (nn nc:Nat) (ra:Option Addr) (rn rc:Nat) (ka:Option Addr) (kn kc:Nat) (w:World) :
    CallsIn Fence.wide n Tryz.prog 78 #[.agg #[.int .i64 k,.slice na nn nc,.slice ra rn rc,.slice ka kn kc,.func (.func 126) #[] #[]]] w fun e w'=>e=.returned (.func (.func 127) #[] #[.pointer (some ⟨w.heap.size,0,none⟩)]) ∧
     w'=w.alloc (.cells #[.int .i64 k,.slice na nn nc,.slice ra rn rc,.slice ka kn kc,.func (.func 126) #[] #[]] 114):=by
 refine callsIn_of_wp Tryz.func78 rfl trivial ?_ rfl;simp only [Tryz.ntmps78,List.size_toArray,List.length_cons,List.length_nil,Nat.reduceAdd,Nat.reduceSub,Array.replicate_succ,Array.replicate_zero,List.push_toArray,List.append_toArray,List.nil_append,List.cons_append]
 gi_wp2
 go_ret;exact ⟨rfl,rfl⟩
end

section
open Go.RowKit
set_option maxHeartbeats 400000 in
theorem kidCount_any (k:Int) (w:World):Calls Tryz.prog 131 #[.int .i64 k] w fun e w'=>e=.returned (.int .i64 (kidN k))∧w'=w:=by
 go_enter Tryz.func131, Tryz.ntmps131;go_wp2
 all_goals
  go_ret;refine ⟨ri ?_,rfl⟩
  first | (simp_all [kidN];done) | (unfold kidN;simp_all;omega)
set_option maxHeartbeats 400000 in
theorem hasRole_any (k:Int) (w:World):Calls Tryz.prog 143 #[.int .i64 k] w fun e w'=>e=.returned (.bool (roleB k))∧w'=w:=by
 by_cases h:k=6
 · subst h;go_enter Tryz.func143, Tryz.ntmps143;go_wp2;go_ret;exact ⟨rfl,rfl⟩
 have h6:(k == 6)=false:=by simpa using h
 have HE:Hid (roleB k=(k == 7)):=by unfold Hid roleB;simp [h];rfl
 go_enter Tryz.func143, Tryz.ntmps143;go_wp2;go_ret;exact ⟨rb HE.out.symm,rfl⟩
set_option maxRecDepth 100000 in
set_option maxHeartbeats 1000000 in
theorem nameFits_any {d:Nat} {v:Value} {c:CN} {w:World} {lo hi:Nat} (h:RdC lo hi w d v c) (F:hi≤w.heap.size) :
    Calls Tryz.prog 129 #[v] w fun e w'=>e=.returned (.bool (nameFit c))∧Below w.heap.size w w':=by
 cases d with
 | zero=>exact h.elim
 | succ d =>
  obtain ⟨na,nn,nc,ra,rn,rc,ka,kn,kc,rfl,hn,_,_⟩:=h;have I:=hn.len;have y:Below w.heap.size w (w.alloc (.cells #[.int .i64 c.kind,.slice na nn nc,.slice ra rn rc,.slice ka kn kc] 30)):=(Below.refl _ _).alloc (Nat.le_refl _) _;have q:Hid (Below w.heap.size w (w.alloc (.cells #[.int .i64 c.kind,.slice na nn nc,.slice ra rn rc,.slice ka kn kc] 30))):=y;have HN:Hid (Rd lo hi (w.alloc (.cells #[.int .i64 c.kind,.slice na nn nc,.slice ra rn rc,.slice ka kn kc] 30)) na nn nc c.name):=hn.below y F;have A:Hid (nameFit c=if c.kind=2 then (upOk c.name && !keptB (strOfNums c.name).toList) else decide (nn=0)):=by unfold Hid nameFit;rw [I]
  obtain ⟨k,D⟩:∃ k,k=c.kind:=⟨_,rfl⟩;rw [← D] at q HN A ⊢;clear y hn D I;by_cases k2:k=2
  · subst k2;rw [if_pos rfl] at A;cases hU:upOk c.name
    · have HX:Hid (nameFit c=false):=by unfold Hid;rw [A.out,hU];rfl
      go_enter Tryz.func129, Tryz.ntmps129;go_wp2_with (first | (go_at_call 68;refine (implUpperOk_any na nn nc c.name _ HN.out).mono ?_;rintro e w' ⟨rfl,hw⟩;rw [hw,hU];clear hw));go_ret;exact ⟨rb HX.out.symm,q.out⟩
    obtain ⟨kp,E⟩:∃ kp,kp=keptB (strOfNums c.name).toList:=⟨_,rfl⟩;have HX:Hid (nameFit c=!kp):=by unfold Hid;rw [A.out,hU,E];rfl
    have J:Hid (kp=keptB (strOfNums c.name).toList):=E;clear E;go_enter Tryz.func129, Tryz.ntmps129;go_wp2_with (first | (go_at_call 68;refine (implUpperOk_any na nn nc c.name _ HN.out).mono ?_;rintro e w' ⟨rfl,hw⟩;rw [hw,hU];clear hw) | (go_at_call 142;refine (implKept_any na nn nc c.name _ HN.out).mono ?_;rintro e w' ⟨rfl,hw⟩;rw [hw,← J.out];clear hw));go_ret;exact ⟨rb HX.out.symm,q.out⟩
  rw [if_neg k2] at A;have N:(k == 2)=false:=by simpa using k2
  have HX:Hid (nameFit c=((nn:Int) == 0)):=by unfold Hid;rw [A.out];by_cases h:nn=0 <;> simp [h]
  go_enter Tryz.func129, Tryz.ntmps129;go_wp2_with fail;go_ret;exact ⟨rb (by rw [HX.out]),q.out⟩
set_option maxRecDepth 100000 in
set_option maxHeartbeats 1000000 in
theorem roleFits_any {d:Nat} {v:Value} {c:CN} {w:World} {lo hi:Nat} (h:RdC lo hi w d v c) (F:hi≤w.heap.size) :
    Calls Tryz.prog 130 #[v] w fun e w'=>e=.returned (.bool (roleFit c))∧Below w.heap.size w w':=by
 cases d with
 | zero=>exact h.elim
 | succ d =>
  obtain ⟨na,nn,nc,ra,rn,rc,ka,kn,kc,rfl,_,hr,_⟩:=h;have H:=hr.len;have y:Below w.heap.size w (w.alloc (.cells #[.int .i64 c.kind,.slice na nn nc,.slice ra rn rc,.slice ka kn kc] 30)):=(Below.refl _ _).alloc (Nat.le_refl _) _;have q:Hid (Below w.heap.size w (w.alloc (.cells #[.int .i64 c.kind,.slice na nn nc,.slice ra rn rc,.slice ka kn kc] 30))):=y;have HR:Hid (Rd lo hi (w.alloc (.cells #[.int .i64 c.kind,.slice na nn nc,.slice ra rn rc,.slice ka kn kc] 30)) ra rn rc c.role):=hr.below y F;have G:Hid (roleFit c=if roleB c.kind=true then lowOk c.role else decide (rn=0)):=by unfold Hid roleFit;rw [H]
  obtain ⟨k,D⟩:∃ k,k=c.kind:=⟨_,rfl⟩;rw [← D] at q HR G ⊢;clear y hr D H;cases hm:roleB k
  · have HX:Hid (roleFit c=((rn:Int) == 0)):=by unfold Hid;rw [G.out,hm,if_neg (by simp)];by_cases h:rn=0 <;> simp [h]
    go_enter Tryz.func130, Tryz.ntmps130;go_wp2_with (first | (go_at_call 143;refine (hasRole_any _ _).mono ?_;rintro e w' ⟨rfl,hw⟩;rw [hw,hm];clear hw));go_ret;exact ⟨rb (by rw [HX.out]),q.out⟩
  have HX:Hid (roleFit c=lowOk c.role):=by unfold Hid;rw [G.out,hm,if_pos rfl]
  go_enter Tryz.func130, Tryz.ntmps130;go_wp2_with (first | (go_at_call 143;refine (hasRole_any _ _).mono ?_;rintro e w' ⟨rfl,hw⟩;rw [hw,hm];clear hw) | (go_at_call 48;refine (implLowerOk_any ra rn rc c.role _ HR.out).mono ?_;rintro e w' ⟨rfl,hw⟩;rw [hw];clear hw));go_ret;exact ⟨rb HX.out.symm,q.out⟩
end

section
open Go.RowKit
set_option maxRecDepth 100000 in
set_option maxHeartbeats 2000000 in
theorem shapeOk_any {d:Nat} {v:Value} {c:CN} {w:World} {lo hi:Nat} (h:RdC lo hi w d v c) (F:hi≤w.heap.size) :
    Calls Tryz.prog 79 #[v] w fun e w'=>e=.returned (.bool (shapeB c))∧Below w.heap.size w w':=by
 cases d with
 | zero=>exact h.elim
 | succ d =>
  have H:Hid (RdC lo hi w (d+1) v c):=h;obtain ⟨na,nn,nc,ra,rn,rc,ka,kn,kc,rfl,_,_,hk⟩:=h;have U:Hid (c.kids.length=kn):=hk.len;have HS:Hid (shapeB c=(nameFit c && (roleFit c && decide ((kn:Int)=kidN c.kind)))):=by unfold Hid shapeB;rw [hk.len]
  obtain ⟨k,T⟩:∃ k,k=c.kind:=⟨_,rfl⟩;rw [← T] at H HS ⊢;have I:Below w.heap.size w (w.alloc (.cells #[.int .i64 k,.slice na nn nc,.slice ra rn rc,.slice ka kn kc] 30)).drew:=((Below.refl _ _).alloc (Nat.le_refl _) _).drew;have D:Hid (Below w.heap.size w (w.alloc (.cells #[.int .i64 k,.slice na nn nc,.slice ra rn rc,.slice ka kn kc] 30)).drew):=I;have N:Hid (RdC lo hi (w.alloc (.cells #[.int .i64 k,.slice na nn nc,.slice ra rn rc,.slice ka kn kc] 30)).drew (d+1) (.agg #[.int .i64 k,.slice na nn nc,.slice ra rn rc,.slice ka kn kc]) c):=H.out.below I F;have E:Hid (BoxC (w.alloc (.cells #[.int .i64 k,.slice na nn nc,.slice ra rn rc,.slice ka kn kc] 30)).drew w.heap.size (.int .i64 k) (.slice na nn nc) (.slice ra rn rc) (.slice ka kn kc)):=BoxC.new w _ _ _ _;clear hk T I;cases hN:nameFit c
  · have HE:Hid (shapeB c=false):=by unfold Hid;rw [HS.out,hN];rfl
    go_enter Tryz.func79, Tryz.ntmps79;go_wp2_with fail
    first | go_region_with (go_at_call 129;refine (nameFits_any N.out (Nat.le_trans F D.out.size)).mono ?_;rintro e w1 ⟨rfl,A⟩;rw [hN];have q:Hid (Below w.heap.size w w1):=D.out.trans (A.mono D.out.size);clear A) | fail
    all_goals
     go_wp2_with fail;go_ret;exact ⟨rb HE.out.symm,q.out⟩
  cases hR:roleFit c
  · have HE:Hid (shapeB c=false):=by unfold Hid;rw [HS.out,hN,hR];rfl
    go_enter Tryz.func79, Tryz.ntmps79;go_wp2_with fail
    first | go_region_with (first | (go_at_call 129;refine (nameFits_any N.out (Nat.le_trans F D.out.size)).mono ?_;rintro e w1 ⟨rfl,A⟩;rw [hN];have q:Hid (Below w.heap.size w w1):=D.out.trans (A.mono D.out.size);have J:Hid (RdC lo hi w1 (d+1) (.agg #[.int .i64 k,.slice na nn nc,.slice ra rn rc,.slice ka kn kc]) c):=H.out.below q.out F;have y:Hid (BoxC w1 w.heap.size (.int .i64 k) (.slice na nn nc) (.slice ra rn rc) (.slice ka kn kc)):=E.out.below A E.out.lt;obtain ⟨c0,c1,c2,c3⟩:=y.out.cells;clear A) | (go_at_call 130;refine (roleFits_any J.out (Nat.le_trans F q.out.size)).mono ?_;rintro e w2 ⟨rfl,G⟩;rw [hR];have O:Hid (Below w.heap.size w w2):=q.out.trans (G.mono q.out.size);clear G)) | fail
    all_goals
     go_wp2_with fail;go_ret;exact ⟨rb HE.out.symm,O.out⟩
  have HE:Hid (shapeB c=((kn:Int) == kidN k)):=by unfold Hid;rw [HS.out,hN,hR];rfl
  go_enter Tryz.func79, Tryz.ntmps79;go_wp2_with fail
  first | go_region_with (first | (go_at_call 129;refine (nameFits_any N.out (Nat.le_trans F D.out.size)).mono ?_;rintro e w1 ⟨rfl,A⟩;rw [hN];have q:Hid (Below w.heap.size w w1):=D.out.trans (A.mono D.out.size);have J:Hid (RdC lo hi w1 (d+1) (.agg #[.int .i64 k,.slice na nn nc,.slice ra rn rc,.slice ka kn kc]) c):=H.out.below q.out F;have y:Hid (BoxC w1 w.heap.size (.int .i64 k) (.slice na nn nc) (.slice ra rn rc) (.slice ka kn kc)):=E.out.below A E.out.lt;obtain ⟨c0,c1,c2,c3⟩:=y.out.cells;clear A) | (go_at_call 130;refine (roleFits_any J.out (Nat.le_trans F q.out.size)).mono ?_;rintro e w2 ⟨rfl,G⟩;rw [hR];have O:Hid (Below w.heap.size w w2):=q.out.trans (G.mono q.out.size);have R:Hid (BoxC w2 w.heap.size (.int .i64 k) (.slice na nn nc) (.slice ra rn rc) (.slice ka kn kc)):=y.out.below G y.out.lt;obtain ⟨e0,e1,e2,e3⟩:=R.out.cells;clear G) | (go_at_call 131;refine (kidCount_any _ _).mono ?_;rintro e w3 ⟨rfl,hw⟩;rw [hw];clear hw)) | fail
  all_goals
   go_wp2_with fail;go_ret;exact ⟨rb HE.out.symm,O.out⟩
end

section
inductive Res where
 | ok (c:CN) (j:Nat)
 | bad (at':Int)
inductive ResL where
 | ok (cs:List CN) (j:Nat)
 | bad (at':Int)
def kindW (l:List UInt8):Int :=
 if l=[84,111,112] then 0 else if l=[66,111,116] then 1 else if l=[78,111,116] then 3 else if l=[65,110,100] then 4 else if l=[79,114] then 5 else if l=[83,111,109,101] then 6 else if l=[65,108,108] then 7 else 2
theorem kindW_range (l:List UInt8):kindW l=0∨kindW l=1∨kindW l=2∨kindW l=3∨kindW l=4∨kindW l=5∨kindW l=6∨kindW l=7:=by
 unfold kindW
 split
 · simp
 split
 · simp
 split
 · simp
 split
 · simp
 split
 · simp
 split
 · simp
 split <;> simp
def isI (ts:List Tok) (k:Int) (i:Nat):Bool:=decide (i<ts.length) && decide ((ts.getD i Tok.zero).kind=k)
def hereI (ts:List Tok) (en:Int) (i:Nat):Int:=if i<ts.length then (ts.getD i Tok.zero).place else en
def wordI (ts:List Tok) (i:Nat):List Int:=(ts.getD i Tok.zero).text
def kindI (ts:List Tok) (i:Nat):Int:=kindW (strOfNums (wordI ts i)).toList
def kidsR (g:Nat→Res) (j:Nat):Nat→ResL
 | 0=>.ok [] j
 | m+1=>match kidsR g j m with
  | .bad a=>.bad a
  | .ok cs j'=>match g j' with
   | .bad a=>.bad a
   | .ok c j''=>.ok (cs++[c]) j''
def closeR (ts:List Tok) (en:Int) (k:Int) (rl:List Int):ResL→Res
 | .bad a=>.bad a
 | .ok cs j=>if isI ts 4 j=true then .ok (.mk k [] rl cs) (j+1) else .bad (hereI ts en j)
def roleI (ts:List Tok) (k:Int) (i:Nat):List Int:=if roleB k=true then wordI ts (i+2) else []
def startI (k:Int) (i:Nat):Nat:=if roleB k=true then i+3 else i+2
def conR (ts:List Tok) (en:Int):Nat→Nat→Res
 | 0,i=>.bad (hereI ts en i)
 | f+1,i =>
  if isI ts 1 i=false then .bad (hereI ts en i)
  else if kindI ts i=2 then (if keptB (strOfNums (wordI ts i)).toList=true then .bad (hereI ts en i) else .ok (.mk 2 (wordI ts i) [] []) (i+1))
  else if kidN (kindI ts i)=0 then .ok (.mk (kindI ts i) [] [] []) (i+1)
  else if isI ts 3 (i+1)=false then .bad (hereI ts en (i+1))
  else if roleB (kindI ts i)=true∧isI ts 2 (i+2)=false then .bad (hereI ts en (i+2))
  else closeR ts en (kindI ts i) (roleI ts (kindI ts i) i) (kidsR (conR ts en f) (startI (kindI ts i) i) (kidN (kindI ts i)).toNat)
def wholeR (zs:List Int):CN × Int :=
 if (toks zs).2≠-1 then (CN.zero,(toks zs).2)
 else match conR (toks zs).1 (zs.length:Nat) 6 0 with
  | .bad a=>(CN.zero,a)
  | .ok c j=>if j<(toks zs).1.length then (CN.zero,hereI (toks zs).1 (zs.length:Nat) j) else (c,-1)
def conRead (zs:List Int):CN × Int:=if (wholeR zs).2=-1∧conOk (wholeR zs).1=false then (CN.zero,(zs.length:Nat)) else wholeR zs
theorem wholeR_ok {zs:List Int} {ts:List Tok} {n:Nat} {c:CN} {j:Nat} (ht:toks zs=(ts,-1)) (hl:zs.length=n) (h:conR ts (n:Nat) 6 0=.ok c j) (hj:¬ j<ts.length):wholeR zs=(c,-1):=by
 unfold wholeR;rw [ht,hl];rw [if_neg (by simp)];simp only;rw [h];simp only;rw [if_neg hj]
theorem toksFrom_short (zs:List Int):∀ (f i:Nat) (q:List Tok),(∀ t∈q,t.text.length≤6)→∀ t∈(toksFrom zs f i q).1,t.text.length≤6
 | 0,_,q,h=>by simpa [toksFrom] using h
 | f+1,i,q,h=>by
  rw [toksFrom]
  split
  · split
    · exact toksFrom_short zs f (i+1) q h
    split
    · intro t ht;simp at ht
    refine toksFrom_short zs f (pend zs i) (q++[tokAt zs i]) (fun t ht=>?_);rcases List.mem_append.1 ht with ht | ht
    · exact h t ht
    simp only [List.mem_singleton] at ht;subst ht
    have hb:∀ p:List Int,longB p.length=true→p.length≤6:=fun p hp=>by
     simp only [longB,Bool.and_eq_true,decide_eq_true_eq] at hp;exact hp.2
    simp only [tokAt]
    split
    · rename_i hk
      unfold kindOf at hk
      split at hk
      · rename_i hu
        simp only [upOk,Bool.and_eq_true] at hu;exact hb _ hu.1
      split at hk
      · rename_i hu
        simp only [lowOk,Bool.and_eq_true] at hu;exact hb _ hu.1
      split at hk
      · simp at hk
      split at hk <;> simp at hk
    simp
  exact h
theorem toks_short (zs:List Int) (i:Nat):(wordI (toks zs).1 i).length≤6:=by
 have h:∀ t∈(toks zs).1,t.text.length≤6:=by
  unfold toks
  split
  · intro t ht;simp at ht
  exact toksFrom_short zs _ _ _ (fun t ht=>by simp at ht)
 unfold wordI;by_cases hi:i<(toks zs).1.length
 · have e:(toks zs).1.getD i Tok.zero=(toks zs).1[i]:=by simp [List.getD,hi]
   rw [e];exact h _ (List.getElem_mem hi)
 have e:(toks zs).1.getD i Tok.zero=Tok.zero:=by simp [List.getD,List.getElem?_eq_none (Nat.le_of_not_lt hi)]
 rw [e];simp [Tok.zero]
theorem isI_lt {ts:List Tok} {k:Int} {i:Nat} (h:isI ts k i=true):i<ts.length:=by
 simp only [isI,Bool.and_eq_true,decide_eq_true_eq] at h;exact h.1
theorem isI_kind {ts:List Tok} {k:Int} {i:Nat} (h:isI ts k i=true):(ts.getD i Tok.zero).kind=k:=by
 simp only [isI,Bool.and_eq_true,decide_eq_true_eq] at h;exact h.2
theorem conR_end (ts:List Tok) (en:Int):∀ (f i:Nat) (c:CN) (j:Nat),conR ts en f i=.ok c j→i<j∧j≤ts.length:=by
 intro f
 induction f with
 | zero=>intro i c j h;simp [conR] at h
 | succ f ih =>
  intro i c j h
  have hk:∀ (s m:Nat) (cs:List CN) (j':Nat),kidsR (conR ts en f) s m=.ok cs j'→s≤ts.length→s≤j'∧j'≤ts.length:=by
   intro s m
   induction m with
   | zero=>intro cs j' h hs;simp only [kidsR,ResL.ok.injEq] at h;omega
   | succ m ihm =>
    intro cs j' h hs;simp only [kidsR] at h;cases h1:kidsR (conR ts en f) s m with
    | bad a=>rw [h1] at h;simp at h
    | ok cs1 j1 =>
     rw [h1] at h;simp only at h;cases h2:conR ts en f j1 with
     | bad a=>rw [h2] at h;simp at h
     | ok c2 j2 =>
      rw [h2] at h;simp only [ResL.ok.injEq] at h;have:=ihm cs1 j1 h1 hs;have:=ih j1 c2 j2 h2;omega
  simp only [conR] at h
  split at h
  · simp at h
  rename_i h1
  have l1:i<ts.length:=isI_lt (k:=1) (by simpa using h1)
  split at h
  · split at h
    · simp at h
    simp only [Res.ok.injEq] at h;omega
  split at h
  · simp only [Res.ok.injEq] at h;omega
  split at h
  · simp at h
  rename_i h3
  have l3:i+1<ts.length:=isI_lt (k:=3) (by simpa using h3)
  split at h
  · simp at h
  rename_i h4
  have hs:i+2≤startI (kindI ts i) i∧startI (kindI ts i) i≤ts.length:=by
   unfold startI
   split
   · rename_i hr
     have:isI ts 2 (i+2)=true:=by
      cases hh:isI ts 2 (i+2)
      · exact absurd ⟨hr,hh⟩ h4
      rfl
     have:=isI_lt this;omega
   omega
  cases h5:kidsR (conR ts en f) (startI (kindI ts i) i) (kidN (kindI ts i)).toNat with
  | bad a=>rw [h5] at h;simp [closeR] at h
  | ok cs1 j1 =>
   rw [h5] at h;simp only [closeR] at h
   split at h
   · rename_i h6
     have:=isI_lt h6;have:=hk _ _ _ _ h5 hs.2;simp only [Res.ok.injEq] at h;omega
   simp at h
end

section
open Go.RowKit
theorem str_inj {xs ys:List Int} (hx:∀ i,0≤xs.getD i 0∧xs.getD i 0≤255) (hy:∀ i,0≤ys.getD i 0∧ys.getD i 0≤255):((strOfNums xs).toList == (strOfNums ys).toList)=decide (xs=ys):=by
 have e:∀ zs:List Int,(strOfNums zs).toList=zs.map (fun n=>UInt8.ofNat n.toNat):=fun zs=>by rw [ByteArray.toList_eq];rfl
 rw [e,e];by_cases h:xs=ys
 · subst h;simp
 rw [decide_eq_false h];cases hb:(xs.map (fun n:Int=>UInt8.ofNat n.toNat) == ys.map (fun n:Int=>UInt8.ofNat n.toNat))
 · rfl
 refine absurd ?_ h;have q:=eq_of_beq hb;have hl:xs.length=ys.length:=by have:=congrArg List.length q;simpa using this
 refine List.ext_getElem hl (fun i h1 h2=>?_);have hi:=congrArg (fun l=>l[i]?) q;simp only [List.getElem?_map,List.getElem?_eq_getElem h1,List.getElem?_eq_getElem h2,Option.map_some,Option.some.injEq] at hi;have a1:=hx i;have a2:=hy i;simp only [List.getD,List.getElem?_eq_getElem h1,List.getElem?_eq_getElem h2,Option.getD_some] at a1 a2;have y:=congrArg UInt8.toNat hi;simp only [UInt8.toNat_ofNat'] at y;omega
end

end Go.Proofs.YtnmljalcndfjmaaGreat
