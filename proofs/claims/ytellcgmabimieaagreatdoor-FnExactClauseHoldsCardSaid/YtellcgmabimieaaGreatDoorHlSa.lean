/- spec.l6holds: does a clause hold? A contract for every clause that may be. -/
import Derived.Test.YtellcgmabimieaaGreatDoorNG24
import Derived.Test.YtellcgmabimieaaGreatDoorHlS3
import Derived.Test.YtellcgmabimieaaGreatDoorHlS4
import Derived.Test.YtellcgmabimieaaGreatDoorNG9
namespace Go.Proofs.YtellcgmabimieaaGreatDoor
open Go.RowKit
theorem parts_ok {k f r u xp xn yp yn a b:Int} {xs:List (Int × Int)} (h:clauseB k f r u xp xn yp yn xs a b=true):0≤r∧0≤u∧partB xp xn=true∧partB yp yn=true:=by
 have hk:0≤k∧k≤6:=by
  unfold clauseB at h;rw [Bool.and_eq_true] at h;exact of_decide_eq_true h.1
 have hn:∀ p n:Int,noneB p n=true→partB p n=true:=fun p n q=>by
  rw [noneB_iff] at q;rw [partB_iff];omega
 rcases (by omega:k=0∨k=1∨k=2∨k=3∨k=4∨k=5∨k=6) with rfl | rfl | rfl | rfl | rfl | rfl | rfl
 · obtain ⟨_,q1,q2,_,_,q3,q4,_⟩:=clause_0.1 h;exact ⟨by omega,by omega,q3,hn _ _ q4⟩
 · obtain ⟨_,q1,q2,_,_,q3,q4,_⟩:=clause_1.1 h;exact ⟨by omega,by omega,q3,q4⟩
 · obtain ⟨_,q1,q2,_,_,q3,q4,_⟩:=clause_2.1 h;exact ⟨by omega,by omega,q3,hn _ _ q4⟩
 · obtain ⟨_,q1,q2,_,_,q3,q4,_⟩:=clause_3.1 h;exact ⟨by omega,by omega,q3,q4⟩
 · obtain ⟨_,q1,q2,_,_,q3,q4,_⟩:=clause_4.1 h;exact ⟨by omega,by omega,hn _ _ q3,hn _ _ q4⟩
 · obtain ⟨_,q1,q2,_,_,q3,q4,_⟩:=clause_5.1 h;exact ⟨by omega,by omega,hn _ _ q3,hn _ _ q4⟩
 obtain ⟨_,q1,q2,_,_,q3,q4,_⟩:=clause_6.1 h;exact ⟨by omega,by omega,hn _ _ q3,hn _ _ q4⟩
theorem l6holds_any {na:Option Addr} {nn nc:Nat} {sa:Option Addr} {sn sc:Nat} {ra:Option Addr} {rn rc:Nat} {la:Option Addr} {ln lc:Nat} {ia:Option Addr} {im ic:Nat} {ta:Option Addr} {tn tc:Nat} {x:WD} {d:Nat} {xa:Option Addr} {xn xc:Nat} {oa:Option Addr} {on oc:Nat} {ua:Option Addr} {un uc:Nat} {ka:Option Addr} {kn kc:Nat} {s:CS} {k f r u p q p' q':Int} {ya:Option Addr} {yn yc:Nat} {a b:Int} {xs:List (Int × Int)} {fa:Option Addr} {fn fc:Nat} {ls:List (List Bool)} {w:World} {lo hi lo' hi' O N L:Nat} (F:worldB x=true) (G:x.n=(L:Int)) (hL:L≤128) (h:RdW lo hi w na nn nc sa sn sc ra rn rc la ln lc ia im ic ta tn tc x) (hs:RdS lo' hi' w d xa xn xc oa on oc ua un uc ka kn kc s) (hf:RFF O N w fa fn fc ls) (J:hi≤w.heap.size) (z:hi'≤w.heap.size) (o:N≤w.heap.size) (I:∀ i,i<fn→(ls.getD i []).length=L) (M:fn≤24) (D:fitK fn on ⟨k,f,r,u,p,q,p',q',xs,a,b⟩=true) :
    Calls Tryz.prog 28 #[.agg #[.int .i64 (L:Nat),.slice na nn nc,.slice sa sn sc,.slice ra rn rc,.slice la ln lc,.slice ia im ic,.slice ta tn tc],.agg #[.slice xa xn xc,.slice oa on oc,.slice ua un uc,.slice ka kn kc],.agg #[.int .i64 k,.int .i64 f,.int .i64 r,.int .i64 u,.int .i64 p,.int .i64 q,.int .i64 p',.int .i64 q',.slice ya yn yc,.int .i64 a,.int .i64 b],.slice fa fn fc] w fun e w'=>e=.returned (.bool (holdsK x s.roles ls fn L k r u p.toNat q.toNat p'.toNat q'.toNat))∧Below w.heap.size w w':=by
 unfold fitK okK nameB at D;simp only [Bool.and_eq_true] at D;obtain ⟨hc,_,_,_,E⟩:=D;obtain ⟨T,R,hx,hy⟩:=parts_ok hc;rw [partB_iff] at hx hy;obtain ⟨r,rfl⟩:=Int.eq_ofNat_of_zero_le T;obtain ⟨u,rfl⟩:=Int.eq_ofNat_of_zero_le R;obtain ⟨p,rfl⟩:=Int.eq_ofNat_of_zero_le hx.1.1;obtain ⟨q,rfl⟩:=Int.eq_ofNat_of_zero_le hx.2.1;obtain ⟨p',rfl⟩:=Int.eq_ofNat_of_zero_le hy.1.1;obtain ⟨q',rfl⟩:=Int.eq_ofNat_of_zero_le hy.2.1;simp only [Int.toNat_natCast];by_cases k0:k=0
 · subst k0;exact l6holds_0 (xs:=xs) F G hL h hs hf J z o I M (by omega) (by omega) (by omega) (by omega)
 by_cases k3:k=3
 · subst k3;have h1:r<on:=by unfold roleOkB needR at E;simp at E;omega
   exact l6holds_3 (xs:=xs) F G hL h hs hf J z o I M (by omega) (by omega) (by omega) (by omega) h1
 by_cases k4:k=4
 · subst k4;have h1:r<on∧u<on:=by unfold roleOkB needR at E;simp at E;omega
   exact l6holds_4 (xs:=xs) F G hL h hs hf J z o I M (by omega) (by omega) (by omega) (by omega) h1.1 h1.2
 exact l6holds_x (xs:=xs) ⟨k0,k3,k4⟩ F G hL h hs hf J z o I M (by omega) (by omega) (by omega) (by omega)
end Go.Proofs.YtellcgmabimieaaGreatDoor
