/- Several texts in one: WdScene0, ClsI1. -/
import Derived.Test.YtellcgmabimieaaGreatDoorNG18
import Derived.Test.YtellcgmabimieaaGreatDoorNG19
import Derived.Test.YtellcgmabimieaaGreatDoorWdLaw3
import Derived.Deep.RegionWith
import Derived.Test.YtellcgmabimieaaGreatDoorClsS3
import Derived.Test.YtellcgmabimieaaGreatDoorNG12
import Derived.Test.YtellcgmabimieaaGreatDoorConOkImpl
namespace Go.Proofs.YtellcgmabimieaaGreatDoor

section
open Go.RowKit
def whichV (b:Bool) (u v:Value):Value:=if b=true then u else v
def BoxSc (W:World) (p:Nat) (v0 v1 v2 v3 v4 v5 v6 v7 v8 v9:Value):Prop:=W.heap[p]?=some (.cells #[v0,v1,v2,v3,v4,v5,v6,v7,v8,v9] 80 (0,0))
theorem BoxSc.new (W:World) (v0 v1 v2 v3 v4 v5 v6 v7 v8 v9:Value):BoxSc (W.alloc (.cells #[v0,v1,v2,v3,v4,v5,v6,v7,v8,v9] 80)) W.heap.size v0 v1 v2 v3 v4 v5 v6 v7 v8 v9:=World.alloc_heap_new W _
theorem BoxSc.below {W W':World} {p B:Nat} {v0 v1 v2 v3 v4 v5 v6 v7 v8 v9:Value} (h:BoxSc W p v0 v1 v2 v3 v4 v5 v6 v7 v8 v9) (hb:Below B W W') (hB:p<B):BoxSc W' p v0 v1 v2 v3 v4 v5 v6 v7 v8 v9:=(hb.block p hB).trans h
theorem BoxSc.lt {W:World} {p:Nat} {v0 v1 v2 v3 v4 v5 v6 v7 v8 v9:Value} (h:BoxSc W p v0 v1 v2 v3 v4 v5 v6 v7 v8 v9):p<W.heap.size:=(Array.getElem?_eq_some_iff.1 h).1
theorem BoxSc.cells {W:World} {p:Nat} {v0 v1 v2 v3 v4 v5 v6 v7 v8 v9:Value} (h:BoxSc W p v0 v1 v2 v3 v4 v5 v6 v7 v8 v9):W.cell? ⟨p,0,none⟩=some v0∧W.cell? ⟨p,1,none⟩=some v1∧W.cell? ⟨p,2,none⟩=some v2∧W.cell? ⟨p,3,none⟩=some v3∧W.cell? ⟨p,4,none⟩=some v4∧W.cell? ⟨p,5,none⟩=some v5∧W.cell? ⟨p,6,none⟩=some v6∧W.cell? ⟨p,7,none⟩=some v7∧W.cell? ⟨p,8,none⟩=some v8∧W.cell? ⟨p,9,none⟩=some v9:=by
 unfold BoxSc at h;refine ⟨?_,?_,?_,?_,?_,?_,?_,?_,?_,?_⟩ <;> simp [World.cell?,h]
theorem BoxSc.frz {W:World} {p:Nat} {v0 v1 v2 v3 v4 v5 v6 v7 v8 v9:Value} (h:BoxSc W p v0 v1 v2 v3 v4 v5 v6 v7 v8 v9) (o:Nat):W.frozen? ⟨p,o,none⟩=false:=by
 unfold BoxSc at h;simp [World.frozen?,h]
theorem BoxSc.at {W:World} {p:Nat} {v0 v1 v2 v3 v4 v5 v6 v7 v8 v9:Value} (h:BoxSc W p v0 v1 v2 v3 v4 v5 v6 v7 v8 v9) (i:Nat) (v:Value):(W.setCell ⟨p,i,none⟩ v).heap[p]?=some (.cells (#[v0,v1,v2,v3,v4,v5,v6,v7,v8,v9].setIfInBounds i v) 80 (0,0)):=heap_setCell_same W p i _ _ v h
def set10 (W:World) (p:Nat) (u0 u1 u2 u3 u4 u5 u6 u7 u8 u9:Value):World:=(((((((((W.setCell ⟨p,0,none⟩ u0).setCell ⟨p,1,none⟩ u1).setCell ⟨p,2,none⟩ u2).setCell ⟨p,3,none⟩ u3).setCell ⟨p,4,none⟩ u4).setCell ⟨p,5,none⟩ u5).setCell ⟨p,6,none⟩ u6).setCell ⟨p,7,none⟩ u7).setCell ⟨p,8,none⟩ u8).setCell ⟨p,9,none⟩ u9
theorem below_set10 {B:Nat} {w W:World} (h:Below B w W) {p:Nat} (hp:B≤p) (u0 u1 u2 u3 u4 u5 u6 u7 u8 u9:Value):Below B w (set10 W p u0 u1 u2 u3 u4 u5 u6 u7 u8 u9):=by
 unfold set10;exact (((((((((h.setCell (p:=⟨p,0,none⟩) hp _).setCell (p:=⟨p,1,none⟩) hp _).setCell (p:=⟨p,2,none⟩) hp _).setCell (p:=⟨p,3,none⟩) hp _).setCell (p:=⟨p,4,none⟩) hp _).setCell (p:=⟨p,5,none⟩) hp _).setCell (p:=⟨p,6,none⟩) hp _).setCell (p:=⟨p,7,none⟩) hp _).setCell (p:=⟨p,8,none⟩) hp _).setCell (p:=⟨p,9,none⟩) hp _
theorem BoxSc.set10 {W:World} {p:Nat} {v0 v1 v2 v3 v4 v5 v6 v7 v8 v9:Value} (h:BoxSc W p v0 v1 v2 v3 v4 v5 v6 v7 v8 v9) (u0 u1 u2 u3 u4 u5 u6 u7 u8 u9:Value):BoxSc (set10 W p u0 u1 u2 u3 u4 u5 u6 u7 u8 u9) p u0 u1 u2 u3 u4 u5 u6 u7 u8 u9:=by
 unfold Go.Proofs.YtellcgmabimieaaGreatDoor.set10;have h0:BoxSc _ p u0 v1 v2 v3 v4 v5 v6 v7 v8 v9:=h.at 0 u0;have h1:BoxSc _ p u0 u1 v2 v3 v4 v5 v6 v7 v8 v9:=h0.at 1 u1;have h2:BoxSc _ p u0 u1 u2 v3 v4 v5 v6 v7 v8 v9:=h1.at 2 u2;have h3:BoxSc _ p u0 u1 u2 u3 v4 v5 v6 v7 v8 v9:=h2.at 3 u3;have h4:BoxSc _ p u0 u1 u2 u3 u4 v5 v6 v7 v8 v9:=h3.at 4 u4;have h5:BoxSc _ p u0 u1 u2 u3 u4 u5 v6 v7 v8 v9:=h4.at 5 u5;have h6:BoxSc _ p u0 u1 u2 u3 u4 u5 u6 v7 v8 v9:=h5.at 6 u6;have h7:BoxSc _ p u0 u1 u2 u3 u4 u5 u6 u7 v8 v9:=h6.at 7 u7;have h8:BoxSc _ p u0 u1 u2 u3 u4 u5 u6 u7 u8 v9:=h7.at 8 u8;exact h8.at 9 u9
set_option maxRecDepth 100000 in
set_option maxHeartbeats 2000000 in
theorem sceneOf_any {na:Option Addr} {nn nc:Nat} {sa:Option Addr} {sn sc:Nat} {ra:Option Addr} {rn rc:Nat} {la:Option Addr} {ln lc:Nat} {ia:Option Addr} {im ic:Nat} {ta:Option Addr} {tn tc:Nat} {x:WD} {w:World} {lo hi:Nat} {nx:Int} (h:RdW lo hi w na nn nc sa sn sc ra rn rc la ln lc ia im ic ta tn tc x) (hn:x.n=nx) (N:hi≤w.heap.size) :
    Calls Tryz.prog 36 #[.agg #[.int .i64 nx,.slice na nn nc,.slice sa sn sc,.slice ra rn rc,.slice la ln lc,.slice ia im ic,.slice ta tn tc]] w fun e w'=>e=.returned (whichV (worldB x) (.tuple #[.agg #[.int .i64 nx,.slice ia im ic,.slice ta tn tc,.int .i64 nx,.slice na nn nc,.slice sa sn sc,.slice ra rn rc,.slice la ln lc,.slice ia im ic,.slice ta tn tc],.bool true]) (.tuple #[.agg #[.int .i64 0,.slice none 0 0,.slice none 0 0,.int .i64 0,.slice none 0 0,.slice none 0 0,.slice none 0 0,.slice none 0 0,.slice none 0 0,.slice none 0 0],.bool false]))∧Below w.heap.size w w':=by
 obtain ⟨W1,A⟩:∃ W1,W1=(w.alloc (.cells #[.int .i64 nx,.slice na nn nc,.slice sa sn sc,.slice ra rn rc,.slice la ln lc,.slice ia im ic,.slice ta tn tc] 41)).alloc (.cells #[.int .i64 0,.slice none 0 0,.slice none 0 0,.int .i64 0,.slice none 0 0,.slice none 0 0,.slice none 0 0,.slice none 0 0,.slice none 0 0,.slice none 0 0] 80):=⟨_,rfl⟩;have a7:Hid (W1=(w.alloc (.cells #[.int .i64 nx,.slice na nn nc,.slice sa sn sc,.slice ra rn rc,.slice la ln lc,.slice ia im ic,.slice ta tn tc] 41)).alloc (.cells #[.int .i64 0,.slice none 0 0,.slice none 0 0,.int .i64 0,.slice none 0 0,.slice none 0 0,.slice none 0 0,.slice none 0 0,.slice none 0 0,.slice none 0 0] 80)):=A;have a9:W1.heap.size=w.heap.size+2:=by rw [A];simp
 have D:Below w.heap.size w W1:=by rw [A];exact ((Below.refl _ _).alloc (Nat.le_refl _) _).alloc (by simp) _
 have I:BoxW 41 W1 w.heap.size nx (.slice na nn nc) (.slice sa sn sc) (.slice ra rn rc) (.slice la ln lc) (.slice ia im ic) (.slice ta tn tc):=by rw [A];exact (BoxW.new _ w _ _ _ _ _ _ _).below ((Below.refl _ _).alloc (Nat.le_refl _) _) (by simp)
 have M:BoxSc W1 (w.heap.size+1) (.int .i64 0) (.slice none 0 0) (.slice none 0 0) (.int .i64 0) (.slice none 0 0) (.slice none 0 0) (.slice none 0 0) (.slice none 0 0) (.slice none 0 0) (.slice none 0 0):=by
  rw [A];have:=BoxSc.new (w.alloc (.cells #[.int .i64 nx,.slice na nn nc,.slice sa sn sc,.slice ra rn rc,.slice la ln lc,.slice ia im ic,.slice ta tn tc] 41)) (.int .i64 0) (.slice none 0 0) (.slice none 0 0) (.int .i64 0) (.slice none 0 0) (.slice none 0 0) (.slice none 0 0) (.slice none 0 0) (.slice none 0 0) (.slice none 0 0)
  rwa [World.size_alloc] at this
 have T:Hid (∀ W,Below W1.heap.size W1 W→BoxW 41 W w.heap.size nx (.slice na nn nc) (.slice sa sn sc) (.slice ra rn rc) (.slice la ln lc) (.slice ia im ic) (.slice ta tn tc)):=fun W hW=>I.below hW (by omega)
 have O:Hid (∀ W,Below W1.heap.size W1 W→BoxSc W (w.heap.size+1) (.int .i64 0) (.slice none 0 0) (.slice none 0 0) (.int .i64 0) (.slice none 0 0) (.slice none 0 0) (.slice none 0 0) (.slice none 0 0) (.slice none 0 0) (.slice none 0 0)):=fun W hW=>M.below hW (by omega)
 have HR:Hid (RdW lo hi W1 na nn nc sa sn sc ra rn rc la ln lc ia im ic ta tn tc x):=h.below D N;have a8:Hid (hi≤W1.heap.size):=Nat.le_trans N D.size;have R:Hid (∀ W,Below W1.heap.size W1 W→Below w.heap.size w W):=fun W hW=>D.trans (hW.mono D.size)
 have HN:Hid (x.n=nx):=hn;obtain ⟨z0,z1,z2,z3,z4,z5,z6⟩:=I.cells;clear h D A I M hn;go_enter Tryz.func36, Tryz.ntmps36;go_upto_region 1 with fail;rw [← a7.out];go_wp2_with fail;refine (implWorldOk_any HR.out HN.out a8.out).mono ?_;rintro e wA ⟨rfl,hA⟩;have G:Hid (Below W1.heap.size W1 wA):=hA;clear hA z0 z1 z2 z3 z4 z5 z6;cases hok:worldB x
 · have q:=O.out _ G.out;obtain ⟨m0,m1,m2,m3,m4,m5,m6,m7,m8,m9⟩:=q.cells;have a6:=q.frz 0;have a5:=q.frz 1;have a4:=q.frz 2;have a3:=q.frz 3;have a2:=q.frz 4;have a1:=q.frz 5;have a0:=q.frz 6;have Z:=q.frz 7;have Y:=q.frz 8;have U:=q.frz 9;have HP:Hid (Below w.heap.size w (set10 wA (w.heap.size+1) (.int .i64 0) (.slice none 0 0) (.slice none 0 0) (.int .i64 0) (.slice none 0 0) (.slice none 0 0) (.slice none 0 0) (.slice none 0 0) (.slice none 0 0) (.slice none 0 0))):=below_set10 (R.out _ G.out) (by omega) _ _ _ _ _ _ _ _ _ _;have E:Hid _:=(q.set10 (.int .i64 0) (.slice none 0 0) (.slice none 0 0) (.int .i64 0) (.slice none 0 0) (.slice none 0 0) (.slice none 0 0) (.slice none 0 0) (.slice none 0 0) (.slice none 0 0)).cells;simp only [set10] at E HP;have z:∀ V:World,(Instr.build 80 #[]).run Tryz.prog V=.ok (.agg #[.int .i64 0,.slice none 0 0,.slice none 0 0,.int .i64 0,.slice none 0 0,.slice none 0 0,.slice none 0 0,.slice none 0 0,.slice none 0 0,.slice none 0 0]) V:=fun V=>run_build V _ _ _ (by kernel_rfl)
   clear q;go_wp2_with fail;clear m0 m1 m2 m3 m4 m5 m6 m7 m8 m9 z;obtain ⟨s0,s1,s2,s3,s4,s5,s6,s7,s8,s9⟩:=E.out;refine bodyPost_ret (v:=.tuple #[.agg #[.int .i64 0,.slice none 0 0,.slice none 0 0,.int .i64 0,.slice none 0 0,.slice none 0 0,.slice none 0 0,.slice none 0 0,.slice none 0 0,.slice none 0 0],.bool false]) (by simp [results, Tryz.results36,go_sem,s0,s1,s2,s3,s4,s5,s6,s7,s8,s9]) rfl ?_;exact ⟨by rw [hok];rfl,HP.out⟩
 have F:Hid (Below W1.heap.size W1 wA.drew):=G.out.drew;obtain ⟨z0,z1,z2,z3,z4,z5,z6⟩:=(T.out _ G.out).cells;have z:∀ V:World,(Instr.build 80 #[(0,.agg #[.int .i64 nx,.slice ia im ic,.slice ta tn tc]),(1,.agg #[.int .i64 nx,.slice na nn nc,.slice sa sn sc,.slice ra rn rc,.slice la ln lc,.slice ia im ic,.slice ta tn tc])]).run Tryz.prog V=.ok (.agg #[.int .i64 nx,.slice ia im ic,.slice ta tn tc,.int .i64 nx,.slice na nn nc,.slice sa sn sc,.slice ra rn rc,.slice la ln lc,.slice ia im ic,.slice ta tn tc]) V:=fun V=>run_build V _ _ _ (by kernel_rfl)
 go_upto_region 3 with fail
 first | go_region_with (go_at_call 66;refine (peopleOf_any wA.drew).mono ?_;rintro e wP ⟨rfl,hP⟩;have L:Hid (Below W1.heap.size W1 wP):=F.out.trans (hP.mono F.out.size);clear hP z0 z1 z2 z3 z4 z5 z6;obtain ⟨z0,z1,z2,z3,z4,z5,z6⟩:=(T.out _ L.out).cells;have q:=O.out _ L.out;obtain ⟨m0,m1,m2,m3,m4,m5,m6,m7,m8,m9⟩:=q.cells;have a6:=q.frz 0;have a5:=q.frz 1;have a4:=q.frz 2;have a3:=q.frz 3;have a2:=q.frz 4;have a1:=q.frz 5;have a0:=q.frz 6;have Z:=q.frz 7;have Y:=q.frz 8;have U:=q.frz 9;have HP:Hid (Below w.heap.size w (set10 wP (w.heap.size+1) (.int .i64 nx) (.slice ia im ic) (.slice ta tn tc) (.int .i64 nx) (.slice na nn nc) (.slice sa sn sc) (.slice ra rn rc) (.slice la ln lc) (.slice ia im ic) (.slice ta tn tc))):=below_set10 (R.out _ L.out) (by omega) _ _ _ _ _ _ _ _ _ _;obtain ⟨Uz,J⟩:∃ Uz,Uz=set10 wP (w.heap.size+1) (.int .i64 nx) (.slice ia im ic) (.slice ta tn tc) (.int .i64 nx) (.slice na nn nc) (.slice sa sn sc) (.slice ra rn rc) (.slice la ln lc) (.slice ia im ic) (.slice ta tn tc):=⟨_,rfl⟩;have HU:Hid (Uz=set10 wP (w.heap.size+1) (.int .i64 nx) (.slice ia im ic) (.slice ta tn tc) (.int .i64 nx) (.slice na nn nc) (.slice sa sn sc) (.slice ra rn rc) (.slice la ln lc) (.slice ia im ic) (.slice ta tn tc)):=J;have E:Hid _:=(q.set10 (.int .i64 nx) (.slice ia im ic) (.slice ta tn tc) (.int .i64 nx) (.slice na nn nc) (.slice sa sn sc) (.slice ra rn rc) (.slice la ln lc) (.slice ia im ic) (.slice ta tn tc)).cells;rw [← J] at E HP;simp only [set10] at HU;clear q J) | fail
 all_goals
  rw [← HU.out];clear m0 m1 m2 m3 m4 m5 m6 m7 m8 m9 z z0 z1 z2 z3 z4 z5 z6;go_wp2_with fail;obtain ⟨s0,s1,s2,s3,s4,s5,s6,s7,s8,s9⟩:=E.out;refine bodyPost_ret (v:=.tuple #[.agg #[.int .i64 nx,.slice ia im ic,.slice ta tn tc,.int .i64 nx,.slice na nn nc,.slice sa sn sc,.slice ra rn rc,.slice la ln lc,.slice ia im ic,.slice ta tn tc],.bool true]) (by simp [results, Tryz.results36,go_sem,s0,s1,s2,s3,s4,s5,s6,s7,s8,s9]) rfl ?_;exact ⟨by rw [hok];rfl,HP.out⟩
end

section
open Go.RowKit
theorem sameC_refl (c:CN):sameC c c=true:=(sameC_iff c c).2 rfl
theorem first_alike (l:List CN) (i:Nat):∃ m,m≤i∧noneC l (l.getD i CN.zero) m∧sameC (l.getD m CN.zero) (l.getD i CN.zero)=true:=by
 have a7:∀ j,j≤i→noneC l (l.getD i CN.zero) j∨∃ m,m<j∧noneC l (l.getD i CN.zero) m∧sameC (l.getD m CN.zero) (l.getD i CN.zero)=true:=by
  intro j
  induction j with
  | zero=>intro _;exact .inl (noneC_zero _ _)
  | succ j ih =>
   intro hj;rcases ih (by omega) with h | ⟨m,h1,h2,h3⟩
   · cases hs:sameC (l.getD j CN.zero) (l.getD i CN.zero) with
     | true=>exact .inr ⟨j,by omega,h,hs⟩
     | false=>exact .inl (noneC_succ h hs)
   exact .inr ⟨m,by omega,h2,h3⟩
 rcases a7 i (Nat.le_refl _) with h | ⟨m,h1,h2,h3⟩
 · exact ⟨i,Nat.le_refl _,h,sameC_refl _⟩
 exact ⟨m,by omega,h2,h3⟩
theorem place_self {l:List CN} {i:Nat} (hi:i<l.length):(placeC l (l.getD i CN.zero)=i) ↔ ∀ m,m<i→sameC (l.getD m CN.zero) (l.getD i CN.zero)=false:=by
 obtain ⟨m,h1,h2,h3⟩:=first_alike l i;have hp:=placeC_some (by omega:m<l.length) h3 h2;constructor
 · intro e;have:m=i:=by omega
   subst this;exact h2
 intro h;by_cases e:m=i
 · subst e;exact hp
 have:=h m (by omega);rw [h3] at this;cases this
set_option maxRecDepth 100000 in
set_option maxHeartbeats 1000000 in
theorem badC_any {d lo hi:Nat} {v:Value} {c:CN} {w:World} (h:RdC lo hi w d v c) (z:hi≤w.heap.size) (u:c.bulk≤1048576) :
    Calls Tryz.prog 95 #[v] w fun e w'=>e=.returned (.bool (!conOk c))∧Below w.heap.size w w':=by
 have an:Hid (RdC lo hi w d v c):=h;obtain ⟨k,na,nn,nc,ra,rn,rc,ka,kn,kc,rfl⟩:=h.shape;obtain ⟨W0,R⟩:∃ W0,W0=w.alloc (.cells #[.int .i64 k,.slice na nn nc,.slice ra rn rc,.slice ka kn kc] 104):=⟨_,rfl⟩;have af:Hid (W0=w.alloc (.cells #[.int .i64 k,.slice na nn nc,.slice ra rn rc,.slice ka kn kc] 104)):=R;have N:Below w.heap.size w W0:=by rw [R];exact (Below.refl _ _).alloc (Nat.le_refl _) _
 have a6:Hid (Below w.heap.size w W0):=N;have M:BoxC W0 w.heap.size (.int .i64 k) (.slice na nn nc) (.slice ra rn rc) (.slice ka kn kc):=by rw [R];exact BoxC.new w _ _ _ _
 obtain ⟨b0,b1,b2,b3⟩:=M.cells;have HA:Hid (RdC lo hi W0 d (.agg #[.int .i64 k,.slice na nn nc,.slice ra rn rc,.slice ka kn kc]) c):=h.below N z;have ac:hi≤W0.heap.size:=Nat.le_trans z N.size;clear N R M h;go_enter Tryz.func95, Tryz.ntmps95;go_upto_region 1 with fail;rw [← af.out];go_wp2_with fail;refine (implConOk_any HA.out ac u).mono ?_;rintro e w5 ⟨rfl,I⟩;have T:Hid (Below w.heap.size w w5):=a6.out.trans (I.mono a6.out.size);clear I;go_wp2_with fail;go_ret;exact ⟨rfl,T.out⟩
set_option maxRecDepth 100000 in
set_option maxHeartbeats 2000000 in
theorem indexBad_any {d lo hi n q:Nat} {a:Option Addr} {cs:List CN} {w:World} (h:RdL (RdC lo hi w d) lo hi w a n q cs) (z:hi≤w.heap.size) (u:bulks cs≤1048576) (hn:n≤1048576) :
    Calls Tryz.prog 116 #[.slice a n q,.func (.func 95) #[] #[]] w fun e w'=>∃ r:Int,e=.returned (.int .i64 r)∧((0≤r∧cs.all conOk=false)∨(r<0∧cs.all conOk=true))∧Below w.heap.size w w':=by
 have HL:Hid (RdL (RdC lo hi w d) lo hi w a n q cs):=h;have L:Hid (cs.length=n):=h.len;have Y:Hid (bulks cs≤1048576):=u;clear h u;go_enter Tryz.func116, Tryz.ntmps116;go_upto_region 2 with fail;go_loopw [8] (fun i wr=>∃ j:Nat,j≤n∧i=.int .i64 j∧(∀ m,m<j→conOk (cs.getD m CN.zero)=true)∧Below w.heap.size w wr) (fun i _=>n - (intOf i).toNat)
 case atStart=>exact ⟨0,Nat.zero_le _,rfl,fun m hm=>absurd hm (by omega),Below.refl _ _⟩
 case round =>
  obtain ⟨j,hj,rfl,A,o⟩:=hrel;have ag:Hid (∀ m,m<j→conOk (cs.getD m CN.zero)=true):=A;have a3:Hid (Below w.heap.size w wr):=o;have F:=o.size;by_cases hlt:j<n
  · have aa:(j:Int)<(n:Int):=by omega
    have E:j<cs.length:=by rw [L.out];exact hlt
    have hR:=HL.out.same (Same.of_below o z);rcases hR.cells with e | ⟨b,Z,rfl,_,_,hc⟩
    · omega
    obtain ⟨v0,v1,v2,v3,q0,q1,q2,q3,G⟩:=hc j hlt;have V:Hid (RdC lo hi wr d (.agg #[v0,v1,v2,v3]) (cs.getD j CN.zero)):=G;have ab:hi≤wr.heap.size:=by omega
    have aj:Hid ((cs.getD j CN.zero).bulk≤1048576):=by unfold Hid;have:=getD_bulk_le cs j E;have:=Y.out;omega
    obtain ⟨r,hr⟩:∃ r,r=conOk (cs.getD j CN.zero):=⟨_,rfl⟩;have U:Hid (r=conOk (cs.getD j CN.zero)):=hr;clear hR hc G hr A o;go_wp2_with fail;refine (badC_any V.out ab aj.out).mono ?_;rintro e w5 ⟨rfl,I⟩;rw [← U.out];have T:Hid (Below w.heap.size w w5):=a3.out.trans (I.mono F);clear I;cases r with
    | false =>
     have HP:Hid (cs.all conOk=false):=all_not (d:=CN.zero) E U.out.symm;go_wp2_with fail;go_ret;exact ⟨_,rfl,.inl ⟨by omega,HP.out⟩,T.out⟩
    | true =>
     have HF:Hid (∀ m,m<j+1→conOk (cs.getD m CN.zero)=true):=fun m hm=>by
      by_cases e:m=j
      · subst e;exact U.out.symm
      exact ag.out m (by omega)
     go_wp2_with fail;go_roundw
     case rel=>exact ⟨j+1,by omega,by go_num,HF.out,T.out⟩
     case measure=>simp [intOf];omega
  have HP:Hid (cs.all conOk=true):=all_take (d:=CN.zero) L.out (fun m hm=>A m (by omega));clear A o;go_wp2_with fail;go_ret;exact ⟨-1,rfl,.inr ⟨by omega,HP.out⟩,a3.out⟩
set_option maxRecDepth 100000 in
set_option maxHeartbeats 1000000 in
theorem hasBad_any {d lo hi n q:Nat} {a:Option Addr} {cs:List CN} {w:World} (h:RdL (RdC lo hi w d) lo hi w a n q cs) (z:hi≤w.heap.size) (u:bulks cs≤1048576) (hn:n≤1048576) :
    Calls Tryz.prog 94 #[.slice a n q,.func (.func 95) #[] #[]] w fun e w'=>e=.returned (.bool (!cs.all conOk))∧Below w.heap.size w w':=by
 go_enter Tryz.func94, Tryz.ntmps94;go_wp2_with fail;refine (indexBad_any h z u hn).mono ?_;rintro e w1 ⟨r,rfl,hr,hb⟩;have HR:Hid ((0≤r∧cs.all conOk=false)∨(r<0∧cs.all conOk=true)):=hr;have HB:Hid (Below w.heap.size w w1):=hb;clear hr hb h u;go_wp2_with fail;go_ret;refine ⟨rb ?_,HB.out⟩;rcases HR.out with ⟨h1,h2⟩ | ⟨h1,h2⟩
 · rw [h2];exact decide_eq_true h1
 rw [h2];exact decide_eq_false (by omega)
set_option maxRecDepth 100000 in
set_option maxHeartbeats 4000000 in
theorem atomsFit_any {d lo hi n q:Nat} {a:Option Addr} {cs:List CN} {w:World} (h:RdL (RdC lo hi w d) lo hi w a n q cs) (z:hi≤w.heap.size) (u:bulks cs≤1048576) (hn:n≤1048576) :
    Calls Tryz.prog 67 #[.slice a n q] w fun e w'=>e=.returned (.bool (decide (n≤24) && atomsB cs))∧Below w.heap.size w w':=by
 have HL:Hid (RdL (RdC lo hi w d) lo hi w a n q cs):=h;have L:Hid (cs.length=n):=h.len;have Y:Hid (bulks cs≤1048576):=u;have hf:=h.fits;clear h u;by_cases c1:24<n
 · have HE:Hid ((decide (n≤24) && atomsB cs)=false):=by unfold Hid;rw [decide_eq_false (show ¬ n≤24 by omega)];rfl
   have ad:decide ((24:Int)<(n:Int))=true:=decide_eq_true (by omega);go_enter Tryz.func67, Tryz.ntmps67;go_wp2_with fail;go_ret;exact ⟨rb HE.out.symm,Below.refl _ _⟩
 have ad:decide ((24:Int)<(n:Int))=false:=decide_eq_false (by omega);have D1:Hid (decide (n≤24)=true):=decide_eq_true (by omega);go_enter Tryz.func67, Tryz.ntmps67;go_wp2_with fail;refine (hasBad_any HL.out z Y.out hn).mono ?_;rintro e w1 ⟨rfl,a2⟩;obtain ⟨v,hv⟩:∃ v,v=cs.all conOk:=⟨_,rfl⟩;rw [← hv];have HV:Hid (cs.all conOk=v):=hv.symm;have a5:Hid (Below w.heap.size w w1):=a2;clear a2 hv;cases v with
 | false =>
  have HE:Hid ((decide (n≤24) && atomsB cs)=false):=by
   have h1:=HV.out;rw [List.all_eq_false] at h1;obtain ⟨x,hx,a8⟩:=h1;obtain ⟨i,hi,rfl⟩:=List.mem_iff_getElem.1 hx;unfold Hid;rw [atomsB_no hi (atomAt_no (by rw [List.getD_eq_getElem?_getD,List.getElem?_eq_getElem hi];simpa using a8)),Bool.and_false]
  go_wp2_with fail;go_ret;exact ⟨rb HE.out.symm,a5.out⟩
 | true =>
  go_wp2_with fail;go_loopw [14] (fun i wr=>∃ j:Nat,j≤n∧i=.int .i64 j∧(∀ m,m<j→atomAt cs m=true)∧Below w.heap.size w wr) (fun i _=>n - (intOf i).toNat)
  case atStart=>exact ⟨0,Nat.zero_le _,rfl,fun m hm=>absurd hm (by omega),a5.out⟩
  case round =>
   obtain ⟨j,hj,rfl,D,o⟩:=hrel;have al:Hid (∀ m,m<j→atomAt cs m=true):=D;have HB:Hid (Below w.heap.size w wr):=o;have F:=o.size;by_cases hlt:j<n
   · have aa:(j:Int)<(n:Int):=by omega
     have E:j<cs.length:=by rw [L.out];exact hlt
     have hR:=HL.out.same (Same.of_below o z);rcases hR.cells with e | ⟨b,Z,rfl,_,_,hc⟩
     · omega
     obtain ⟨v0,v1,v2,v3,q0,q1,q2,q3,G⟩:=hc j hlt;obtain ⟨k,na,nn,nc,ra,rn,rc,ka,kn,kc,rfl,rfl,rfl,rfl⟩:=G.form4S;obtain ⟨W2,O⟩:∃ W2,W2=wr.alloc (.cells #[.int .i64 k,.slice na nn nc,.slice ra rn rc,.slice ka kn kc] 104):=⟨_,rfl⟩;have ae:Hid (W2=wr.alloc (.cells #[.int .i64 k,.slice na nn nc,.slice ra rn rc,.slice ka kn kc] 104)):=O;have J:Below wr.heap.size wr W2:=by rw [O];exact (Below.refl _ _).alloc (Nat.le_refl _) _
     have am:=J.size;have ak:Hid (Below w.heap.size w W2):=o.trans (J.mono F);have a0:BoxC W2 wr.heap.size (.int .i64 k) (.slice na nn nc) (.slice ra rn rc) (.slice ka kn kc):=by rw [O];exact BoxC.new wr _ _ _ _
     obtain ⟨b0,b1,b2,b3⟩:=a0.cells;have V:Hid (RdC lo hi W2 d (.agg #[.int .i64 k,.slice na nn nc,.slice ra rn rc,.slice ka kn kc]) (cs.getD j CN.zero)):=G.below J (by omega);have ah:Hid (RdL (RdC lo hi W2 d) lo hi W2 (some ⟨b,Z,none⟩) n q cs):=hR.same (Same.of_below J (by omega));obtain ⟨p,hp⟩:∃ p,p=placeC cs (cs.getD j CN.zero):=⟨_,rfl⟩;have HP:Hid (placeC cs (cs.getD j CN.zero)=p):=hp.symm
     have ai:Hid (conOk (cs.getD j CN.zero)=true):=by
      have h1:=HV.out;rw [List.all_eq_true] at h1;unfold Hid;rw [List.getD_eq_getElem?_getD,List.getElem?_eq_getElem E];exact h1 _ (List.getElem_mem _)
     clear hR hc G D o hp J O a0;go_upto_region 6 with fail;rw [← ae.out];go_wp2_with fail;refine (conIn_any ah.out V.out (by omega) (by omega) hn).mono ?_;rintro e w3 ⟨rfl,a1⟩;rw [HP.out];have a4:Hid (Below w.heap.size w w3):=ak.out.trans (a1.mono (by omega));clear a1 b0 b1 b2 b3;by_cases hpe:p=(j:Int)
     · have HN:Hid (∀ m,m<j+1→atomAt cs m=true):=fun m hm=>by
        by_cases e:m=j
        · subst e;exact atomAt_yes ai.out ((place_self E).1 (by rw [HP.out];exact hpe))
        exact al.out m (by omega)
       have a9:(p != (j:Int))=false:=by simp [hpe]
       clear hpe;go_wp2_with fail;go_roundw
       case rel=>exact ⟨j+1,by omega,by go_num,HN.out,a4.out⟩
       case measure=>simp [intOf];omega
     have HE:Hid ((decide (n≤24) && atomsB cs)=false):=by
      have h1:¬ ∀ m,m<j→sameC (cs.getD m CN.zero) (cs.getD j CN.zero)=false:=fun hh=>hpe (by rw [← HP.out];exact (place_self E).2 hh)
      have h2:atomAt cs j=false:=by
       cases ha:atomAt cs j with
       | false=>rfl
       | true =>
        exfalso
        apply h1;intro m hm;unfold atomAt at ha;rw [Bool.and_eq_true,List.all_eq_true] at ha;simpa using ha.2 m (List.mem_range.2 hm)
      unfold Hid;rw [atomsB_no E h2,Bool.and_false]
     have a9:(p != (j:Int))=true:=by simpa using hpe
     clear hpe;go_wp2_with fail;go_ret;exact ⟨rb HE.out.symm,a4.out⟩
   have HE:Hid ((decide (n≤24) && atomsB cs)=true):=by unfold Hid;rw [D1.out,atomsB_yes L.out (fun i hi=>D i (by omega))];rfl
   clear D o;go_wp2_with fail;go_ret;exact ⟨rb HE.out.symm,HB.out⟩
end

end Go.Proofs.YtellcgmabimieaaGreatDoor
