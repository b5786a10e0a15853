/- Several texts in one: HlM, ClsI2b. -/
import Derived.Test.YtellcgmabimieaaGreatDoorNG14
import Derived.Test.YtellcgmabimieaaGreatDoorNG18
import Derived.Test.YtellcgmabimieaaGreatDoorNG17
namespace Go.Proofs.YtellcgmabimieaaGreatDoor

section
open Go.RowKit
def litE (ls:List (List Bool)) (p q e i:Nat):Bool:=if (ls.getD i []).getD e false=true then p.testBit i else q.testBit i
def partE (ls:List (List Bool)) (n p q e:Nat):Bool:=(List.range n).any (litE ls p q e)
def onE (L:Nat) (f:Nat→Bool):Bool:=(List.range L).all f
def pairE (x:WD) (r:List Int) (L:Nat) (f g:Nat→Bool) (a b:Nat):Bool:=!(relO x r a b L) || (f a || g b)
def alongE (x:WD) (r:List Int) (L:Nat) (f g:Nat→Bool):Bool:=(List.range L).all (fun a=>(List.range L).all (pairE x r L f g a))
def holdsK (x:WD) (rs:List (List Int)) (ls:List (List Bool)) (n L:Nat) (k r u:Int) (p q p' q':Nat):Bool :=
 if k=0 then onE L (partE ls n p q)
 else if k=3 then alongE x (rs.getD r.toNat []) L (partE ls n p q) (partE ls n p' q')
 else if k=4 then rolesB x L (rs.getD r.toNat []) (rs.getD u.toNat []) else true
def clHolds (x:WD) (s:CS) (c:CL) (ls:List (List Bool)):Bool :=
 (worldB x && (clsB s && (fitK s.atoms.length s.roles.length c && (decide (ls.length=s.atoms.length) && flagsB ls x.n)))) && holdsK x s.roles ls s.atoms.length x.n.toNat c.kind c.role c.above c.xp.toNat c.xn.toNat c.yp.toNat c.yn.toNat
theorem clHolds_yes {x:WD} {s:CS} {c:CL} {ls:List (List Bool)} (h1:worldB x=true) (h2:clsB s=true) (h3:fitK s.atoms.length s.roles.length c=true) (h4:ls.length=s.atoms.length) (h5:flagsB ls x.n=true):clHolds x s c ls=holdsK x s.roles ls s.atoms.length x.n.toNat c.kind c.role c.above c.xp.toNat c.xn.toNat c.yp.toNat c.yn.toNat:=by
 unfold clHolds;rw [h1,h2,h3,decide_eq_true h4,h5];rfl
theorem partE_at {ls:List (List Bool)} {n p q e i:Nat} (hi:i<n) (h:litE ls p q e i=true):partE ls n p q e=true:=by
 unfold partE;rw [List.any_eq_true];exact ⟨i,List.mem_range.2 hi,h⟩
theorem partE_none {ls:List (List Bool)} {n p q e:Nat} (h:∀ i,i<n→litE ls p q e i=false):partE ls n p q e=false:=by
 unfold partE;rw [List.any_eq_false];intro i hi;rw [h i (List.mem_range.1 hi)];decide
theorem onE_at {L e:Nat} {f:Nat→Bool} (he:e<L) (h:f e=false):onE L f=false:=by
 unfold onE;rw [List.all_eq_false];exact ⟨e,List.mem_range.2 he,by rw [h];decide⟩
theorem onE_all {L:Nat} {f:Nat→Bool} (h:∀ e,e<L→f e=true):onE L f=true:=by
 unfold onE;rw [List.all_eq_true];exact fun e he=>h e (List.mem_range.1 he)
theorem onE_congr {L:Nat} {f g:Nat→Bool} (h:∀ e,e<L→f e=g e):onE L f=onE L g:=by
 cases hg:onE L g with
 | true =>
  refine onE_all fun e he=>?_
  rw [h e he];unfold onE at hg;rw [List.all_eq_true] at hg;exact hg e (List.mem_range.2 he)
 | false =>
  unfold onE at hg;rw [List.all_eq_false] at hg;obtain ⟨e,he,hh⟩:=hg;exact onE_at (List.mem_range.1 he) (by rw [h e (List.mem_range.1 he)];simpa using hh)
theorem alongE_at {x:WD} {r:List Int} {L a b:Nat} {f g:Nat→Bool} (ha:a<L) (hb:b<L) (h:pairE x r L f g a b=false):alongE x r L f g=false:=by
 unfold alongE;rw [List.all_eq_false];refine ⟨a,List.mem_range.2 ha,?_⟩
 have:(List.range L).all (pairE x r L f g a)=false:=by
  rw [List.all_eq_false];exact ⟨b,List.mem_range.2 hb,by rw [h];decide⟩
 rw [this];decide
theorem alongE_all {x:WD} {r:List Int} {L:Nat} {f g:Nat→Bool} (h:∀ a b,a<L→b<L→pairE x r L f g a b=true):alongE x r L f g=true:=by
 unfold alongE;rw [List.all_eq_true];intro a ha;rw [List.all_eq_true];exact fun b hb=>h a b (List.mem_range.1 ha) (List.mem_range.1 hb)
def rowE (x:WD) (r:List Int) (L:Nat) (f g:Nat→Bool) (a:Nat):Bool:=f a || (List.range L).all (fun b=>!(relO x r a b L) || g b)
theorem alongE_rows (x:WD) (r:List Int) (L:Nat) (f g:Nat→Bool):alongE x r L f g=onE L (rowE x r L f g):=by
 unfold alongE
 show onE L _=_
 refine onE_congr fun a ha=>?_
 unfold rowE pairE;cases f a <;> simp
end

section
open Go.RowKit Go.Shelf
attribute [local go_sem] Oper.semAt_some
attribute [local go_sem ↓] about_wide
theorem cells_noncells {W W':World} {B:Nat} {c:Array Value} {t:TypeId} {fz:Nat × Nat} {row:Option Nat} (h:W.heap[B]?=some (.cells c t fz)) (hg:W.grownBy W' row)
    (hr:∀ r,row=some r→∃ o:Obj,W.heap[r]?=some o∧o.isCells=false):W'.heap[B]?=some (.cells c t fz) :=
 (hg.block B (Array.getElem?_eq_some_iff.1 h).1 (fun e=>by
  obtain ⟨o,ho,hc⟩:=hr B e.symm
  rw [h] at ho;cases ho;cases hc)).trans h
structure InvF (s n1 na:Nat) (KC SC:Array Value) (w:World) (pre:List LT) (W:World):Prop where
 kb:W.heap[s]?=some (.cells KC 51 (0,0))
 sb:W.heap[s+1]?=some (.cells SC 46 (0,0))
 res:Boxed W (s+1+1) 4 (.bool false)
 bel:Below s w W
 good:pre.all (fun x=>decide (x.atom<na))=true
 size:n1≤W.heap.size
structure InvFx (s na:Nat) (w:World) (c:Code) (pre:List LT) (W:World):Prop where
 code:c=.ret
 res:Boxed W (s+1+1) 4 (.bool false)
 bel:Below s w W
 bad:pre.all (fun x=>decide (x.atom<na))=false
theorem InvF.own {s n1 na:Nat} {KC SC:Array Value} {w:World} {B:Nat} (hB:s≤B):OwnFrom B (InvF s n1 na KC SC w):=by
 rintro pre W W' row ⟨h1,h2,h3,h4,h5,h6⟩ hg hr;have:s≤W.heap.size:=by have:=Boxed.lt h3;omega
 exact ⟨cells_noncells h1 hg fun r e=>(hr r e).2,cells_noncells h2 hg fun r e=>(hr r e).2,boxed_noncells h3 hg fun r e=>(hr r e).2,h4.grown hg this fun k e=>by have:=(hr k e).1;omega,h5,Nat.le_trans h6 hg.size⟩
theorem InvFx.own {s na:Nat} {w:World} {B:Nat} (hB:s≤B) (c:Code):OwnFrom B (InvFx s na w c):=by
 rintro pre W W' row ⟨h0,h1,h3,h4⟩ hg hr;have:s≤W.heap.size:=by have:=Boxed.lt h1;omega
 exact ⟨h0,boxed_noncells h1 hg fun r e=>(hr r e).2,h3.grown hg this fun k e=>by have:=(hr k e).1;omega,h4⟩
def AxL (n1 t:Nat) (f:Value→Value→Array Value) (x:LT) (a':Act) (W:World):Prop :=
 ∃ Bx:Nat,n1≤Bx∧W.heap[Bx]?=some (.cells #[.int .i64 (x.place:Nat),.int .i64 (x.atom:Nat),.bool x.no] t (0,0))∧a'={ tmps:=f (.agg #[.int .i64 (x.place:Nat),.int .i64 (x.atom:Nat),.bool x.no]) (.pointer (some ⟨Bx,0,none⟩)),defers:=[] }
theorem AxL.own {n1 t B:Nat} {f:Value→Value→Array Value} (x:LT) (a':Act):OwnFrom B (fun (_:Unit) W=>AxL n1 t f x a' W):=by
 rintro _ W W' row ⟨Bx,h1,h2,h3⟩ hg hr;exact ⟨Bx,h1,cells_noncells h2 hg fun r e=>(hr r e).2,h3⟩
set_option maxRecDepth 100000 in
set_option maxHeartbeats 4000000 in
theorem clauseFits_yes {aa:Option Addr} {an ac:Nat} {ra:Option Addr} {rn rc:Nat} {wa:Option Addr} {wn wc:Nat} {la:Option Addr} {ln lc:Nat} {k f r u xp xn yp yn:Int} {ia:Option Addr} {im ic:Nat} {a b:Int} {xs:List (Int × Int)} {w:World} {lo hi:Nat} (hR:RP lo hi w ia im ic xs) (a3:hi≤w.heap.size) (hT:TabD w) (hg:2<w.heap.size) (a0:clauseB k f r u xp xn yp yn xs a b=true) :
    Calls Tryz.prog 38 #[.agg #[.int .i64 k,.int .i64 f,.int .i64 r,.int .i64 u,.int .i64 xp,.int .i64 xn,.int .i64 yp,.int .i64 yn,.slice ia im ic,.int .i64 a,.int .i64 b],.agg #[.slice aa an ac,.slice ra rn rc,.slice wa wn wc,.slice la ln lc]] w fun e w'=>e=.returned (.bool (fitK an rn ⟨k,f,r,u,xp,xn,yp,yn,xs,a,b⟩))∧Below w.heap.size w w':=by
 obtain ⟨W,hW⟩:∃ W,W=((w.alloc (.cells #[.int .i64 k,.int .i64 f,.int .i64 r,.int .i64 u,.int .i64 xp,.int .i64 xn,.int .i64 yp,.int .i64 yn,.slice ia im ic,.int .i64 a,.int .i64 b] 51)).alloc (.cells #[.slice aa an ac,.slice ra rn rc,.slice wa wn wc,.slice la ln lc] 46)).alloc (.cells #[.bool false] 4):=⟨_,rfl⟩;have HW:Hid (W=((w.alloc (.cells #[.int .i64 k,.int .i64 f,.int .i64 r,.int .i64 u,.int .i64 xp,.int .i64 xn,.int .i64 yp,.int .i64 yn,.slice ia im ic,.int .i64 a,.int .i64 b] 51)).alloc (.cells #[.slice aa an ac,.slice ra rn rc,.slice wa wn wc,.slice la ln lc] 46)).alloc (.cells #[.bool false] 4)):=hW;have a7:Below w.heap.size w W:=by rw [hW];exact (((Below.refl _ _).alloc (Nat.le_refl _) _).alloc (by simp) _).alloc (by simp;omega) _
 have a9:Hid (Below w.heap.size w W):=a7;have aB:w.heap.size+1+1<W.heap.size:=by rw [hW];simp
 have a2:BoxK 51 W w.heap.size k f r u xp xn yp yn (.slice ia im ic) a b:=by rw [hW];exact ((BoxK.new _ w _ _ _ _ _ _ _ _ _ _ _).below ((Below.refl _ _).alloc (Nat.le_refl _) _) (by simp)).below ((Below.refl _ _).alloc (Nat.le_refl _) _) (by simp;omega)
 have ao:Blk W (w.heap.size+1) 46 (.slice aa an ac) (.slice ra rn rc) (.slice wa wn wc) (.slice la ln lc):=by rw [hW];exact (Blk.alloc_new _ _ _ _ _ _ _ (by simp)).alloc _
 have ap:Boxed W (w.heap.size+1+1) 4 (.bool false):=by
  have:=Boxed.new ((w.alloc (.cells #[.int .i64 k,.int .i64 f,.int .i64 r,.int .i64 u,.int .i64 xp,.int .i64 xn,.int .i64 yp,.int .i64 yn,.slice ia im ic,.int .i64 a,.int .i64 b] 51)).alloc (.cells #[.slice aa an ac,.slice ra rn rc,.slice wa wn wc,.slice la ln lc] 46)) 4 (.bool false);rw [World.size_alloc,World.size_alloc] at this;rw [hW];exact this
 have HE:Hid (fitK an rn ⟨k,f,r,u,xp,xn,yp,yn,xs,a,b⟩=((litsL 0 (natP (six xp xn yp yn xs))).all (fun x=>decide (x.atom<an)) && (numB r rn (hasR k) && numB u rn (hasU k)))):=fit_yes an rn a0;have HR:Hid (RP lo hi w ia im ic xs):=hR;have aK:Hid (RP lo hi W ia im ic xs):=hR.below a7 a3;have aQ:Hid (im=0∨im=4):=by unfold Hid;rw [← hR.len];exact clauseB_inds a0
 have aM:Hid (∀ x∈six xp xn yp yn xs,partB x.1 x.2=true):=clauseB_parts a0;have aI:Hid (TabD w):=hT;have aP:Hid (BoxK 51 W w.heap.size k f r u xp xn yp yn (.slice ia im ic) a b):=a2;have aJ:Hid (Blk W (w.heap.size+1) 46 (.slice aa an ac) (.slice ra rn rc) (.slice wa wn wc) (.slice la ln lc)):=ao;have aL:Hid (Boxed W (w.heap.size+1+1) 4 (.bool false)):=ap;obtain ⟨y0,y1,y2,y3,y4,y5,y6,y7,y8,y9,I⟩:=a2.cells;clear a2 hR a7 hT ao ap hW;refine (callsIn_wide (n:=6)).1 ?_;refine callsIn_of_wp_marks Tryz.func38 rfl trivial ?_ rfl;simp only [Tryz.ntmps38,List.size_toArray,List.length_cons,List.length_nil,Nat.reduceAdd,Nat.reduceSub,Array.replicate_succ,Array.replicate_zero,List.push_toArray,List.append_toArray,List.nil_append,List.cons_append]
 gi_upto_region 1 with fail
 rw [← HW.out]
 gi_wp2_with fail
 refine (callsIn_wide.2 (implClauseOk_any aK.out (Nat.le_trans a3 a9.out.size))).mono ?_;rintro e w1 ⟨rfl,L⟩;rw [a0];have aA:Hid (Below w.heap.size w w1):=a9.out.trans (L.mono a9.out.size);have aX:=L.size;have V:Hid (BoxK 51 w1 w.heap.size k f r u xp xn yp yn (.slice ia im ic) a b):=aP.out.below L (by omega);have ah:Hid (Blk w1 (w.heap.size+1) 46 (.slice aa an ac) (.slice ra rn rc) (.slice wa wn wc) (.slice la ln lc)):=aJ.out.below L (by omega);have aj:Hid (Boxed w1 (w.heap.size+1+1) 4 (.bool false)):=boxed_below aL.out L aB;clear L y0 y1 y2 y3 y4 y5 y6 y7 y8 y9 I;obtain ⟨y0,y1,y2,y3,y4,y5,y6,y7,y8,y9,I⟩:=V.out.cells
 gi_wp2_with fail
 refine (literals_in _ w1).mono ?_;rintro e w2 ⟨rfl,Z⟩;have J:Below w1.heap.size w1 w2:=by rw [Z];exact (Below.refl _ _).alloc (Nat.le_refl _) _
 have az:Hid (Below w.heap.size w w2):=aA.out.trans (J.mono aA.out.size);have aW:=J.size;have aT:w1.heap.size<w2.heap.size:=by rw [Z];simp
 have aR:Hid (BoxK 51 w2 w1.heap.size k f r u xp xn yp yn (.slice ia im ic) a b):=by unfold Hid;rw [Z];exact BoxK.new _ w1 _ _ _ _ _ _ _ _ _ _ _
 have ak:Hid (BoxK 51 w2 w.heap.size k f r u xp xn yp yn (.slice ia im ic) a b):=V.out.below J (by omega);have ag:Hid (Blk w2 (w.heap.size+1) 46 (.slice aa an ac) (.slice ra rn rc) (.slice wa wn wc) (.slice la ln lc)):=ah.out.below J (by omega);have ai:Hid (Boxed w2 (w.heap.size+1+1) 4 (.bool false)):=boxed_below aj.out J (by omega);clear J Z y0 y1 y2 y3 y4 y5 y6 y7 y8 y9 I
 gi_wp2_with fail
 refine wpIn_rangeFunc_ownH rfl (by omega) (gf:=104) (lb:=#[.pointer (some ⟨w1.heap.size,0,none⟩)]) rfl trivial (enters_of Tryz.func104 (by kernel_rfl) rfl)
  (lits_stops (lo:=lo) (hi:=hi) (B:=w.heap.size) (n1:=w2.heap.size) 5 w1.heap.size a3 (by omega) hg HR.out aQ.out aM.out aI.out az.out (Nat.le_refl _) aR.out) KpC.trans
  (fun W l o o' hl hW hc _=>KpC.putObj W l o o' (by omega) hW hc) (Below.refl _ _) (fun _=>rfl)
  (InvF w.heap.size w2.heap.size an #[.int .i64 k,.int .i64 f,.int .i64 r,.int .i64 u,.int .i64 xp,.int .i64 xn,.int .i64 yp,.int .i64 yn,.slice ia im ic,.int .i64 a,.int .i64 b] #[.slice aa an ac,.slice ra rn rc,.slice wa wn wc,.slice la ln lc] w) (InvFx w.heap.size an w) (InvF.own (by omega)) (InvFx.own (by omega))
  ⟨ak.out,ag.out,ai.out,az.out,rfl,Nat.le_refl _⟩
  (AxL w2.heap.size 122 (fun lv bx=>#[.agg #[.int .i64 k,.int .i64 f,.int .i64 r,.int .i64 u,.int .i64 xp,.int .i64 xn,.int .i64 yp,.int .i64 yn,.slice ia im ic,.int .i64 a,.int .i64 b],.agg #[.slice aa an ac,.slice ra rn rc,.slice wa wn wc,.slice la ln lc],.pointer (some ⟨w.heap.size,0,none⟩),.pointer (some ⟨w.heap.size+1,0,none⟩),.pointer (some ⟨w.heap.size+1+1,0,none⟩),bx,undef,undef,.agg #[.int .i64 k,.int .i64 f,.int .i64 r,.int .i64 u,.int .i64 xp,.int .i64 xn,.int .i64 yp,.int .i64 yn,.slice ia im ic,.int .i64 a,.int .i64 b],.bool true,.bool false,.agg #[.int .i64 k,.int .i64 f,.int .i64 r,.int .i64 u,.int .i64 xp,.int .i64 xn,.int .i64 yp,.int .i64 yn,.slice ia im ic,.int .i64 a,.int .i64 b],.func (.func 104) #[] #[.pointer (some ⟨w1.heap.size,0,none⟩)],lv,undef,undef,undef,undef,undef,undef,undef,undef,undef,undef,undef,undef,undef,undef,undef,undef,undef,undef,undef,undef,undef,undef,undef,undef,undef,undef,undef,undef,undef,undef])) AxL.own ?assign ?body ?done ?stop
 case assign =>
  rintro l pre x W K hI hK;unfold encL;have aD:=hI.size
  gi_wp2_with fail
  have hB:Below W.heap.size W (W.alloc (.cells #[.int .i64 (x.place:Nat),.int .i64 (x.atom:Nat),.bool x.no] 122)):=(Below.refl _ _).alloc (Nat.le_refl _) _
  exact hK _ _ ((keepsOthers_below hB).from _) (KpC.of_below hB (by omega)) ⟨(hB.block _ (Array.getElem?_eq_some_iff.1 hI.kb).1).trans hI.kb,(hB.block _ (Array.getElem?_eq_some_iff.1 hI.sb).1).trans hI.sb,hI.res.alloc _,hI.bel.alloc (by omega) _,hI.good,Nat.le_trans hI.size hB.size⟩
   ⟨W.heap.size,aD,World.alloc_heap_new W _,rfl⟩
 case body =>
  rintro l pre x a' W hl ⟨r',aC⟩ hI ⟨Bx,aY,A,rfl⟩ ad;have HI:Hid (InvF w.heap.size w2.heap.size an #[.int .i64 k,.int .i64 f,.int .i64 r,.int .i64 u,.int .i64 xp,.int .i64 xn,.int .i64 yp,.int .i64 yn,.slice ia im ic,.int .i64 a,.int .i64 b] #[.slice aa an ac,.slice ra rn rc,.slice wa wn wc,.slice la ln lc] w pre W):=hI;have cR:=Boxed.cell hI.res;have fR:=Boxed.frozen hI.res;obtain ⟨x0,x1,x2,x3,_⟩:=Blk.cells hI.sb;have l0:W.cell? ⟨Bx,0,none⟩=some (.int .i64 (x.place:Nat)):=by simp [World.cell?,A]
  have l1:W.cell? ⟨Bx,1,none⟩=some (.int .i64 (x.atom:Nat)):=by simp [World.cell?,A]
  have l2:W.cell? ⟨Bx,2,none⟩=some (.bool x.no):=by simp [World.cell?,A]
  have Y:Hid ((pre++[x]).all (fun x=>decide (x.atom<an))=decide (x.atom<an)):=by unfold Hid;rw [List.all_append,HI.out.good];simp
  clear hI A aC ad;by_cases ha:x.atom<an
  · have HG:Hid ((pre++[x]).all (fun x=>decide (x.atom<an))=true):=by unfold Hid;rw [Y.out];exact decide_eq_true ha
    have hd:decide ((an:Int)≤(x.atom:Int))=false:=decide_eq_false (by omega)
    gi_wp2_with fail
    exact ⟨(KeepsOthers.refl _).from _,KpC.refl _ _ _,HI.out.kb,HI.out.sb,HI.out.res,HI.out.bel,HG.out,HI.out.size⟩
  have HG:Hid ((pre++[x]).all (fun x=>decide (x.atom<an))=false):=by unfold Hid;rw [Y.out];exact decide_eq_false ha
  have hd:(an:Int)≤(x.atom:Int):=by omega
  gi_wp2_with fail
  exact ⟨(KeepsOthers.setCell _ _ _).from _,rfl,Boxed.set _ HI.out.res,HI.out.bel.setCell (p:=⟨w.heap.size+1+1,0,none⟩) (by show w.heap.size≤w.heap.size+1+1;omega) _,HG.out⟩
 case done =>
  rintro D ys W hD hS hI hK;have q:=hI.good;rw [show ys=litsL 0 (natP (six xp xn yp yn xs)) from hS] at q;have HG:Hid (fitK an rn ⟨k,f,r,u,xp,xn,yp,yn,xs,a,b⟩=(numB r rn (hasR k) && numB u rn (hasU k))):=by unfold Hid;rw [HE.out,q,Bool.true_and]
  clear q hS;have au:BoxK 51 W w.heap.size k f r u xp xn yp yn (.slice ia im ic) a b:=hI.kb;have ar:Blk W (w.heap.size+1) 46 (.slice aa an ac) (.slice ra rn rc) (.slice wa wn wc) (.slice la ln lc):=hI.sb;obtain ⟨y0,y1,y2,y3,y4,y5,y6,y7,y8,y9,I⟩:=au.cells;obtain ⟨x0,x1,x2,x3,_⟩:=ar.cells;have aE:=Boxed.lt hI.res;have HI:Hid (InvF w.heap.size w2.heap.size an #[.int .i64 k,.int .i64 f,.int .i64 r,.int .i64 u,.int .i64 xp,.int .i64 xn,.int .i64 yp,.int .i64 yn,.slice ia im ic,.int .i64 a,.int .i64 b] #[.slice aa an ac,.slice ra rn rc,.slice wa wn wc,.slice la ln lc] w ys W):=hI;clear hI au ar
  gi_wp2_with fail
  refine (callsIn_wide.2 (shapeOf_any k W)).mono ?_;rintro e W3 ⟨rfl,F⟩;obtain ⟨ws,v1,v2,v3,v4,v5,v6,v7,hv,am,al⟩:∃ ws v1 v2 v3 v4 v5 v6 v7,shapeV k=#[.string ws,.bool v1,.bool v2,.bool v3,.bool v4,.bool v5,.bool v6,.bool v7]∧v2=hasR k∧v3=hasU k:=⟨_,_,_,_,_,_,_,_,rfl,rfl,rfl⟩;obtain ⟨kn,aq⟩:∃ b,b=knownK k:=⟨_,rfl⟩;rw [hv,← aq];have aH:Hid (v2=hasR k):=am;have aG:Hid (v3=hasU k):=al;have aV:=F.size;have T:BoxK 51 W3 w.heap.size k f r u xp xn yp yn (.slice ia im ic) a b:=(F.block _ (by omega)).trans HI.out.kb;have O:Blk W3 (w.heap.size+1) 46 (.slice aa an ac) (.slice ra rn rc) (.slice wa wn wc) (.slice la ln lc):=(F.block _ (by omega)).trans HI.out.sb;have R:Boxed W3 (w.heap.size+1+1) 4 (.bool false):=boxed_below HI.out.res F aE;have a8:W3.heap[D]?=some (.deferred (some [])):=(F.block D (Array.getElem?_eq_some_iff.1 hK).1).trans hK;have aS:Hid (Below w.heap.size w W3):=HI.out.bel.trans (F.mono (by omega));obtain ⟨W4,a1⟩:∃ W4,W4=W3.alloc (.cells #[.string ws,.bool v1,.bool v2,.bool v3,.bool v4,.bool v5,.bool v6,.bool v7] 124):=⟨_,rfl⟩;have aF:Hid (W4=W3.alloc (.cells #[.string ws,.bool v1,.bool v2,.bool v3,.bool v4,.bool v5,.bool v6,.bool v7] 124)):=a1;have E:Below W3.heap.size W3 W4:=by rw [a1];exact (Below.refl _ _).alloc (Nat.le_refl _) _
  have aU:=E.size;have a6:W4.heap[W3.heap.size]?=some (.cells #[.string ws,.bool v1,.bool v2,.bool v3,.bool v4,.bool v5,.bool v6,.bool v7] 124 (0,0)):=by rw [a1];exact World.alloc_heap_new W3 _
  have s2:W4.cell? ⟨W3.heap.size,2,none⟩=some (.bool v2):=by simp [World.cell?,a6]
  have s3:W4.cell? ⟨W3.heap.size,3,none⟩=some (.bool v3):=by simp [World.cell?,a6]
  have z:Boxed W4 (w.heap.size+1+1) 4 (.bool false):=boxed_below R E (by omega);have U:Hid (Boxed W4 (w.heap.size+1+1) 4 (.bool false)):=z;have av:Hid (W4.heap[D]?=some (.deferred (some []))):=(E.block D (Array.getElem?_eq_some_iff.1 a8).1).trans a8;have ay:Hid (Below w.heap.size w W4):=aS.out.trans (E.mono (by omega));clear y0 y1 y2 y3 y4 y5 y6 y7 y8 y9 I x0 x1 x2 x3;obtain ⟨y0,y1,y2,y3,y4,y5,y6,y7,y8,y9,I⟩:=(T.below E (by omega)).cells;obtain ⟨x0,x1,x2,x3,_⟩:=(O.below E (by omega)).cells;have cR:=Boxed.cell z;have fR:=Boxed.frozen z;clear hv am al aq F E hK a8 a1 a6 T O R z
  gi_upto_region 8 with fail
  rw [← aF.out];obtain ⟨g1,a5⟩:∃ g,g=numB r rn v2:=⟨_,rfl⟩;obtain ⟨g2,a4⟩:∃ g,g=numB u rn v3:=⟨_,rfl⟩;have ax:Hid (fitK an rn ⟨k,f,r,u,xp,xn,yp,yn,xs,a,b⟩=(g1 && g2)):=by unfold Hid;rw [HG.out,a5,a4,aH.out,aG.out]
  have aO:Hid (numB r rn v2=g1):=a5.symm;have aN:Hid (numB u rn v3=g2):=a4.symm;clear a5 a4
  gi_wp2_with fail
  refine (callsIn_wide.2 (numberFits_any r rn v2 W4)).mono ?_;rintro e w' ⟨rfl,M⟩;rw [aO.out,M];clear M;cases g1 with
  | false =>
   gi_wp2_with fail
   have N:(W4.setCell ⟨w.heap.size+1+1,0,none⟩ (.bool false)).heap[D]?=some (.deferred (some [])):=(KeepsOthers.setCell _ _ _).same D _ av.out rfl;refine ⟨by simp,.inl ⟨_,_,rfl,run_takeDeferred N,?_⟩⟩;have hB:=boxed_noncells (Boxed.set (.bool false) U.out) (grownBy_putObj' _ D (.deferred none)) (fun r e=>by cases e;exact ⟨_,N,rfl⟩);have cB:=Boxed.cell hB;exact ⟨.bool false,by simp [results, Tryz.results38,go_sem,cB],rb (by rw [ax.out];rfl),(ay.out.setCell (p:=⟨w.heap.size+1+1,0,none⟩) (by show w.heap.size≤w.heap.size+1+1;omega) _).grown (grownBy_putObj' _ D _) (by simp;omega) (fun k e=>by cases e;omega)⟩
  | true =>
   gi_wp2_with fail
   refine (callsIn_wide.2 (numberFits_any u rn v3 W4)).mono ?_;rintro e w' ⟨rfl,M⟩;rw [aN.out,M];clear M
   gi_wp2_with fail
   have N:(W4.setCell ⟨w.heap.size+1+1,0,none⟩ (.bool g2)).heap[D]?=some (.deferred (some [])):=(KeepsOthers.setCell _ _ _).same D _ av.out rfl;refine ⟨by simp,.inl ⟨_,_,rfl,run_takeDeferred N,?_⟩⟩;have hB:=boxed_noncells (Boxed.set (.bool g2) U.out) (grownBy_putObj' _ D (.deferred none)) (fun r e=>by cases e;exact ⟨_,N,rfl⟩);have cB:=Boxed.cell hB;exact ⟨.bool g2,by simp [results, Tryz.results38,go_sem,cB],rb (by rw [ax.out];rfl),(ay.out.setCell (p:=⟨w.heap.size+1+1,0,none⟩) (by show w.heap.size≤w.heap.size+1+1;omega) _).grown (grownBy_putObj' _ D _) (by simp;omega) (fun k e=>by cases e;omega)⟩
 case stop =>
  rintro D cd pre W hD ab hI hK;obtain ⟨rfl,G,ae,af⟩:=hI;have cR:=Boxed.cell G
  have hF:fitK an rn ⟨k,f,r,u,xp,xn,yp,yn,xs,a,b⟩=false:=by
   rw [HE.out];obtain ⟨t,ht⟩:=ab;rw [← ht,List.all_append,af];rfl
  gi_wp2
  refine ⟨by simp,.inl ⟨_,_,rfl,run_takeDeferred hK,?_⟩⟩;have hB:=boxed_noncells G (grownBy_putObj' _ D (.deferred none)) (fun r e=>by cases e;exact ⟨_,hK,rfl⟩);have cB:=Boxed.cell hB;exact ⟨.bool false,by simp [results, Tryz.results38,go_sem,cB],rb hF.symm,ae.grown (grownBy_putObj' _ D _) (by have:=Boxed.lt G;omega) (fun k e=>by cases e;omega)⟩
end

end Go.Proofs.YtellcgmabimieaaGreatDoor
