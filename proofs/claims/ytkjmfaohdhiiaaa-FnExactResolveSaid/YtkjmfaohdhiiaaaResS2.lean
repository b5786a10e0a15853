/- What follows of who are related, by the specification: contracts. -/
import Derived.Test.YtkjmfaohdhiiaaaNG12
import Derived.Test.YtkjmfaohdhiiaaaResG
namespace Go.Proofs.Ytkjmfaohdhiiaaa
open Go.RowKit
set_option linter.unusedVariables false
structure RdZ (lo hi:Nat) (w:World) (a:Option Addr) (n F:Nat) (xs:List CL):Prop where
 rd:RdQ lo hi w a n F xs
 own:(a=none∧n=0∧F=0)∨∃ (g:Nat) (c:CL) (ia:Option Addr) (ic:Nat),a=some ⟨g,0,none⟩∧n=1∧F=1∧xs=[c]∧g<hi∧w.heap[g]?=some (.cells (clA c (.slice ia c.inds.length ic)) 32 (0,0))∧RP lo hi w ia c.inds.length ic c.inds
theorem RdZ.nil (lo hi:Nat) (w:World):RdZ lo hi w none 0 0 []:=⟨RdQ.nil _ _ _,.inl ⟨rfl,rfl,rfl⟩⟩
theorem RdZ.one {lo hi g:Nat} {w:World} {c:CL} {ia:Option Addr} {ic:Nat} (hg:w.heap[g]?=some (.cells (clA c (.slice ia c.inds.length ic)) 32 (0,0))) (hr:RP lo hi w ia c.inds.length ic c.inds) (h1:lo≤g) (h2:g<hi):RdZ lo hi w (some ⟨g,0,none⟩) 1 1 [c] :=
 ⟨RdQ.one hg hr h1 h2,.inr ⟨g,c,ia,ic,rfl,rfl,rfl,rfl,h2,hg,hr⟩⟩
theorem RdZ.below {lo hi B:Nat} {w w':World} {a:Option Addr} {n F:Nat} {xs:List CL} (h:RdZ lo hi w a n F xs) (hb:Below B w w') (hB:hi≤B):RdZ lo hi w' a n F xs:=by
 obtain ⟨h1,h2⟩:=h;refine ⟨h1.below hb hB,?_⟩;rcases h2 with h2 | ⟨g,c,ia,ic,e1,e2,e3,e4,e5,e6,e7⟩
 · exact .inl h2
 exact .inr ⟨g,c,ia,ic,e1,e2,e3,e4,e5,(hb.block g (by omega)).trans e6,e7.below hb hB⟩
def QP (w:World) (l:List CL) (e:Ending) (w':World):Prop:=∃ (qa:Option Addr) (qc:Nat),e=.returned (.slice qa l.length qc)∧RdZ 0 w'.heap.size w' qa l.length qc l∧Below w.heap.size w w'
theorem RdZ.bare {g hi:Nat} {w:World} {c:CL} {ia:Option Addr} {ic:Nat} (a2:c.inds=[]) (hg:w.heap[g]?=some (.cells (clA c (.slice ia 0 ic)) 32 (0,0))) (h2:g<hi) (hc:ic≤9223372036854775807):RdZ 0 hi w (some ⟨g,0,none⟩) 1 1 [c]:=by
 refine RdZ.one (ia:=ia) (ic:=ic) ?_ ?_ (Nat.zero_le _) h2
 · rw [a2];exact hg
 rw [a2];exact ⟨rfl,⟨Nat.zero_le _,hc⟩,.inl rfl⟩
set_option maxRecDepth 100000 in
set_option maxHeartbeats 8000000 in
theorem l7pair_role (a b:CL) (ka:a.kind=6) (kb:b.kind=4) {ia ib:Option Addr} {ca cb la z lb u:Nat} {w:World} (ha:a.ok=true) (hb:b.ok=true) (h1:RP la z w ia a.inds.length ca a.inds) (h2:RP lb u w ib b.inds.length cb b.inds) (ae:z≤w.heap.size) (ad:u≤w.heap.size) {o:Option CL} (ho:o=if a.role=b.role then some (raised a b) else none) :
    Calls Try.prog 105 #[.agg #[.int .i64 a.kind,.int .i64 a.fn,.int .i64 a.role,.int .i64 a.above,.int .i64 a.xp,.int .i64 a.xn,.int .i64 a.yp,.int .i64 a.yn,.slice ia a.inds.length ca,.int .i64 a.a,.int .i64 a.b],.agg #[.int .i64 b.kind,.int .i64 b.fn,.int .i64 b.role,.int .i64 b.above,.int .i64 b.xp,.int .i64 b.xn,.int .i64 b.yp,.int .i64 b.yn,.slice ib b.inds.length cb,.int .i64 b.a,.int .i64 b.b]] w (QP w o.toList):=by
 have HO:Hid (o=if a.role=b.role then some (raised a b) else none):=ho;clear ho;have ay:Hid (raised a b={ a with role:=b.above }):=ok_raised ha (.inr ka);have HI:Hid (a.inds=[]):=(ok_facts ha).2.2.2 (by omega);have HC:Hid (ca≤9223372036854775807):=h1.fits.2;have HK:Hid (b.kind=4):=kb;have HR:Hid (∀ V,Below w.heap.size w V→RP la z V ia a.inds.length ca a.inds∧RP lb u V ib b.inds.length cb b.inds):=fun V hV=>⟨h1.below hV ae,h2.below hV ad⟩
 clear h1 h2 ha hb ka kb;obtain ⟨W,hW⟩:∃ W,W=(w.alloc (.cells #[.int .i64 a.kind,.int .i64 a.fn,.int .i64 a.role,.int .i64 a.above,.int .i64 a.xp,.int .i64 a.xn,.int .i64 a.yp,.int .i64 a.yn,.slice ia a.inds.length ca,.int .i64 a.a,.int .i64 a.b] 32)).alloc (.cells #[.int .i64 b.kind,.int .i64 b.fn,.int .i64 b.role,.int .i64 b.above,.int .i64 b.xp,.int .i64 b.xn,.int .i64 b.yp,.int .i64 b.yn,.slice ib b.inds.length cb,.int .i64 b.a,.int .i64 b.b] 32):=⟨_,rfl⟩;have HW:Hid (W=(w.alloc (.cells #[.int .i64 a.kind,.int .i64 a.fn,.int .i64 a.role,.int .i64 a.above,.int .i64 a.xp,.int .i64 a.xn,.int .i64 a.yp,.int .i64 a.yn,.slice ia a.inds.length ca,.int .i64 a.a,.int .i64 a.b] 32)).alloc (.cells #[.int .i64 b.kind,.int .i64 b.fn,.int .i64 b.role,.int .i64 b.above,.int .i64 b.xp,.int .i64 b.xn,.int .i64 b.yp,.int .i64 b.yn,.slice ib b.inds.length cb,.int .i64 b.a,.int .i64 b.b] 32)):=hW;have M:Below w.heap.size w W:=by rw [hW];exact ((Below.refl _ _).alloc (Nat.le_refl _) _).alloc (by simp) _
 have aD:W.heap.size=w.heap.size+2:=by rw [hW];simp
 have H:BoxK 32 W w.heap.size a.kind a.fn a.role a.above a.xp a.xn a.yp a.yn (.slice ia a.inds.length ca) a.a a.b:=by
  rw [hW];exact (BoxK.new 32 w _ _ _ _ _ _ _ _ _ _ _).below ((Below.refl _ _).alloc (Nat.le_refl _) _) (by simp)
 have G:BoxK 32 W (w.heap.size+1) b.kind b.fn b.role b.above b.xp b.xn b.yp b.yn (.slice ib b.inds.length cb) b.a b.b:=by
  rw [hW];have:=BoxK.new 32 (w.alloc (.cells #[.int .i64 a.kind,.int .i64 a.fn,.int .i64 a.role,.int .i64 a.above,.int .i64 a.xp,.int .i64 a.xn,.int .i64 a.yp,.int .i64 a.yn,.slice ia a.inds.length ca,.int .i64 a.a,.int .i64 a.b] 32)) b.kind b.fn b.role b.above b.xp b.xn b.yp b.yn (.slice ib b.inds.length cb) b.a b.b;rw [show (w.alloc (.cells #[.int .i64 a.kind,.int .i64 a.fn,.int .i64 a.role,.int .i64 a.above,.int .i64 a.xp,.int .i64 a.xn,.int .i64 a.yp,.int .i64 a.yn,.slice ia a.inds.length ca,.int .i64 a.a,.int .i64 a.b] 32)).heap.size=w.heap.size+1 from by simp] at this;exact this
 have HB:Hid (∀ V,Below W.heap.size W V→BoxK 32 V w.heap.size a.kind a.fn a.role a.above a.xp a.xn a.yp a.yn (.slice ia a.inds.length ca) a.a a.b∧BoxK 32 V (w.heap.size+1) b.kind b.fn b.role b.above b.xp b.xn b.yp b.yn (.slice ib b.inds.length cb) b.a b.b):=fun V hV=>⟨H.below hV (by omega),G.below hV (by omega)⟩
 have HF:Hid (∀ V,Below W.heap.size W V→Below w.heap.size w V):=fun V hV=>M.trans (hV.mono (by omega))
 have H0:Hid (Below W.heap.size W W):=Below.refl _ _;clear hW M H G;obtain ⟨y0,y1,y2,y3,y4,y5,y6,y7,y8,y9,t⟩:=(HB.out _ H0.out).1.cells;obtain ⟨v0,v1,v2,v3,v4,v5,v6,v7,v8,v9,I⟩:=(HB.out _ H0.out).2.cells;rw [HK.out] at v0;go_enter Try.func105, Try.ntmps105;go_upto_region 1 with fail;rw [← HW.out];by_cases hr:a.role=b.role
 · have s:Hid (o=some (raised a b)):=by rw [Hid,HO.out,if_pos hr]
   have aa:(a.role != b.role)=false:=by simpa using hr
   clear hr;have x0:=(HB.out _ H0.out).1;have aG:=x0.frz 2;obtain ⟨W3,a5⟩:∃ W3,W3=W.setCell ⟨w.heap.size,2,none⟩ (.int .i64 b.above):=⟨_,rfl⟩;have aH:Hid (BoxK 32 W3 w.heap.size a.kind a.fn b.above a.above a.xp a.xn a.yp a.yn (.slice ia a.inds.length ca) a.a a.b):=by rw [Hid,a5];exact x0.at 2 _
   have H3:Hid (Below w.heap.size w W3):=by rw [Hid,a5];exact (HF.out _ H0.out).setCell (p:=⟨w.heap.size,2,none⟩) (Nat.le_refl _) _
   clear x0;go_upto_region 5 with fail;rw [← a5];clear aG a5 y0 y1 y2 y3 y4 y5 y6 y7 y8 y9 t v0 v1 v2 v3 v4 v5 v6 v7 v8 v9 I;obtain ⟨y0,y1,y2,y3,y4,y5,y6,y7,y8,y9,t⟩:=aH.out.cells;obtain ⟨Wz,r⟩:∃ Wz,Wz=W3.alloc (.cells #[.int .i64 a.kind,.int .i64 a.fn,.int .i64 b.above,.int .i64 a.above,.int .i64 a.xp,.int .i64 a.xn,.int .i64 a.yp,.int .i64 a.yn,.slice ia a.inds.length ca,.int .i64 a.a,.int .i64 a.b] 32):=⟨_,rfl⟩;have al:Hid (Wz=W3.alloc (.cells #[.int .i64 a.kind,.int .i64 a.fn,.int .i64 b.above,.int .i64 a.above,.int .i64 a.xp,.int .i64 a.xn,.int .i64 a.yp,.int .i64 a.yn,.slice ia a.inds.length ca,.int .i64 a.a,.int .i64 a.b] 32)):=r;have A:Below W3.heap.size W3 Wz:=by rw [r];exact (Below.refl _ _).alloc (Nat.le_refl _) _
   have am:Hid (Below w.heap.size w Wz):=H3.out.trans (A.mono H3.out.size);have L:Wz.heap[W3.heap.size]?=some (.cells #[.int .i64 a.kind,.int .i64 a.fn,.int .i64 b.above,.int .i64 a.above,.int .i64 a.xp,.int .i64 a.xn,.int .i64 a.yp,.int .i64 a.yn,.slice ia a.inds.length ca,.int .i64 a.a,.int .i64 a.b] 32 (0,0)):=by rw [r];exact World.alloc_heap_new W3 _
   have J:W3.heap.size<Wz.heap.size:=by rw [r];simp
   have HQ:Hid (RdZ 0 Wz.heap.size Wz (some ⟨W3.heap.size,0,none⟩) 1 1 [raised a b]):=by
    refine RdZ.bare (ia:=ia) (ic:=ca) (by rw [ay.out];exact HI.out) ?_ J HC.out;rw [L,ay.out,HI.out];rfl
   clear r A L J;go_wp2_with fail;go_ret;rw [← al.out];exact ⟨some ⟨W3.heap.size,0,none⟩,1,by rw [s.out];rfl,by rw [s.out];exact HQ.out,am.out⟩
 have T:Hid (o=none):=by rw [Hid,HO.out,if_neg hr]
 have aa:(a.role != b.role)=true:=by simpa using hr
 clear hr;go_wp2_with fail;go_ret;exact ⟨none,0,by rw [T.out];rfl,by rw [T.out];exact RdZ.nil _ _ _,HF.out _ H0.out⟩
set_option maxRecDepth 100000 in
set_option maxHeartbeats 8000000 in
theorem l7pair_all (a b:CL) (ka:a.kind=6) (kb:b.kind=3) {ia ib:Option Addr} {ca cb la z lb u:Nat} {w:World} (ha:a.ok=true) (hb:b.ok=true) (h1:RP la z w ia a.inds.length ca a.inds) (h2:RP lb u w ib b.inds.length cb b.inds) (ae:z≤w.heap.size) (ad:u≤w.heap.size) {o:Option CL} (ho:o=if a.role=b.role then some (pairC a b) else none) :
    Calls Try.prog 105 #[.agg #[.int .i64 a.kind,.int .i64 a.fn,.int .i64 a.role,.int .i64 a.above,.int .i64 a.xp,.int .i64 a.xn,.int .i64 a.yp,.int .i64 a.yn,.slice ia a.inds.length ca,.int .i64 a.a,.int .i64 a.b],.agg #[.int .i64 b.kind,.int .i64 b.fn,.int .i64 b.role,.int .i64 b.above,.int .i64 b.xp,.int .i64 b.xn,.int .i64 b.yp,.int .i64 b.yn,.slice ib b.inds.length cb,.int .i64 b.a,.int .i64 b.b]] w (QP w o.toList):=by
 have HO:Hid (o=if a.role=b.role then some (pairC a b) else none):=ho;clear ho;obtain ⟨⟨a0,a1⟩,⟨b0,b1⟩⟩:=(ok_facts ha).2.1 ka;obtain ⟨i,hi⟩:=Int.eq_ofNat_of_zero_le a0;obtain ⟨j,hj⟩:=Int.eq_ofNat_of_zero_le b0;have aF:i<4:=by omega
 have ar:j<4:=by omega
 have aN:(i:Int)<4:=by omega
 have aM:(j:Int)<4:=by omega
 have HA:Hid (a.a=(i:Int)∧a.b=(j:Int)):=⟨hi,hj⟩;obtain ⟨⟨p1,q1⟩,a9⟩:∃ x,x=(zero4.set i b.x).getD j (0,0):=⟨_,rfl⟩;have HX:Hid ((p1,q1)=(zero4.set i b.x).getD j (0,0)):=a9;obtain ⟨m1,ac⟩:∃ m,m=bits .or .i64 p1 b.yp:=⟨_,rfl⟩;obtain ⟨m2,ab⟩:∃ m,m=bits .or .i64 q1 b.yn:=⟨_,rfl⟩
 have aJ:Hid (pairC a b=factC ((zero4.set i b.x).set j (m1,m2))):=by
  rw [Hid,pairC,hi,hj,ac,ab];have e:((zero4.set i b.x).set j (joinP ((zero4.set i b.x).getD j (0,0)) b.y))=(zero4.set i b.x).set j (bits .or .i64 p1 b.yp,bits .or .i64 q1 b.yn):=by rw [← a9];rfl
  rw [← e];rfl
 have aK:Hid (∀ V,Calls Try.prog 103 #[.agg #[.int .i64 p1,.int .i64 q1],.agg #[.int .i64 b.yp,.int .i64 b.yn]] V fun e w'=>e=.returned (.agg #[.int .i64 m1,.int .i64 m2])∧Below V.heap.size V w'):=fun V=>by
  have:=l7join_any p1 q1 b.yp b.yn V;rw [← ac,← ab] at this;exact this
 have HK:Hid (b.kind=3):=kb;have HR:Hid (∀ V,Below w.heap.size w V→RP la z V ia a.inds.length ca a.inds∧RP lb u V ib b.inds.length cb b.inds):=fun V hV=>⟨h1.below hV ae,h2.below hV ad⟩
 clear h1 h2 ha hb ka kb a9 ac ab hi hj a0 a1 b0 b1;obtain ⟨W,hW⟩:∃ W,W=(w.alloc (.cells #[.int .i64 a.kind,.int .i64 a.fn,.int .i64 a.role,.int .i64 a.above,.int .i64 a.xp,.int .i64 a.xn,.int .i64 a.yp,.int .i64 a.yn,.slice ia a.inds.length ca,.int .i64 a.a,.int .i64 a.b] 32)).alloc (.cells #[.int .i64 b.kind,.int .i64 b.fn,.int .i64 b.role,.int .i64 b.above,.int .i64 b.xp,.int .i64 b.xn,.int .i64 b.yp,.int .i64 b.yn,.slice ib b.inds.length cb,.int .i64 b.a,.int .i64 b.b] 32):=⟨_,rfl⟩;have HW:Hid (W=(w.alloc (.cells #[.int .i64 a.kind,.int .i64 a.fn,.int .i64 a.role,.int .i64 a.above,.int .i64 a.xp,.int .i64 a.xn,.int .i64 a.yp,.int .i64 a.yn,.slice ia a.inds.length ca,.int .i64 a.a,.int .i64 a.b] 32)).alloc (.cells #[.int .i64 b.kind,.int .i64 b.fn,.int .i64 b.role,.int .i64 b.above,.int .i64 b.xp,.int .i64 b.xn,.int .i64 b.yp,.int .i64 b.yn,.slice ib b.inds.length cb,.int .i64 b.a,.int .i64 b.b] 32)):=hW;have M:Below w.heap.size w W:=by rw [hW];exact ((Below.refl _ _).alloc (Nat.le_refl _) _).alloc (by simp) _
 have aD:W.heap.size=w.heap.size+2:=by rw [hW];simp
 have H:BoxK 32 W w.heap.size a.kind a.fn a.role a.above a.xp a.xn a.yp a.yn (.slice ia a.inds.length ca) a.a a.b:=by
  rw [hW];exact (BoxK.new 32 w _ _ _ _ _ _ _ _ _ _ _).below ((Below.refl _ _).alloc (Nat.le_refl _) _) (by simp)
 have G:BoxK 32 W (w.heap.size+1) b.kind b.fn b.role b.above b.xp b.xn b.yp b.yn (.slice ib b.inds.length cb) b.a b.b:=by
  rw [hW];have:=BoxK.new 32 (w.alloc (.cells #[.int .i64 a.kind,.int .i64 a.fn,.int .i64 a.role,.int .i64 a.above,.int .i64 a.xp,.int .i64 a.xn,.int .i64 a.yp,.int .i64 a.yn,.slice ia a.inds.length ca,.int .i64 a.a,.int .i64 a.b] 32)) b.kind b.fn b.role b.above b.xp b.xn b.yp b.yn (.slice ib b.inds.length cb) b.a b.b;rw [show (w.alloc (.cells #[.int .i64 a.kind,.int .i64 a.fn,.int .i64 a.role,.int .i64 a.above,.int .i64 a.xp,.int .i64 a.xn,.int .i64 a.yp,.int .i64 a.yn,.slice ia a.inds.length ca,.int .i64 a.a,.int .i64 a.b] 32)).heap.size=w.heap.size+1 from by simp] at this;exact this
 have HB:Hid (∀ V,Below W.heap.size W V→BoxK 32 V w.heap.size a.kind a.fn a.role a.above a.xp a.xn a.yp a.yn (.slice ia a.inds.length ca) a.a a.b∧BoxK 32 V (w.heap.size+1) b.kind b.fn b.role b.above b.xp b.xn b.yp b.yn (.slice ib b.inds.length cb) b.a b.b):=fun V hV=>⟨H.below hV (by omega),G.below hV (by omega)⟩
 have HF:Hid (∀ V,Below W.heap.size W V→Below w.heap.size w V):=fun V hV=>M.trans (hV.mono (by omega))
 have H0:Hid (Below W.heap.size W W):=Below.refl _ _;clear hW M H G;obtain ⟨y0,y1,y2,y3,y4,y5,y6,y7,y8,y9,t⟩:=(HB.out _ H0.out).1.cells;obtain ⟨v0,v1,v2,v3,v4,v5,v6,v7,v8,v9,I⟩:=(HB.out _ H0.out).2.cells;rw [HK.out] at v0;go_enter Try.func105, Try.ntmps105;go_upto_region 1 with fail;rw [← HW.out];by_cases hr:a.role=b.role
 · have s:Hid (o=some (pairC a b)):=by rw [Hid,HO.out,if_pos hr]
   have aa:(a.role != b.role)=false:=by simpa using hr
   clear hr;obtain ⟨gg,af⟩:∃ gg,gg=W.heap.size:=⟨_,rfl⟩;obtain ⟨Wg,a4⟩:∃ Wg,Wg=W.alloc (.cells (madeCells #[.int .i64 0,.int .i64 0] (4*2)) 29):=⟨_,rfl⟩
   have aE:(Instr.makeSlice 30 (.int .i64 4) (.int .i64 4)).run Try.prog W=.ok (.slice (some ⟨gg,0,none⟩) 4 4) Wg:=by
    obtain ⟨i0,a2,aC,aB,aA⟩:=info_parts Try.infoPt;have hr:=run_make (P:=Try.prog) W 30 29 i0 _ Try.underlying30 a2 aC .i64 .i64 4 4 (by omega) (Int.le_refl _) (by rw [aA];omega) (by omega);rw [aB] at hr;rw [af,a4];exact hr
   have aq:∀ V:World,(Instr.build 32 #[(0,.int .i64 5),(6,.slice (some ⟨gg,0,none⟩) 4 4)]).run Try.prog V=.ok (.agg #[.int .i64 5,.int .i64 0,.int .i64 0,.int .i64 0,.int .i64 0,.int .i64 0,.int .i64 0,.int .i64 0,.slice (some ⟨gg,0,none⟩) 4 4,.int .i64 0,.int .i64 0]) V:=fun V=>run_build V _ _ _ (by kernel_rfl)
   have Z:Wg.rowIs gg 29 (4*2) (cellP zero4 4):=by
    rw [a4,af];refine (rowP_made W zero4 4).congr (fun j hj=>?_);unfold cellP;rw [zero4_get]
    split <;> simp
   obtain ⟨bo,E⟩:∃ bo,bo=Wg.heap.size:=⟨_,rfl⟩;obtain ⟨W2,a6⟩:∃ W2,W2=Wg.alloc (.cells #[.int .i64 5,.int .i64 0,.int .i64 0,.int .i64 0,.int .i64 0,.int .i64 0,.int .i64 0,.int .i64 0,.slice (some ⟨gg,0,none⟩) 4 4,.int .i64 0,.int .i64 0] 32):=⟨_,rfl⟩;have aI:Hid (W2=Wg.alloc (.cells #[.int .i64 5,.int .i64 0,.int .i64 0,.int .i64 0,.int .i64 0,.int .i64 0,.int .i64 0,.int .i64 0,.slice (some ⟨gg,0,none⟩) 4 4,.int .i64 0,.int .i64 0] 32)):=a6;have aL:Hid (bo=Wg.heap.size):=E;have ag:Below W.heap.size W Wg:=by rw [a4];exact (Below.refl _ _).alloc (Nat.le_refl _) _
   have ah:Below Wg.heap.size Wg W2:=by rw [a6];exact (Below.refl _ _).alloc (Nat.le_refl _) _
   have H2:Hid (Below W.heap.size W W2):=ag.trans (ah.mono ag.size);have ax:Hid (BoxK 32 W2 bo 5 0 0 0 0 0 0 0 (.slice (some ⟨gg,0,none⟩) 4 4) 0 0):=by rw [Hid,a6,E];exact BoxK.new _ Wg _ _ _ _ _ _ _ _ _ _ _
   have U:Hid (W2.rowIs gg 29 (4*2) (cellP zero4 4)):=Z.of_block (ah.block gg Z.lt);have a3:W.heap.size≤gg:=by omega
   have aO:gg<bo:=by rw [E];exact Z.lt
   clear a4 af Z a6 E ag ah;go_upto_region 7 with fail;rw [← aI.out,← aL.out];clear y0 y1 y2 y3 y4 y5 y6 y7 y8 y9 t v0 v1 v2 v3 v4 v5 v6 v7 v8 v9 I aE;obtain ⟨y0,y1,y2,y3,y4,y5,y6,y7,y8,y9,t⟩:=(HB.out _ H2.out).1.cells;obtain ⟨v0,v1,v2,v3,v4,v5,v6,v7,v8,v9,I⟩:=(HB.out _ H2.out).2.cells;rw [HA.out.1] at y9;obtain ⟨p0,p1,p2,p3,p4,p5,p6,p7,p8,p9,az⟩:=ax.out.cells;have e0:=U.out.cell (show i*2<4*2 by omega);have e1:=U.out.cell (show i*2+1<4*2 by omega);have aj:=U.out.frozen (i*2);have ai:=U.out.frozen (i*2+1);obtain ⟨W6,O⟩:∃ W6,W6=(W2.setCell ⟨gg,i*2,none⟩ (.int .i64 b.xp)).setCell ⟨gg,i*2+1,none⟩ (.int .i64 b.xn):=⟨_,rfl⟩;have ao:Hid (W6.rowIs gg 29 (4*2) (cellP (zero4.set i b.x) 4)):=by rw [Hid,O];exact rowP_set aF rfl U.out
   have H6:Hid (Below W.heap.size W W6):=by rw [Hid,O];exact (H2.out.setCell (p:=⟨gg,i*2,none⟩) a3 _).setCell (p:=⟨gg,i*2+1,none⟩) a3 _
   have ak:Hid (BoxK 32 W6 bo 5 0 0 0 0 0 0 0 (.slice (some ⟨gg,0,none⟩) 4 4) 0 0):=by
    rw [Hid,O];exact (Below.heap_setCell _ _ _ _ (by show bo≠gg;omega)).trans ((Below.heap_setCell _ _ _ _ (by show bo≠gg;omega)).trans ax.out)
   go_upto_region 8 with fail;rw [← O];clear e0 e1 aj ai O y0 y1 y2 y3 y4 y5 y6 y7 y8 y9 t v0 v1 v2 v3 v4 v5 v6 v7 v8 v9 I p0 p1 p2 p3 p4 p5 p6 p7 p8 p9 az
   have R:Hid (∀ V,Below W.heap.size W V→BoxK 32 V bo 5 0 0 0 0 0 0 0 (.slice (some ⟨gg,0,none⟩) 4 4) 0 0→V.cell? ⟨bo,8,none⟩=some (.slice (some ⟨gg,0,none⟩) 4 4)∧V.cell? ⟨w.heap.size,10,none⟩=some (.int .i64 (j:Int))∧V.cell? ⟨w.heap.size+1,6,none⟩=some (.int .i64 b.yp)∧V.cell? ⟨w.heap.size+1,7,none⟩=some (.int .i64 b.yn)):=fun V hV E=>by
    have q1:=(HB.out V hV).1.cells;have q2:=(HB.out V hV).2.cells;have q3:=E.cells;rw [HA.out.2] at q1;exact ⟨q3.2.2.2.2.2.2.2.2.1,q1.2.2.2.2.2.2.2.2.2.2,q2.2.2.2.2.2.2.1,q2.2.2.2.2.2.2.2.1⟩
   have X:Below W.heap.size W W6.drew:=H6.out.drew;have Y:Hid (BoxK 32 W6.drew bo 5 0 0 0 0 0 0 0 (.slice (some ⟨gg,0,none⟩) 4 4) 0 0):=ak.out;refine wp_region_held_drew (S:=(fun V=>V.cell? ⟨bo,8,none⟩=some (.slice (some ⟨gg,0,none⟩) 4 4)∧V.cell? ⟨w.heap.size,10,none⟩=some (.int .i64 (j:Int))∧V.cell? ⟨w.heap.size+1,6,none⟩=some (.int .i64 b.yp)∧V.cell? ⟨w.heap.size+1,7,none⟩=some (.int .i64 b.yn))) (by kernel_rfl) ?_ (fun hHeld=>?_)
   · (try dsimp only)
     with_reducible exact R.out _ X Y.out
   refine takeR (i:=0) (v:=?_) rfl (by kernel_rfl) ?_ (by assumption) ?_;rotate_left
   · intro w hSw;(try dsimp only at hSw);go_simp;(try with_reducible rfl)
   (try simp only [List.getElem_toArray]);(try simp only [List.getElem_cons_succ]);(try simp only [List.getElem_cons_zero]);(try simp only [Act.put]);(try simp only [List.setIfInBounds_toArray]);(try simp only [List.set_cons_succ]);(try simp only [List.set_cons_zero]);refine takeR (i:=1) (v:=?_) rfl (by kernel_rfl) ?_ (by assumption) ?_;rotate_left
   · intro w hSw;(try dsimp only at hSw);go_simp;(try with_reducible rfl)
   (try simp only [List.getElem_toArray]);(try simp only [List.getElem_cons_succ]);(try simp only [List.getElem_cons_zero]);(try simp only [Act.put]);(try simp only [List.setIfInBounds_toArray]);(try simp only [List.set_cons_succ]);(try simp only [List.set_cons_zero]);refine takeR (i:=2) (v:=?_) rfl (by kernel_rfl) ?_ (by assumption) ?_;rotate_left
   · intro w hSw;(try dsimp only at hSw);go_simp;(try with_reducible rfl)
   (try simp only [List.getElem_toArray]);(try simp only [List.getElem_cons_succ]);(try simp only [List.getElem_cons_zero]);(try simp only [Act.put]);(try simp only [List.setIfInBounds_toArray]);(try simp only [List.set_cons_succ]);(try simp only [List.set_cons_zero]);refine takeR (i:=3) (v:=?_) rfl (by kernel_rfl) ?_ (by assumption) ?_;rotate_left
   · intro w hSw;(try dsimp only at hSw);go_simp;(try with_reducible rfl)
   (try simp only [List.getElem_toArray]);(try simp only [List.getElem_cons_succ]);(try simp only [List.getElem_cons_zero]);(try simp only [Act.put]);(try simp only [List.setIfInBounds_toArray]);(try simp only [List.set_cons_succ]);(try simp only [List.set_cons_zero]);refine takeR (i:=4) (v:=?_) rfl (by kernel_rfl) ?_ (by assumption) ?_;rotate_left
   · intro w hSw;(try dsimp only at hSw);go_simp;(try with_reducible rfl)
   (try simp only [List.getElem_toArray]);(try simp only [List.getElem_cons_succ]);(try simp only [List.getElem_cons_zero]);(try simp only [Act.put]);(try simp only [List.setIfInBounds_toArray]);(try simp only [List.set_cons_succ]);(try simp only [List.set_cons_zero]);refine takeR (i:=5) (v:=?_) rfl (by kernel_rfl) ?_ (by assumption) ?_;rotate_left
   · intro w hSw;(try dsimp only at hSw);go_simp;(try with_reducible rfl)
   (try simp only [List.getElem_toArray]);(try simp only [List.getElem_cons_succ]);(try simp only [List.getElem_cons_zero]);(try simp only [Act.put]);(try simp only [List.setIfInBounds_toArray]);(try simp only [List.set_cons_succ]);(try simp only [List.set_cons_zero]);refine takeR (i:=6) (v:=?_) rfl (by kernel_rfl) ?_ (by assumption) ?_;rotate_left
   · intro w hSw;(try dsimp only at hSw);go_simp;(try with_reducible rfl)
   (try simp only [List.getElem_toArray]);(try simp only [List.getElem_cons_succ]);(try simp only [List.getElem_cons_zero]);(try simp only [Act.put]);(try simp only [List.setIfInBounds_toArray]);(try simp only [List.set_cons_succ]);(try simp only [List.set_cons_zero]);refine takeR (i:=7) (v:=?_) rfl (by kernel_rfl) ?_ (by assumption) ?_;rotate_left
   · intro w hSw;(try dsimp only at hSw);go_simp;(try with_reducible rfl)
   (try simp only [List.getElem_toArray]);(try simp only [List.getElem_cons_succ]);(try simp only [List.getElem_cons_zero]);(try simp only [Act.put]);(try simp only [List.setIfInBounds_toArray]);(try simp only [List.set_cons_succ]);(try simp only [List.set_cons_zero]);refine takeR (i:=8) (v:=?_) rfl (by kernel_rfl) ?_ (by assumption) ?_;rotate_left
   · intro w hSw;(try dsimp only at hSw);go_simp;(try with_reducible rfl)
   (try simp only [List.getElem_toArray]);(try simp only [List.getElem_cons_succ]);(try simp only [List.getElem_cons_zero]);(try simp only [Act.put]);(try simp only [List.setIfInBounds_toArray]);(try simp only [List.set_cons_succ]);(try simp only [List.set_cons_zero]);refine takeR (i:=10) (v:=?_) rfl (by kernel_rfl) ?_ (by assumption) ?_;rotate_left
   · intro w hSw;(try dsimp only at hSw);go_simp;(try with_reducible rfl)
   (try simp only [List.getElem_toArray]);(try simp only [List.getElem_cons_succ]);(try simp only [List.getElem_cons_zero]);(try simp only [Act.put]);(try simp only [List.setIfInBounds_toArray]);(try simp only [List.set_cons_succ]);(try simp only [List.set_cons_zero]);refine takeR (i:=11) (v:=?_) rfl (by kernel_rfl) ?_ (by assumption) ?_;rotate_left
   · intro w hSw;(try dsimp only at hSw);go_simp;(try with_reducible rfl)
   (try simp only [List.getElem_toArray]);(try simp only [List.getElem_cons_succ]);(try simp only [List.getElem_cons_zero]);(try simp only [Act.put]);(try simp only [List.setIfInBounds_toArray]);(try simp only [List.set_cons_succ]);(try simp only [List.set_cons_zero]);have D:W6.drew.rowIs gg 29 (4*2) (cellP (zero4.set i b.x) 4):=ao.out;obtain ⟨a8,a7⟩:=cellP_new (zero4.set i b.x) ar;rw [← HX.out] at a8 a7;have e0:=D.cell (show j*2<4*2 by omega);have e1:=D.cell (show j*2+1<4*2 by omega);rw [a8] at e0;rw [a7] at e1;dsimp only at e0 e1;refine wpAnyH_ready (rs:=[9]) (by kernel_rfl) (by simp) ?_;refine AllReadyH.cons rfl (fun K hK=>?_) AllReadyH.nil;go_simp;refine hK.out _ _ ?_ (fun hHeld=>?_)
   · (try dsimp only)
     with_reducible exact R.out _ X Y.out
   clear hK K e0 e1 a8 a7;(try simp only [List.getElem_toArray]);(try simp only [List.getElem_cons_succ]);(try simp only [List.getElem_cons_zero]);(try simp only [Act.put]);(try simp only [List.setIfInBounds_toArray]);(try simp only [List.set_cons_succ]);(try simp only [List.set_cons_zero]);refine wpAnyH_ready (rs:=[12]) (by kernel_rfl) (by simp) ?_;refine AllReadyH.cons rfl (fun K hK=>?_) AllReadyH.nil;go_simp;go_wp2_with (go_at_call 103;refine (aK.out _).mono ?_;rintro e w5 ⟨rfl,hb⟩;have ap:Hid (Below W6.drew.heap.size W6.drew w5):=hb;clear hb);have H5:Hid (Below W.heap.size W w5):=X.trans (ap.out.mono X.size);have av:Hid (BoxK 32 w5 bo 5 0 0 0 0 0 0 0 (.slice (some ⟨gg,0,none⟩) 4 4) 0 0):=(ap.out.block bo (show bo<W6.heap.size from ak.out.lt)).trans ak.out;refine hK.out _ _ ?_ (fun hHeld=>?_)
   · (try dsimp only)
     with_reducible exact R.out _ H5.out av.out
   clear hK K;(try simp only [List.getElem_toArray]);(try simp only [List.getElem_cons_succ]);(try simp only [List.getElem_cons_zero]);(try simp only [Act.put]);(try simp only [List.setIfInBounds_toArray]);(try simp only [List.set_cons_succ]);(try simp only [List.set_cons_zero]);refine takeR (i:=13) (v:=?_) rfl (by kernel_rfl) ?_ (by assumption) ?_;rotate_left
   · intro w hSw;(try dsimp only at hSw);go_simp;(try with_reducible rfl)
   (try simp only [List.getElem_toArray]);(try simp only [List.getElem_cons_succ]);(try simp only [List.getElem_cons_zero]);(try simp only [Act.put]);(try simp only [List.setIfInBounds_toArray]);(try simp only [List.set_cons_succ]);(try simp only [List.set_cons_zero]);have d:w5.rowIs gg 29 (4*2) (cellP (zero4.set i b.x) 4):=ao.out.of_block (ap.out.block gg ao.out.lt);have e0:=d.cell (show j*2<4*2 by omega);have e1:=d.cell (show j*2+1<4*2 by omega);have aj:=d.frozen (j*2);have ai:=d.frozen (j*2+1);obtain ⟨W7,N⟩:∃ W7,W7=(w5.setCell ⟨gg,j*2,none⟩ (.int .i64 m1)).setCell ⟨gg,j*2+1,none⟩ (.int .i64 m2):=⟨_,rfl⟩;have an:Hid (W7.rowIs gg 29 (4*2) (cellP ((zero4.set i b.x).set j (m1,m2)) 4)):=by rw [Hid,N];exact rowP_set ar (by rw [List.length_set];rfl) d
   have H7:Hid (Below W.heap.size W W7):=by rw [Hid,N];exact (H5.out.setCell (p:=⟨gg,j*2,none⟩) a3 _).setCell (p:=⟨gg,j*2+1,none⟩) a3 _
   have au:Hid (BoxK 32 W7 bo 5 0 0 0 0 0 0 0 (.slice (some ⟨gg,0,none⟩) 4 4) 0 0):=by
    rw [Hid,N];exact (Below.heap_setCell _ _ _ _ (by show bo≠gg;omega)).trans ((Below.heap_setCell _ _ _ _ (by show bo≠gg;omega)).trans av.out)
   refine wpAnyH_ready (rs:=[14]) (by kernel_rfl) (by simp) ?_;refine AllReadyH.cons rfl (fun K hK=>?_) AllReadyH.nil;go_simp;rw [← N];refine hK.out _ _ ?_ (fun hHeld=>?_)
   · (try dsimp only)
     with_reducible exact R.out _ H7.out au.out
   clear hK K N e0 e1 aj ai D d;(try simp only [List.getElem_toArray]);(try simp only [List.getElem_cons_succ]);(try simp only [List.getElem_cons_zero]);(try simp only [Act.put]);(try simp only [List.setIfInBounds_toArray]);(try simp only [List.set_cons_succ]);(try simp only [List.set_cons_zero]);refine wpAnyH_done (by kernel_rfl) ?_ _;clear hHeld R X;obtain ⟨y0,y1,y2,y3,y4,y5,y6,y7,y8,y9,t⟩:=au.out.cells;obtain ⟨Wz,r⟩:∃ Wz,Wz=W7.alloc (.cells #[.int .i64 5,.int .i64 0,.int .i64 0,.int .i64 0,.int .i64 0,.int .i64 0,.int .i64 0,.int .i64 0,.slice (some ⟨gg,0,none⟩) 4 4,.int .i64 0,.int .i64 0] 32):=⟨_,rfl⟩;have al:Hid (Wz=W7.alloc (.cells #[.int .i64 5,.int .i64 0,.int .i64 0,.int .i64 0,.int .i64 0,.int .i64 0,.int .i64 0,.int .i64 0,.slice (some ⟨gg,0,none⟩) 4 4,.int .i64 0,.int .i64 0] 32)):=r;have A:Below W7.heap.size W7 Wz:=by rw [r];exact (Below.refl _ _).alloc (Nat.le_refl _) _
   have am:Hid (Below W.heap.size W Wz):=H7.out.trans (A.mono H7.out.size);have L:Wz.heap[W7.heap.size]?=some (.cells #[.int .i64 5,.int .i64 0,.int .i64 0,.int .i64 0,.int .i64 0,.int .i64 0,.int .i64 0,.int .i64 0,.slice (some ⟨gg,0,none⟩) 4 4,.int .i64 0,.int .i64 0] 32 (0,0)):=by rw [r];exact World.alloc_heap_new W7 _
   have J:W7.heap.size<Wz.heap.size:=by rw [r];simp
   have HQ:Hid (RdZ 0 Wz.heap.size Wz (some ⟨W7.heap.size,0,none⟩) 1 1 [pairC a b]):=by
    rw [aJ.out];refine RdZ.one (c:=factC ((zero4.set i b.x).set j (m1,m2))) (ia:=some ⟨gg,0,none⟩) (ic:=4) ?_ ?_ (Nat.zero_le _) J
    · rw [L]
      show some (Obj.cells _ _ _)=some (Obj.cells (clA (factC ((zero4.set i b.x).set j (m1,m2))) (.slice (some ⟨gg,0,none⟩) ((zero4.set i b.x).set j (m1,m2)).length 4)) _ _)
      rw [List.length_set,List.length_set];rfl
    show RP 0 Wz.heap.size Wz _ ((zero4.set i b.x).set j (m1,m2)).length 4 ((zero4.set i b.x).set j (m1,m2))
    rw [List.length_set,List.length_set];exact rowP_rd (an.out.of_block (A.block gg an.out.lt)) (by rw [List.length_set,List.length_set];try rfl) (by show (4:Nat)≤1048576;omega) (Nat.zero_le _) (Nat.lt_of_lt_of_le an.out.lt A.size)
   clear r A L J;go_wp2_with fail;go_ret;rw [← al.out];exact ⟨some ⟨W7.heap.size,0,none⟩,1,by rw [s.out];rfl,by rw [s.out];exact HQ.out,HF.out _ am.out⟩
 have T:Hid (o=none):=by rw [Hid,HO.out,if_neg hr]
 have aa:(a.role != b.role)=true:=by simpa using hr
 clear hr;go_wp2_with fail;go_ret;exact ⟨none,0,by rw [T.out];rfl,by rw [T.out];exact RdZ.nil _ _ _,HF.out _ H0.out⟩
end Go.Proofs.Ytkjmfaohdhiiaaa
