/- The laws' own count of a clause, their comparison of two and their copy of one: a contract each. -/
import Derived.Test.YtellcgmabimieaaGreatDoorNG3
import Derived.Deep.RegionWith
namespace Go.Proofs.YtellcgmabimieaaGreatDoor
open Go.RowKit
theorem szPartS_any (a:Option Addr) (n M:Nat) (left:Int) (w:World) (hl:0≤left∧left≤1048576) (hn:n≤9223372036854775807) :
    Calls Tryz.prog 22 #[.slice a n M,.int .i64 left] w fun e w'=>e=.returned (.int .i64 (szRes left n))∧w'=w:=by
 obtain ⟨h0,h1⟩:=hl;by_cases h:left<n
 · have HE:Hid (szRes left n=-1):=if_pos h;go_enter Tryz.func22, Tryz.ntmps22;go_wp2;go_ret;exact ⟨ri HE.out.symm,rfl⟩
 have HE:Hid (szRes left n=left - n):=if_neg h;go_enter Tryz.func22, Tryz.ntmps22;go_wp2;go_ret;exact ⟨ri HE.out.symm,rfl⟩
set_option maxHeartbeats 1000000 in
theorem szK_any {k f r u xp xn yp yn:Int} {ia:Option Addr} {im ic:Nat} {a b:Int} {xs:List (Int × Int)} {w:World} {lo hi:Nat} (h:RP lo hi w ia im ic xs) (left:Int) (hl:0≤left∧left≤1048576) :
    Calls Tryz.prog 6 #[.agg #[.int .i64 k,.int .i64 f,.int .i64 r,.int .i64 u,.int .i64 xp,.int .i64 xn,.int .i64 yp,.int .i64 yn,.slice ia im ic,.int .i64 a,.int .i64 b],.int .i64 left] w fun e w'=>e=.returned (.int .i64 (szRes left im))∧Below w.heap.size w w':=by
 obtain ⟨W,hW⟩:∃ W,W=w.alloc (.cells #[.int .i64 k,.int .i64 f,.int .i64 r,.int .i64 u,.int .i64 xp,.int .i64 xn,.int .i64 yp,.int .i64 yn,.slice ia im ic,.int .i64 a,.int .i64 b] 35):=⟨_,rfl⟩;have HW:Hid (W=w.alloc (.cells #[.int .i64 k,.int .i64 f,.int .i64 r,.int .i64 u,.int .i64 xp,.int .i64 xn,.int .i64 yp,.int .i64 yn,.slice ia im ic,.int .i64 a,.int .i64 b] 35)):=hW;have N:Hid (Below w.heap.size w W):=by rw [hW];exact (Below.refl _ _).alloc (Nat.le_refl _) _
 have V:BoxK 35 W w.heap.size k f r u xp xn yp yn (.slice ia im ic) a b:=by rw [hW];exact BoxK.new _ w _ _ _ _ _ _ _ _ _ _ _
 obtain ⟨z0,z1,z2,z3,z4,z5,z6,z7,z8,z9,E⟩:=V.cells;have HF:Hid (im≤9223372036854775807):=Nat.le_trans h.fits.1 h.fits.2;obtain ⟨h0,h1⟩:=hl;clear hW V h;go_enter Tryz.func6, Tryz.ntmps6;go_upto_region 1 with fail;rw [← HW.out];go_wp2_with fail;refine (szPartS_any ia im ic left W ⟨h0,h1⟩ HF.out).mono ?_;rintro e w' ⟨rfl,hw⟩;rw [hw];clear hw;obtain ⟨q,hq⟩:∃ q,q=szRes left im:=⟨_,rfl⟩;rw [← hq];have aB:Hid (q=szRes left im):=hq
 have HQ:Hid (q<0→q=-1):=by
  unfold szRes at hq;unfold Hid
  split at hq <;> omega
 clear hq;by_cases hneg:q<0
 · have HE:Hid (q=-1):=HQ.out hneg;go_wp2_with fail;go_ret;exact ⟨ri (by rw [← aB.out,HE.out]),N.out⟩
 go_wp2_with fail;go_ret;exact ⟨ri aB.out,N.out⟩
theorem eqPart_same (p n:Int) (w:World) :
    Calls Tryz.prog 49 #[.agg #[.int .i64 p,.int .i64 n],.agg #[.int .i64 p,.int .i64 n]] w fun e w'=>e=.returned (.bool true)∧Below w.heap.size w w':=by
 have hp:(p != p)=false:=by simp
 have hn:(n != n)=false:=by simp
 have N:Hid (Below w.heap.size w ((w.alloc (.cells #[.int .i64 p,.int .i64 n] 48)).alloc (.cells #[.int .i64 p,.int .i64 n] 48))):=((Below.refl _ _).alloc (Nat.le_refl _) _).alloc (by simp) _;go_enter Tryz.func49, Tryz.ntmps49;go_wp2;go_ret;exact ⟨rfl,N.out⟩
set_option maxHeartbeats 1000000 in
theorem eqPartS_same {a a':Option Addr} {n M cap':Nat} {xs:List (Int × Int)} {w:World} {lo hi lo' hi':Nat} (h:RP lo hi w a n M xs) (h':RP lo' hi' w a' n cap' xs) (hh:hi≤w.heap.size) (aK:hi'≤w.heap.size) :
    Calls Tryz.prog 50 #[.slice a n M,.slice a' n cap'] w fun e w'=>e=.returned (.bool true)∧Below w.heap.size w w':=by
 have F:((n:Int) != (n:Int))=false:=by simp
 have HR:Hid (RP lo hi w a n M xs):=h;have aa:Hid (RP lo' hi' w a' n cap' xs):=h';have hn:=h.fits;have aG:=h'.fits;by_cases hz:n=0
 · subst hz;clear h h' HR aa;go_enter Tryz.func50, Tryz.ntmps50;go_wp2;refine wp_loop_rounds 1 ?_;rw [rounds_succ];go_wp2;go_ret;exact ⟨rfl,Below.refl _ _⟩
 obtain ⟨b,L,rfl⟩:∃ b L,a=some ⟨b,L,none⟩:=by
  rcases h.cells with h0 | ⟨b,L,e,_⟩
  · exact absurd h0 hz
  exact ⟨b,L,e⟩
 obtain ⟨b',off',rfl⟩:∃ b L,a'=some ⟨b,L,none⟩:=by
  rcases h'.cells with h0 | ⟨b,L,e,_⟩
  · exact absurd h0 hz
  exact ⟨b,L,e⟩
 obtain ⟨aF,bg⟩:=hn;obtain ⟨b2,b1⟩:=aG;clear h h' hz;go_enter Tryz.func50, Tryz.ntmps50;go_wp2;go_loopw [5] (fun i wr=>∃ k:Nat,k≤n∧i=.int .i64 k∧Below w.heap.size w wr) (fun i _=>n - (intOf i).toNat)
 case atStart=>exact ⟨0,Nat.zero_le _,rfl,Below.refl _ _⟩
 case round =>
  obtain ⟨k,hk,rfl,A⟩:=hrel;have HB:Hid (Below w.heap.size w wr):=A;by_cases hlt:k<n
  · obtain ⟨c1,c2,_⟩:=(HR.out.below A hh).at hlt;obtain ⟨aQ,aP,_⟩:=(aa.out.below A aK).at hlt;obtain ⟨t,ht⟩:∃ t,t=xs.getD k (0,0):=⟨_,rfl⟩;rw [← ht] at c1 c2 aQ aP;obtain ⟨tp,tn⟩:=t;have aI:(k:Int)<(n:Int):=by omega
    clear ht A;go_wp2
    first | go_region_with (go_at_call 49;refine (eqPart_same tp tn _).mono ?_;rintro e w' ⟨rfl,aM⟩) | fail
    all_goals
     go_wp2;go_roundw
     case rel=>exact ⟨k+1,by omega,by go_num,HB.out.drew.trans (aM.mono HB.out.size)⟩
     case measure=>simp [intOf];omega
  clear A;go_wp2;go_ret;exact ⟨rfl,HB.out⟩
set_option maxRecDepth 100000 in
set_option maxHeartbeats 2000000 in
theorem eqK_any {k f r u xp xn yp yn:Int} {ia:Option Addr} {im ic:Nat} {a b:Int} {xs:List (Int × Int)} {ia':Option Addr} {ic':Nat} {w:World} {lo hi lo' hi':Nat} (h:RP lo hi w ia im ic xs) (h':RP lo' hi' w ia' im ic' xs) (T:hi≤w.heap.size) (a0:hi'≤w.heap.size) :
    Calls Tryz.prog 16 #[.agg #[.int .i64 k,.int .i64 f,.int .i64 r,.int .i64 u,.int .i64 xp,.int .i64 xn,.int .i64 yp,.int .i64 yn,.slice ia im ic,.int .i64 a,.int .i64 b],.agg #[.int .i64 k,.int .i64 f,.int .i64 r,.int .i64 u,.int .i64 xp,.int .i64 xn,.int .i64 yp,.int .i64 yn,.slice ia' im ic',.int .i64 a,.int .i64 b]] w fun e w'=>e=.returned (.bool true)∧Below w.heap.size w w':=by
 obtain ⟨W0,a7⟩:∃ W0,W0=(w.alloc (.cells #[.int .i64 k,.int .i64 f,.int .i64 r,.int .i64 u,.int .i64 xp,.int .i64 xn,.int .i64 yp,.int .i64 yn,.slice ia im ic,.int .i64 a,.int .i64 b] 51)).alloc (.cells #[.int .i64 k,.int .i64 f,.int .i64 r,.int .i64 u,.int .i64 xp,.int .i64 xn,.int .i64 yp,.int .i64 yn,.slice ia' im ic',.int .i64 a,.int .i64 b] 51):=⟨_,rfl⟩;have aS:Hid (W0=(w.alloc (.cells #[.int .i64 k,.int .i64 f,.int .i64 r,.int .i64 u,.int .i64 xp,.int .i64 xn,.int .i64 yp,.int .i64 yn,.slice ia im ic,.int .i64 a,.int .i64 b] 51)).alloc (.cells #[.int .i64 k,.int .i64 f,.int .i64 r,.int .i64 u,.int .i64 xp,.int .i64 xn,.int .i64 yp,.int .i64 yn,.slice ia' im ic',.int .i64 a,.int .i64 b] 51)):=a7;have F:Below w.heap.size w W0:=by rw [a7];exact ((Below.refl _ _).alloc (Nat.le_refl _) _).alloc (by simp) _
 have N:Hid (Below w.heap.size w W0):=F;have V:BoxK 51 W0 w.heap.size k f r u xp xn yp yn (.slice ia im ic) a b:=by rw [a7];exact (BoxK.new _ w _ _ _ _ _ _ _ _ _ _ _).below ((Below.refl _ _).alloc (Nat.le_refl _) _) (by simp)
 have ag:BoxK 51 W0 (w.heap.size+1) k f r u xp xn yp yn (.slice ia' im ic') a b:=by
  rw [a7];have:=BoxK.new 51 (w.alloc (.cells #[.int .i64 k,.int .i64 f,.int .i64 r,.int .i64 u,.int .i64 xp,.int .i64 xn,.int .i64 yp,.int .i64 yn,.slice ia im ic,.int .i64 a,.int .i64 b] 51)) k f r u xp xn yp yn (.slice ia' im ic') a b
  rwa [World.size_alloc] at this
 have HR:Hid (∀ W,Below W0.heap.size W0 W→RP lo hi W ia im ic xs∧hi≤W.heap.size):=fun W hW=>⟨(h.below F T).below hW (Nat.le_trans T F.size),Nat.le_trans T (Nat.le_trans F.size hW.size)⟩
 have aa:Hid (∀ W,Below W0.heap.size W0 W→RP lo' hi' W ia' im ic' xs∧hi'≤W.heap.size):=fun W hW=>⟨(h'.below F a0).below hW (Nat.le_trans a0 F.size),Nat.le_trans a0 (Nat.le_trans F.size hW.size)⟩
 have HX:Hid (∀ W,Below W0.heap.size W0 W→BoxK 51 W w.heap.size k f r u xp xn yp yn (.slice ia im ic) a b):=fun W hW=>V.below hW V.lt
 have HY:Hid (∀ W,Below W0.heap.size W0 W→BoxK 51 W (w.heap.size+1) k f r u xp xn yp yn (.slice ia' im ic') a b):=fun W hW=>ag.below hW ag.lt
 have d0:(k != k)=false:=by simp
 have d1:(f != f)=false:=by simp
 have d2:(r != r)=false:=by simp
 have d3:(u != u)=false:=by simp
 have d4:(a != a)=false:=by simp
 have d5:(b != b)=false:=by simp
 obtain ⟨z0,z1,z2,z3,z4,z5,z6,z7,z8,z9,E⟩:=V.cells;obtain ⟨y0,y1,y2,y3,y4,y5,y6,y7,y8,y9,a3⟩:=ag.cells;clear h h' F a7 V ag;go_enter Tryz.func16, Tryz.ntmps16;go_upto_region 1 with fail;rw [← aS.out];go_wp2_with fail;refine (eqPart_same xp xn W0).mono ?_;rintro e w1 ⟨rfl,a5⟩;have H1:Hid (Below W0.heap.size W0 w1):=a5;clear a5 z0 z1 z2 z3 z4 z5 z6 z7 z8 z9 E y0 y1 y2 y3 y4 y5 y6 y7 y8 y9 a3;obtain ⟨z0,z1,z2,z3,z4,z5,z6,z7,z8,z9,E⟩:=(HX.out _ H1.out).cells;obtain ⟨y0,y1,y2,y3,y4,y5,y6,y7,y8,y9,a3⟩:=(HY.out _ H1.out).cells;go_wp2_with fail;refine (eqPart_same yp yn w1).mono ?_;rintro e w2 ⟨rfl,a4⟩;have H2:Hid (Below W0.heap.size W0 w2):=H1.out.trans (a4.mono H1.out.size);clear a4 z0 z1 z2 z3 z4 z5 z6 z7 z8 z9 E y0 y1 y2 y3 y4 y5 y6 y7 y8 y9 a3;obtain ⟨z0,z1,z2,z3,z4,z5,z6,z7,z8,z9,E⟩:=(HX.out _ H2.out).cells;obtain ⟨y0,y1,y2,y3,y4,y5,y6,y7,y8,y9,a3⟩:=(HY.out _ H2.out).cells;go_wp2_with fail;refine (eqPartS_same (HR.out _ H2.out).1 (aa.out _ H2.out).1 (HR.out _ H2.out).2 (aa.out _ H2.out).2).mono ?_;rintro e w3 ⟨rfl,Y⟩;have H3:Hid (Below W0.heap.size W0 w3):=H2.out.trans (Y.mono H2.out.size);clear Y z0 z1 z2 z3 z4 z5 z6 z7 z8 z9 E y0 y1 y2 y3 y4 y5 y6 y7 y8 y9 a3;obtain ⟨z0,z1,z2,z3,z4,z5,z6,z7,z8,z9,E⟩:=(HX.out _ H3.out).cells;obtain ⟨y0,y1,y2,y3,y4,y5,y6,y7,y8,y9,a3⟩:=(HY.out _ H3.out).cells;go_wp2_with fail;go_ret;exact ⟨rfl,N.out.trans (H3.out.mono N.out.size)⟩
theorem Tryz.infoPart:(Tryz.prog.info? 48).map (fun i=>(i.zero,i.size,i.bytes))=some (some (.agg #[.int .i64 0,.int .i64 0]),2,16):=by kernel_rfl
def cellP (xs:List (Int × Int)) (k j:Nat):Value :=
 if j / 2<k then (if j % 2=0 then .int .i64 (xs.getD (j / 2) (0,0)).1 else .int .i64 (xs.getD (j / 2) (0,0)).2) else .int .i64 0
theorem cellP_new (xs:List (Int × Int)) {k i:Nat} (h:i<k):cellP xs k (i*2)=.int .i64 (xs.getD i (0,0)).1∧cellP xs k (i*2+1)=.int .i64 (xs.getD i (0,0)).2:=by
 have e0:i*2 / 2=i:=by omega
 have e1:(i*2+1) / 2=i:=by omega
 have m1:(i*2+1) % 2=1:=by omega
 refine ⟨?_,?_⟩
 · simp [cellP,e0,h]
 simp [cellP,e1,m1,h]
theorem cellP_old (xs:List (Int × Int)) {k i:Nat} (h:k≤i):cellP xs k (i*2)=.int .i64 0∧cellP xs k (i*2+1)=.int .i64 0:=by
 have e0:i*2 / 2=i:=by omega
 have e1:(i*2+1) / 2=i:=by omega
 have hn:¬ i<k:=by omega
 refine ⟨?_,?_⟩
 · simp [cellP,e0,hn]
 simp [cellP,e1,hn]
theorem rowP_made (w:World) (xs:List (Int × Int)) (n:Nat):(w.alloc (.cells (madeCells #[.int .i64 0,.int .i64 0] (n*2)) 48)).rowIs w.heap.size 48 (n*2) (cellP xs 0):=by
 have au:=World.rowIs_alloc w (madeCells #[.int .i64 0,.int .i64 0] (n*2)) 48 (cellP xs 0) (fun i hi=>?_)
 · rw [size_madeCells] at au;exact au
 rw [size_madeCells] at hi;have:i % 2=0∨i % 2=1:=by omega
 rcases this with h | h <;> simp [madeCells,hi,cellP,h]
theorem rowP_step {w:World} {g n k:Nat} {xs:List (Int × Int)} {p q:Int} (hp:p=(xs.getD k (0,0)).1) (hq:q=(xs.getD k (0,0)).2) (h:w.rowIs g 48 (n*2) (cellP xs k)) :
    ((w.setCell ⟨g,k*2,none⟩ (.int .i64 p)).setCell ⟨g,k*2+1,none⟩ (.int .i64 q)).rowIs g 48 (n*2) (cellP xs (k+1)):=by
 subst hp hq;refine ((h.set (k*2) _).set (k*2+1) _).congr fun j hj=>?_
 have hd:∃ i,j=i*2∨j=i*2+1:=⟨j / 2,by omega⟩;obtain ⟨i,hd⟩:=hd;by_cases hik:i=k
 · subst hik;obtain ⟨c0,c1⟩:=cellP_new xs (Nat.lt_succ_self i);rcases hd with rfl | rfl
   · rw [c0];simp
   rw [c1];simp
 have n0:j≠k*2:=by omega
 have n1:j≠k*2+1:=by omega
 simp only [if_neg n0,if_neg n1];by_cases hlt:i<k
 · obtain ⟨c0,c1⟩:=cellP_new xs (show i<k+1 by omega);obtain ⟨d0,d1⟩:=cellP_new xs hlt;rcases hd with rfl | rfl
   · rw [c0,d0]
   rw [c1,d1]
 obtain ⟨c0,c1⟩:=cellP_old xs (show k+1≤i by omega);obtain ⟨d0,d1⟩:=cellP_old xs (show k≤i by omega);rcases hd with rfl | rfl
 · rw [c0,d0]
 rw [c1,d1]
theorem rowP_rd {lo hi:Nat} {w:World} {g n:Nat} {xs:List (Int × Int)} (h:w.rowIs g 48 (n*2) (cellP xs n)) (hl:xs.length=n) (hn:n≤1048576) (h1:lo≤g) (h2:g<hi):RP lo hi w (some ⟨g,0,none⟩) n n xs:=by
 refine ⟨hl,⟨Nat.le_refl _,by omega⟩,.inr ⟨g,0,rfl,h1,h2,fun i hi=>?_⟩⟩;obtain ⟨c0,c1⟩:=cellP_new xs hi;simp only [Nat.zero_add];rw [h.cell (show i*2<n*2 by omega),h.cell (show i*2+1<n*2 by omega),c0,c1];exact ⟨rfl,rfl⟩
set_option maxHeartbeats 800000 in
theorem toPartS_any {a:Option Addr} {n M:Nat} {xs:List (Int × Int)} {w:World} {lo hi:Nat} (h:RP lo hi w a n M xs) (T:hi≤w.heap.size) (aF:n≤1048576) :
    Calls Tryz.prog 34 #[.slice a n M] w fun e w'=>e=.returned (.slice (some ⟨w.heap.size,0,none⟩) n n)∧w'.rowIs w.heap.size 48 (n*2) (cellP xs n)∧Below w.heap.size w w':=by
 have H:Hid (RP lo hi w a n M xs):=h;obtain ⟨hl,⟨hm,hM⟩,aL⟩:=h;clear aL
 have bh:∀ w:World,(Instr.makeSlice 49 (.int .i64 (n:Int)) (.int .i64 (n:Int))).run Tryz.prog w=.ok (.slice (some ⟨w.heap.size,0,none⟩) n n) (w.alloc (.cells (madeCells #[.int .i64 0,.int .i64 0] (n*2)) 48)):=by
  intro w;obtain ⟨i0,aJ,aE,aD,aC⟩:=info_parts Tryz.infoPart;have hr:=run_make (P:=Tryz.prog) w 49 48 i0 _ Tryz.underlying49 aJ aE .i64 .i64 n n (by omega) (Int.le_refl _) (by rw [aC];omega) (by omega);simp only [Int.toNat_natCast,aD] at hr;exact hr
 have HL:Hid (xs.length=n):=hl;have h0:Hid ((w.alloc (.cells (madeCells #[.int .i64 0,.int .i64 0] (n*2)) 48)).rowIs w.heap.size 48 (n*2) (cellP xs 0)):=rowP_made w xs n;clear hl;go_enter Tryz.func34, Tryz.ntmps34;go_wp2;go_loopw [4] (fun i wr=>∃ k:Nat,k≤n∧i=.int .i64 k∧wr.rowIs w.heap.size 48 (n*2) (cellP xs k)∧Below w.heap.size w wr) (fun i _=>n - (intOf i).toNat)
 case atStart=>exact ⟨0,Nat.zero_le _,rfl,h0.out,(Below.refl _ _).alloc (Nat.le_refl _) _⟩
 case round =>
  obtain ⟨k,hk,rfl,z,A⟩:=hrel;have HB:Hid (Below w.heap.size w wr):=A;have a1:Hid (wr.rowIs w.heap.size 48 (n*2) (cellP xs k)):=z;by_cases hlt:k<n
  · have hR:=H.out.below A T;rcases hR.cells with h0 | ⟨b,L,e1,_,bj,hc⟩
    · omega
    subst e1;obtain ⟨c1,c2⟩:=hc k hlt;obtain ⟨t,ht⟩:∃ t,t=xs.getD k (0,0):=⟨_,rfl⟩;have HT:Hid (t=xs.getD k (0,0)):=ht;rw [← ht] at c1 c2;obtain ⟨tp,tn⟩:=t;have aI:(k:Int)<(n:Int):=by omega
    have aH:=z.lt;clear hR hc ht A z;go_wp2_with fail;refine (toPart_any tp tn _).mono ?_;rintro e w1 ⟨rfl,a5⟩;have D:w1.rowIs w.heap.size 48 (n*2) (cellP xs k):=a1.out.of_block (a5.block _ aH);obtain ⟨o0,o1⟩:=cellP_old xs (Nat.le_refl k);have d0:w1.cell? ⟨w.heap.size,k*2,none⟩=some (.int .i64 0):=by rw [D.cell (show k*2<n*2 by omega),o0]
    have d1:w1.cell? ⟨w.heap.size,k*2+1,none⟩=some (.int .i64 0):=by rw [D.cell (show k*2+1<n*2 by omega),o1]
    have f0:=D.frozen (k*2);have f1:=D.frozen (k*2+1);have ae:Hid (((w1.setCell ⟨w.heap.size,k*2,none⟩ (.int .i64 tp)).setCell ⟨w.heap.size,k*2+1,none⟩ (.int .i64 tn)).rowIs w.heap.size 48 (n*2) (cellP xs (k+1))):=rowP_step (by rw [← HT.out]) (by rw [← HT.out]) D;have aY:Hid (Below w.heap.size w ((w1.setCell ⟨w.heap.size,k*2,none⟩ (.int .i64 tp)).setCell ⟨w.heap.size,k*2+1,none⟩ (.int .i64 tn))):=((HB.out.trans (a5.mono HB.out.size)).setCell (Nat.le_refl _) _).setCell (Nat.le_refl _) _;clear D a5;go_wp2;go_roundw
    case rel=>exact ⟨k+1,by omega,by go_num,ae.out,aY.out⟩
    case measure=>simp [intOf];omega
  have ay:k=n:=by omega
  have HE:Hid (wr.rowIs w.heap.size 48 (n*2) (cellP xs n)):=by subst ay;exact z
  clear ay z A;go_wp2;go_ret;exact ⟨rfl,HE.out,HB.out⟩
def set11 (W:World) (q:Nat) (v0 v1 v2 v3 v4 v5 v6 v7 v8 v9 a6:Value):World:=(((((((((((W.setCell ⟨q,0,none⟩ v0).setCell ⟨q,1,none⟩ v1).setCell ⟨q,2,none⟩ v2).setCell ⟨q,3,none⟩ v3).setCell ⟨q,4,none⟩ v4).setCell ⟨q,5,none⟩ v5).setCell ⟨q,6,none⟩ v6).setCell ⟨q,7,none⟩ v7).setCell ⟨q,8,none⟩ v8).setCell ⟨q,9,none⟩ v9).setCell ⟨q,10,none⟩ a6)
theorem heap_set11 (W:World) {b q:Nat} (v0 v1 v2 v3 v4 v5 v6 v7 v8 v9 a6:Value) (hb:b≠q):(set11 W q v0 v1 v2 v3 v4 v5 v6 v7 v8 v9 a6).heap[b]?=W.heap[b]?:=by
 unfold set11;rw [Below.heap_setCell _ ⟨q,10,none⟩ _ b hb,Below.heap_setCell _ ⟨q,9,none⟩ _ b hb,Below.heap_setCell _ ⟨q,8,none⟩ _ b hb,Below.heap_setCell _ ⟨q,7,none⟩ _ b hb,Below.heap_setCell _ ⟨q,6,none⟩ _ b hb,Below.heap_setCell _ ⟨q,5,none⟩ _ b hb,Below.heap_setCell _ ⟨q,4,none⟩ _ b hb,Below.heap_setCell _ ⟨q,3,none⟩ _ b hb,Below.heap_setCell _ ⟨q,2,none⟩ _ b hb,Below.heap_setCell _ ⟨q,1,none⟩ _ b hb,Below.heap_setCell _ ⟨q,0,none⟩ _ b hb]
theorem below_set11 {B:Nat} {w W:World} (h:Below B w W) {q:Nat} (hp:B≤q) (v0 v1 v2 v3 v4 v5 v6 v7 v8 v9 a6:Value):Below B w (set11 W q v0 v1 v2 v3 v4 v5 v6 v7 v8 v9 a6) :=
 ((((((((((h.setCell hp _).setCell hp _).setCell hp _).setCell hp _).setCell hp _).setCell hp _).setCell hp _).setCell hp _).setCell hp _).setCell hp _).setCell hp _
theorem BoxK.set11 {t:Nat} {W:World} {q:Nat} {k f r u xp xn yp yn:Int} {s:Value} {a b:Int} (h:BoxK t W q k f r u xp xn yp yn s a b) (k' f' r' u' xp' xn' yp' yn':Int) (s':Value) (a' b':Int) :
    BoxK t (set11 W q (.int .i64 k') (.int .i64 f') (.int .i64 r') (.int .i64 u') (.int .i64 xp') (.int .i64 xn') (.int .i64 yp') (.int .i64 yn') s' (.int .i64 a') (.int .i64 b')) q k' f' r' u' xp' xn' yp' yn' s' a' b':=by
 have e0:BoxK t (W.setCell ⟨q,0,none⟩ (.int .i64 k')) q k' f r u xp xn yp yn s a b:=h.at 0 _;have e1:BoxK t ((W.setCell ⟨q,0,none⟩ (.int .i64 k')).setCell ⟨q,1,none⟩ (.int .i64 f')) q k' f' r u xp xn yp yn s a b:=e0.at 1 _;have e2:BoxK t (((W.setCell ⟨q,0,none⟩ (.int .i64 k')).setCell ⟨q,1,none⟩ (.int .i64 f')).setCell ⟨q,2,none⟩ (.int .i64 r')) q k' f' r' u xp xn yp yn s a b:=e1.at 2 _;have e3:BoxK t ((((W.setCell ⟨q,0,none⟩ (.int .i64 k')).setCell ⟨q,1,none⟩ (.int .i64 f')).setCell ⟨q,2,none⟩ (.int .i64 r')).setCell ⟨q,3,none⟩ (.int .i64 u')) q k' f' r' u' xp xn yp yn s a b:=e2.at 3 _;have e4:BoxK t (((((W.setCell ⟨q,0,none⟩ (.int .i64 k')).setCell ⟨q,1,none⟩ (.int .i64 f')).setCell ⟨q,2,none⟩ (.int .i64 r')).setCell ⟨q,3,none⟩ (.int .i64 u')).setCell ⟨q,4,none⟩ (.int .i64 xp')) q k' f' r' u' xp' xn yp yn s a b:=e3.at 4 _;have e5:BoxK t ((((((W.setCell ⟨q,0,none⟩ (.int .i64 k')).setCell ⟨q,1,none⟩ (.int .i64 f')).setCell ⟨q,2,none⟩ (.int .i64 r')).setCell ⟨q,3,none⟩ (.int .i64 u')).setCell ⟨q,4,none⟩ (.int .i64 xp')).setCell ⟨q,5,none⟩ (.int .i64 xn')) q k' f' r' u' xp' xn' yp yn s a b:=e4.at 5 _;have e6:BoxK t (((((((W.setCell ⟨q,0,none⟩ (.int .i64 k')).setCell ⟨q,1,none⟩ (.int .i64 f')).setCell ⟨q,2,none⟩ (.int .i64 r')).setCell ⟨q,3,none⟩ (.int .i64 u')).setCell ⟨q,4,none⟩ (.int .i64 xp')).setCell ⟨q,5,none⟩ (.int .i64 xn')).setCell ⟨q,6,none⟩ (.int .i64 yp')) q k' f' r' u' xp' xn' yp' yn s a b:=e5.at 6 _
 have e7:BoxK t ((((((((W.setCell ⟨q,0,none⟩ (.int .i64 k')).setCell ⟨q,1,none⟩ (.int .i64 f')).setCell ⟨q,2,none⟩ (.int .i64 r')).setCell ⟨q,3,none⟩ (.int .i64 u')).setCell ⟨q,4,none⟩ (.int .i64 xp')).setCell ⟨q,5,none⟩ (.int .i64 xn')).setCell ⟨q,6,none⟩ (.int .i64 yp')).setCell ⟨q,7,none⟩ (.int .i64 yn')) q k' f' r' u' xp' xn' yp' yn' s a b:=e6.at 7 _;have e8:BoxK t (((((((((W.setCell ⟨q,0,none⟩ (.int .i64 k')).setCell ⟨q,1,none⟩ (.int .i64 f')).setCell ⟨q,2,none⟩ (.int .i64 r')).setCell ⟨q,3,none⟩ (.int .i64 u')).setCell ⟨q,4,none⟩ (.int .i64 xp')).setCell ⟨q,5,none⟩ (.int .i64 xn')).setCell ⟨q,6,none⟩ (.int .i64 yp')).setCell ⟨q,7,none⟩ (.int .i64 yn')).setCell ⟨q,8,none⟩ s') q k' f' r' u' xp' xn' yp' yn' s' a b:=e7.at 8 _;have e9:BoxK t ((((((((((W.setCell ⟨q,0,none⟩ (.int .i64 k')).setCell ⟨q,1,none⟩ (.int .i64 f')).setCell ⟨q,2,none⟩ (.int .i64 r')).setCell ⟨q,3,none⟩ (.int .i64 u')).setCell ⟨q,4,none⟩ (.int .i64 xp')).setCell ⟨q,5,none⟩ (.int .i64 xn')).setCell ⟨q,6,none⟩ (.int .i64 yp')).setCell ⟨q,7,none⟩ (.int .i64 yn')).setCell ⟨q,8,none⟩ s').setCell ⟨q,9,none⟩ (.int .i64 a')) q k' f' r' u' xp' xn' yp' yn' s' a' b:=e8.at 9 _;have aO:BoxK t (((((((((((W.setCell ⟨q,0,none⟩ (.int .i64 k')).setCell ⟨q,1,none⟩ (.int .i64 f')).setCell ⟨q,2,none⟩ (.int .i64 r')).setCell ⟨q,3,none⟩ (.int .i64 u')).setCell ⟨q,4,none⟩ (.int .i64 xp')).setCell ⟨q,5,none⟩ (.int .i64 xn')).setCell ⟨q,6,none⟩ (.int .i64 yp')).setCell ⟨q,7,none⟩ (.int .i64 yn')).setCell ⟨q,8,none⟩ s').setCell ⟨q,9,none⟩ (.int .i64 a')).setCell ⟨q,10,none⟩ (.int .i64 b')) q k' f' r' u' xp' xn' yp' yn' s' a' b':=e9.at 10 _;exact aO
set_option maxRecDepth 100000 in
set_option maxHeartbeats 4000000 in
theorem toK_any {k f r u xp xn yp yn:Int} {ia:Option Addr} {im ic:Nat} {a b:Int} {xs:List (Int × Int)} {w:World} {lo hi:Nat} (h:RP lo hi w ia im ic xs) (T:hi≤w.heap.size) (az:im≤1048576) :
    Calls Tryz.prog 11 #[.agg #[.int .i64 k,.int .i64 f,.int .i64 r,.int .i64 u,.int .i64 xp,.int .i64 xn,.int .i64 yp,.int .i64 yn,.slice ia im ic,.int .i64 a,.int .i64 b]] w fun e w'=>∃ g,e=.returned (.agg #[.int .i64 k,.int .i64 f,.int .i64 r,.int .i64 u,.int .i64 xp,.int .i64 xn,.int .i64 yp,.int .i64 yn,.slice (some ⟨g,0,none⟩) im im,.int .i64 a,.int .i64 b]) ∧
     RP w.heap.size w'.heap.size w' (some ⟨g,0,none⟩) im im xs∧w'.rowIs g 48 (im*2) (cellP xs im)∧Below w.heap.size w w':=by
 obtain ⟨W1,Z⟩:∃ W1,W1=((w.alloc (.cells #[.int .i64 k,.int .i64 f,.int .i64 r,.int .i64 u,.int .i64 xp,.int .i64 xn,.int .i64 yp,.int .i64 yn,.slice ia im ic,.int .i64 a,.int .i64 b] 35)).alloc (.cells #[.int .i64 0,.int .i64 0,.int .i64 0,.int .i64 0,.int .i64 0,.int .i64 0,.int .i64 0,.int .i64 0,.slice none 0 0,.int .i64 0,.int .i64 0] 51)).alloc (.cells #[.int .i64 k,.int .i64 f,.int .i64 r,.int .i64 u,.int .i64 0,.int .i64 0,.int .i64 0,.int .i64 0,.slice none 0 0,.int .i64 0,.int .i64 0] 51):=⟨_,rfl⟩;have aR:Hid (W1=((w.alloc (.cells #[.int .i64 k,.int .i64 f,.int .i64 r,.int .i64 u,.int .i64 xp,.int .i64 xn,.int .i64 yp,.int .i64 yn,.slice ia im ic,.int .i64 a,.int .i64 b] 35)).alloc (.cells #[.int .i64 0,.int .i64 0,.int .i64 0,.int .i64 0,.int .i64 0,.int .i64 0,.int .i64 0,.int .i64 0,.slice none 0 0,.int .i64 0,.int .i64 0] 51)).alloc (.cells #[.int .i64 k,.int .i64 f,.int .i64 r,.int .i64 u,.int .i64 0,.int .i64 0,.int .i64 0,.int .i64 0,.slice none 0 0,.int .i64 0,.int .i64 0] 51)):=Z;have av:W1.heap.size=w.heap.size+3:=by rw [Z];simp
 have F:Below w.heap.size w W1:=by rw [Z];exact (((Below.refl _ _).alloc (Nat.le_refl _) _).alloc (by simp) _).alloc (by simp;omega) _
 have N:Hid (Below w.heap.size w W1):=F;have aj:BoxK 35 W1 w.heap.size k f r u xp xn yp yn (.slice ia im ic) a b:=by rw [Z];exact ((BoxK.new _ w _ _ _ _ _ _ _ _ _ _ _).below ((Below.refl _ _).alloc (Nat.le_refl _) _) (by simp)).below ((Below.refl _ _).alloc (Nat.le_refl _) _) (by simp;omega)
 have ax:BoxK 51 W1 (w.heap.size+1) 0 0 0 0 0 0 0 0 (.slice none 0 0) 0 0:=by
  have e:=BoxK.new 51 (w.alloc (.cells #[.int .i64 k,.int .i64 f,.int .i64 r,.int .i64 u,.int .i64 xp,.int .i64 xn,.int .i64 yp,.int .i64 yn,.slice ia im ic,.int .i64 a,.int .i64 b] 35)) 0 0 0 0 0 0 0 0 (.slice none 0 0) 0 0;rw [World.size_alloc] at e;rw [Z];exact e.below ((Below.refl _ _).alloc (Nat.le_refl _) _) (by simp)
 have ai:BoxK 51 W1 (w.heap.size+1+1) k f r u 0 0 0 0 (.slice none 0 0) 0 0:=by
  have e:=BoxK.new 51 ((w.alloc (.cells #[.int .i64 k,.int .i64 f,.int .i64 r,.int .i64 u,.int .i64 xp,.int .i64 xn,.int .i64 yp,.int .i64 yn,.slice ia im ic,.int .i64 a,.int .i64 b] 35)).alloc (.cells #[.int .i64 0,.int .i64 0,.int .i64 0,.int .i64 0,.int .i64 0,.int .i64 0,.int .i64 0,.int .i64 0,.slice none 0 0,.int .i64 0,.int .i64 0] 51)) k f r u 0 0 0 0 (.slice none 0 0) 0 0;rw [World.size_alloc,World.size_alloc] at e;rw [Z];exact e
 have ab:Hid (∀ W,Below (w.heap.size+2) W1 W→BoxK 35 W w.heap.size k f r u xp xn yp yn (.slice ia im ic) a b):=fun W hW=>aj.below hW (by omega)
 have aW:Hid (∀ W,Below (w.heap.size+2) W1 W→BoxK 51 W (w.heap.size+1) 0 0 0 0 0 0 0 0 (.slice none 0 0) 0 0):=fun W hW=>ax.below hW (by omega)
 have aX:Hid (BoxK 51 W1 (w.heap.size+1+1) k f r u 0 0 0 0 (.slice none 0 0) 0 0):=ai;have aA:Hid (∀ W,Below (w.heap.size+2) W1 W→RP lo hi W ia im ic xs∧hi≤W.heap.size):=fun W hW=>⟨(h.below F T).below hW (by omega),Nat.le_trans T (Nat.le_trans F.size hW.size)⟩
 have al:Hid (W1.heap.size=w.heap.size+3):=av;have aq:Hid (xs.length=im):=h.len;obtain ⟨z0,z1,z2,z3,z4,z5,z6,z7,z8,z9,E⟩:=aj.cells;obtain ⟨o0,o1,o2,o3,o4,o5,o6,o7,o8,o9,R⟩:=ai.cells;clear Z F aj ax ai h av;go_enter Tryz.func11, Tryz.ntmps11;go_upto_region 6 with fail;rw [← aR.out];go_wp2_with fail;refine (toPart_any xp xn W1).mono ?_;rintro e w2 ⟨rfl,a4⟩;have H2:Hid (Below (w.heap.size+2) W1 w2):=a4.mono (by have:=al.out;omega);have J:=aX.out.below a4 (by have:=al.out;omega);clear o0 o1 o2 o3 o4 o5 o6 o7 o8 o9 R z0 z1 z2 z3 z4 z5 z6 z7 z8 z9 E;obtain ⟨o0,o1,o2,o3,o4,o5,o6,o7,o8,o9,R⟩:=J.cells;have g4:=J.frz 4;have g5:=J.frz 5;obtain ⟨U2,ah⟩:∃ U,U=(w2.setCell ⟨w.heap.size+1+1,4,none⟩ (.int .i64 xp)).setCell ⟨w.heap.size+1+1,5,none⟩ (.int .i64 xn):=⟨_,rfl⟩;have aV:Hid (U2=(w2.setCell ⟨w.heap.size+1+1,4,none⟩ (.int .i64 xp)).setCell ⟨w.heap.size+1+1,5,none⟩ (.int .i64 xn)):=ah
 have ap:Hid (BoxK 51 U2 (w.heap.size+1+1) k f r u xp xn 0 0 (.slice none 0 0) 0 0):=by
  unfold Hid;rw [ah];have e:BoxK 51 (w2.setCell ⟨w.heap.size+1+1,4,none⟩ (.int .i64 xp)) (w.heap.size+1+1) k f r u xp 0 0 0 (.slice none 0 0) 0 0:=J.at 4 _;exact e.at 5 _
 have a2:Hid (Below (w.heap.size+2) W1 U2):=by unfold Hid;rw [ah];exact (H2.out.setCell (by show w.heap.size+2≤w.heap.size+1+1;omega) _).setCell (by show w.heap.size+2≤w.heap.size+1+1;omega) _
 obtain ⟨z0,z1,z2,z3,z4,z5,z6,z7,z8,z9,E⟩:=(ab.out _ H2.out).cells;clear a4 J ah;go_upto_region 7 with fail;rw [← aV.out];clear o0 o1 o2 o3 o4 o5 o6 o7 o8 o9 R z0 z1 z2 z3 z4 z5 z6 z7 z8 z9 E;obtain ⟨z0,z1,z2,z3,z4,z5,z6,z7,z8,z9,E⟩:=(ab.out _ a2.out).cells;go_wp2_with fail;refine (toPart_any yp yn U2).mono ?_;rintro e w3 ⟨rfl,Y⟩;have bf:w.heap.size+3≤U2.heap.size:=by have:=a2.out.size;have:=al.out;omega
 have H3:Hid (Below (w.heap.size+2) W1 w3):=a2.out.trans (Y.mono (by omega));have I:=ap.out.below Y (by omega);clear z0 z1 z2 z3 z4 z5 z6 z7 z8 z9 E;obtain ⟨o0,o1,o2,o3,o4,o5,o6,o7,o8,o9,R⟩:=I.cells;have g6:=I.frz 6;have g7:=I.frz 7;obtain ⟨U3,a9⟩:∃ U,U=(w3.setCell ⟨w.heap.size+1+1,6,none⟩ (.int .i64 yp)).setCell ⟨w.heap.size+1+1,7,none⟩ (.int .i64 yn):=⟨_,rfl⟩;have aU:Hid (U3=(w3.setCell ⟨w.heap.size+1+1,6,none⟩ (.int .i64 yp)).setCell ⟨w.heap.size+1+1,7,none⟩ (.int .i64 yn)):=a9
 have ao:Hid (BoxK 51 U3 (w.heap.size+1+1) k f r u xp xn yp yn (.slice none 0 0) 0 0):=by
  unfold Hid;rw [a9];have e:BoxK 51 (w3.setCell ⟨w.heap.size+1+1,6,none⟩ (.int .i64 yp)) (w.heap.size+1+1) k f r u xp xn yp 0 (.slice none 0 0) 0 0:=I.at 6 _;exact e.at 7 _
 have O:Hid (Below (w.heap.size+2) W1 U3):=by unfold Hid;rw [a9];exact (H3.out.setCell (by show w.heap.size+2≤w.heap.size+1+1;omega) _).setCell (by show w.heap.size+2≤w.heap.size+1+1;omega) _
 have am:U3.heap.size=w3.heap.size:=by rw [a9];simp
 have b0:w.heap.size+3≤U3.heap.size:=by have:=Y.size;omega
 obtain ⟨z0,z1,z2,z3,z4,z5,z6,z7,z8,z9,E⟩:=(ab.out _ H3.out).cells;clear Y I a9 am;go_upto_region 8 with fail;rw [← aU.out];clear o0 o1 o2 o3 o4 o5 o6 o7 o8 o9 R z0 z1 z2 z3 z4 z5 z6 z7 z8 z9 E;obtain ⟨z0,z1,z2,z3,z4,z5,z6,z7,z8,z9,E⟩:=(ab.out _ O.out).cells;go_wp2_with fail;refine (toPartS_any (aA.out _ O.out).1 (aA.out _ O.out).2 az).mono ?_;rintro e w4 ⟨rfl,z,ak⟩;obtain ⟨g,hg⟩:∃ g,g=U3.heap.size:=⟨_,rfl⟩;rw [← hg] at z;rw [← hg];have bi:w.heap.size+3≤g:=by omega
 have b3:=z.lt;have H4:Hid (Below (w.heap.size+2) W1 w4):=O.out.trans (ak.mono (by omega));have G:=ao.out.below ak (by omega);clear z0 z1 z2 z3 z4 z5 z6 z7 z8 z9 E;obtain ⟨o0,o1,o2,o3,o4,o5,o6,o7,o8,o9,R⟩:=G.cells;have g8:=G.frz 8;have g9:=G.frz 9;have aN:=G.frz 10;obtain ⟨z0,z1,z2,z3,z4,z5,z6,z7,z8,z9,E⟩:=(ab.out _ H4.out).cells;have a1:Hid (w4.rowIs g 48 (im*2) (cellP xs im)):=z;clear z ak hg;obtain ⟨U4,a8⟩:∃ U,U=((w4.setCell ⟨w.heap.size+1+1,8,none⟩ (.slice (some ⟨g,0,none⟩) im im)).setCell ⟨w.heap.size+1+1,9,none⟩ (.int .i64 a)).setCell ⟨w.heap.size+1+1,10,none⟩ (.int .i64 b):=⟨_,rfl⟩;have aT:Hid (U4=((w4.setCell ⟨w.heap.size+1+1,8,none⟩ (.slice (some ⟨g,0,none⟩) im im)).setCell ⟨w.heap.size+1+1,9,none⟩ (.int .i64 a)).setCell ⟨w.heap.size+1+1,10,none⟩ (.int .i64 b)):=a8
 have an:Hid (BoxK 51 U4 (w.heap.size+1+1) k f r u xp xn yp yn (.slice (some ⟨g,0,none⟩) im im) a b):=by
  unfold Hid;rw [a8];have e:BoxK 51 (w4.setCell ⟨w.heap.size+1+1,8,none⟩ (.slice (some ⟨g,0,none⟩) im im)) (w.heap.size+1+1) k f r u xp xn yp yn (.slice (some ⟨g,0,none⟩) im im) 0 0:=G.at 8 _;have e':BoxK 51 ((w4.setCell ⟨w.heap.size+1+1,8,none⟩ (.slice (some ⟨g,0,none⟩) im im)).setCell ⟨w.heap.size+1+1,9,none⟩ (.int .i64 a)) (w.heap.size+1+1) k f r u xp xn yp yn (.slice (some ⟨g,0,none⟩) im im) a 0:=e.at 9 _;exact e'.at 10 _
 have ac:Hid (Below (w.heap.size+2) W1 U4):=by unfold Hid;rw [a8];exact ((H4.out.setCell (by show w.heap.size+2≤w.heap.size+1+1;omega) _).setCell (by show w.heap.size+2≤w.heap.size+1+1;omega) _).setCell (by show w.heap.size+2≤w.heap.size+1+1;omega) _
 have ad:Hid (U4.rowIs g 48 (im*2) (cellP xs im)):=by
  unfold Hid;rw [a8];refine a1.out.of_block ?_;rw [Below.heap_setCell _ ⟨w.heap.size+1+1,10,none⟩ _ g (by show g≠w.heap.size+1+1;omega),Below.heap_setCell _ ⟨w.heap.size+1+1,9,none⟩ _ g (by show g≠w.heap.size+1+1;omega),Below.heap_setCell _ ⟨w.heap.size+1+1,8,none⟩ _ g (by show g≠w.heap.size+1+1;omega)]
 clear a8 G;go_upto_region 11 with fail;rw [← aT.out];clear z0 z1 z2 z3 z4 z5 z6 z7 z8 z9 E o0 o1 o2 o3 o4 o5 o6 o7 o8 o9 R g8 g9 aN;obtain ⟨o0,o1,o2,o3,o4,o5,o6,o7,o8,o9,R⟩:=an.out.cells;have o:=aW.out _ ac.out;obtain ⟨t0,t1,t2,t3,t4,t5,t6,t7,t8,t9,be⟩:=o.cells;have bd:=o.frz 0;have bc:=o.frz 1;have bb:=o.frz 2;have ba:=o.frz 3;have b9:=o.frz 4;have b8:=o.frz 5;have b7:=o.frz 6;have b6:=o.frz 7;have b5:=o.frz 8;have b4:=o.frz 9;have aZ:=o.frz 10;obtain ⟨s0,s1,s2,s3,s4,s5,s6,s7,s8,s9,ar⟩:=(o.set11 k f r u xp xn yp yn (.slice (some ⟨g,0,none⟩) im im) a b).cells
 have af:Hid (RP w.heap.size (set11 U4 (w.heap.size+1) (.int .i64 k) (.int .i64 f) (.int .i64 r) (.int .i64 u) (.int .i64 xp) (.int .i64 xn) (.int .i64 yp) (.int .i64 yn) (.slice (some ⟨g,0,none⟩) im im) (.int .i64 a) (.int .i64 b)).heap.size (set11 U4 (w.heap.size+1) (.int .i64 k) (.int .i64 f) (.int .i64 r) (.int .i64 u) (.int .i64 xp) (.int .i64 xn) (.int .i64 yp) (.int .i64 yn) (.slice (some ⟨g,0,none⟩) im im) (.int .i64 a) (.int .i64 b)) (some ⟨g,0,none⟩) im im xs∧(set11 U4 (w.heap.size+1) (.int .i64 k) (.int .i64 f) (.int .i64 r) (.int .i64 u) (.int .i64 xp) (.int .i64 xn) (.int .i64 yp) (.int .i64 yn) (.slice (some ⟨g,0,none⟩) im im) (.int .i64 a) (.int .i64 b)).rowIs g 48 (im*2) (cellP xs im)∧Below w.heap.size w (set11 U4 (w.heap.size+1) (.int .i64 k) (.int .i64 f) (.int .i64 r) (.int .i64 u) (.int .i64 xp) (.int .i64 xn) (.int .i64 yp) (.int .i64 yn) (.slice (some ⟨g,0,none⟩) im im) (.int .i64 a) (.int .i64 b))):=by
  have hr:(set11 U4 (w.heap.size+1) (.int .i64 k) (.int .i64 f) (.int .i64 r) (.int .i64 u) (.int .i64 xp) (.int .i64 xn) (.int .i64 yp) (.int .i64 yn) (.slice (some ⟨g,0,none⟩) im im) (.int .i64 a) (.int .i64 b)).rowIs g 48 (im*2) (cellP xs im):=ad.out.of_block (heap_set11 _ _ _ _ _ _ _ _ _ _ _ _ (by omega));exact ⟨rowP_rd hr aq.out az (by omega) hr.lt,hr,below_set11 (N.out.trans (ac.out.mono (by omega))) (by omega) _ _ _ _ _ _ _ _ _ _ _⟩
 simp only [set11] at s0 s1 s2 s3 s4 s5 s6 s7 s8 s9 ar;clear o;go_wp2_with fail;refine bodyPost_ret (v:=.agg #[.int .i64 k,.int .i64 f,.int .i64 r,.int .i64 u,.int .i64 xp,.int .i64 xn,.int .i64 yp,.int .i64 yn,.slice (some ⟨g,0,none⟩) im im,.int .i64 a,.int .i64 b]) (by simp [results, Tryz.results11,go_sem,s0,s1,s2,s3,s4,s5,s6,s7,s8,s9,ar]) rfl ?_;exact ⟨g,rfl,af.out⟩
end Go.Proofs.YtellcgmabimieaaGreatDoor
