/- The laws' own count of a clause, their comparison of two and their copy of one: a contract each. -/
import Derived.Test.YtkjmfaohdhiiaaaNG2
import Derived.Test.YtkjmfaohdhiiaaaNG1
import Derived.Deep.RegionWith
namespace Go.Proofs.Ytkjmfaohdhiiaaa
open Go.RowKit
theorem szPartS_any (a:Option Addr) (n I:Nat) (left:Int) (w:World) (hl:0≤left∧left≤1048576) (hn:n≤9223372036854775807) :
    Calls Try.prog 45 #[.slice a n I,.int .i64 left] w fun e w'=>e=.returned (.int .i64 (szRes left n))∧w'=w:=by
 obtain ⟨h0,h1⟩:=hl;by_cases h:left<n
 · have HE:Hid (szRes left n=-1):=if_pos h;go_enter Try.func45, Try.ntmps45;go_wp2;go_ret;exact ⟨ri HE.out.symm,rfl⟩
 have HE:Hid (szRes left n=left - n):=if_neg h;go_enter Try.func45, Try.ntmps45;go_wp2;go_ret;exact ⟨ri HE.out.symm,rfl⟩
set_option maxHeartbeats 1000000 in
theorem szK_any {k f r u xp xn yp yn:Int} {ia:Option Addr} {im ic:Nat} {a b:Int} {xs:List (Int × Int)} {w:World} {lo hi:Nat} (h:RP lo hi w ia im ic xs) (left:Int) (hl:0≤left∧left≤1048576) :
    Calls Try.prog 12 #[.agg #[.int .i64 k,.int .i64 f,.int .i64 r,.int .i64 u,.int .i64 xp,.int .i64 xn,.int .i64 yp,.int .i64 yn,.slice ia im ic,.int .i64 a,.int .i64 b],.int .i64 left] w fun e w'=>e=.returned (.int .i64 (szRes left im))∧Below w.heap.size w w':=by
 obtain ⟨W,hW⟩:∃ W,W=w.alloc (.cells #[.int .i64 k,.int .i64 f,.int .i64 r,.int .i64 u,.int .i64 xp,.int .i64 xn,.int .i64 yp,.int .i64 yn,.slice ia im ic,.int .i64 a,.int .i64 b] 26):=⟨_,rfl⟩;have HW:Hid (W=w.alloc (.cells #[.int .i64 k,.int .i64 f,.int .i64 r,.int .i64 u,.int .i64 xp,.int .i64 xn,.int .i64 yp,.int .i64 yn,.slice ia im ic,.int .i64 a,.int .i64 b] 26)):=hW;have J:Hid (Below w.heap.size w W):=by rw [hW];exact (Below.refl _ _).alloc (Nat.le_refl _) _
 have R:BoxK 26 W w.heap.size k f r u xp xn yp yn (.slice ia im ic) a b:=by rw [hW];exact BoxK.new _ w _ _ _ _ _ _ _ _ _ _ _
 obtain ⟨z0,z1,z2,z3,z4,z5,z6,z7,z8,z9,A⟩:=R.cells;have HF:Hid (im≤9223372036854775807):=Nat.le_trans h.fits.1 h.fits.2;obtain ⟨h0,h1⟩:=hl;clear hW R h;go_enter Try.func12, Try.ntmps12;go_upto_region 1 with fail;rw [← HW.out];go_wp2_with fail;refine (szPartS_any ia im ic left W ⟨h0,h1⟩ HF.out).mono ?_;rintro e w' ⟨rfl,hw⟩;rw [hw];clear hw;obtain ⟨q,hq⟩:∃ q,q=szRes left im:=⟨_,rfl⟩;rw [← hq];have ay:Hid (q=szRes left im):=hq
 have HQ:Hid (q<0→q=-1):=by
  unfold szRes at hq;unfold Hid
  split at hq <;> omega
 clear hq;by_cases hneg:q<0
 · have HE:Hid (q=-1):=HQ.out hneg;go_wp2_with fail;go_ret;exact ⟨ri (by rw [← ay.out,HE.out]),J.out⟩
 go_wp2_with fail;go_ret;exact ⟨ri ay.out,J.out⟩
theorem eqPart_same (p n:Int) (w:World) :
    Calls Try.prog 53 #[.agg #[.int .i64 p,.int .i64 n],.agg #[.int .i64 p,.int .i64 n]] w fun e w'=>e=.returned (.bool true)∧Below w.heap.size w w':=by
 have hp:(p != p)=false:=by simp
 have hn:(n != n)=false:=by simp
 have J:Hid (Below w.heap.size w ((w.alloc (.cells #[.int .i64 p,.int .i64 n] 29)).alloc (.cells #[.int .i64 p,.int .i64 n] 29))):=((Below.refl _ _).alloc (Nat.le_refl _) _).alloc (by simp) _;go_enter Try.func53, Try.ntmps53;go_wp2;go_ret;exact ⟨rfl,J.out⟩
set_option maxHeartbeats 1000000 in
theorem eqPartS_same {a a':Option Addr} {n I cap':Nat} {xs:List (Int × Int)} {w:World} {lo hi lo' N:Nat} (h:RP lo hi w a n I xs) (h':RP lo' N w a' n cap' xs) (hh:hi≤w.heap.size) (aH:N≤w.heap.size) :
    Calls Try.prog 54 #[.slice a n I,.slice a' n cap'] w fun e w'=>e=.returned (.bool true)∧Below w.heap.size w w':=by
 have D:((n:Int) != (n:Int))=false:=by simp
 have HR:Hid (RP lo hi w a n I xs):=h;have a7:Hid (RP lo' N w a' n cap' xs):=h';have hn:=h.fits;have aD:=h'.fits;by_cases hz:n=0
 · subst hz;clear h h' HR a7;go_enter Try.func54, Try.ntmps54;go_wp2;refine wp_loop_rounds 1 ?_;rw [rounds_succ];go_wp2;go_ret;exact ⟨rfl,Below.refl _ _⟩
 obtain ⟨b,off,rfl⟩:∃ b off,a=some ⟨b,off,none⟩:=by
  rcases h.cells with h0 | ⟨b,off,e,_⟩
  · exact absurd h0 hz
  exact ⟨b,off,e⟩
 obtain ⟨b',off',rfl⟩:∃ b off,a'=some ⟨b,off,none⟩:=by
  rcases h'.cells with h0 | ⟨b,off,e,_⟩
  · exact absurd h0 hz
  exact ⟨b,off,e⟩
 obtain ⟨aC,bd⟩:=hn;obtain ⟨aZ,aY⟩:=aD;clear h h' hz;go_enter Try.func54, Try.ntmps54;go_wp2;go_loopw [5] (fun i wr=>∃ k:Nat,k≤n∧i=.int .i64 k∧Below w.heap.size w wr) (fun i _=>n - (intOf i).toNat)
 case atStart=>exact ⟨0,Nat.zero_le _,rfl,Below.refl _ _⟩
 case round =>
  obtain ⟨k,hk,rfl,o⟩:=hrel;have HB:Hid (Below w.heap.size w wr):=o;by_cases hlt:k<n
  · obtain ⟨c1,c2,_⟩:=(HR.out.below o hh).at hlt;obtain ⟨aN,aM,_⟩:=(a7.out.below o aH).at hlt;obtain ⟨t,ht⟩:∃ t,t=xs.getD k (0,0):=⟨_,rfl⟩;rw [← ht] at c1 c2 aN aM;obtain ⟨tp,tn⟩:=t;have aF:(k:Int)<(n:Int):=by omega
    clear ht o;go_wp2
    first | go_region_with (go_at_call 53;refine (eqPart_same tp tn _).mono ?_;rintro e w' ⟨rfl,aJ⟩) | fail
    all_goals
     go_wp2;go_roundw
     case rel=>exact ⟨k+1,by omega,by go_num,HB.out.drew.trans (aJ.mono HB.out.size)⟩
     case measure=>simp [intOf];omega
  clear o;go_wp2;go_ret;exact ⟨rfl,HB.out⟩
set_option maxRecDepth 100000 in
set_option maxHeartbeats 2000000 in
theorem eqK_any {k f r u xp xn yp yn:Int} {ia:Option Addr} {im ic:Nat} {a b:Int} {xs:List (Int × Int)} {ia':Option Addr} {ic':Nat} {w:World} {lo hi lo' N:Nat} (h:RP lo hi w ia im ic xs) (h':RP lo' N w ia' im ic' xs) (O:hi≤w.heap.size) (X:N≤w.heap.size) :
    Calls Try.prog 16 #[.agg #[.int .i64 k,.int .i64 f,.int .i64 r,.int .i64 u,.int .i64 xp,.int .i64 xn,.int .i64 yp,.int .i64 yn,.slice ia im ic,.int .i64 a,.int .i64 b],.agg #[.int .i64 k,.int .i64 f,.int .i64 r,.int .i64 u,.int .i64 xp,.int .i64 xn,.int .i64 yp,.int .i64 yn,.slice ia' im ic',.int .i64 a,.int .i64 b]] w fun e w'=>e=.returned (.bool true)∧Below w.heap.size w w':=by
 obtain ⟨W0,a4⟩:∃ W0,W0=(w.alloc (.cells #[.int .i64 k,.int .i64 f,.int .i64 r,.int .i64 u,.int .i64 xp,.int .i64 xn,.int .i64 yp,.int .i64 yn,.slice ia im ic,.int .i64 a,.int .i64 b] 32)).alloc (.cells #[.int .i64 k,.int .i64 f,.int .i64 r,.int .i64 u,.int .i64 xp,.int .i64 xn,.int .i64 yp,.int .i64 yn,.slice ia' im ic',.int .i64 a,.int .i64 b] 32):=⟨_,rfl⟩;have aP:Hid (W0=(w.alloc (.cells #[.int .i64 k,.int .i64 f,.int .i64 r,.int .i64 u,.int .i64 xp,.int .i64 xn,.int .i64 yp,.int .i64 yn,.slice ia im ic,.int .i64 a,.int .i64 b] 32)).alloc (.cells #[.int .i64 k,.int .i64 f,.int .i64 r,.int .i64 u,.int .i64 xp,.int .i64 xn,.int .i64 yp,.int .i64 yn,.slice ia' im ic',.int .i64 a,.int .i64 b] 32)):=a4;have D:Below w.heap.size w W0:=by rw [a4];exact ((Below.refl _ _).alloc (Nat.le_refl _) _).alloc (by simp) _
 have J:Hid (Below w.heap.size w W0):=D;have R:BoxK 32 W0 w.heap.size k f r u xp xn yp yn (.slice ia im ic) a b:=by rw [a4];exact (BoxK.new _ w _ _ _ _ _ _ _ _ _ _ _).below ((Below.refl _ _).alloc (Nat.le_refl _) _) (by simp)
 have ad:BoxK 32 W0 (w.heap.size+1) k f r u xp xn yp yn (.slice ia' im ic') a b:=by
  rw [a4];have:=BoxK.new 32 (w.alloc (.cells #[.int .i64 k,.int .i64 f,.int .i64 r,.int .i64 u,.int .i64 xp,.int .i64 xn,.int .i64 yp,.int .i64 yn,.slice ia im ic,.int .i64 a,.int .i64 b] 32)) k f r u xp xn yp yn (.slice ia' im ic') a b
  rwa [World.size_alloc] at this
 have HR:Hid (∀ W,Below W0.heap.size W0 W→RP lo hi W ia im ic xs∧hi≤W.heap.size):=fun W hW=>⟨(h.below D O).below hW (Nat.le_trans O D.size),Nat.le_trans O (Nat.le_trans D.size hW.size)⟩
 have a7:Hid (∀ W,Below W0.heap.size W0 W→RP lo' N W ia' im ic' xs∧N≤W.heap.size):=fun W hW=>⟨(h'.below D X).below hW (Nat.le_trans X D.size),Nat.le_trans X (Nat.le_trans D.size hW.size)⟩
 have HX:Hid (∀ W,Below W0.heap.size W0 W→BoxK 32 W w.heap.size k f r u xp xn yp yn (.slice ia im ic) a b):=fun W hW=>R.below hW R.lt
 have HY:Hid (∀ W,Below W0.heap.size W0 W→BoxK 32 W (w.heap.size+1) k f r u xp xn yp yn (.slice ia' im ic') a b):=fun W hW=>ad.below hW ad.lt
 have d0:(k != k)=false:=by simp
 have d1:(f != f)=false:=by simp
 have d2:(r != r)=false:=by simp
 have d3:(u != u)=false:=by simp
 have d4:(a != a)=false:=by simp
 have d5:(b != b)=false:=by simp
 obtain ⟨z0,z1,z2,z3,z4,z5,z6,z7,z8,z9,A⟩:=R.cells;obtain ⟨y0,y1,y2,y3,y4,y5,y6,y7,y8,y9,a0⟩:=ad.cells;clear h h' D a4 R ad;go_enter Try.func16, Try.ntmps16;go_upto_region 1 with fail;rw [← aP.out];go_wp2_with fail;refine (eqPart_same xp xn W0).mono ?_;rintro e w1 ⟨rfl,a2⟩;have H1:Hid (Below W0.heap.size W0 w1):=a2;clear a2 z0 z1 z2 z3 z4 z5 z6 z7 z8 z9 A y0 y1 y2 y3 y4 y5 y6 y7 y8 y9 a0;obtain ⟨z0,z1,z2,z3,z4,z5,z6,z7,z8,z9,A⟩:=(HX.out _ H1.out).cells;obtain ⟨y0,y1,y2,y3,y4,y5,y6,y7,y8,y9,a0⟩:=(HY.out _ H1.out).cells;go_wp2_with fail;refine (eqPart_same yp yn w1).mono ?_;rintro e w2 ⟨rfl,a1⟩;have H2:Hid (Below W0.heap.size W0 w2):=H1.out.trans (a1.mono H1.out.size);clear a1 z0 z1 z2 z3 z4 z5 z6 z7 z8 z9 A y0 y1 y2 y3 y4 y5 y6 y7 y8 y9 a0;obtain ⟨z0,z1,z2,z3,z4,z5,z6,z7,z8,z9,A⟩:=(HX.out _ H2.out).cells;obtain ⟨y0,y1,y2,y3,y4,y5,y6,y7,y8,y9,a0⟩:=(HY.out _ H2.out).cells;go_wp2_with fail;refine (eqPartS_same (HR.out _ H2.out).1 (a7.out _ H2.out).1 (HR.out _ H2.out).2 (a7.out _ H2.out).2).mono ?_;rintro e w3 ⟨rfl,T⟩;have H3:Hid (Below W0.heap.size W0 w3):=H2.out.trans (T.mono H2.out.size);clear T z0 z1 z2 z3 z4 z5 z6 z7 z8 z9 A y0 y1 y2 y3 y4 y5 y6 y7 y8 y9 a0;obtain ⟨z0,z1,z2,z3,z4,z5,z6,z7,z8,z9,A⟩:=(HX.out _ H3.out).cells;obtain ⟨y0,y1,y2,y3,y4,y5,y6,y7,y8,y9,a0⟩:=(HY.out _ H3.out).cells;go_wp2_with fail;go_ret;exact ⟨rfl,J.out.trans (H3.out.mono J.out.size)⟩
theorem Try.infoPart:(Try.prog.info? 29).map (fun i=>(i.zero,i.size,i.bytes))=some (some (.agg #[.int .i64 0,.int .i64 0]),2,16):=by kernel_rfl
def cellP (xs:List (Int × Int)) (k j:Nat):Value :=
 if j / 2<k then (if j % 2=0 then .int .i64 (xs.getD (j / 2) (0,0)).1 else .int .i64 (xs.getD (j / 2) (0,0)).2) else .int .i64 0
theorem cellP_new (xs:List (Int × Int)) {k i:Nat} (h:i<k):cellP xs k (i*2)=.int .i64 (xs.getD i (0,0)).1∧cellP xs k (i*2+1)=.int .i64 (xs.getD i (0,0)).2:=by
 have e0:i*2 / 2=i:=by omega
 have e1:(i*2+1) / 2=i:=by omega
 have m1:(i*2+1) % 2=1:=by omega
 refine ⟨?_,?_⟩
 · simp [cellP,e0,h]
 simp [cellP,e1,m1,h]
theorem cellP_old (xs:List (Int × Int)) {k i:Nat} (h:k≤i):cellP xs k (i*2)=.int .i64 0∧cellP xs k (i*2+1)=.int .i64 0:=by
 have e0:i*2 / 2=i:=by omega
 have e1:(i*2+1) / 2=i:=by omega
 have hn:¬ i<k:=by omega
 refine ⟨?_,?_⟩
 · simp [cellP,e0,hn]
 simp [cellP,e1,hn]
theorem rowP_made (w:World) (xs:List (Int × Int)) (n:Nat):(w.alloc (.cells (madeCells #[.int .i64 0,.int .i64 0] (n*2)) 29)).rowIs w.heap.size 29 (n*2) (cellP xs 0):=by
 have ap:=World.rowIs_alloc w (madeCells #[.int .i64 0,.int .i64 0] (n*2)) 29 (cellP xs 0) (fun i hi=>?_)
 · rw [size_madeCells] at ap;exact ap
 rw [size_madeCells] at hi;have:i % 2=0∨i % 2=1:=by omega
 rcases this with h | h <;> simp [madeCells,hi,cellP,h]
theorem rowP_step {w:World} {g n k:Nat} {xs:List (Int × Int)} {p q:Int} (hp:p=(xs.getD k (0,0)).1) (hq:q=(xs.getD k (0,0)).2) (h:w.rowIs g 29 (n*2) (cellP xs k)) :
    ((w.setCell ⟨g,k*2,none⟩ (.int .i64 p)).setCell ⟨g,k*2+1,none⟩ (.int .i64 q)).rowIs g 29 (n*2) (cellP xs (k+1)):=by
 subst hp hq;refine ((h.set (k*2) _).set (k*2+1) _).congr fun j hj=>?_
 have hd:∃ i,j=i*2∨j=i*2+1:=⟨j / 2,by omega⟩;obtain ⟨i,hd⟩:=hd;by_cases hik:i=k
 · subst hik;obtain ⟨c0,c1⟩:=cellP_new xs (Nat.lt_succ_self i);rcases hd with rfl | rfl
   · rw [c0];simp
   rw [c1];simp
 have n0:j≠k*2:=by omega
 have n1:j≠k*2+1:=by omega
 simp only [if_neg n0,if_neg n1];by_cases hlt:i<k
 · obtain ⟨c0,c1⟩:=cellP_new xs (show i<k+1 by omega);obtain ⟨d0,d1⟩:=cellP_new xs hlt;rcases hd with rfl | rfl
   · rw [c0,d0]
   rw [c1,d1]
 obtain ⟨c0,c1⟩:=cellP_old xs (show k+1≤i by omega);obtain ⟨d0,d1⟩:=cellP_old xs (show k≤i by omega);rcases hd with rfl | rfl
 · rw [c0,d0]
 rw [c1,d1]
theorem rowP_rd {lo hi:Nat} {w:World} {g n:Nat} {xs:List (Int × Int)} (h:w.rowIs g 29 (n*2) (cellP xs n)) (hl:xs.length=n) (hn:n≤1048576) (h1:lo≤g) (h2:g<hi):RP lo hi w (some ⟨g,0,none⟩) n n xs:=by
 refine ⟨hl,⟨Nat.le_refl _,by omega⟩,.inr ⟨g,0,rfl,h1,h2,fun i hi=>?_⟩⟩;obtain ⟨c0,c1⟩:=cellP_new xs hi;simp only [Nat.zero_add];rw [h.cell (show i*2<n*2 by omega),h.cell (show i*2+1<n*2 by omega),c0,c1];exact ⟨rfl,rfl⟩
set_option maxHeartbeats 800000 in
theorem toPartS_any {a:Option Addr} {n I:Nat} {xs:List (Int × Int)} {w:World} {lo hi:Nat} (h:RP lo hi w a n I xs) (O:hi≤w.heap.size) (aC:n≤1048576) :
    Calls Try.prog 48 #[.slice a n I] w fun e w'=>e=.returned (.slice (some ⟨w.heap.size,0,none⟩) n n)∧w'.rowIs w.heap.size 29 (n*2) (cellP xs n)∧Below w.heap.size w w':=by
 have H:Hid (RP lo hi w a n I xs):=h;obtain ⟨hl,⟨hm,hM⟩,aI⟩:=h;clear aI
 have be:∀ w:World,(Instr.makeSlice 30 (.int .i64 (n:Int)) (.int .i64 (n:Int))).run Try.prog w=.ok (.slice (some ⟨w.heap.size,0,none⟩) n n) (w.alloc (.cells (madeCells #[.int .i64 0,.int .i64 0] (n*2)) 29)):=by
  intro w;obtain ⟨i0,aG,aB,aA,az⟩:=info_parts Try.infoPart;have hr:=run_make (P:=Try.prog) w 30 29 i0 _ Try.underlying30 aG aB .i64 .i64 n n (by omega) (Int.le_refl _) (by rw [az];omega) (by omega);simp only [Int.toNat_natCast,aA] at hr;exact hr
 have HL:Hid (xs.length=n):=hl;have h0:Hid ((w.alloc (.cells (madeCells #[.int .i64 0,.int .i64 0] (n*2)) 29)).rowIs w.heap.size 29 (n*2) (cellP xs 0)):=rowP_made w xs n;clear hl;go_enter Try.func48, Try.ntmps48;go_wp2;go_loopw [4] (fun i wr=>∃ k:Nat,k≤n∧i=.int .i64 k∧wr.rowIs w.heap.size 29 (n*2) (cellP xs k)∧Below w.heap.size w wr) (fun i _=>n - (intOf i).toNat)
 case atStart=>exact ⟨0,Nat.zero_le _,rfl,h0.out,(Below.refl _ _).alloc (Nat.le_refl _) _⟩
 case round =>
  obtain ⟨k,hk,rfl,m,o⟩:=hrel;have HB:Hid (Below w.heap.size w wr):=o;have Y:Hid (wr.rowIs w.heap.size 29 (n*2) (cellP xs k)):=m;by_cases hlt:k<n
  · have hR:=H.out.below o O;rcases hR.cells with h0 | ⟨b,off,e1,_,bg,hc⟩
    · omega
    subst e1;obtain ⟨c1,c2⟩:=hc k hlt;obtain ⟨t,ht⟩:∃ t,t=xs.getD k (0,0):=⟨_,rfl⟩;have HT:Hid (t=xs.getD k (0,0)):=ht;rw [← ht] at c1 c2;obtain ⟨tp,tn⟩:=t;have aF:(k:Int)<(n:Int):=by omega
    have aE:=m.lt;clear hR hc ht o m;go_wp2_with fail;refine (toPart_any tp tn _).mono ?_;rintro e w1 ⟨rfl,a2⟩;have z:w1.rowIs w.heap.size 29 (n*2) (cellP xs k):=Y.out.of_block (a2.block _ aE);obtain ⟨o0,o1⟩:=cellP_old xs (Nat.le_refl k);have d0:w1.cell? ⟨w.heap.size,k*2,none⟩=some (.int .i64 0):=by rw [z.cell (show k*2<n*2 by omega),o0]
    have d1:w1.cell? ⟨w.heap.size,k*2+1,none⟩=some (.int .i64 0):=by rw [z.cell (show k*2+1<n*2 by omega),o1]
    have f0:=z.frozen (k*2);have f1:=z.frozen (k*2+1);have ab:Hid (((w1.setCell ⟨w.heap.size,k*2,none⟩ (.int .i64 tp)).setCell ⟨w.heap.size,k*2+1,none⟩ (.int .i64 tn)).rowIs w.heap.size 29 (n*2) (cellP xs (k+1))):=rowP_step (by rw [← HT.out]) (by rw [← HT.out]) z;have aV:Hid (Below w.heap.size w ((w1.setCell ⟨w.heap.size,k*2,none⟩ (.int .i64 tp)).setCell ⟨w.heap.size,k*2+1,none⟩ (.int .i64 tn))):=((HB.out.trans (a2.mono HB.out.size)).setCell (Nat.le_refl _) _).setCell (Nat.le_refl _) _;clear z a2;go_wp2;go_roundw
    case rel=>exact ⟨k+1,by omega,by go_num,ab.out,aV.out⟩
    case measure=>simp [intOf];omega
  have au:k=n:=by omega
  have HE:Hid (wr.rowIs w.heap.size 29 (n*2) (cellP xs n)):=by subst au;exact m
  clear au m o;go_wp2;go_ret;exact ⟨rfl,HE.out,HB.out⟩
def set11 (W:World) (q:Nat) (v0 v1 v2 v3 v4 v5 v6 v7 v8 v9 a3:Value):World:=(((((((((((W.setCell ⟨q,0,none⟩ v0).setCell ⟨q,1,none⟩ v1).setCell ⟨q,2,none⟩ v2).setCell ⟨q,3,none⟩ v3).setCell ⟨q,4,none⟩ v4).setCell ⟨q,5,none⟩ v5).setCell ⟨q,6,none⟩ v6).setCell ⟨q,7,none⟩ v7).setCell ⟨q,8,none⟩ v8).setCell ⟨q,9,none⟩ v9).setCell ⟨q,10,none⟩ a3)
theorem heap_set11 (W:World) {b q:Nat} (v0 v1 v2 v3 v4 v5 v6 v7 v8 v9 a3:Value) (hb:b≠q):(set11 W q v0 v1 v2 v3 v4 v5 v6 v7 v8 v9 a3).heap[b]?=W.heap[b]?:=by
 unfold set11;rw [Below.heap_setCell _ ⟨q,10,none⟩ _ b hb,Below.heap_setCell _ ⟨q,9,none⟩ _ b hb,Below.heap_setCell _ ⟨q,8,none⟩ _ b hb,Below.heap_setCell _ ⟨q,7,none⟩ _ b hb,Below.heap_setCell _ ⟨q,6,none⟩ _ b hb,Below.heap_setCell _ ⟨q,5,none⟩ _ b hb,Below.heap_setCell _ ⟨q,4,none⟩ _ b hb,Below.heap_setCell _ ⟨q,3,none⟩ _ b hb,Below.heap_setCell _ ⟨q,2,none⟩ _ b hb,Below.heap_setCell _ ⟨q,1,none⟩ _ b hb,Below.heap_setCell _ ⟨q,0,none⟩ _ b hb]
theorem below_set11 {B:Nat} {w W:World} (h:Below B w W) {q:Nat} (hp:B≤q) (v0 v1 v2 v3 v4 v5 v6 v7 v8 v9 a3:Value):Below B w (set11 W q v0 v1 v2 v3 v4 v5 v6 v7 v8 v9 a3) :=
 ((((((((((h.setCell hp _).setCell hp _).setCell hp _).setCell hp _).setCell hp _).setCell hp _).setCell hp _).setCell hp _).setCell hp _).setCell hp _).setCell hp _
theorem BoxK.set11 {t:Nat} {W:World} {q:Nat} {k f r u xp xn yp yn:Int} {s:Value} {a b:Int} (h:BoxK t W q k f r u xp xn yp yn s a b) (k' f' r' u' xp' xn' yp' yn':Int) (s':Value) (a' b':Int) :
    BoxK t (set11 W q (.int .i64 k') (.int .i64 f') (.int .i64 r') (.int .i64 u') (.int .i64 xp') (.int .i64 xn') (.int .i64 yp') (.int .i64 yn') s' (.int .i64 a') (.int .i64 b')) q k' f' r' u' xp' xn' yp' yn' s' a' b':=by
 have e0:BoxK t (W.setCell ⟨q,0,none⟩ (.int .i64 k')) q k' f r u xp xn yp yn s a b:=h.at 0 _;have e1:BoxK t ((W.setCell ⟨q,0,none⟩ (.int .i64 k')).setCell ⟨q,1,none⟩ (.int .i64 f')) q k' f' r u xp xn yp yn s a b:=e0.at 1 _;have e2:BoxK t (((W.setCell ⟨q,0,none⟩ (.int .i64 k')).setCell ⟨q,1,none⟩ (.int .i64 f')).setCell ⟨q,2,none⟩ (.int .i64 r')) q k' f' r' u xp xn yp yn s a b:=e1.at 2 _;have e3:BoxK t ((((W.setCell ⟨q,0,none⟩ (.int .i64 k')).setCell ⟨q,1,none⟩ (.int .i64 f')).setCell ⟨q,2,none⟩ (.int .i64 r')).setCell ⟨q,3,none⟩ (.int .i64 u')) q k' f' r' u' xp xn yp yn s a b:=e2.at 3 _;have e4:BoxK t (((((W.setCell ⟨q,0,none⟩ (.int .i64 k')).setCell ⟨q,1,none⟩ (.int .i64 f')).setCell ⟨q,2,none⟩ (.int .i64 r')).setCell ⟨q,3,none⟩ (.int .i64 u')).setCell ⟨q,4,none⟩ (.int .i64 xp')) q k' f' r' u' xp' xn yp yn s a b:=e3.at 4 _;have e5:BoxK t ((((((W.setCell ⟨q,0,none⟩ (.int .i64 k')).setCell ⟨q,1,none⟩ (.int .i64 f')).setCell ⟨q,2,none⟩ (.int .i64 r')).setCell ⟨q,3,none⟩ (.int .i64 u')).setCell ⟨q,4,none⟩ (.int .i64 xp')).setCell ⟨q,5,none⟩ (.int .i64 xn')) q k' f' r' u' xp' xn' yp yn s a b:=e4.at 5 _;have e6:BoxK t (((((((W.setCell ⟨q,0,none⟩ (.int .i64 k')).setCell ⟨q,1,none⟩ (.int .i64 f')).setCell ⟨q,2,none⟩ (.int .i64 r')).setCell ⟨q,3,none⟩ (.int .i64 u')).setCell ⟨q,4,none⟩ (.int .i64 xp')).setCell ⟨q,5,none⟩ (.int .i64 xn')).setCell ⟨q,6,none⟩ (.int .i64 yp')) q k' f' r' u' xp' xn' yp' yn s a b:=e5.at 6 _
 have e7:BoxK t ((((((((W.setCell ⟨q,0,none⟩ (.int .i64 k')).setCell ⟨q,1,none⟩ (.int .i64 f')).setCell ⟨q,2,none⟩ (.int .i64 r')).setCell ⟨q,3,none⟩ (.int .i64 u')).setCell ⟨q,4,none⟩ (.int .i64 xp')).setCell ⟨q,5,none⟩ (.int .i64 xn')).setCell ⟨q,6,none⟩ (.int .i64 yp')).setCell ⟨q,7,none⟩ (.int .i64 yn')) q k' f' r' u' xp' xn' yp' yn' s a b:=e6.at 7 _;have e8:BoxK t (((((((((W.setCell ⟨q,0,none⟩ (.int .i64 k')).setCell ⟨q,1,none⟩ (.int .i64 f')).setCell ⟨q,2,none⟩ (.int .i64 r')).setCell ⟨q,3,none⟩ (.int .i64 u')).setCell ⟨q,4,none⟩ (.int .i64 xp')).setCell ⟨q,5,none⟩ (.int .i64 xn')).setCell ⟨q,6,none⟩ (.int .i64 yp')).setCell ⟨q,7,none⟩ (.int .i64 yn')).setCell ⟨q,8,none⟩ s') q k' f' r' u' xp' xn' yp' yn' s' a b:=e7.at 8 _;have e9:BoxK t ((((((((((W.setCell ⟨q,0,none⟩ (.int .i64 k')).setCell ⟨q,1,none⟩ (.int .i64 f')).setCell ⟨q,2,none⟩ (.int .i64 r')).setCell ⟨q,3,none⟩ (.int .i64 u')).setCell ⟨q,4,none⟩ (.int .i64 xp')).setCell ⟨q,5,none⟩ (.int .i64 xn')).setCell ⟨q,6,none⟩ (.int .i64 yp')).setCell ⟨q,7,none⟩ (.int .i64 yn')).setCell ⟨q,8,none⟩ s').setCell ⟨q,9,none⟩ (.int .i64 a')) q k' f' r' u' xp' xn' yp' yn' s' a' b:=e8.at 9 _;have aL:BoxK t (((((((((((W.setCell ⟨q,0,none⟩ (.int .i64 k')).setCell ⟨q,1,none⟩ (.int .i64 f')).setCell ⟨q,2,none⟩ (.int .i64 r')).setCell ⟨q,3,none⟩ (.int .i64 u')).setCell ⟨q,4,none⟩ (.int .i64 xp')).setCell ⟨q,5,none⟩ (.int .i64 xn')).setCell ⟨q,6,none⟩ (.int .i64 yp')).setCell ⟨q,7,none⟩ (.int .i64 yn')).setCell ⟨q,8,none⟩ s').setCell ⟨q,9,none⟩ (.int .i64 a')).setCell ⟨q,10,none⟩ (.int .i64 b')) q k' f' r' u' xp' xn' yp' yn' s' a' b':=e9.at 10 _;exact aL
set_option maxRecDepth 100000 in
set_option maxHeartbeats 4000000 in
theorem toK_any {k f r u xp xn yp yn:Int} {ia:Option Addr} {im ic:Nat} {a b:Int} {xs:List (Int × Int)} {w:World} {lo hi:Nat} (h:RP lo hi w ia im ic xs) (O:hi≤w.heap.size) (av:im≤1048576) :
    Calls Try.prog 14 #[.agg #[.int .i64 k,.int .i64 f,.int .i64 r,.int .i64 u,.int .i64 xp,.int .i64 xn,.int .i64 yp,.int .i64 yn,.slice ia im ic,.int .i64 a,.int .i64 b]] w fun e w'=>∃ g,e=.returned (.agg #[.int .i64 k,.int .i64 f,.int .i64 r,.int .i64 u,.int .i64 xp,.int .i64 xn,.int .i64 yp,.int .i64 yn,.slice (some ⟨g,0,none⟩) im im,.int .i64 a,.int .i64 b]) ∧
     RP w.heap.size w'.heap.size w' (some ⟨g,0,none⟩) im im xs∧w'.rowIs g 29 (im*2) (cellP xs im)∧Below w.heap.size w w':=by
 obtain ⟨W1,V⟩:∃ W1,W1=((w.alloc (.cells #[.int .i64 k,.int .i64 f,.int .i64 r,.int .i64 u,.int .i64 xp,.int .i64 xn,.int .i64 yp,.int .i64 yn,.slice ia im ic,.int .i64 a,.int .i64 b] 26)).alloc (.cells #[.int .i64 0,.int .i64 0,.int .i64 0,.int .i64 0,.int .i64 0,.int .i64 0,.int .i64 0,.int .i64 0,.slice none 0 0,.int .i64 0,.int .i64 0] 32)).alloc (.cells #[.int .i64 k,.int .i64 f,.int .i64 r,.int .i64 u,.int .i64 0,.int .i64 0,.int .i64 0,.int .i64 0,.slice none 0 0,.int .i64 0,.int .i64 0] 32):=⟨_,rfl⟩;have aO:Hid (W1=((w.alloc (.cells #[.int .i64 k,.int .i64 f,.int .i64 r,.int .i64 u,.int .i64 xp,.int .i64 xn,.int .i64 yp,.int .i64 yn,.slice ia im ic,.int .i64 a,.int .i64 b] 26)).alloc (.cells #[.int .i64 0,.int .i64 0,.int .i64 0,.int .i64 0,.int .i64 0,.int .i64 0,.int .i64 0,.int .i64 0,.slice none 0 0,.int .i64 0,.int .i64 0] 32)).alloc (.cells #[.int .i64 k,.int .i64 f,.int .i64 r,.int .i64 u,.int .i64 0,.int .i64 0,.int .i64 0,.int .i64 0,.slice none 0 0,.int .i64 0,.int .i64 0] 32)):=V;have aq:W1.heap.size=w.heap.size+3:=by rw [V];simp
 have D:Below w.heap.size w W1:=by rw [V];exact (((Below.refl _ _).alloc (Nat.le_refl _) _).alloc (by simp) _).alloc (by simp;omega) _
 have J:Hid (Below w.heap.size w W1):=D;have ag:BoxK 26 W1 w.heap.size k f r u xp xn yp yn (.slice ia im ic) a b:=by rw [V];exact ((BoxK.new _ w _ _ _ _ _ _ _ _ _ _ _).below ((Below.refl _ _).alloc (Nat.le_refl _) _) (by simp)).below ((Below.refl _ _).alloc (Nat.le_refl _) _) (by simp;omega)
 have ar:BoxK 32 W1 (w.heap.size+1) 0 0 0 0 0 0 0 0 (.slice none 0 0) 0 0:=by
  have e:=BoxK.new 32 (w.alloc (.cells #[.int .i64 k,.int .i64 f,.int .i64 r,.int .i64 u,.int .i64 xp,.int .i64 xn,.int .i64 yp,.int .i64 yn,.slice ia im ic,.int .i64 a,.int .i64 b] 26)) 0 0 0 0 0 0 0 0 (.slice none 0 0) 0 0;rw [World.size_alloc] at e;rw [V];exact e.below ((Below.refl _ _).alloc (Nat.le_refl _) _) (by simp)
 have af:BoxK 32 W1 (w.heap.size+1+1) k f r u 0 0 0 0 (.slice none 0 0) 0 0:=by
  have e:=BoxK.new 32 ((w.alloc (.cells #[.int .i64 k,.int .i64 f,.int .i64 r,.int .i64 u,.int .i64 xp,.int .i64 xn,.int .i64 yp,.int .i64 yn,.slice ia im ic,.int .i64 a,.int .i64 b] 26)).alloc (.cells #[.int .i64 0,.int .i64 0,.int .i64 0,.int .i64 0,.int .i64 0,.int .i64 0,.int .i64 0,.int .i64 0,.slice none 0 0,.int .i64 0,.int .i64 0] 32)) k f r u 0 0 0 0 (.slice none 0 0) 0 0;rw [World.size_alloc,World.size_alloc] at e;rw [V];exact e
 have a8:Hid (∀ W,Below (w.heap.size+2) W1 W→BoxK 26 W w.heap.size k f r u xp xn yp yn (.slice ia im ic) a b):=fun W hW=>ag.below hW (by omega)
 have aT:Hid (∀ W,Below (w.heap.size+2) W1 W→BoxK 32 W (w.heap.size+1) 0 0 0 0 0 0 0 0 (.slice none 0 0) 0 0):=fun W hW=>ar.below hW (by omega)
 have aU:Hid (BoxK 32 W1 (w.heap.size+1+1) k f r u 0 0 0 0 (.slice none 0 0) 0 0):=af;have ax:Hid (∀ W,Below (w.heap.size+2) W1 W→RP lo hi W ia im ic xs∧hi≤W.heap.size):=fun W hW=>⟨(h.below D O).below hW (by omega),Nat.le_trans O (Nat.le_trans D.size hW.size)⟩
 have ai:Hid (W1.heap.size=w.heap.size+3):=aq;have an:Hid (xs.length=im):=h.len;obtain ⟨z0,z1,z2,z3,z4,z5,z6,z7,z8,z9,A⟩:=ag.cells;obtain ⟨o0,o1,o2,o3,o4,o5,o6,o7,o8,o9,M⟩:=af.cells;clear V D ag ar af h aq;go_enter Try.func14, Try.ntmps14;go_upto_region 6 with fail;rw [← aO.out];go_wp2_with fail;refine (toPart_any xp xn W1).mono ?_;rintro e w2 ⟨rfl,a1⟩;have H2:Hid (Below (w.heap.size+2) W1 w2):=a1.mono (by have:=ai.out;omega);have G:=aU.out.below a1 (by have:=ai.out;omega);clear o0 o1 o2 o3 o4 o5 o6 o7 o8 o9 M z0 z1 z2 z3 z4 z5 z6 z7 z8 z9 A;obtain ⟨o0,o1,o2,o3,o4,o5,o6,o7,o8,o9,M⟩:=G.cells;have g4:=G.frz 4;have g5:=G.frz 5;obtain ⟨U2,ae⟩:∃ U,U=(w2.setCell ⟨w.heap.size+1+1,4,none⟩ (.int .i64 xp)).setCell ⟨w.heap.size+1+1,5,none⟩ (.int .i64 xn):=⟨_,rfl⟩;have aS:Hid (U2=(w2.setCell ⟨w.heap.size+1+1,4,none⟩ (.int .i64 xp)).setCell ⟨w.heap.size+1+1,5,none⟩ (.int .i64 xn)):=ae
 have am:Hid (BoxK 32 U2 (w.heap.size+1+1) k f r u xp xn 0 0 (.slice none 0 0) 0 0):=by
  unfold Hid;rw [ae];have e:BoxK 32 (w2.setCell ⟨w.heap.size+1+1,4,none⟩ (.int .i64 xp)) (w.heap.size+1+1) k f r u xp 0 0 0 (.slice none 0 0) 0 0:=G.at 4 _;exact e.at 5 _
 have Z:Hid (Below (w.heap.size+2) W1 U2):=by unfold Hid;rw [ae];exact (H2.out.setCell (by show w.heap.size+2≤w.heap.size+1+1;omega) _).setCell (by show w.heap.size+2≤w.heap.size+1+1;omega) _
 obtain ⟨z0,z1,z2,z3,z4,z5,z6,z7,z8,z9,A⟩:=(a8.out _ H2.out).cells;clear a1 G ae;go_upto_region 7 with fail;rw [← aS.out];clear o0 o1 o2 o3 o4 o5 o6 o7 o8 o9 M z0 z1 z2 z3 z4 z5 z6 z7 z8 z9 A;obtain ⟨z0,z1,z2,z3,z4,z5,z6,z7,z8,z9,A⟩:=(a8.out _ Z.out).cells;go_wp2_with fail;refine (toPart_any yp yn U2).mono ?_;rintro e w3 ⟨rfl,T⟩;have bc:w.heap.size+3≤U2.heap.size:=by have:=Z.out.size;have:=ai.out;omega
 have H3:Hid (Below (w.heap.size+2) W1 w3):=Z.out.trans (T.mono (by omega));have F:=am.out.below T (by omega);clear z0 z1 z2 z3 z4 z5 z6 z7 z8 z9 A;obtain ⟨o0,o1,o2,o3,o4,o5,o6,o7,o8,o9,M⟩:=F.cells;have g6:=F.frz 6;have g7:=F.frz 7;obtain ⟨U3,a6⟩:∃ U,U=(w3.setCell ⟨w.heap.size+1+1,6,none⟩ (.int .i64 yp)).setCell ⟨w.heap.size+1+1,7,none⟩ (.int .i64 yn):=⟨_,rfl⟩;have aR:Hid (U3=(w3.setCell ⟨w.heap.size+1+1,6,none⟩ (.int .i64 yp)).setCell ⟨w.heap.size+1+1,7,none⟩ (.int .i64 yn)):=a6
 have al:Hid (BoxK 32 U3 (w.heap.size+1+1) k f r u xp xn yp yn (.slice none 0 0) 0 0):=by
  unfold Hid;rw [a6];have e:BoxK 32 (w3.setCell ⟨w.heap.size+1+1,6,none⟩ (.int .i64 yp)) (w.heap.size+1+1) k f r u xp xn yp 0 (.slice none 0 0) 0 0:=F.at 6 _;exact e.at 7 _
 have L:Hid (Below (w.heap.size+2) W1 U3):=by unfold Hid;rw [a6];exact (H3.out.setCell (by show w.heap.size+2≤w.heap.size+1+1;omega) _).setCell (by show w.heap.size+2≤w.heap.size+1+1;omega) _
 have aj:U3.heap.size=w3.heap.size:=by rw [a6];simp
 have aX:w.heap.size+3≤U3.heap.size:=by have:=T.size;omega
 obtain ⟨z0,z1,z2,z3,z4,z5,z6,z7,z8,z9,A⟩:=(a8.out _ H3.out).cells;clear T F a6 aj;go_upto_region 8 with fail;rw [← aR.out];clear o0 o1 o2 o3 o4 o5 o6 o7 o8 o9 M z0 z1 z2 z3 z4 z5 z6 z7 z8 z9 A;obtain ⟨z0,z1,z2,z3,z4,z5,z6,z7,z8,z9,A⟩:=(a8.out _ L.out).cells;go_wp2_with fail;refine (toPartS_any (ax.out _ L.out).1 (ax.out _ L.out).2 av).mono ?_;rintro e w4 ⟨rfl,m,ah⟩;obtain ⟨g,hg⟩:∃ g,g=U3.heap.size:=⟨_,rfl⟩;rw [← hg] at m;rw [← hg];have bf:w.heap.size+3≤g:=by omega
 have b0:=m.lt;have H4:Hid (Below (w.heap.size+2) W1 w4):=L.out.trans (ah.mono (by omega));have E:=al.out.below ah (by omega);clear z0 z1 z2 z3 z4 z5 z6 z7 z8 z9 A;obtain ⟨o0,o1,o2,o3,o4,o5,o6,o7,o8,o9,M⟩:=E.cells;have g8:=E.frz 8;have g9:=E.frz 9;have aK:=E.frz 10;obtain ⟨z0,z1,z2,z3,z4,z5,z6,z7,z8,z9,A⟩:=(a8.out _ H4.out).cells;have Y:Hid (w4.rowIs g 29 (im*2) (cellP xs im)):=m;clear m ah hg;obtain ⟨U4,a5⟩:∃ U,U=((w4.setCell ⟨w.heap.size+1+1,8,none⟩ (.slice (some ⟨g,0,none⟩) im im)).setCell ⟨w.heap.size+1+1,9,none⟩ (.int .i64 a)).setCell ⟨w.heap.size+1+1,10,none⟩ (.int .i64 b):=⟨_,rfl⟩;have aQ:Hid (U4=((w4.setCell ⟨w.heap.size+1+1,8,none⟩ (.slice (some ⟨g,0,none⟩) im im)).setCell ⟨w.heap.size+1+1,9,none⟩ (.int .i64 a)).setCell ⟨w.heap.size+1+1,10,none⟩ (.int .i64 b)):=a5
 have ak:Hid (BoxK 32 U4 (w.heap.size+1+1) k f r u xp xn yp yn (.slice (some ⟨g,0,none⟩) im im) a b):=by
  unfold Hid;rw [a5];have e:BoxK 32 (w4.setCell ⟨w.heap.size+1+1,8,none⟩ (.slice (some ⟨g,0,none⟩) im im)) (w.heap.size+1+1) k f r u xp xn yp yn (.slice (some ⟨g,0,none⟩) im im) 0 0:=E.at 8 _;have e':BoxK 32 ((w4.setCell ⟨w.heap.size+1+1,8,none⟩ (.slice (some ⟨g,0,none⟩) im im)).setCell ⟨w.heap.size+1+1,9,none⟩ (.int .i64 a)) (w.heap.size+1+1) k f r u xp xn yp yn (.slice (some ⟨g,0,none⟩) im im) a 0:=e.at 9 _;exact e'.at 10 _
 have a9:Hid (Below (w.heap.size+2) W1 U4):=by unfold Hid;rw [a5];exact ((H4.out.setCell (by show w.heap.size+2≤w.heap.size+1+1;omega) _).setCell (by show w.heap.size+2≤w.heap.size+1+1;omega) _).setCell (by show w.heap.size+2≤w.heap.size+1+1;omega) _
 have aa:Hid (U4.rowIs g 29 (im*2) (cellP xs im)):=by
  unfold Hid;rw [a5];refine Y.out.of_block ?_;rw [Below.heap_setCell _ ⟨w.heap.size+1+1,10,none⟩ _ g (by show g≠w.heap.size+1+1;omega),Below.heap_setCell _ ⟨w.heap.size+1+1,9,none⟩ _ g (by show g≠w.heap.size+1+1;omega),Below.heap_setCell _ ⟨w.heap.size+1+1,8,none⟩ _ g (by show g≠w.heap.size+1+1;omega)]
 clear a5 E;go_upto_region 11 with fail;rw [← aQ.out];clear z0 z1 z2 z3 z4 z5 z6 z7 z8 z9 A o0 o1 o2 o3 o4 o5 o6 o7 o8 o9 M g8 g9 aK;obtain ⟨o0,o1,o2,o3,o4,o5,o6,o7,o8,o9,M⟩:=ak.out.cells;have d:=aT.out _ a9.out;obtain ⟨t0,t1,t2,t3,t4,t5,t6,t7,t8,t9,bb⟩:=d.cells;have ba:=d.frz 0;have b9:=d.frz 1;have b8:=d.frz 2;have b7:=d.frz 3;have b6:=d.frz 4;have b5:=d.frz 5;have b4:=d.frz 6;have b3:=d.frz 7;have b2:=d.frz 8;have b1:=d.frz 9;have aW:=d.frz 10;obtain ⟨s0,s1,s2,s3,s4,s5,s6,s7,s8,s9,ao⟩:=(d.set11 k f r u xp xn yp yn (.slice (some ⟨g,0,none⟩) im im) a b).cells
 have ac:Hid (RP w.heap.size (set11 U4 (w.heap.size+1) (.int .i64 k) (.int .i64 f) (.int .i64 r) (.int .i64 u) (.int .i64 xp) (.int .i64 xn) (.int .i64 yp) (.int .i64 yn) (.slice (some ⟨g,0,none⟩) im im) (.int .i64 a) (.int .i64 b)).heap.size (set11 U4 (w.heap.size+1) (.int .i64 k) (.int .i64 f) (.int .i64 r) (.int .i64 u) (.int .i64 xp) (.int .i64 xn) (.int .i64 yp) (.int .i64 yn) (.slice (some ⟨g,0,none⟩) im im) (.int .i64 a) (.int .i64 b)) (some ⟨g,0,none⟩) im im xs∧(set11 U4 (w.heap.size+1) (.int .i64 k) (.int .i64 f) (.int .i64 r) (.int .i64 u) (.int .i64 xp) (.int .i64 xn) (.int .i64 yp) (.int .i64 yn) (.slice (some ⟨g,0,none⟩) im im) (.int .i64 a) (.int .i64 b)).rowIs g 29 (im*2) (cellP xs im)∧Below w.heap.size w (set11 U4 (w.heap.size+1) (.int .i64 k) (.int .i64 f) (.int .i64 r) (.int .i64 u) (.int .i64 xp) (.int .i64 xn) (.int .i64 yp) (.int .i64 yn) (.slice (some ⟨g,0,none⟩) im im) (.int .i64 a) (.int .i64 b))):=by
  have hr:(set11 U4 (w.heap.size+1) (.int .i64 k) (.int .i64 f) (.int .i64 r) (.int .i64 u) (.int .i64 xp) (.int .i64 xn) (.int .i64 yp) (.int .i64 yn) (.slice (some ⟨g,0,none⟩) im im) (.int .i64 a) (.int .i64 b)).rowIs g 29 (im*2) (cellP xs im):=aa.out.of_block (heap_set11 _ _ _ _ _ _ _ _ _ _ _ _ (by omega));exact ⟨rowP_rd hr an.out av (by omega) hr.lt,hr,below_set11 (J.out.trans (a9.out.mono (by omega))) (by omega) _ _ _ _ _ _ _ _ _ _ _⟩
 simp only [set11] at s0 s1 s2 s3 s4 s5 s6 s7 s8 s9 ao;clear d;go_wp2_with fail;refine bodyPost_ret (v:=.agg #[.int .i64 k,.int .i64 f,.int .i64 r,.int .i64 u,.int .i64 xp,.int .i64 xn,.int .i64 yp,.int .i64 yn,.slice (some ⟨g,0,none⟩) im im,.int .i64 a,.int .i64 b]) (by simp [results, Try.results14,go_sem,s0,s1,s2,s3,s4,s5,s6,s7,s8,s9,ao]) rfl ?_;exact ⟨g,rfl,ac.out⟩
end Go.Proofs.Ytkjmfaohdhiiaaa
