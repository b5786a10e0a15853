/- The laws' own copy of a concept: a contract each, for every depth. -/
import Derived.Test.YtellcgmabimieaaGreatDoorNG2
import Derived.Test.YtellcgmabimieaaGreatDoorNG1
namespace Go.Proofs.YtellcgmabimieaaGreatDoor
open Go.RowKit
theorem toByteS_one (a:Option Addr) (n J:Nat) (zs:List Int) (w:World) {lo hi:Nat} (h:Rd lo hi w a n J zs) (G:hi≤w.heap.size) (hn:n≤1048576) :
    Calls Tryz.prog 63 #[.slice a n J] w fun e w'=>e=.returned (.slice (some ⟨w.heap.size,0,none⟩) n n)∧Row w' w.heap.size n zs∧Below w.heap.size w w'∧w'.heap.size=w.heap.size+1:=by
 obtain ⟨hl,⟨hm,_⟩,aN,hc⟩:=h;have aJ:=fun w:World=>run_make_row' (P:=Tryz.prog) 89 5 (.int .u8 0) 1 Tryz.underlying89 Tryz.info5 rfl .i64 .i64 n (by omega) (by omega) w
 have HL:Hid (zs.length=n):=hl
 have a5:Hid (∀ k,k<n→∃ b L,a=some ⟨b,L,none⟩∧b<w.heap.size∧w.cell? ⟨b,L+k,none⟩=some (.int .u8 (zs.getD k 0))):=by
  intro k hk;rcases hc with h0 | ⟨b,L,e,_,hb,a9⟩
  · omega
  exact ⟨b,L,e,by omega,a9 k hk⟩
 have h0:Hid ((w.alloc (.cells (madeCells #[.int .u8 0] n) 5)).rowIs w.heap.size 5 n (part zs 0)):=(World.rowIs_made w (.int .u8 0) n 5).congr (fun i _=>by simp [part]);clear hc aN hl;go_enter Tryz.func63, Tryz.ntmps63;go_wp2;go_loopw [4] (fun i wr=>∃ k:Nat,k≤n∧i=.int .i64 k∧wr.rowIs w.heap.size 5 n (part zs k)∧Below w.heap.size w wr∧wr.heap.size=w.heap.size+1) (fun i _=>n - (intOf i).toNat)
 case atStart=>exact ⟨0,Nat.zero_le _,rfl,h0.out,(Below.refl _ _).alloc (Nat.le_refl _) _,by simp⟩
 case round =>
  obtain ⟨k,hk,rfl,z,A,R⟩:=hrel;by_cases hlt:k<n
  · obtain ⟨b,L,ha,hb,O⟩:=a5.out k hlt;subst ha;obtain ⟨c,HC⟩:∃ c,Hid (c=zs.getD k 0):=⟨_,rfl⟩;have bb:wr.cell? ⟨b,L+k,none⟩=some (.int .u8 c):=by rw [A.cell (p:=⟨b,L+k,none⟩) (by show b<_;omega),HC.out];exact O
    have ba:=z.frozen k;have b5:wr.cell? ⟨w.heap.size,k,none⟩=some (.int .u8 0):=by have:=z.cell hlt;simpa [part] using this
    have HR:Hid ((wr.setCell ⟨w.heap.size,k,none⟩ (.int .u8 c)).rowIs w.heap.size 5 n (part zs (k+1))):=by unfold Hid;rw [HC.out];exact row_step z
    have HB:Hid (Below w.heap.size w (wr.setCell ⟨w.heap.size,k,none⟩ (.int .u8 c))∧(wr.setCell ⟨w.heap.size,k,none⟩ (.int .u8 c)).heap.size=w.heap.size+1):=⟨A.setCell (Nat.le_refl _) _,by simp [R]⟩;clear z A R O;go_wp2;go_roundw
    case rel=>exact ⟨k+1,by omega,by go_num,HR.out,HB.out.1,HB.out.2⟩
    case measure=>simp [intOf];omega
  have a1:k=n:=by omega
  have HR:Hid (Row wr w.heap.size n zs):=by
   have e:=Row.of_rowIs (w:=wr) (g:=w.heap.size) (zs:=zs) (by rw [HL.out];exact z.congr (fun i hi=>by simp [part,a1,hi]));rw [HL.out] at e;exact e
  have HB:Hid (Below w.heap.size w wr∧wr.heap.size=w.heap.size+1):=⟨A,R⟩;clear z A a1 R;go_wp2;go_ret;exact ⟨rfl,HR.out,HB.out.1,HB.out.2⟩
theorem free_row {w:World} {g J:Nat} {zs:List Int} (h:Row w g J zs) (hs:w.heap.size=g+1):Free g w.heap.size w:=by
 intro b h1 h2 o;have e:b=g:=by omega
 subst e;exact h.frozen o
def Blk (w:World) (g:Nat) (t:TypeId) (x0 x1 x2 x3:Value):Prop:=w.heap[g]?=some (.cells #[x0,x1,x2,x3] t (0,0))
theorem Blk.cells {w:World} {g:Nat} {t:TypeId} {x0 x1 x2 x3:Value} (h:Blk w g t x0 x1 x2 x3) :
    w.cell? ⟨g,0,none⟩=some x0∧w.cell? ⟨g,1,none⟩=some x1∧w.cell? ⟨g,2,none⟩=some x2∧w.cell? ⟨g,3,none⟩=some x3∧∀ o,w.frozen? ⟨g,o,none⟩=false:=by
 unfold Blk at h;refine ⟨by simp [World.cell?,h],by simp [World.cell?,h],by simp [World.cell?,h],by simp [World.cell?,h],fun o=>by simp [World.frozen?,h]⟩
theorem Blk.alloc_new (w:World) (t:TypeId) (x0 x1 x2 x3:Value) (g:Nat) (hg:g=w.heap.size):Blk (w.alloc (.cells #[x0,x1,x2,x3] t)) g t x0 x1 x2 x3:=by
 subst hg
 show (w.heap.push _)[w.heap.size]?=_
 simp
theorem Blk.lt {w:World} {g:Nat} {t:TypeId} {x0 x1 x2 x3:Value} (h:Blk w g t x0 x1 x2 x3):g<w.heap.size:=(Array.getElem?_eq_some_iff.1 h).1
theorem Blk.of_block {w w':World} {g:Nat} {t:TypeId} {x0 x1 x2 x3:Value} (h:Blk w g t x0 x1 x2 x3) (e:w'.heap[g]?=w.heap[g]?):Blk w' g t x0 x1 x2 x3:=e.trans h
theorem Blk.below {w w':World} {B g:Nat} {t:TypeId} {x0 x1 x2 x3:Value} (h:Blk w g t x0 x1 x2 x3) (hb:Below B w w') (hg:g<B):Blk w' g t x0 x1 x2 x3:=h.of_block (hb.block g hg)
theorem Blk.alloc {w:World} {g:Nat} {t:TypeId} {x0 x1 x2 x3:Value} (h:Blk w g t x0 x1 x2 x3) (o:Obj):Blk (w.alloc o) g t x0 x1 x2 x3:=h.of_block (Below.heap_alloc _ _ _ h.lt)
theorem Blk.setOther {w:World} {g:Nat} {t:TypeId} {x0 x1 x2 x3:Value} (h:Blk w g t x0 x1 x2 x3) {a:Addr} (ha:g≠a.block) (v:Value):Blk (w.setCell a v) g t x0 x1 x2 x3:=h.of_block (Below.heap_setCell _ _ _ _ ha)
theorem Blk.set {w:World} {g:Nat} {t:TypeId} {x0 x1 x2 x3:Value} (h:Blk w g t x0 x1 x2 x3) (j:Nat) (v:Value):(w.setCell ⟨g,j,none⟩ v).heap[g]?=some (.cells (#[x0,x1,x2,x3].setIfInBounds j v) t (0,0)):=by
 unfold Blk at h;simp [World.setCell,Array.getElem?_modify,h]
theorem Blk.set1 {w:World} {g:Nat} {t:TypeId} {x0 x1 x2 x3:Value} (h:Blk w g t x0 x1 x2 x3) (v:Value):Blk (w.setCell ⟨g,1,none⟩ v) g t x0 v x2 x3:=h.set 1 v
theorem Blk.set2 {w:World} {g:Nat} {t:TypeId} {x0 x1 x2 x3:Value} (h:Blk w g t x0 x1 x2 x3) (v:Value):Blk (w.setCell ⟨g,2,none⟩ v) g t x0 x1 v x3:=h.set 2 v
def ToC (d:Nat):Prop:=∀ (v:Value) (c:CN) (w:World) (lo hi:Nat),RdC lo hi w d v c→hi≤w.heap.size→c.bulk≤1048576 →
 Calls Tryz.prog 64 #[v] w fun e w'=>∃ v',e=.returned v'∧RdC w.heap.size w'.heap.size w' d v' c∧Free w.heap.size w'.heap.size w'∧Below w.heap.size w w'
def ToL (d:Nat):Prop:=∀ (a:Option Addr) (n J:Nat) (cs:List CN) (w:World) (lo hi:Nat),RdL (RdC lo hi w d) lo hi w a n J cs→hi≤w.heap.size→bulks cs≤1048576 →
 Calls Tryz.prog 31 #[.slice a n J] w fun e w'=>e=.returned (.slice (some ⟨w.heap.size,0,none⟩) n n)∧RdL (RdC w.heap.size w'.heap.size w' d) w.heap.size w'.heap.size w' (some ⟨w.heap.size,0,none⟩) n n cs∧Free w.heap.size w'.heap.size w'∧Below w.heap.size w w'
set_option maxHeartbeats 1000000 in
theorem toC_of {d:Nat} (H:ToL d):ToC (d+1):=by
 intro v c w lo hi h G aa;obtain ⟨na,nn,nc,ra,rn,rc,ka,kn,kc,rfl,hn,hr,hk⟩:=h;have av:=c.bulk_eq;rw [hn.len,hr.len] at av;obtain ⟨kd,M⟩:∃ kd,kd=c.kind:=⟨_,rfl⟩;rw [← M];have ag:Hid (kd=c.kind):=M;have aI:nn≤1048576:=by omega
 have aH:rn≤1048576:=by omega
 have aC:Hid (bulks c.kids≤1048576):=by rw [Hid];omega
 have b9:=hk.fits;have b7:=hk.len;have HN:Hid (Rd lo hi w na nn nc c.name):=hn;have HR:Hid (Rd lo hi w ra rn rc c.role):=hr;have HK:Hid (RdL (RdC lo hi w d) lo hi w ka kn kc c.kids):=hk;have a1:kn≤1048576:=by have:=length_le_bulks c.kids;have:=aC.out;omega
 have ai:Hid (Below w.heap.size w (((w.alloc (Obj.cells #[Value.int IntKind.i64 kd,.slice na nn nc,.slice ra rn rc,.slice ka kn kc] 100)).alloc (Obj.cells #[Value.int IntKind.i64 0,.slice none 0 0,.slice none 0 0,.slice none 0 0] 104)).alloc (Obj.cells #[Value.int IntKind.i64 kd,.slice none 0 0,.slice none 0 0,.slice none 0 0] 104))):=(((Below.refl _ _).alloc (Nat.le_refl _) _).alloc (by simp) _).alloc (by simp;omega) _
 have ah:Hid (Free w.heap.size (w.heap.size+1+1+1) (((w.alloc (Obj.cells #[Value.int IntKind.i64 kd,.slice na nn nc,.slice ra rn rc,.slice ka kn kc] 100)).alloc (Obj.cells #[Value.int IntKind.i64 0,.slice none 0 0,.slice none 0 0,.slice none 0 0] 104)).alloc (Obj.cells #[Value.int IntKind.i64 kd,.slice none 0 0,.slice none 0 0,.slice none 0 0] 104))):=by
  have f1:=(Free.nil w w.heap.size).alloc #[Value.int IntKind.i64 kd,.slice na nn nc,.slice ra rn rc,.slice ka kn kc] 100;have f2:=Free.alloc (w:=w.alloc (Obj.cells #[Value.int IntKind.i64 kd,.slice na nn nc,.slice ra rn rc,.slice ka kn kc] 100)) (by simpa using f1) #[Value.int IntKind.i64 0,.slice none 0 0,.slice none 0 0,.slice none 0 0] 104;have f3:=Free.alloc (w:=(w.alloc (Obj.cells #[Value.int IntKind.i64 kd,.slice na nn nc,.slice ra rn rc,.slice ka kn kc] 100)).alloc (Obj.cells #[Value.int IntKind.i64 0,.slice none 0 0,.slice none 0 0,.slice none 0 0] 104)) (by simpa using f2) #[Value.int IntKind.i64 kd,.slice none 0 0,.slice none 0 0,.slice none 0 0] 104;simpa [Hid] using f3
 have aW:Hid (Blk (((w.alloc (Obj.cells #[Value.int IntKind.i64 kd,.slice na nn nc,.slice ra rn rc,.slice ka kn kc] 100)).alloc (Obj.cells #[Value.int IntKind.i64 0,.slice none 0 0,.slice none 0 0,.slice none 0 0] 104)).alloc (Obj.cells #[Value.int IntKind.i64 kd,.slice none 0 0,.slice none 0 0,.slice none 0 0] 104)) (w.heap.size+1) 104 (.int .i64 0) (.slice none 0 0) (.slice none 0 0) (.slice none 0 0)):=(Blk.alloc_new _ _ _ _ _ _ _ (by simp)).alloc _;have aT:Hid (Blk (((w.alloc (Obj.cells #[Value.int IntKind.i64 kd,.slice na nn nc,.slice ra rn rc,.slice ka kn kc] 100)).alloc (Obj.cells #[Value.int IntKind.i64 0,.slice none 0 0,.slice none 0 0,.slice none 0 0] 104)).alloc (Obj.cells #[Value.int IntKind.i64 kd,.slice none 0 0,.slice none 0 0,.slice none 0 0] 104)) (w.heap.size+1+1) 104 (.int .i64 kd) (.slice none 0 0) (.slice none 0 0) (.slice none 0 0)):=Blk.alloc_new _ _ _ _ _ _ _ (by simp);have b4:Hid (Blk (((w.alloc (Obj.cells #[Value.int IntKind.i64 kd,.slice na nn nc,.slice ra rn rc,.slice ka kn kc] 100)).alloc (Obj.cells #[Value.int IntKind.i64 0,.slice none 0 0,.slice none 0 0,.slice none 0 0] 104)).alloc (Obj.cells #[Value.int IntKind.i64 kd,.slice none 0 0,.slice none 0 0,.slice none 0 0] 104)) w.heap.size 100 (.int .i64 kd) (.slice na nn nc) (.slice ra rn rc) (.slice ka kn kc)):=((Blk.alloc_new _ _ _ _ _ _ _ rfl).alloc _).alloc _;clear hn hr hk av M;go_enter Tryz.func64, Tryz.ntmps64;go_wp2_with fail;refine (toByteS_one na nn nc c.name _ (HN.out.below ai.out G) (Nat.le_trans G ai.out.size) aI).mono ?_;rintro e w1 ⟨rfl,u,D,T⟩
 simp only [World.size_alloc] at u D T;have aA:=aW.out.below D (by omega);have ac:=aT.out.below D (by omega);have ad:=b4.out.below D (by omega)
 have af:Hid (Below w.heap.size w (w1.setCell ⟨w.heap.size+1+1,1,none⟩ (.slice (some ⟨w.heap.size+1+1+1,0,none⟩) nn nn))):=by
  rw [Hid,below_set _ _ _ _ _ _ (by omega)];exact ai.out.trans (D.mono (by omega))
 have b1:Hid (Free w.heap.size (w.heap.size+1+1+1+1) (w1.setCell ⟨w.heap.size+1+1,1,none⟩ (.slice (some ⟨w.heap.size+1+1+1,0,none⟩) nn nn))):=by
  refine Free.set ?_ _ _;have:=(ah.out.same (Same.of_below D (Nat.le_refl _))).join (free_row u T)
  rwa [T] at this
 have aV:Hid (Blk (w1.setCell ⟨w.heap.size+1+1,1,none⟩ (.slice (some ⟨w.heap.size+1+1+1,0,none⟩) nn nn)) (w.heap.size+1) 104 (.int .i64 0) (.slice none 0 0) (.slice none 0 0) (.slice none 0 0)):=aA.setOther (by simp) _;have aS:Hid (Blk (w1.setCell ⟨w.heap.size+1+1,1,none⟩ (.slice (some ⟨w.heap.size+1+1+1,0,none⟩) nn nn)) (w.heap.size+1+1) 104 (.int .i64 kd) (.slice (some ⟨w.heap.size+1+1+1,0,none⟩) nn nn) (.slice none 0 0) (.slice none 0 0)):=ac.set1 _;have aQ:Hid (Row (w1.setCell ⟨w.heap.size+1+1,1,none⟩ (.slice (some ⟨w.heap.size+1+1+1,0,none⟩) nn nn)) (w.heap.size+1+1+1) nn c.name):=u.setOf (by simp);have b3:Hid (Blk (w1.setCell ⟨w.heap.size+1+1,1,none⟩ (.slice (some ⟨w.heap.size+1+1+1,0,none⟩) nn nn)) w.heap.size 100 (.int .i64 kd) (.slice na nn nc) (.slice ra rn rc) (.slice ka kn kc)):=ad.setOther (by simp;omega) _;obtain ⟨q0,q1,q2,q3,qf⟩:=ac.cells;obtain ⟨_,_,a2,a3,_⟩:=ad.cells;have aj:w1.heap.size=w.heap.size+1+1+1+1:=T;clear u D T aA ac ad;go_wp2_with fail;refine (toByteS_one ra rn rc c.role _ (HR.out.below af.out G) (Nat.le_trans G af.out.size) aH).mono ?_;rintro e w2 ⟨rfl,E,N,a0⟩;simp only [World.size_setCell,aj] at E N a0;clear q0 q1 q2 q3 qf a2 a3;have az:=aV.out.below N (by omega);have ab:=aS.out.below N (by omega);have aB:=b3.out.below N (by omega)
 have ae:Hid (Below w.heap.size w (w2.setCell ⟨w.heap.size+1+1,2,none⟩ (.slice (some ⟨w.heap.size+1+1+1+1,0,none⟩) rn rn))):=by
  rw [Hid,below_set _ _ _ _ _ _ (by omega)];exact af.out.trans (N.mono (by omega))
 have b0:Hid (Free w.heap.size (w.heap.size+1+1+1+1+1) (w2.setCell ⟨w.heap.size+1+1,2,none⟩ (.slice (some ⟨w.heap.size+1+1+1+1,0,none⟩) rn rn))):=by
  refine Free.set ?_ _ _;have:=(b1.out.same (Same.of_below N (Nat.le_refl _))).join (free_row E a0)
  rwa [a0] at this
 have aU:Hid (Blk (w2.setCell ⟨w.heap.size+1+1,2,none⟩ (.slice (some ⟨w.heap.size+1+1+1+1,0,none⟩) rn rn)) (w.heap.size+1) 104 (.int .i64 0) (.slice none 0 0) (.slice none 0 0) (.slice none 0 0)):=az.setOther (by simp) _;have aR:Hid (Blk (w2.setCell ⟨w.heap.size+1+1,2,none⟩ (.slice (some ⟨w.heap.size+1+1+1+1,0,none⟩) rn rn)) (w.heap.size+1+1) 104 (.int .i64 kd) (.slice (some ⟨w.heap.size+1+1+1,0,none⟩) nn nn) (.slice (some ⟨w.heap.size+1+1+1+1,0,none⟩) rn rn) (.slice none 0 0)):=ab.set2 _;have ao:Hid (Row (w2.setCell ⟨w.heap.size+1+1,2,none⟩ (.slice (some ⟨w.heap.size+1+1+1+1,0,none⟩) rn rn)) (w.heap.size+1+1+1) nn c.name):=(aQ.out.below N (by omega)).setOf (by simp);have al:Hid (Row (w2.setCell ⟨w.heap.size+1+1,2,none⟩ (.slice (some ⟨w.heap.size+1+1+1+1,0,none⟩) rn rn)) (w.heap.size+1+1+1+1) rn c.role):=E.setOf (by simp;omega);obtain ⟨q0,q1,q2,q3,qf⟩:=ab.cells;obtain ⟨_,_,a2,a3,_⟩:=aB.cells;have a4:w2.heap.size=w.heap.size+1+1+1+1+1:=a0;clear E N a0 az ab aB;go_wp2_with fail;refine (H ka kn kc c.kids _ lo hi (HK.out.below ae.out G) (Nat.le_trans G ae.out.size) aC.out).mono ?_;rintro e w3 ⟨rfl,Y,a8,I⟩;simp only [World.size_setCell,a4] at Y a8 I;clear q0 q1 q2 q3 qf a2 a3;have aG:=I.size;simp only [World.size_setCell,a4] at aG;have ay:=aU.out.below I (by omega);have ax:=aR.out.below I (by omega);obtain ⟨q0,q1,q2,q3,qf⟩:=ax.cells;obtain ⟨p0,p1,p2,p3,pf⟩:=ay.cells;have aP:Hid (Below w.heap.size w w3):=ae.out.trans (I.mono (by omega))
 have aZ:Hid (Free w.heap.size w3.heap.size w3):=(b0.out.same (Same.of_below I (Nat.le_refl _))).join a8;have an:Hid (Row w3 (w.heap.size+1+1+1) nn c.name):=ao.out.below I (by omega);have ak:Hid (Row w3 (w.heap.size+1+1+1+1) rn c.role):=al.out.below I (by omega);have aX:Hid (RdL (RdC (w.heap.size+1+1+1+1+1) w3.heap.size w3 d) (w.heap.size+1+1+1+1+1) w3.heap.size w3 (some ⟨w.heap.size+1+1+1+1+1,0,none⟩) kn kn c.kids):=Y;clear Y a8 I ay ax;go_wp2_with fail
 have hS:Same (w.heap.size+1+1+1) w3.heap.size w3 (((((w3.setCell ⟨w.heap.size+1+1,3,none⟩ (.slice (some ⟨w.heap.size+1+1+1+1+1,0,none⟩) kn kn)).setCell ⟨w.heap.size+1,0,none⟩ (.int .i64 kd)).setCell ⟨w.heap.size+1,1,none⟩ (.slice (some ⟨w.heap.size+1+1+1,0,none⟩) nn nn)).setCell ⟨w.heap.size+1,2,none⟩ (.slice (some ⟨w.heap.size+1+1+1+1,0,none⟩) rn rn)).setCell ⟨w.heap.size+1,3,none⟩ (.slice (some ⟨w.heap.size+1+1+1+1+1,0,none⟩) kn kn)):=by
  intro b h1 h2;rw [Below.heap_setCell _ _ _ _ (by simp;omega),Below.heap_setCell _ _ _ _ (by simp;omega),Below.heap_setCell _ _ _ _ (by simp;omega),Below.heap_setCell _ _ _ _ (by simp;omega),Below.heap_setCell _ _ _ _ (by simp;omega)]
 have R:(((((w3.setCell ⟨w.heap.size+1+1,3,none⟩ (.slice (some ⟨w.heap.size+1+1+1+1+1,0,none⟩) kn kn)).setCell ⟨w.heap.size+1,0,none⟩ (.int .i64 kd)).setCell ⟨w.heap.size+1,1,none⟩ (.slice (some ⟨w.heap.size+1+1+1,0,none⟩) nn nn)).setCell ⟨w.heap.size+1,2,none⟩ (.slice (some ⟨w.heap.size+1+1+1+1,0,none⟩) rn rn)).setCell ⟨w.heap.size+1,3,none⟩ (.slice (some ⟨w.heap.size+1+1+1+1+1,0,none⟩) kn kn)).heap.size=w3.heap.size:=by simp
 refine bodyPost_ret (v:=.agg #[.int .i64 kd,.slice (some ⟨w.heap.size+1+1+1,0,none⟩) nn nn,.slice (some ⟨w.heap.size+1+1+1+1,0,none⟩) rn rn,.slice (some ⟨w.heap.size+1+1+1+1+1,0,none⟩) kn kn]) (by simp [results, Tryz.results64,go_sem,p0,p1,p2,p3]) rfl ⟨_,rfl,?_,?_,?_⟩
 · rw [R];refine ⟨_,_,_,_,_,_,_,_,_,by rw [ag.out],?_,?_,?_⟩
   · exact (an.out.same hS (by omega) (by omega)).rd HN.out.len HN.out.byte (by omega) (by omega) (by omega)
   · exact (ak.out.same hS (by omega) (by omega)).rd HR.out.len HR.out.byte (by omega) (by omega) (by omega)
   exact aX.out.imp (fun v c h=>(h.same (hS.mono (by omega) (Nat.le_refl _))).mono (by omega) (Nat.le_refl _)) (hS.mono (by omega) (Nat.le_refl _)) (by omega) (Nat.le_refl _)
 · rw [R];exact ((((aZ.out.set _ _).set _ _).set _ _).set _ _).set _ _
 simp only [below_set _ _ _ _ _ _ (show w.heap.size≤w.heap.size+1 by omega),below_set _ _ _ _ _ _ (show w.heap.size≤w.heap.size+1+1 by omega)];exact aP.out
def cellC (V:Nat→Value) (k j:Nat):Value:=if j<k*4 then V j else if j % 4=0 then .int .i64 0 else .slice none 0 0
def putC (V:Nat→Value) (k:Nat) (x0 x1 x2 x3:Value) (j:Nat):Value:=if j=k*4 then x0 else if j=k*4+1 then x1 else if j=k*4+2 then x2 else if j=k*4+3 then x3 else V j
theorem cellC_old (V:Nat→Value) (k:Nat):cellC V k (k*4)=.int .i64 0∧cellC V k (k*4+1)=.slice none 0 0∧cellC V k (k*4+2)=.slice none 0 0∧cellC V k (k*4+3)=.slice none 0 0:=by
 have m0:k*4 % 4=0:=by omega
 have m1:(k*4+1) % 4=1:=by omega
 have m2:(k*4+2) % 4=2:=by omega
 have m3:(k*4+3) % 4=3:=by omega
 refine ⟨?_,?_,?_,?_⟩
 · simp [cellC]
 · unfold cellC;rw [if_neg (by omega),m1];rfl
 · unfold cellC;rw [if_neg (by omega),m2];rfl
 unfold cellC;rw [if_neg (by omega),m3];rfl
theorem rowC_made (w:World) (V:Nat→Value) (n:Nat) (t:TypeId):(w.alloc (.cells (madeCells #[.int .i64 0,.slice none 0 0,.slice none 0 0,.slice none 0 0] (n*4)) t)).rowIs w.heap.size t (n*4) (cellC V 0):=by
 have ar:=World.rowIs_alloc w (madeCells #[.int .i64 0,.slice none 0 0,.slice none 0 0,.slice none 0 0] (n*4)) t (cellC V 0) (fun i hi=>?_)
 · rw [size_madeCells] at ar;exact ar
 rw [size_madeCells] at hi;have:i % 4=0∨i % 4=1∨i % 4=2∨i % 4=3:=by omega
 rcases this with h | h | h | h <;> simp [madeCells,hi,cellC,h]
theorem rowC_step {w:World} {g n k:Nat} {t:TypeId} {V:Nat→Value} {x0 x1 x2 x3:Value} (h:w.rowIs g t (n*4) (cellC V k)) :
    ((((w.setCell ⟨g,k*4,none⟩ x0).setCell ⟨g,k*4+1,none⟩ x1).setCell ⟨g,k*4+2,none⟩ x2).setCell ⟨g,k*4+3,none⟩ x3).rowIs g t (n*4) (cellC (putC V k x0 x1 x2 x3) (k+1)):=by
 refine ((((h.set (k*4) _).set (k*4+1) _).set (k*4+2) _).set (k*4+3) _).congr fun j hj=>?_
 unfold cellC putC;by_cases e3:j=k*4+3
 · subst e3;simp;omega
 rw [if_neg e3];by_cases e2:j=k*4+2
 · subst e2;simp;omega
 rw [if_neg e2];by_cases e1:j=k*4+1
 · subst e1;simp;omega
 rw [if_neg e1];by_cases e0:j=k*4
 · subst e0;simp
 rw [if_neg e0];by_cases hlt:j<k*4
 · rw [if_pos hlt,if_pos (by omega),if_neg e0,if_neg e1,if_neg e2,if_neg e3]
 rw [if_neg hlt,if_neg (show ¬ j<(k+1)*4 by omega)]
theorem RdC.shape {lo hi:Nat} {w:World} {d:Nat} {v:Value} {c:CN} (h:RdC lo hi w d v c):∃ k na nn nc ra rn rc ka kn kc,v=.agg #[.int .i64 k,.slice na nn nc,.slice ra rn rc,.slice ka kn kc]:=by
 cases d with
 | zero=>exact h.elim
 | succ d =>
  obtain ⟨na,nn,nc,ra,rn,rc,ka,kn,kc,hv,_⟩:=h;exact ⟨_,na,nn,nc,ra,rn,rc,ka,kn,kc,hv⟩
theorem Tryz.infoCon:(Tryz.prog.info? 104).map (fun i=>(i.zero,i.size,i.bytes))=some (some (.agg #[.int .i64 0,.slice none 0 0,.slice none 0 0,.slice none 0 0]),4,80):=by kernel_rfl
theorem same_set4 (w:World) (g lo hi:Nat) (o0 o1 o2 o3:Nat) (x0 x1 x2 x3:Value) (h:g<lo):Same lo hi w ((((w.setCell ⟨g,o0,none⟩ x0).setCell ⟨g,o1,none⟩ x1).setCell ⟨g,o2,none⟩ x2).setCell ⟨g,o3,none⟩ x3):=by
 intro b h1 h2;rw [Below.heap_setCell _ _ _ _ (by simp;omega),Below.heap_setCell _ _ _ _ (by simp;omega),Below.heap_setCell _ _ _ _ (by simp;omega),Below.heap_setCell _ _ _ _ (by simp;omega)]
set_option maxHeartbeats 1000000 in
theorem toL_of {d:Nat} (H:ToC d):ToL d:=by
 intro a n J cs w lo hi h G aa;have HR:Hid (RdL (RdC lo hi w d) lo hi w a n J cs):=h;obtain ⟨hl,⟨hm,hM⟩,a9⟩:=h;clear a9;have HL:Hid (cs.length=n):=hl;have b6:n≤1048576:=by have:=length_le_bulks cs;omega
 have b2:Hid (bulks cs≤1048576):=aa
 have aJ:∀ w:World,(Instr.makeSlice 43 (.int .i64 (n:Int)) (.int .i64 (n:Int))).run Tryz.prog w=.ok (.slice (some ⟨w.heap.size,0,none⟩) n n) (w.alloc (.cells (madeCells #[.int .i64 0,.slice none 0 0,.slice none 0 0,.slice none 0 0] (n*4)) 104)):=by
  intro w;obtain ⟨i0,aM,aF,aE,aD⟩:=info_parts Tryz.infoCon;have hr:=run_make (P:=Tryz.prog) w 43 104 i0 _ Tryz.underlying43 aM aF .i64 .i64 n n (by omega) (Int.le_refl _) (by rw [aD];omega) (by omega);simp only [Int.toNat_natCast,aE] at hr;exact hr
 have h0:Hid ((w.alloc (.cells (madeCells #[.int .i64 0,.slice none 0 0,.slice none 0 0,.slice none 0 0] (n*4)) 104)).rowIs w.heap.size 104 (n*4) (cellC (fun _=>.slice none 0 0) 0)):=rowC_made w _ n _;have ah:Hid (Free w.heap.size (w.heap.size+1) (w.alloc (.cells (madeCells #[.int .i64 0,.slice none 0 0,.slice none 0 0,.slice none 0 0] (n*4)) 104))):=(Free.nil w w.heap.size).alloc _ _;clear hl aa;go_enter Tryz.func31, Tryz.ntmps31;go_wp2_with fail;go_loopw [4] (fun i wr=>∃ (k:Nat) (V:Nat→Value),k≤n∧i=.int .i64 k∧wr.rowIs w.heap.size 104 (n*4) (cellC V k)∧(∀ i,i<k→RdC (w.heap.size+1) wr.heap.size wr d (.agg #[V (i*4),V (i*4+1),V (i*4+2),V (i*4+3)]) (cs.getD i CN.zero))∧Free w.heap.size wr.heap.size wr∧Below w.heap.size w wr) (fun i _=>n - (intOf i).toNat)
 case atStart=>exact ⟨0,_,Nat.zero_le _,rfl,h0.out,fun i hi=>absurd hi (by omega),by simpa using ah.out,(Below.refl _ _).alloc (Nat.le_refl _) _⟩
 case round =>
  obtain ⟨k,V,hk,rfl,z,M,a6,A⟩:=hrel;by_cases hlt:k<n
  · have hR:=HR.out.same (Same.of_below A G);rcases hR.cells with hz | ⟨b,L,e1,_,bc,hc⟩
    · omega
    subst e1;obtain ⟨v0,v1,v2,v3,c0,c1,c2,c3,hr⟩:=hc k hlt;have aq:Hid (RdC lo hi wr d (.agg #[v0,v1,v2,v3]) (cs.getD k CN.zero)):=hr;have ag:Hid (∀ i,i<k→RdC (w.heap.size+1) wr.heap.size wr d (.agg #[V (i*4),V (i*4+1),V (i*4+2),V (i*4+3)]) (cs.getD i CN.zero)):=M;have HB:Hid (Below w.heap.size w wr):=A;have am:Hid (wr.rowIs w.heap.size 104 (n*4) (cellC V k)):=z;have aY:Hid (Free w.heap.size wr.heap.size wr):=a6;have b8:(k:Int)<(n:Int):=by omega
    have aK:=z.lt;have aL:(cs.getD k CN.zero).bulk≤1048576:=by have:=getD_bulk_le cs k (by rw [HL.out];exact hlt);have:=b2.out;omega
    clear hR hc hr A z M a6;go_wp2_with fail;refine (H _ (cs.getD k CN.zero) _ lo hi aq.out (Nat.le_trans G HB.out.size) aL).mono ?_;rintro e w1 ⟨v',rfl,a7,au,D⟩;obtain ⟨xk,xa,xn,xc,ya,yn,yc,za,zn,zc,rfl⟩:=a7.shape;have T:=D.size;have u:w1.rowIs w.heap.size 104 (n*4) (cellC V k):=am.out.of_block (D.block _ aK);obtain ⟨o0,o1,o2,o3⟩:=cellC_old V k;have d0:w1.cell? ⟨w.heap.size,k*4,none⟩=some (.int .i64 0):=by rw [u.cell (show k*4<n*4 by omega),o0]
    have d1:w1.cell? ⟨w.heap.size,k*4+1,none⟩=some (.slice none 0 0):=by rw [u.cell (show k*4+1<n*4 by omega),o1]
    have d2:w1.cell? ⟨w.heap.size,k*4+2,none⟩=some (.slice none 0 0):=by rw [u.cell (show k*4+2<n*4 by omega),o2]
    have d3:w1.cell? ⟨w.heap.size,k*4+3,none⟩=some (.slice none 0 0):=by rw [u.cell (show k*4+3<n*4 by omega),o3]
    have df:∀ o,w1.frozen? ⟨w.heap.size,o,none⟩=false:=fun o=>u.frozen o
    have F:=rowC_step (x0:=.int .i64 xk) (x1:=.slice xa xn xc) (x2:=.slice ya yn yc) (x3:=.slice za zn zc) u;have hS:=same_set4 w1 w.heap.size (w.heap.size+1) w1.heap.size (k*4) (k*4+1) (k*4+2) (k*4+3) (.int .i64 xk) (.slice xa xn xc) (.slice ya yn yc) (.slice za zn zc) (Nat.lt_succ_self _);obtain ⟨w2,Z⟩:∃ w2,w2=((((w1.setCell ⟨w.heap.size,k*4,none⟩ (.int .i64 xk)).setCell ⟨w.heap.size,k*4+1,none⟩ (.slice xa xn xc)).setCell ⟨w.heap.size,k*4+2,none⟩ (.slice ya yn yc)).setCell ⟨w.heap.size,k*4+3,none⟩ (.slice za zn zc)):=⟨_,rfl⟩;have U:w2.heap.size=w1.heap.size:=by rw [Z];simp
    rw [← Z] at F hS;have aO:Hid (w2=((((w1.setCell ⟨w.heap.size,k*4,none⟩ (.int .i64 xk)).setCell ⟨w.heap.size,k*4+1,none⟩ (.slice xa xn xc)).setCell ⟨w.heap.size,k*4+2,none⟩ (.slice ya yn yc)).setCell ⟨w.heap.size,k*4+3,none⟩ (.slice za zn zc))):=Z
    have ap:Hid (∃ (k':Nat) (V':Nat→Value),k'≤n∧Value.int .i64 ((k:Int)+1)=.int .i64 k'∧w2.rowIs w.heap.size 104 (n*4) (cellC V' k')∧(∀ i,i<k'→RdC (w.heap.size+1) w2.heap.size w2 d (.agg #[V' (i*4),V' (i*4+1),V' (i*4+2),V' (i*4+3)]) (cs.getD i CN.zero))∧Free w.heap.size w2.heap.size w2∧Below w.heap.size w w2):=by
     refine ⟨k+1,putC V k (.int .i64 xk) (.slice xa xn xc) (.slice ya yn yc) (.slice za zn zc),by omega,by simp,F,?_,?_,?_⟩
     · intro i hi;rw [U];by_cases e:i=k
       · subst e;have p0:putC V i (.int .i64 xk) (.slice xa xn xc) (.slice ya yn yc) (.slice za zn zc) (i*4)=.int .i64 xk:=by simp [putC]
         have p1:putC V i (.int .i64 xk) (.slice xa xn xc) (.slice ya yn yc) (.slice za zn zc) (i*4+1)=.slice xa xn xc:=by simp [putC]
         have p2:putC V i (.int .i64 xk) (.slice xa xn xc) (.slice ya yn yc) (.slice za zn zc) (i*4+2)=.slice ya yn yc:=by simp [putC]
         have p3:putC V i (.int .i64 xk) (.slice xa xn xc) (.slice ya yn yc) (.slice za zn zc) (i*4+3)=.slice za zn zc:=by simp [putC]
         rw [p0,p1,p2,p3];exact (a7.mono (by omega) (Nat.le_refl _)).same hS
       have q:∀ j,j<4→putC V k (.int .i64 xk) (.slice xa xn xc) (.slice ya yn yc) (.slice za zn zc) (i*4+j)=V (i*4+j):=by
        intro j hj;unfold putC;rw [if_neg (by omega),if_neg (by omega),if_neg (by omega),if_neg (by omega)]
       have q0:=q 0 (by omega);rw [Nat.add_zero] at q0;rw [q0,q 1 (by omega),q 2 (by omega),q 3 (by omega)];exact (((ag.out i (by omega)).below D (Nat.le_refl _)).mono (Nat.le_refl _) T).same hS
     · rw [U,Z];exact (((((aY.out.next D au).set _ _).set _ _).set _ _).set _ _)
     rw [Z];simp only [below_set _ _ _ _ _ _ (Nat.le_refl w.heap.size)];exact HB.out.trans (D.mono HB.out.size)
    clear u o0 o1 o2 o3 a7 au D F hS Z U;go_wp2_with fail;rw [← aO.out];go_roundw
    case rel=>exact ap.out
    case measure=>simp [intOf];omega
  have a1:k=n:=by omega
  subst a1
  have HF:Hid (RdL (RdC w.heap.size wr.heap.size wr d) w.heap.size wr.heap.size wr (some ⟨w.heap.size,0,none⟩) k k cs):=by
   refine ⟨HL.out,by omega,.inr ⟨_,_,rfl,Nat.le_refl _,z.lt,fun i hi=>?_⟩⟩;refine ⟨V (i*4),V (i*4+1),V (i*4+2),V (i*4+3),?_,?_,?_,?_,(M i hi).mono (by omega) (Nat.le_refl _)⟩
   · rw [Nat.zero_add,z.cell (show i*4<k*4 by omega)];unfold cellC;rw [if_pos (by omega)]
   · rw [Nat.zero_add,z.cell (show i*4+1<k*4 by omega)];unfold cellC;rw [if_pos (by omega)]
   · rw [Nat.zero_add,z.cell (show i*4+2<k*4 by omega)];unfold cellC;rw [if_pos (by omega)]
   rw [Nat.zero_add,z.cell (show i*4+3<k*4 by omega)];unfold cellC;rw [if_pos (by omega)]
  have HB:Hid (Free w.heap.size wr.heap.size wr∧Below w.heap.size w wr):=⟨a6,A⟩;clear z M a6 A;go_wp2_with fail;go_ret;exact ⟨rfl,HF.out,HB.out.1,HB.out.2⟩
theorem toC_any:∀ d,ToC d
 | 0=>fun _ _ _ _ _ h=>h.elim
 | d+1=>toC_of (toL_of (toC_any d))
end Go.Proofs.YtellcgmabimieaaGreatDoor
