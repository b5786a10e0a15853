/- The laws' own copy of the lists of a world. -/
import Derived.Test.YtellcgmabimieaaGreatDoorWdLaw1
namespace Go.Proofs.YtellcgmabimieaaGreatDoor
open Go.RowKit
def partV (z:Value) (f:Nat→Value) (k i:Nat):Value:=if i<k then f i else z
theorem partV_step {w:World} {g t n:Nat} {z:Value} {f:Nat→Value} {k:Nat} (v:Value) (h:w.rowIs g t n (partV z f k)):(w.setCell ⟨g,k,none⟩ v).rowIs g t n (partV z (fun i=>if i=k then v else f i) (k+1)):=by
 refine (h.set k _).congr fun i _=>?_
 unfold partV;by_cases e:i=k
 · subst e;simp
 rw [if_neg e];by_cases h1:i<k
 · rw [if_pos h1,if_pos (by omega)];show f i=if i=k then v else f i;rw [if_neg e]
 rw [if_neg h1,if_neg (by omega)]
theorem rowIs_block {w w':World} {g t n:Nat} {f:Nat→Value} (h:w.rowIs g t n f) (e:w'.heap[g]?=w.heap[g]?):w'.rowIs g t n f:=by
 obtain ⟨c,h1,h2⟩:=h;exact ⟨c,e.trans h1,h2⟩
theorem rowIs_lt {w:World} {g t n:Nat} {f:Nat→Value} (h:w.rowIs g t n f):g<w.heap.size:=by
 obtain ⟨c,h1,_⟩:=h;exact (Array.getElem?_eq_some_iff.1 h1).1
theorem Tryz.info4w:(Tryz.prog.info? 4).map (fun i=>(i.zero,i.size,i.bytes))=some (some (.bool false),1,1):=by kernel_rfl
set_option maxHeartbeats 800000 in
theorem toBoolS_any (a:Option Addr) (n L:Nat) (xs:List Bool) (w:World) {lo hi:Nat} (h:RB lo hi w a n L xs) (Y:hi≤w.heap.size) (hn:n≤1048576) :
    Calls Tryz.prog 35 #[.slice a n L] w fun e w'=>e=.returned (.slice (some ⟨w.heap.size,0,none⟩) n n)∧RB w.heap.size (w.heap.size+1) w' (some ⟨w.heap.size,0,none⟩) n n xs∧Below w.heap.size w w'∧w'.heap.size=w.heap.size+1:=by
 obtain ⟨hl,⟨hm,_⟩,hc⟩:=h;have a8:=fun w:World=>run_make_row' (P:=Tryz.prog) 65 4 (.bool false) 1 Tryz.underlying65 Tryz.info4w rfl .i64 .i64 n (by omega) (by omega) w
 have HL:Hid (xs.length=n):=hl
 have N:Hid (∀ k,k<n→∃ b F,a=some ⟨b,F,none⟩∧b<w.heap.size∧w.cell? ⟨b,F+k,none⟩=some (.bool (xs.getD k false))):=by
  intro k hk;rcases hc with h0 | ⟨b,F,e,_,hb,ab⟩
  · omega
  obtain ⟨v,hv,rfl⟩:=ab k hk;exact ⟨b,F,e,by omega,hv⟩
 have h0:Hid ((w.alloc (.cells (madeCells #[(.bool false)] n) 4)).rowIs w.heap.size 4 n (partV (.bool false) (fun i=>(.bool (xs.getD i false))) 0)):=(World.rowIs_made w (.bool false) n 4).congr (fun i _=>by simp [partV]);clear hc hl;go_enter Tryz.func35, Tryz.ntmps35;go_wp2;go_loopw [4] (fun i wr=>∃ k:Nat,k≤n∧i=.int .i64 k∧wr.rowIs w.heap.size 4 n (partV (.bool false) (fun i=>(.bool (xs.getD i false))) k)∧Below w.heap.size w wr∧wr.heap.size=w.heap.size+1) (fun i _=>n - (intOf i).toNat)
 case atStart=>exact ⟨0,Nat.zero_le _,rfl,h0.out,(Below.refl _ _).alloc (Nat.le_refl _) _,by simp⟩
 case round =>
  obtain ⟨k,hk,rfl,o,q,O⟩:=hrel;by_cases hlt:k<n
  · obtain ⟨b,F,ha,hb,D⟩:=N.out k hlt;subst ha;obtain ⟨c,Z⟩:∃ c,c=xs.getD k false:=⟨_,rfl⟩;have HC:Hid (c=xs.getD k false):=Z;rw [← Z] at D;have ai:wr.cell? ⟨b,F+k,none⟩=some (.bool (c)):=by rw [q.cell (p:=⟨b,F+k,none⟩) hb];exact D
    have aa:=o.frozen k;have a2:wr.cell? ⟨w.heap.size,k,none⟩=some (.bool false):=by have:=o.cell hlt;simpa [partV] using this
    have HR:Hid ((wr.setCell ⟨w.heap.size,k,none⟩ (.bool (c))).rowIs w.heap.size 4 n (partV (.bool false) (fun i=>(.bool (xs.getD i false))) (k+1))):=by
     refine (partV_step _ o).congr fun i _=>?_
     unfold partV;by_cases e:i=k
     · subst e;rw [HC.out];simp
     simp [e]
    have HB:Hid (Below w.heap.size w (wr.setCell ⟨w.heap.size,k,none⟩ (.bool (c)))):=q.setCell (Nat.le_refl _) _;have a9:(k:Int)<(n:Int):=by omega
    clear o q Z D;go_wp2;go_roundw
    case rel=>exact ⟨k+1,by omega,by go_num,HR.out,HB.out,by simpa using O⟩
    case measure=>simp [intOf];omega
  have M:k=n:=by omega
  have a0:Hid (RB w.heap.size (w.heap.size+1) wr (some ⟨w.heap.size,0,none⟩) n n xs):=by
   refine ⟨HL.out,⟨Nat.le_refl _,by omega⟩,.inr ⟨w.heap.size,0,rfl,Nat.le_refl _,Nat.lt_succ_self _,fun i hi=>⟨_,?_,rfl⟩⟩⟩;have:=o.cell hi;rw [Nat.zero_add,this];simp [partV,M,hi]
  have HB:Hid (Below w.heap.size w wr):=q;clear o q M;go_wp2;go_ret;exact ⟨rfl,a0.out,HB.out,O⟩
theorem Tryz.info3w:(Tryz.prog.info? 3).map (fun i=>(i.zero,i.size,i.bytes))=some (some (.int .i64 0),1,8):=by kernel_rfl
set_option maxHeartbeats 800000 in
theorem toIntS_any (a:Option Addr) (n L:Nat) (xs:List Int) (w:World) {lo hi:Nat} (h:RI lo hi w a n L xs) (Y:hi≤w.heap.size) (hn:n≤1048576) :
    Calls Tryz.prog 30 #[.slice a n L] w fun e w'=>e=.returned (.slice (some ⟨w.heap.size,0,none⟩) n n)∧RI w.heap.size (w.heap.size+1) w' (some ⟨w.heap.size,0,none⟩) n n xs∧Below w.heap.size w w'∧w'.heap.size=w.heap.size+1:=by
 obtain ⟨hl,⟨hm,_⟩,hc⟩:=h;have a8:=fun w:World=>run_make_row' (P:=Tryz.prog) 24 3 (.int .i64 0) 8 Tryz.underlying24 Tryz.info3w rfl .i64 .i64 n (by omega) (by omega) w
 have HL:Hid (xs.length=n):=hl
 have N:Hid (∀ k,k<n→∃ b F,a=some ⟨b,F,none⟩∧b<w.heap.size∧w.cell? ⟨b,F+k,none⟩=some (.int .i64 (xs.getD k 0))):=by
  intro k hk;rcases hc with h0 | ⟨b,F,e,_,hb,ab⟩
  · omega
  obtain ⟨v,hv,rfl⟩:=ab k hk;exact ⟨b,F,e,by omega,hv⟩
 have h0:Hid ((w.alloc (.cells (madeCells #[(.int .i64 0)] n) 3)).rowIs w.heap.size 3 n (partV (.int .i64 0) (fun i=>(.int .i64 (xs.getD i 0))) 0)):=(World.rowIs_made w (.int .i64 0) n 3).congr (fun i _=>by simp [partV]);clear hc hl;go_enter Tryz.func30, Tryz.ntmps30;go_wp2;go_loopw [4] (fun i wr=>∃ k:Nat,k≤n∧i=.int .i64 k∧wr.rowIs w.heap.size 3 n (partV (.int .i64 0) (fun i=>(.int .i64 (xs.getD i 0))) k)∧Below w.heap.size w wr∧wr.heap.size=w.heap.size+1) (fun i _=>n - (intOf i).toNat)
 case atStart=>exact ⟨0,Nat.zero_le _,rfl,h0.out,(Below.refl _ _).alloc (Nat.le_refl _) _,by simp⟩
 case round =>
  obtain ⟨k,hk,rfl,o,q,O⟩:=hrel;by_cases hlt:k<n
  · obtain ⟨b,F,ha,hb,D⟩:=N.out k hlt;subst ha;obtain ⟨c,Z⟩:∃ c,c=xs.getD k 0:=⟨_,rfl⟩;have HC:Hid (c=xs.getD k 0):=Z;rw [← Z] at D;have ai:wr.cell? ⟨b,F+k,none⟩=some (.int .i64 (c)):=by rw [q.cell (p:=⟨b,F+k,none⟩) hb];exact D
    have aa:=o.frozen k;have a2:wr.cell? ⟨w.heap.size,k,none⟩=some (.int .i64 0):=by have:=o.cell hlt;simpa [partV] using this
    have HR:Hid ((wr.setCell ⟨w.heap.size,k,none⟩ (.int .i64 (c))).rowIs w.heap.size 3 n (partV (.int .i64 0) (fun i=>(.int .i64 (xs.getD i 0))) (k+1))):=by
     refine (partV_step _ o).congr fun i _=>?_
     unfold partV;by_cases e:i=k
     · subst e;rw [HC.out];simp
     simp [e]
    have HB:Hid (Below w.heap.size w (wr.setCell ⟨w.heap.size,k,none⟩ (.int .i64 (c)))):=q.setCell (Nat.le_refl _) _;have a9:(k:Int)<(n:Int):=by omega
    clear o q Z D;go_wp2;go_roundw
    case rel=>exact ⟨k+1,by omega,by go_num,HR.out,HB.out,by simpa using O⟩
    case measure=>simp [intOf];omega
  have M:k=n:=by omega
  have a0:Hid (RI w.heap.size (w.heap.size+1) wr (some ⟨w.heap.size,0,none⟩) n n xs):=by
   refine ⟨HL.out,⟨Nat.le_refl _,by omega⟩,.inr ⟨w.heap.size,0,rfl,Nat.le_refl _,Nat.lt_succ_self _,fun i hi=>⟨_,?_,rfl⟩⟩⟩;have:=o.cell hi;rw [Nat.zero_add,this];simp [partV,M,hi]
  have HB:Hid (Below w.heap.size w wr):=q;clear o q M;go_wp2;go_ret;exact ⟨rfl,a0.out,HB.out,O⟩
theorem Tryz.infotoByteSS:(Tryz.prog.info? 89).map (fun i=>(i.zero,i.size,i.bytes))=some (some (.slice none 0 0),1,24):=by kernel_rfl
set_option maxHeartbeats 1600000 in
theorem toByteSS_any (a:Option Addr) (n L:Nat) (xs:List (List Int)) (w:World) {lo hi:Nat} (h:RSS lo hi w a n L xs) (Y:hi≤w.heap.size) (hn:n≤1048576) (a5:∀ i,i<n→(xs.getD i []).length≤1048576) :
    Calls Tryz.prog 29 #[.slice a n L] w fun e w'=>e=.returned (.slice (some ⟨w.heap.size,0,none⟩) n n)∧RSS w.heap.size w'.heap.size w' (some ⟨w.heap.size,0,none⟩) n n xs∧Below w.heap.size w w':=by
 have ad:Hid (RSS lo hi w a n L xs):=h;obtain ⟨hl,⟨hm,_⟩,_⟩:=h;have a8:=fun w:World=>run_make_row' (P:=Tryz.prog) 22 89 (.slice none 0 0) 24 Tryz.underlying22 Tryz.infotoByteSS rfl .i64 .i64 n (by omega) (by omega) w
 have HL:Hid (xs.length=n):=hl;have h0:Hid ((w.alloc (.cells (madeCells #[(.slice none 0 0)] n) 89)).rowIs w.heap.size 89 n (partV (.slice none 0 0) (fun _=>(.slice none 0 0)) 0)):=(World.rowIs_made w (.slice none 0 0) n 89).congr (fun i _=>by simp [partV]);have a4:Hid (∀ i,i<n→(xs.getD i []).length≤1048576):=a5;clear hl a5;go_enter Tryz.func29, Tryz.ntmps29;go_wp2_with fail;go_loopw [4] (fun i wr=>∃ (k:Nat) (V:Nat→Value),k≤n∧i=.int .i64 k∧wr.rowIs w.heap.size 89 n (partV (.slice none 0 0) V k)∧(∀ j,j<k→SlB (w.heap.size+1) wr.heap.size wr (V j) (xs.getD j []))∧Below w.heap.size w wr∧w.heap.size+1≤wr.heap.size) (fun i _=>n - (intOf i).toNat)
 case atStart=>exact ⟨0,_,Nat.zero_le _,rfl,h0.out,fun j hj=>by omega,(Below.refl _ _).alloc (Nat.le_refl _) _,by simp⟩
 case round =>
  obtain ⟨k,V,hk,rfl,o,A,q,O⟩:=hrel;have HB:Hid (Below w.heap.size w wr):=q;have I:Hid (wr.rowIs w.heap.size 89 n (partV (.slice none 0 0) V k)):=o;have G:Hid (∀ j,j<k→SlB (w.heap.size+1) wr.heap.size wr (V j) (xs.getD j [])):=A;by_cases hlt:k<n
  · have hR:=ad.out.below q Y;rcases hR.cells with hz | ⟨b,F,e1,_,ag,hc⟩
    · omega
    subst e1;obtain ⟨v,c0,ea,en,ec,rfl,T⟩:=hc k hlt;have hr:Hid (Rd lo hi wr ea en ec (xs.getD k [])):=T;have a9:(k:Int)<(n:Int):=by omega
    have a6:Hid (∀ i,i<n→en≤1048576):=by intro i hi;have:=a4.out k hlt;rw [T.len] at this;exact this
    clear hR hc T o A q;go_wp2_with fail;refine (toByteS_one ea en ec (xs.getD k []) wr hr.out (Nat.le_trans Y HB.out.size) (a6.out k hlt)).mono ?_;rintro e w' ⟨rfl,E,J,ah⟩;have a3:Hid (SlB wr.heap.size w'.heap.size w' (.slice (some ⟨wr.heap.size,0,none⟩) en en) (xs.getD k [])):=⟨_,_,_,rfl,E.rd hr.out.len hr.out.byte (by have:=a6.out k hlt;omega) (Nat.le_refl _) E.lt⟩;have u:w'.rowIs w.heap.size 89 n (partV (.slice none 0 0) V k):=rowIs_block I.out (J.block _ (rowIs_lt I.out));have aa:=u.frozen k;have a2:w'.cell? ⟨w.heap.size,k,none⟩=some (.slice none 0 0):=by have:=u.cell hlt;simpa [partV] using this
    obtain ⟨U,hU⟩:∃ U,U=w'.setCell ⟨w.heap.size,k,none⟩ (.slice (some ⟨wr.heap.size,0,none⟩) en en):=⟨_,rfl⟩;have HU:Hid (U=w'.setCell ⟨w.heap.size,k,none⟩ (.slice (some ⟨wr.heap.size,0,none⟩) en en)):=hU;have a7:U.heap.size=w'.heap.size:=by rw [hU];simp
    have R:Same (w.heap.size+1) w'.heap.size w' U:=by rw [hU];exact fun b h1 _=>Below.heap_setCell w' ⟨w.heap.size,k,none⟩ _ b (by show b≠w.heap.size;omega)
    have ac:Hid (U.rowIs w.heap.size 89 n (partV (.slice none 0 0) (fun i=>if i=k then .slice (some ⟨wr.heap.size,0,none⟩) en en else V i) (k+1))):=by unfold Hid;rw [hU];exact partV_step _ u
    have af:Hid (Below w.heap.size w U):=by unfold Hid;rw [hU];exact (HB.out.trans (J.mono HB.out.size)).setCell (Nat.le_refl _) _
    have ae:Hid (∀ j,j<k+1→SlB (w.heap.size+1) U.heap.size U (if j=k then .slice (some ⟨wr.heap.size,0,none⟩) en en else V j) (xs.getD j [])):=by
     intro j hj;rw [a7];by_cases e:j=k
     · subst e;rw [if_pos rfl];exact (a3.out.mono (by omega) (Nat.le_refl _)).same R
     rw [if_neg e];exact (((G.out j (by omega)).same (Same.of_below J (Nat.le_refl _))).mono (Nat.le_refl _) J.size).same R
    have a1:w.heap.size+1≤U.heap.size:=by have:=J.size;omega
    clear E J u R hU;go_wp2_with fail;rw [← HU.out];go_roundw
    case rel=>exact ⟨k+1,_,by omega,by go_num,ac.out,ae.out,af.out,a1⟩
    case measure=>simp [intOf];omega
  have M:k=n:=by omega
  have a0:Hid (RSS w.heap.size wr.heap.size wr (some ⟨w.heap.size,0,none⟩) n n xs):=by
   refine ⟨HL.out,⟨Nat.le_refl _,by omega⟩,.inr ⟨w.heap.size,0,rfl,Nat.le_refl _,by omega,fun i hi=>⟨V i,?_,(G.out i (by omega)).mono (by omega) (Nat.le_refl _)⟩⟩⟩;have:=I.out.cell hi;rw [Nat.zero_add,this];simp [partV,M,hi]
  clear o A q M;go_wp2_with fail;go_ret;exact ⟨rfl,a0.out,HB.out⟩
theorem Tryz.infotoBoolSS:(Tryz.prog.info? 65).map (fun i=>(i.zero,i.size,i.bytes))=some (some (.slice none 0 0),1,24):=by kernel_rfl
set_option maxHeartbeats 1600000 in
theorem toBoolSS_any (a:Option Addr) (n L:Nat) (xs:List (List Bool)) (w:World) {lo hi:Nat} (h:RFF lo hi w a n L xs) (Y:hi≤w.heap.size) (hn:n≤1048576) (a5:∀ i,i<n→(xs.getD i []).length≤1048576) :
    Calls Tryz.prog 12 #[.slice a n L] w fun e w'=>e=.returned (.slice (some ⟨w.heap.size,0,none⟩) n n)∧RFF w.heap.size w'.heap.size w' (some ⟨w.heap.size,0,none⟩) n n xs∧Below w.heap.size w w':=by
 have ad:Hid (RFF lo hi w a n L xs):=h;obtain ⟨hl,⟨hm,_⟩,_⟩:=h;have a8:=fun w:World=>run_make_row' (P:=Tryz.prog) 23 65 (.slice none 0 0) 24 Tryz.underlying23 Tryz.infotoBoolSS rfl .i64 .i64 n (by omega) (by omega) w
 have HL:Hid (xs.length=n):=hl;have h0:Hid ((w.alloc (.cells (madeCells #[(.slice none 0 0)] n) 65)).rowIs w.heap.size 65 n (partV (.slice none 0 0) (fun _=>(.slice none 0 0)) 0)):=(World.rowIs_made w (.slice none 0 0) n 65).congr (fun i _=>by simp [partV]);have a4:Hid (∀ i,i<n→(xs.getD i []).length≤1048576):=a5;clear hl a5;go_enter Tryz.func12, Tryz.ntmps12;go_wp2_with fail;go_loopw [4] (fun i wr=>∃ (k:Nat) (V:Nat→Value),k≤n∧i=.int .i64 k∧wr.rowIs w.heap.size 65 n (partV (.slice none 0 0) V k)∧(∀ j,j<k→SlF (w.heap.size+1) wr.heap.size wr (V j) (xs.getD j []))∧Below w.heap.size w wr∧w.heap.size+1≤wr.heap.size) (fun i _=>n - (intOf i).toNat)
 case atStart=>exact ⟨0,_,Nat.zero_le _,rfl,h0.out,fun j hj=>by omega,(Below.refl _ _).alloc (Nat.le_refl _) _,by simp⟩
 case round =>
  obtain ⟨k,V,hk,rfl,o,A,q,O⟩:=hrel;have HB:Hid (Below w.heap.size w wr):=q;have I:Hid (wr.rowIs w.heap.size 65 n (partV (.slice none 0 0) V k)):=o;have G:Hid (∀ j,j<k→SlF (w.heap.size+1) wr.heap.size wr (V j) (xs.getD j [])):=A;by_cases hlt:k<n
  · have hR:=ad.out.below q Y;rcases hR.cells with hz | ⟨b,F,e1,_,ag,hc⟩
    · omega
    subst e1;obtain ⟨v,c0,ea,en,ec,rfl,T⟩:=hc k hlt;have hr:Hid (RB lo hi wr ea en ec (xs.getD k [])):=T;have a9:(k:Int)<(n:Int):=by omega
    have a6:Hid (∀ i,i<n→en≤1048576):=by intro i hi;have:=a4.out k hlt;rw [T.len] at this;exact this
    clear hR hc T o A q;go_wp2_with fail;refine (toBoolS_any ea en ec (xs.getD k []) wr hr.out (Nat.le_trans Y HB.out.size) (a6.out k hlt)).mono ?_;rintro e w' ⟨rfl,E,J,ah⟩;have a3:Hid (SlF wr.heap.size w'.heap.size w' (.slice (some ⟨wr.heap.size,0,none⟩) en en) (xs.getD k [])):=⟨_,_,_,rfl,E.mono (Nat.le_refl _) (by omega)⟩;have u:w'.rowIs w.heap.size 65 n (partV (.slice none 0 0) V k):=rowIs_block I.out (J.block _ (rowIs_lt I.out));have aa:=u.frozen k;have a2:w'.cell? ⟨w.heap.size,k,none⟩=some (.slice none 0 0):=by have:=u.cell hlt;simpa [partV] using this
    obtain ⟨U,hU⟩:∃ U,U=w'.setCell ⟨w.heap.size,k,none⟩ (.slice (some ⟨wr.heap.size,0,none⟩) en en):=⟨_,rfl⟩;have HU:Hid (U=w'.setCell ⟨w.heap.size,k,none⟩ (.slice (some ⟨wr.heap.size,0,none⟩) en en)):=hU;have a7:U.heap.size=w'.heap.size:=by rw [hU];simp
    have R:Same (w.heap.size+1) w'.heap.size w' U:=by rw [hU];exact fun b h1 _=>Below.heap_setCell w' ⟨w.heap.size,k,none⟩ _ b (by show b≠w.heap.size;omega)
    have ac:Hid (U.rowIs w.heap.size 65 n (partV (.slice none 0 0) (fun i=>if i=k then .slice (some ⟨wr.heap.size,0,none⟩) en en else V i) (k+1))):=by unfold Hid;rw [hU];exact partV_step _ u
    have af:Hid (Below w.heap.size w U):=by unfold Hid;rw [hU];exact (HB.out.trans (J.mono HB.out.size)).setCell (Nat.le_refl _) _
    have ae:Hid (∀ j,j<k+1→SlF (w.heap.size+1) U.heap.size U (if j=k then .slice (some ⟨wr.heap.size,0,none⟩) en en else V j) (xs.getD j [])):=by
     intro j hj;rw [a7];by_cases e:j=k
     · subst e;rw [if_pos rfl];exact (a3.out.mono (by omega) (Nat.le_refl _)).same R
     rw [if_neg e];exact (((G.out j (by omega)).same (Same.of_below J (Nat.le_refl _))).mono (Nat.le_refl _) J.size).same R
    have a1:w.heap.size+1≤U.heap.size:=by have:=J.size;omega
    clear E J u R hU;go_wp2_with fail;rw [← HU.out];go_roundw
    case rel=>exact ⟨k+1,_,by omega,by go_num,ac.out,ae.out,af.out,a1⟩
    case measure=>simp [intOf];omega
  have M:k=n:=by omega
  have a0:Hid (RFF w.heap.size wr.heap.size wr (some ⟨w.heap.size,0,none⟩) n n xs):=by
   refine ⟨HL.out,⟨Nat.le_refl _,by omega⟩,.inr ⟨w.heap.size,0,rfl,Nat.le_refl _,by omega,fun i hi=>⟨V i,?_,(G.out i (by omega)).mono (by omega) (Nat.le_refl _)⟩⟩⟩;have:=I.out.cell hi;rw [Nat.zero_add,this];simp [partV,M,hi]
  clear o A q M;go_wp2_with fail;go_ret;exact ⟨rfl,a0.out,HB.out⟩
end Go.Proofs.YtellcgmabimieaaGreatDoor
