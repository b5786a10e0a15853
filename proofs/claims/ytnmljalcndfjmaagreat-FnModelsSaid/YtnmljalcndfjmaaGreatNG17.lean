/- Several texts in one: WdFlags0, HoldE, WdScene0. -/
import Derived.Test.YtnmljalcndfjmaaGreatNG13
import Derived.Test.YtnmljalcndfjmaaGreatNG15
import Derived.Deep.RegionHeld3
import Derived.Test.YtnmljalcndfjmaaGreatNG16
import Derived.Test.YtnmljalcndfjmaaGreatNG2
import Derived.Deep.RegionWith
namespace Go.Proofs.YtnmljalcndfjmaaGreat

section
open Go.RowKit
set_option maxRecDepth 100000 in
set_option maxHeartbeats 8000000 in
theorem flagsOf_any (a:Option Addr) (n E:Nat) (xs:List (List Int)) (sa:Option Addr) (sc:Nat) (ls:List (List Bool)) (wa:Option Addr) (wn wc:Nat) (wd:List Int) (L:Nat) (w:World) {lo hi lo' y R F:Nat} (h:RSS lo hi w a n E xs) (h2:RFF R F w sa n sc ls) (h':Rd lo' y w wa wn wc wd)
    (ha:Asc xs) (hn:n≤1048576) (V:∀ i,i<n→(ls.getD i []).length=L) (hL:1≤L∧L≤16384) :
    Calls Tryz.prog 136 #[.slice a n E,.slice sa n sc,.slice wa wn wc,.int .i64 L] w fun e w'=>∃ b2 o2 c,e=.returned (.slice (some ⟨b2,o2,none⟩) L c)∧((L≤c∧c≤9223372036854775807)∧(b2<F∨w.heap.size≤b2))∧(∀ q,q<L→w'.cell? ⟨b2,o2+q,none⟩=some (.bool (flagO xs ls wd q)))∧Below w.heap.size w w':=by
 have HR:Hid (RSS lo hi w a n E xs):=h;have HS:Hid (RFF R F w sa n sc ls):=h2;have HW:Hid (Rd lo' y w wa wn wc wd):=h';have HA:Hid (Asc xs):=ha;have H:Hid (∀ i,i<n→(ls.getD i []).length=L):=V;have a1:=fun w:World=>run_make_row' (P:=Tryz.prog) 63 4 (.bool false) 1 Tryz.underlying63 Tryz.info4w rfl .i64 .i64 L (by omega) (by omega) w
 have N:Hid ((w.alloc (.cells (madeCells #[(.bool false)] L) 4)).rowIs w.heap.size 4 L (fun _=>.bool false)):=World.rowIs_made w (.bool false) L 4;have A:Hid (Below w.heap.size w (w.alloc (.cells (madeCells #[(.bool false)] L) 4))):=(Below.refl _ _).alloc (Nat.le_refl _) _;clear h h2 h' ha V;go_enter Tryz.func136, Tryz.ntmps136;go_wp2_with fail;refine (search_any a n E xs wa wn wc wd w HR.out HW.out HA.out hn).mono ?_;rintro e w5 ⟨i,f,rfl,hT,hF,T⟩;rw [T];clear T;cases f with
 | true =>
  have hO:=hT rfl;have X:i<n:=by have:=idx_of hO;rwa [HR.out.len] at this
  rcases HS.out.cells with hz | ⟨b,off,e1,_,_,hc⟩
  · omega
  subst e1;obtain ⟨v,c0,ea,en,ec,rfl,hr⟩:=hc i X;have a3:en=L:=by have h1:=hr.len;have h3:=H.out i X;omega
  subst a3;have J:=hr.fits;rcases hr.cells with hz | ⟨b2,o2,e2,_,a4,Y⟩
  · omega
  subst e2
  have HC:Hid (∀ q,q<en→w.cell? ⟨b2,o2+q,none⟩=some (.bool (flagO xs ls wd q))):=fun q hq=>by
   obtain ⟨v2,k2,rfl⟩:=Y q hq;unfold flagO;rw [hO];exact k2
  have a7:(i:Int)<(n:Int):=by omega
  clear hc hr Y hT hF hO a1;go_wp2_with fail;go_ret;exact ⟨b2,o2,ec,rfl,⟨J,.inl a4⟩,HC.out,Below.refl _ _⟩
 | false =>
  have hO:=hF rfl
  have HC:Hid (∀ q,q<L→(w.alloc (.cells (madeCells #[(.bool false)] L) 4)).cell? ⟨w.heap.size,0+q,none⟩=some (.bool (flagO xs ls wd q))):=fun q hq=>by
   unfold flagO;rw [hO,Nat.zero_add];exact N.out.cell hq
  clear hT hF hO;go_wp2_with fail;go_ret;exact ⟨w.heap.size,0,L,rfl,⟨⟨Nat.le_refl _,by omega⟩,.inr (Nat.le_refl _)⟩,HC.out,A.out⟩
set_option maxRecDepth 100000 in
set_option maxHeartbeats 8000000 in
theorem members_any {na:Option Addr} {nn nc:Nat} {sa:Option Addr} {sn sc:Nat} {ra:Option Addr} {rn rc:Nat} {la:Option Addr} {ln lc:Nat} {ia:Option Addr} {im ic:Nat} {ta:Option Addr} {tn tc:Nat} {x:WD} {wa:Option Addr} {wn wc:Nat} {wd:List Int} {w:World} {lo hi lo' y L:Nat} (h:RdW lo hi w na nn nc sa sn sc ra rn rc la ln lc ia im ic ta tn tc x) (h':Rd lo' y w wa wn wc wd) (hn:x.n=(L:Int)) (a2:hi≤w.heap.size) (I:y≤w.heap.size) (U:worldB x=true) :
    Calls Tryz.prog 87 #[.agg #[.int .i64 L,.slice ia im ic,.slice ta tn tc,.int .i64 L,.slice na nn nc,.slice sa sn sc,.slice ra rn rc,.slice la ln lc,.slice ia im ic,.slice ta tn tc],.slice wa wn wc] w fun e w'=>∃ b2 o2 c,e=.returned (.slice (some ⟨b2,o2,none⟩) L c)∧((L≤c∧c≤9223372036854775807)∧(b2<hi∨w.heap.size≤b2))∧(∀ q,q<L→w'.cell? ⟨b2,o2+q,none⟩=some (.bool (flagO x.names x.sets wd q)))∧Below w.heap.size w w':=by
 obtain ⟨W0,G⟩:∃ W0,W0=w.alloc (.cells #[.int .i64 L,.slice ia im ic,.slice ta tn tc,.int .i64 L,.slice na nn nc,.slice sa sn sc,.slice ra rn rc,.slice la ln lc,.slice ia im ic,.slice ta tn tc] 74):=⟨_,rfl⟩;have a5:Hid (W0=w.alloc (.cells #[.int .i64 L,.slice ia im ic,.slice ta tn tc,.int .i64 L,.slice na nn nc,.slice sa sn sc,.slice ra rn rc,.slice la ln lc,.slice ia im ic,.slice ta tn tc] 74)):=G;have D:Below w.heap.size w W0:=by rw [G];exact (Below.refl _ _).alloc (Nat.le_refl _) _
 have A:Hid (Below w.heap.size w W0):=D;have HR:Hid (RdW lo hi W0 na nn nc sa sn sc ra rn rc la ln lc ia im ic ta tn tc x):=h.below D a2;have HW:Hid (Rd lo' y W0 wa wn wc wd):=h'.below D I;have HI:Hid _:=(worldB_iff x).1 U;have HL:Hid (1≤L∧L≤16384):=by have h1:=HI.out.1.1;rw [hn] at h1;unfold Hid;omega
 have a0:sn=nn:=by have h1:=HI.out.1.2.2.2.2.1;rw [h.names.len,h.sets.len] at h1;exact h1
 subst a0
 have H:Hid (∀ i,i<sn→(x.sets.getD i []).length=L):=fun i hi=>by
  have h1:=flags_long HI.out.2.2.1 (i:=i) (by rw [h.sets.len];exact hi);rw [hn] at h1;omega
 have HA:Hid (Asc x.names):=asc_of HI.out.2.1.1;have O:Hid (sn≤1048576):=by have h1:=HI.out.1.2.1;rw [h.names.len] at h1;unfold Hid;omega
 clear h h' D G hn U;go_enter Tryz.func87, Tryz.ntmps87;go_wp2_with fail;rw [← a5.out];refine (flagsOf_any na sn nc x.names sa sc x.sets wa wn wc wd L W0 HR.out.names HR.out.sets HW.out HA.out O.out H.out HL.out).mono ?_;rintro e w5 ⟨b2,o2,c,rfl,hf,hc,Z⟩;have HC:Hid (∀ q,q<L→w5.cell? ⟨b2,o2+q,none⟩=some (.bool (flagO x.names x.sets wd q))):=hc;have a6:Hid (Below w.heap.size w w5):=A.out.trans (Z.mono A.out.size);clear hc Z;go_wp2_with fail;go_ret;exact ⟨b2,o2,c,rfl,⟨hf.1,hf.2.imp id (fun h=>Nat.le_trans A.out.size h)⟩,HC.out,a6.out⟩
end

section
open Go.RowKit Go.Deep
set_option linter.unusedVariables false
def partF (f:Nat→Bool) (k i:Nat):Value:=.bool (if i<k then f i else false)
theorem rowF_step {w:World} {g n:Nat} {f:Nat→Bool} {k:Nat} (h:w.rowIs g 4 n (partF f k)):(w.setCell ⟨g,k,none⟩ (.bool (f k))).rowIs g 4 n (partF f (k+1)):=by
 refine (h.set k _).congr fun i _=>?_
 unfold partF;by_cases e:i=k
 · subst e;simp
 rw [if_neg e]
 congr 1
 by_cases h1:i<k
 · rw [if_pos h1,if_pos (by omega)]
 rw [if_neg h1,if_neg (by omega)]
def FlS (w:World) (b o:Nat) (L:Nat) (f:Nat→Bool):Prop:=b<w.heap.size∧∀ q,q<L→w.cell? ⟨b,o+q,none⟩=some (.bool (f q))
theorem FlS.below {w w':World} {b o L:Nat} {f:Nat→Bool} (h:FlS w b o L f) (hb:Below w.heap.size w w'):FlS w' b o L f :=
 ⟨Nat.lt_of_lt_of_le h.1 hb.size,fun q hq=>(hb.cell (p:=⟨b,o+q,none⟩) h.1).trans (h.2 q hq)⟩
set_option maxRecDepth 100000 in
set_option maxHeartbeats 4000000 in
theorem each_any (F:Nat) (cp:Array Value) (f:Nat→Bool) (L:Nat) {ia:Option Addr} {im ic:Nat} {ta:Option Addr} {tn tc:Nat} (w:World) (hL:L≤128)
    (ae:∀ (args:Array Value) (V:World),(callFunc F args).run Tryz.prog V=.ok (.enter F args) V)
    (hg:∀ (e:Nat) (V:World),e<L→Below w.heap.size w V→Calls Tryz.prog F (#[.int .i64 e]++cp) V fun r w'=>r=.returned (.bool (f e))∧Below V.heap.size V w') :
    Calls Tryz.prog 92 #[.agg #[.int .i64 L,.slice ia im ic,.slice ta tn tc],.func (.func F) #[] cp] w fun r w'=>∃ g,r=.returned (.slice (some ⟨g,0,none⟩) L L)∧w.heap.size≤g∧FlS w' g 0 L f∧Below w.heap.size w w':=by
 have HG:Hid (∀ (e:Nat) (V:World),e<L→Below w.heap.size w V→Calls Tryz.prog F (#[.int .i64 e]++cp) V fun r w'=>r=.returned (.bool (f e))∧Below V.heap.size V w'):=hg;obtain ⟨W0,O⟩:∃ W0,W0=w.alloc (.cells #[.int .i64 L,.slice ia im ic,.slice ta tn tc] 72):=⟨_,rfl⟩;have a6:Hid (W0=w.alloc (.cells #[.int .i64 L,.slice ia im ic,.slice ta tn tc] 72)):=O;have a2:w.heap.size<W0.heap.size:=by rw [O];simp
 have a1:Below w.heap.size w W0:=by rw [O];exact (Below.refl _ _).alloc (Nat.le_refl _) _
 have z0:W0.cell? ⟨w.heap.size,0,none⟩=some (.int .i64 L):=by rw [O];simp
 have a9:Hid (Below w.heap.size w (W0.alloc (.cells (madeCells #[.bool false] L) 4))):=a1.alloc (by omega) _;have a7:Hid ((W0.alloc (.cells (madeCells #[.bool false] L) 4)).rowIs W0.heap.size 4 L (partF f 0)):=(World.rowIs_made W0 (.bool false) L 4).congr (fun i _=>by simp [partF]);have a3:=run_make_row' (P:=Tryz.prog) 63 4 (.bool false) 1 Tryz.underlying63 Tryz.info4w rfl .i64 .i64 L (by omega) (by omega) W0;clear hg a1 O;go_enter Tryz.func92, Tryz.ntmps92;go_upto_region 1 with fail;rw [← a6.out];go_wp2_with fail;clear a3 z0;go_loopw [12] (fun i wr=>∃ k:Nat,k≤L∧i=.int .i64 k∧wr.rowIs W0.heap.size 4 L (partF f k)∧Below w.heap.size w wr) (fun i _=>L - (intOf i).toNat)
 case atStart=>exact ⟨0,Nat.zero_le _,rfl,a7.out,a9.out⟩
 case round =>
  obtain ⟨k,hk,rfl,J,N⟩:=hrel;have R:Hid (wr.rowIs W0.heap.size 4 L (partF f k)):=J;have X:Hid (Below w.heap.size w wr):=N;have Y:=N.size;have a0:=J.lt;clear J N;by_cases hlt:k<L
  · have Z:(k:Int)<(L:Int):=by omega
    go_wp2_with fail;refine (HG.out k wr hlt X.out).mono ?_;rintro r w5 ⟨rfl,U⟩;have D:w5.rowIs W0.heap.size 4 L (partF f k):=R.out.of_block (U.block _ a0);have ad:=D.frozen k;obtain ⟨fk,T⟩:∃ fk,fk=f k:=⟨_,rfl⟩;have aa:w5.cell? ⟨W0.heap.size,k,none⟩=some (.bool false):=by have:=D.cell hlt;simpa [partF] using this
    have HR:Hid ((w5.setCell ⟨W0.heap.size,k,none⟩ (.bool fk)).rowIs W0.heap.size 4 L (partF f (k+1))):=by unfold Hid;rw [T];exact rowF_step D
    have a8:Hid (Below w.heap.size w w5):=X.out.trans (U.mono Y);have HB:Hid (Below w.heap.size w (w5.setCell ⟨W0.heap.size,k,none⟩ (.bool fk))):=a8.out.setCell (by show w.heap.size≤W0.heap.size;omega) _;rw [← T];clear D U T;go_wp2_with fail;go_roundw
    case rel=>exact ⟨k+1,by omega,by go_num,HR.out,HB.out⟩
    case measure=>simp [intOf];omega
  have HF:Hid (FlS wr W0.heap.size 0 L f):=by
   refine ⟨a0,fun q hq=>?_⟩;rw [Nat.zero_add,R.out.cell hq];simp [partF,show q<k by omega]
  go_wp2_with fail;go_ret;exact ⟨_,rfl,Nat.le_of_lt a2,HF.out,X.out⟩
set_option maxRecDepth 100000 in
set_option maxHeartbeats 4000000 in
theorem meets_any {L:Nat} (hL:L≤16384) {ab ao ac bb bo bc:Nat} {fa fb:Nat→Bool} {w:World} (ha:FlS w ab ao L fa) (hb:FlS w bb bo L fb) (a5:L≤ac∧ac≤9223372036854775807) (a4:L≤bc∧bc≤9223372036854775807) :
    Calls Tryz.prog 99 #[.slice (some ⟨ab,ao,none⟩) L ac,.slice (some ⟨bb,bo,none⟩) L bc] w fun r w'=>r=.returned (.bool ((List.range L).any (fun y=>fa y && fb y)))∧w'=w:=by
 have HA:Hid (FlS w ab ao L fa):=ha;have HB:Hid (FlS w bb bo L fb):=hb;clear ha hb;go_enter Tryz.func99, Tryz.ntmps99;go_wp2_with fail;go_loopw [8] (fun i wr=>∃ k:Nat,k≤L∧i=.int .i64 k∧(∀ j,j<k→(fa j && fb j)=false)∧wr=w) (fun i _=>L - (intOf i).toNat)
 case atStart=>exact ⟨0,Nat.zero_le _,rfl,fun j hj=>by omega,rfl⟩
 case round =>
  obtain ⟨k,hk,rfl,E,rfl⟩:=hrel;have G:Hid (∀ j,j<k→(fa j && fb j)=false):=E;clear E;by_cases hlt:k<L
  · have Z:(k:Int)<(L:Int):=by omega
    obtain ⟨x0,I⟩:∃ b,b=fa k:=⟨_,rfl⟩;obtain ⟨y0,H⟩:∃ b,b=fb k:=⟨_,rfl⟩;have HX:Hid (x0=fa k):=I;have HY:Hid (y0=fb k):=H;have c0:=HA.out.2 k hlt;have c1:=HB.out.2 k hlt;rw [← I] at c0;rw [← H] at c1
    have A:Hid ((fa k && fb k)=false→∀ j,j<k+1→(fa j && fb j)=false):=fun hb j hj=>by
     by_cases e':j=k
     · subst e';exact hb
     exact G.out j (by omega)
    clear I H;cases x0
    · cases y0
      · have HN:Hid (∀ j,j<k+1→(fa j && fb j)=false):=A.out (by rw [← HX.out,← HY.out];rfl);go_wp2_with fail;go_roundw
        case rel=>exact ⟨k+1,by omega,by go_num,HN.out,by first | rfl | trivial⟩
        case measure=>simp [intOf];omega
      have HN:Hid (∀ j,j<k+1→(fa j && fb j)=false):=A.out (by rw [← HX.out,← HY.out];rfl);go_wp2_with fail;go_roundw
      case rel=>exact ⟨k+1,by omega,by go_num,HN.out,by first | rfl | trivial⟩
      case measure=>simp [intOf];omega
    cases y0
    · have HN:Hid (∀ j,j<k+1→(fa j && fb j)=false):=A.out (by rw [← HX.out,← HY.out];rfl);go_wp2_with fail;go_roundw
      case rel=>exact ⟨k+1,by omega,by go_num,HN.out,by first | rfl | trivial⟩
      case measure=>simp [intOf];omega
    have HN:Hid (((List.range L).any (fun y=>fa y && fb y))=true):=by
     unfold Hid;rw [List.any_eq_true];refine ⟨k,List.mem_range.2 hlt,?_⟩;rw [← HX.out,← HY.out];decide
    go_wp2_with fail;go_ret;exact ⟨rb HN.out.symm,rfl⟩
  have HN:Hid (((List.range L).any (fun y=>fa y && fb y))=false):=by
   unfold Hid;rw [List.any_eq_false];intro j hj;have:=G.out j (by have:=List.mem_range.1 hj;omega);revert this;cases fa j <;> cases fb j <;> decide
  go_wp2_with fail;go_ret;exact ⟨rb HN.out.symm,rfl⟩
set_option maxRecDepth 100000 in
set_option maxHeartbeats 4000000 in
theorem within_any {L:Nat} (hL:L≤16384) {ab ao ac bb bo bc:Nat} {fa fb:Nat→Bool} {w:World} (ha:FlS w ab ao L fa) (hb:FlS w bb bo L fb) (a5:L≤ac∧ac≤9223372036854775807) (a4:L≤bc∧bc≤9223372036854775807) :
    Calls Tryz.prog 102 #[.slice (some ⟨ab,ao,none⟩) L ac,.slice (some ⟨bb,bo,none⟩) L bc] w fun r w'=>r=.returned (.bool ((List.range L).all (fun y=>!(fa y) || fb y)))∧w'=w:=by
 have HA:Hid (FlS w ab ao L fa):=ha;have HB:Hid (FlS w bb bo L fb):=hb;clear ha hb;go_enter Tryz.func102, Tryz.ntmps102;go_wp2_with fail;go_loopw [8] (fun i wr=>∃ k:Nat,k≤L∧i=.int .i64 k∧(∀ j,j<k→(fa j && !(fb j))=false)∧wr=w) (fun i _=>L - (intOf i).toNat)
 case atStart=>exact ⟨0,Nat.zero_le _,rfl,fun j hj=>by omega,rfl⟩
 case round =>
  obtain ⟨k,hk,rfl,E,rfl⟩:=hrel;have G:Hid (∀ j,j<k→(fa j && !(fb j))=false):=E;clear E;by_cases hlt:k<L
  · have Z:(k:Int)<(L:Int):=by omega
    obtain ⟨x0,I⟩:∃ b,b=fa k:=⟨_,rfl⟩;obtain ⟨y0,H⟩:∃ b,b=fb k:=⟨_,rfl⟩;have HX:Hid (x0=fa k):=I;have HY:Hid (y0=fb k):=H;have c0:=HA.out.2 k hlt;have c1:=HB.out.2 k hlt;rw [← I] at c0;rw [← H] at c1
    have A:Hid ((fa k && !(fb k))=false→∀ j,j<k+1→(fa j && !(fb j))=false):=fun hb j hj=>by
     by_cases e':j=k
     · subst e';exact hb
     exact G.out j (by omega)
    clear I H;cases x0
    · cases y0
      · have HN:Hid (∀ j,j<k+1→(fa j && !(fb j))=false):=A.out (by rw [← HX.out,← HY.out];rfl);go_wp2_with fail;go_roundw
        case rel=>exact ⟨k+1,by omega,by go_num,HN.out,by first | rfl | trivial⟩
        case measure=>simp [intOf];omega
      have HN:Hid (∀ j,j<k+1→(fa j && !(fb j))=false):=A.out (by rw [← HX.out,← HY.out];rfl);go_wp2_with fail;go_roundw
      case rel=>exact ⟨k+1,by omega,by go_num,HN.out,by first | rfl | trivial⟩
      case measure=>simp [intOf];omega
    cases y0
    · have HN:Hid (((List.range L).all (fun y=>!(fa y) || fb y))=false):=by
       unfold Hid;rw [List.all_eq_false];refine ⟨k,List.mem_range.2 hlt,?_⟩;rw [← HX.out,← HY.out];decide
      go_wp2_with fail;go_ret;exact ⟨rb HN.out.symm,rfl⟩
    have HN:Hid (∀ j,j<k+1→(fa j && !(fb j))=false):=A.out (by rw [← HX.out,← HY.out];rfl);go_wp2_with fail;go_roundw
    case rel=>exact ⟨k+1,by omega,by go_num,HN.out,by first | rfl | trivial⟩
    case measure=>simp [intOf];omega
  have HN:Hid (((List.range L).all (fun y=>!(fa y) || fb y))=true):=by
   unfold Hid;rw [List.all_eq_true];intro j hj;have:=G.out j (by have:=List.mem_range.1 hj;omega);revert this;cases fa j <;> cases fb j <;> decide
  go_wp2_with fail;go_ret;exact ⟨rb HN.out.symm,rfl⟩
end

section
open Go.RowKit
def whichV (b:Bool) (u v:Value):Value:=if b=true then u else v
def BoxS (W:World) (p:Nat) (v0 v1 v2 v3 v4 v5 v6 v7 v8 v9:Value):Prop:=W.heap[p]?=some (.cells #[v0,v1,v2,v3,v4,v5,v6,v7,v8,v9] 74 (0,0))
theorem BoxS.new (W:World) (v0 v1 v2 v3 v4 v5 v6 v7 v8 v9:Value):BoxS (W.alloc (.cells #[v0,v1,v2,v3,v4,v5,v6,v7,v8,v9] 74)) W.heap.size v0 v1 v2 v3 v4 v5 v6 v7 v8 v9:=World.alloc_heap_new W _
theorem BoxS.below {W W':World} {p B:Nat} {v0 v1 v2 v3 v4 v5 v6 v7 v8 v9:Value} (h:BoxS W p v0 v1 v2 v3 v4 v5 v6 v7 v8 v9) (hb:Below B W W') (hB:p<B):BoxS W' p v0 v1 v2 v3 v4 v5 v6 v7 v8 v9:=(hb.block p hB).trans h
theorem BoxS.lt {W:World} {p:Nat} {v0 v1 v2 v3 v4 v5 v6 v7 v8 v9:Value} (h:BoxS W p v0 v1 v2 v3 v4 v5 v6 v7 v8 v9):p<W.heap.size:=(Array.getElem?_eq_some_iff.1 h).1
theorem BoxS.cells {W:World} {p:Nat} {v0 v1 v2 v3 v4 v5 v6 v7 v8 v9:Value} (h:BoxS W p v0 v1 v2 v3 v4 v5 v6 v7 v8 v9):W.cell? ⟨p,0,none⟩=some v0∧W.cell? ⟨p,1,none⟩=some v1∧W.cell? ⟨p,2,none⟩=some v2∧W.cell? ⟨p,3,none⟩=some v3∧W.cell? ⟨p,4,none⟩=some v4∧W.cell? ⟨p,5,none⟩=some v5∧W.cell? ⟨p,6,none⟩=some v6∧W.cell? ⟨p,7,none⟩=some v7∧W.cell? ⟨p,8,none⟩=some v8∧W.cell? ⟨p,9,none⟩=some v9:=by
 unfold BoxS at h;refine ⟨?_,?_,?_,?_,?_,?_,?_,?_,?_,?_⟩ <;> simp [World.cell?,h]
theorem BoxS.frz {W:World} {p:Nat} {v0 v1 v2 v3 v4 v5 v6 v7 v8 v9:Value} (h:BoxS W p v0 v1 v2 v3 v4 v5 v6 v7 v8 v9) (o:Nat):W.frozen? ⟨p,o,none⟩=false:=by
 unfold BoxS at h;simp [World.frozen?,h]
theorem BoxS.at {W:World} {p:Nat} {v0 v1 v2 v3 v4 v5 v6 v7 v8 v9:Value} (h:BoxS W p v0 v1 v2 v3 v4 v5 v6 v7 v8 v9) (i:Nat) (v:Value):(W.setCell ⟨p,i,none⟩ v).heap[p]?=some (.cells (#[v0,v1,v2,v3,v4,v5,v6,v7,v8,v9].setIfInBounds i v) 74 (0,0)):=heap_setCell_same W p i _ _ v h
def set10 (W:World) (p:Nat) (u0 u1 u2 u3 u4 u5 u6 u7 u8 u9:Value):World:=(((((((((W.setCell ⟨p,0,none⟩ u0).setCell ⟨p,1,none⟩ u1).setCell ⟨p,2,none⟩ u2).setCell ⟨p,3,none⟩ u3).setCell ⟨p,4,none⟩ u4).setCell ⟨p,5,none⟩ u5).setCell ⟨p,6,none⟩ u6).setCell ⟨p,7,none⟩ u7).setCell ⟨p,8,none⟩ u8).setCell ⟨p,9,none⟩ u9
theorem below_set10 {B:Nat} {w W:World} (h:Below B w W) {p:Nat} (hp:B≤p) (u0 u1 u2 u3 u4 u5 u6 u7 u8 u9:Value):Below B w (set10 W p u0 u1 u2 u3 u4 u5 u6 u7 u8 u9):=by
 unfold set10;exact (((((((((h.setCell (p:=⟨p,0,none⟩) hp _).setCell (p:=⟨p,1,none⟩) hp _).setCell (p:=⟨p,2,none⟩) hp _).setCell (p:=⟨p,3,none⟩) hp _).setCell (p:=⟨p,4,none⟩) hp _).setCell (p:=⟨p,5,none⟩) hp _).setCell (p:=⟨p,6,none⟩) hp _).setCell (p:=⟨p,7,none⟩) hp _).setCell (p:=⟨p,8,none⟩) hp _).setCell (p:=⟨p,9,none⟩) hp _
theorem BoxS.set10 {W:World} {p:Nat} {v0 v1 v2 v3 v4 v5 v6 v7 v8 v9:Value} (h:BoxS W p v0 v1 v2 v3 v4 v5 v6 v7 v8 v9) (u0 u1 u2 u3 u4 u5 u6 u7 u8 u9:Value):BoxS (set10 W p u0 u1 u2 u3 u4 u5 u6 u7 u8 u9) p u0 u1 u2 u3 u4 u5 u6 u7 u8 u9:=by
 unfold Go.Proofs.YtnmljalcndfjmaaGreat.set10;have h0:BoxS _ p u0 v1 v2 v3 v4 v5 v6 v7 v8 v9:=h.at 0 u0;have h1:BoxS _ p u0 u1 v2 v3 v4 v5 v6 v7 v8 v9:=h0.at 1 u1;have h2:BoxS _ p u0 u1 u2 v3 v4 v5 v6 v7 v8 v9:=h1.at 2 u2;have h3:BoxS _ p u0 u1 u2 u3 v4 v5 v6 v7 v8 v9:=h2.at 3 u3;have h4:BoxS _ p u0 u1 u2 u3 u4 v5 v6 v7 v8 v9:=h3.at 4 u4;have h5:BoxS _ p u0 u1 u2 u3 u4 u5 v6 v7 v8 v9:=h4.at 5 u5;have h6:BoxS _ p u0 u1 u2 u3 u4 u5 u6 v7 v8 v9:=h5.at 6 u6;have h7:BoxS _ p u0 u1 u2 u3 u4 u5 u6 u7 v8 v9:=h6.at 7 u7;have h8:BoxS _ p u0 u1 u2 u3 u4 u5 u6 u7 u8 v9:=h7.at 8 u8;exact h8.at 9 u9
set_option maxRecDepth 100000 in
set_option maxHeartbeats 2000000 in
theorem sceneOf_any {na:Option Addr} {nn nc:Nat} {sa:Option Addr} {sn sc:Nat} {ra:Option Addr} {rn rc:Nat} {la:Option Addr} {ln lc:Nat} {ia:Option Addr} {im ic:Nat} {ta:Option Addr} {tn tc:Nat} {x:WD} {w:World} {lo hi:Nat} {nx:Int} (h:RdW lo hi w na nn nc sa sn sc ra rn rc la ln lc ia im ic ta tn tc x) (hn:x.n=nx) (O:hi≤w.heap.size) :
    Calls Tryz.prog 41 #[.agg #[.int .i64 nx,.slice na nn nc,.slice sa sn sc,.slice ra rn rc,.slice la ln lc,.slice ia im ic,.slice ta tn tc]] w fun e w'=>e=.returned (whichV (worldB x) (.tuple #[.agg #[.int .i64 nx,.slice ia im ic,.slice ta tn tc,.int .i64 nx,.slice na nn nc,.slice sa sn sc,.slice ra rn rc,.slice la ln lc,.slice ia im ic,.slice ta tn tc],.bool true]) (.tuple #[.agg #[.int .i64 0,.slice none 0 0,.slice none 0 0,.int .i64 0,.slice none 0 0,.slice none 0 0,.slice none 0 0,.slice none 0 0,.slice none 0 0,.slice none 0 0],.bool false]))∧Below w.heap.size w w':=by
 obtain ⟨W1,A⟩:∃ W1,W1=(w.alloc (.cells #[.int .i64 nx,.slice na nn nc,.slice sa sn sc,.slice ra rn rc,.slice la ln lc,.slice ia im ic,.slice ta tn tc] 27)).alloc (.cells #[.int .i64 0,.slice none 0 0,.slice none 0 0,.int .i64 0,.slice none 0 0,.slice none 0 0,.slice none 0 0,.slice none 0 0,.slice none 0 0,.slice none 0 0] 74):=⟨_,rfl⟩;have a7:Hid (W1=(w.alloc (.cells #[.int .i64 nx,.slice na nn nc,.slice sa sn sc,.slice ra rn rc,.slice la ln lc,.slice ia im ic,.slice ta tn tc] 27)).alloc (.cells #[.int .i64 0,.slice none 0 0,.slice none 0 0,.int .i64 0,.slice none 0 0,.slice none 0 0,.slice none 0 0,.slice none 0 0,.slice none 0 0,.slice none 0 0] 74)):=A;have a9:W1.heap.size=w.heap.size+2:=by rw [A];simp
 have D:Below w.heap.size w W1:=by rw [A];exact ((Below.refl _ _).alloc (Nat.le_refl _) _).alloc (by simp) _
 have H:BoxW 27 W1 w.heap.size nx (.slice na nn nc) (.slice sa sn sc) (.slice ra rn rc) (.slice la ln lc) (.slice ia im ic) (.slice ta tn tc):=by rw [A];exact (BoxW.new _ w _ _ _ _ _ _ _).below ((Below.refl _ _).alloc (Nat.le_refl _) _) (by simp)
 have N:BoxS W1 (w.heap.size+1) (.int .i64 0) (.slice none 0 0) (.slice none 0 0) (.int .i64 0) (.slice none 0 0) (.slice none 0 0) (.slice none 0 0) (.slice none 0 0) (.slice none 0 0) (.slice none 0 0):=by
  rw [A];have:=BoxS.new (w.alloc (.cells #[.int .i64 nx,.slice na nn nc,.slice sa sn sc,.slice ra rn rc,.slice la ln lc,.slice ia im ic,.slice ta tn tc] 27)) (.int .i64 0) (.slice none 0 0) (.slice none 0 0) (.int .i64 0) (.slice none 0 0) (.slice none 0 0) (.slice none 0 0) (.slice none 0 0) (.slice none 0 0) (.slice none 0 0)
  rwa [World.size_alloc] at this
 have U:Hid (∀ W,Below W1.heap.size W1 W→BoxW 27 W w.heap.size nx (.slice na nn nc) (.slice sa sn sc) (.slice ra rn rc) (.slice la ln lc) (.slice ia im ic) (.slice ta tn tc)):=fun W hW=>H.below hW (by omega)
 have R:Hid (∀ W,Below W1.heap.size W1 W→BoxS W (w.heap.size+1) (.int .i64 0) (.slice none 0 0) (.slice none 0 0) (.int .i64 0) (.slice none 0 0) (.slice none 0 0) (.slice none 0 0) (.slice none 0 0) (.slice none 0 0) (.slice none 0 0)):=fun W hW=>N.below hW (by omega)
 have HR:Hid (RdW lo hi W1 na nn nc sa sn sc ra rn rc la ln lc ia im ic ta tn tc x):=h.below D O;have a8:Hid (hi≤W1.heap.size):=Nat.le_trans O D.size;have T:Hid (∀ W,Below W1.heap.size W1 W→Below w.heap.size w W):=fun W hW=>D.trans (hW.mono D.size)
 have HN:Hid (x.n=nx):=hn;obtain ⟨z0,z1,z2,z3,z4,z5,z6⟩:=H.cells;clear h D A H N hn;go_enter Tryz.func41, Tryz.ntmps41;go_upto_region 1 with fail;rw [← a7.out];go_wp2_with fail;refine (implWorldOk_any HR.out HN.out a8.out).mono ?_;rintro e wA ⟨rfl,hA⟩;have G:Hid (Below W1.heap.size W1 wA):=hA;clear hA z0 z1 z2 z3 z4 z5 z6;cases hok:worldB x
 · have q:=R.out _ G.out;obtain ⟨m0,m1,m2,m3,m4,m5,m6,m7,m8,m9⟩:=q.cells;have a6:=q.frz 0;have a5:=q.frz 1;have a4:=q.frz 2;have a3:=q.frz 3;have a2:=q.frz 4;have a1:=q.frz 5;have a0:=q.frz 6;have Z:=q.frz 7;have Y:=q.frz 8;have X:=q.frz 9;have HP:Hid (Below w.heap.size w (set10 wA (w.heap.size+1) (.int .i64 0) (.slice none 0 0) (.slice none 0 0) (.int .i64 0) (.slice none 0 0) (.slice none 0 0) (.slice none 0 0) (.slice none 0 0) (.slice none 0 0) (.slice none 0 0))):=below_set10 (T.out _ G.out) (by omega) _ _ _ _ _ _ _ _ _ _;have E:Hid _:=(q.set10 (.int .i64 0) (.slice none 0 0) (.slice none 0 0) (.int .i64 0) (.slice none 0 0) (.slice none 0 0) (.slice none 0 0) (.slice none 0 0) (.slice none 0 0) (.slice none 0 0)).cells;simp only [set10] at E HP;have y:∀ V:World,(Instr.build 74 #[]).run Tryz.prog V=.ok (.agg #[.int .i64 0,.slice none 0 0,.slice none 0 0,.int .i64 0,.slice none 0 0,.slice none 0 0,.slice none 0 0,.slice none 0 0,.slice none 0 0,.slice none 0 0]) V:=fun V=>run_build V _ _ _ (by kernel_rfl)
   clear q;go_wp2_with fail;clear m0 m1 m2 m3 m4 m5 m6 m7 m8 m9 y;obtain ⟨s0,s1,s2,s3,s4,s5,s6,s7,s8,s9⟩:=E.out;refine bodyPost_ret (v:=.tuple #[.agg #[.int .i64 0,.slice none 0 0,.slice none 0 0,.int .i64 0,.slice none 0 0,.slice none 0 0,.slice none 0 0,.slice none 0 0,.slice none 0 0,.slice none 0 0],.bool false]) (by simp [results, Tryz.results41,go_sem,s0,s1,s2,s3,s4,s5,s6,s7,s8,s9]) rfl ?_;exact ⟨by rw [hok];rfl,HP.out⟩
 have F:Hid (Below W1.heap.size W1 wA.drew):=G.out.drew;obtain ⟨z0,z1,z2,z3,z4,z5,z6⟩:=(U.out _ G.out).cells;have y:∀ V:World,(Instr.build 74 #[(0,.agg #[.int .i64 nx,.slice ia im ic,.slice ta tn tc]),(1,.agg #[.int .i64 nx,.slice na nn nc,.slice sa sn sc,.slice ra rn rc,.slice la ln lc,.slice ia im ic,.slice ta tn tc])]).run Tryz.prog V=.ok (.agg #[.int .i64 nx,.slice ia im ic,.slice ta tn tc,.int .i64 nx,.slice na nn nc,.slice sa sn sc,.slice ra rn rc,.slice la ln lc,.slice ia im ic,.slice ta tn tc]) V:=fun V=>run_build V _ _ _ (by kernel_rfl)
 go_upto_region 3 with fail
 first | go_region_with (go_at_call 72;refine (peopleOf_any wA.drew).mono ?_;rintro e wP ⟨rfl,hP⟩;have J:Hid (Below W1.heap.size W1 wP):=F.out.trans (hP.mono F.out.size);clear hP z0 z1 z2 z3 z4 z5 z6;obtain ⟨z0,z1,z2,z3,z4,z5,z6⟩:=(U.out _ J.out).cells;have q:=R.out _ J.out;obtain ⟨m0,m1,m2,m3,m4,m5,m6,m7,m8,m9⟩:=q.cells;have a6:=q.frz 0;have a5:=q.frz 1;have a4:=q.frz 2;have a3:=q.frz 3;have a2:=q.frz 4;have a1:=q.frz 5;have a0:=q.frz 6;have Z:=q.frz 7;have Y:=q.frz 8;have X:=q.frz 9;have HP:Hid (Below w.heap.size w (set10 wP (w.heap.size+1) (.int .i64 nx) (.slice ia im ic) (.slice ta tn tc) (.int .i64 nx) (.slice na nn nc) (.slice sa sn sc) (.slice ra rn rc) (.slice la ln lc) (.slice ia im ic) (.slice ta tn tc))):=below_set10 (T.out _ J.out) (by omega) _ _ _ _ _ _ _ _ _ _;obtain ⟨Uz,I⟩:∃ Uz,Uz=set10 wP (w.heap.size+1) (.int .i64 nx) (.slice ia im ic) (.slice ta tn tc) (.int .i64 nx) (.slice na nn nc) (.slice sa sn sc) (.slice ra rn rc) (.slice la ln lc) (.slice ia im ic) (.slice ta tn tc):=⟨_,rfl⟩;have HU:Hid (Uz=set10 wP (w.heap.size+1) (.int .i64 nx) (.slice ia im ic) (.slice ta tn tc) (.int .i64 nx) (.slice na nn nc) (.slice sa sn sc) (.slice ra rn rc) (.slice la ln lc) (.slice ia im ic) (.slice ta tn tc)):=I;have E:Hid _:=(q.set10 (.int .i64 nx) (.slice ia im ic) (.slice ta tn tc) (.int .i64 nx) (.slice na nn nc) (.slice sa sn sc) (.slice ra rn rc) (.slice la ln lc) (.slice ia im ic) (.slice ta tn tc)).cells;rw [← I] at E HP;simp only [set10] at HU;clear q I) | fail
 all_goals
  rw [← HU.out];clear m0 m1 m2 m3 m4 m5 m6 m7 m8 m9 y z0 z1 z2 z3 z4 z5 z6;go_wp2_with fail;obtain ⟨s0,s1,s2,s3,s4,s5,s6,s7,s8,s9⟩:=E.out;refine bodyPost_ret (v:=.tuple #[.agg #[.int .i64 nx,.slice ia im ic,.slice ta tn tc,.int .i64 nx,.slice na nn nc,.slice sa sn sc,.slice ra rn rc,.slice la ln lc,.slice ia im ic,.slice ta tn tc],.bool true]) (by simp [results, Tryz.results41,go_sem,s0,s1,s2,s3,s4,s5,s6,s7,s8,s9]) rfl ?_;exact ⟨by rw [hok];rfl,HP.out⟩
end

end Go.Proofs.YtnmljalcndfjmaaGreat
