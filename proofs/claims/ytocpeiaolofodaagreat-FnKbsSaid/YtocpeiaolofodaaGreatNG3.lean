/- Several texts in one: Words, Kept, OwnB, TokMath, SpecTok, TTMath, TTSpec, TTImpl. -/
import Derived.Test.YtocpeiaolofodaaGreatNG1
import Derived.WalkKit
import Derived.WalkSpells
import Derived.WalkLawsBesides
import Derived.Laws.AppendOwn
import Derived.Test.YtocpeiaolofodaaGreatNG2
import Derived.Deep.DeepCutAuto
import Derived.Lib.SlBytesConst
namespace Go.Proofs.YtocpeiaolofodaaGreat

section
open Go.RowKit
def lowB (c:Int):Bool:=decide (97≤c) && decide (c≤122)
def upB (c:Int):Bool:=decide (65≤c) && decide (c≤90)
theorem isLower_any (c:Int) (w:World):Calls Tryz.prog 109 #[.int .u8 c] w fun e w'=>e=.returned (.bool (lowB c))∧w'=w:=by
 by_cases h:97≤c
 · go_enter Tryz.func109, Tryz.ntmps109;go_wp2;go_ret;exact ⟨by simp [lowB,h],rfl⟩
 have hd:decide (97≤c)=false:=by simpa using h
 go_enter Tryz.func109, Tryz.ntmps109;go_wp2;go_ret;exact ⟨by simp [lowB];omega,rfl⟩
theorem l1small_any (c:Int) (w:World):Calls Tryz.prog 67 #[.int .u8 c] w fun e w'=>e=.returned (.bool (lowB c))∧w'=w:=by
 by_cases h:97≤c
 · go_enter Tryz.func67, Tryz.ntmps67;go_wp2;go_ret;exact ⟨by simp [lowB,h],rfl⟩
 have hd:decide (97≤c)=false:=by simpa using h
 go_enter Tryz.func67, Tryz.ntmps67;go_wp2;go_ret;exact ⟨by simp [lowB];omega,rfl⟩
theorem isUpper_any (c:Int) (w:World):Calls Tryz.prog 112 #[.int .u8 c] w fun e w'=>e=.returned (.bool (upB c))∧w'=w:=by
 by_cases h:65≤c
 · go_enter Tryz.func112, Tryz.ntmps112;go_wp2;go_ret;exact ⟨by simp [upB,h],rfl⟩
 have hd:decide (65≤c)=false:=by simpa using h
 go_enter Tryz.func112, Tryz.ntmps112;go_wp2;go_ret;exact ⟨by simp [upB];omega,rfl⟩
theorem l1great_any (c:Int) (w:World):Calls Tryz.prog 110 #[.int .u8 c] w fun e w'=>e=.returned (.bool (upB c))∧w'=w:=by
 by_cases h:65≤c
 · go_enter Tryz.func110, Tryz.ntmps110;go_wp2;go_ret;exact ⟨by simp [upB,h],rfl⟩
 have hd:decide (65≤c)=false:=by simpa using h
 go_enter Tryz.func110, Tryz.ntmps110;go_wp2;go_ret;exact ⟨by simp [upB];omega,rfl⟩
def longB (n:Nat):Bool:=decide (1≤n) && decide (n≤6)
theorem nameLong_any (a:Option Addr) (n D:Nat) (w:World):Calls Tryz.prog 90 #[.slice a n D] w fun e w'=>e=.returned (.bool (longB n))∧w'=w:=by
 by_cases h:(1:Int)≤(n:Int)
 · have h':1≤n:=by omega
   go_enter Tryz.func90, Tryz.ntmps90;go_wp2;go_ret;exact ⟨by simp [longB,h'];omega,rfl⟩
 have hd:decide ((1:Int)≤(n:Int))=false:=by simpa using h
 go_enter Tryz.func90, Tryz.ntmps90;go_wp2;go_ret;exact ⟨by simp [longB];omega,rfl⟩
theorem all_take_succ (zs:List Int) (k:Nat) (h:k<zs.length):(zs.take (k+1)).all lowB=((zs.take k).all lowB && lowB (zs.getD k 0)):=by
 rw [List.take_succ_eq_append_getElem h,List.all_append];simp [List.getD,h]
theorem all_false_of (zs:List Int) (k:Nat) (h:k<zs.length) (hf:lowB (zs.getD k 0)=false):zs.all lowB=false:=by
 rw [List.all_eq_false];exact ⟨zs[k],List.getElem_mem h,by simpa [List.getD,h] using hf⟩
set_option maxHeartbeats 400000 in
theorem allLower_any (a:Option Addr) (n D:Nat) (zs:List Int) (w:World) {lo hi:Nat} (h:Rd lo hi w a n D zs) :
    Calls Tryz.prog 91 #[.slice a n D] w fun e w'=>e=.returned (.bool (zs.all lowB))∧w'=w:=by
 obtain ⟨hl,⟨hn,hm⟩,G,hc⟩:=h;rcases hc with h0 | ⟨b,off,rfl,O,hb,hc⟩
 · subst h0;have hz:zs=[]:=List.eq_nil_of_length_eq_zero hl;go_enter Tryz.func91, Tryz.ntmps91;go_wp2;refine wp_loop_rounds 1 ?_;rw [rounds_succ];go_wp2;go_ret;exact ⟨by simp [hz],rfl⟩
 go_enter Tryz.func91, Tryz.ntmps91;go_wp2;go_loop [7] (fun i=>∃ k:Nat,k≤n∧i=.int .i64 k∧(zs.take k).all lowB=true) (fun i=>n - (intOf i).toNat)
 case atStart=>exact ⟨0,Nat.zero_le _,rfl,by simp⟩
 case round =>
  obtain ⟨k,hk,rfl,E⟩:=hrel;have HA:Hid ((zs.take k).all lowB=true):=E;clear E;by_cases hlt:k<n
  · obtain ⟨c,HC⟩:∃ c,Hid (c=zs.getD k 0):=⟨_,rfl⟩;have U:w.cell? ⟨b,off+k,none⟩=some (.int .u8 c):=by rw [HC.out];exact hc k hlt
    clear hc G;cases A:lowB c
    · have hf:=all_false_of zs k (by omega) (by rw [← HC.out];exact A);have HF:Hid (zs.all lowB=false):=hf;clear hf;go_wp2_with (go_at_call 109;refine (isLower_any _ _).mono ?_;rintro e w' ⟨rfl,rfl⟩;rw [A]);go_ret;exact ⟨rb HF.out.symm,rfl⟩
    have hf:=all_take_succ zs k (by omega);rw [HA.out,← HC.out,A] at hf;have HF:Hid ((zs.take (k+1)).all lowB=true):=hf;clear hf;go_wp2_with (go_at_call 109;refine (isLower_any _ _).mono ?_;rintro e w' ⟨rfl,rfl⟩;rw [A]);go_round
    case rel=>exact ⟨k+1,by omega,by go_num,HF.out⟩
    case measure=>simp [intOf];omega
  have ht:zs.take k=zs:=List.take_of_length_le (by omega);have HF:Hid (zs.all lowB=true):=by rw [← ht];exact HA.out
  clear ht hc G;go_wp2;go_ret;exact ⟨rb HF.out.symm,rfl⟩
def upOk (zs:List Int):Bool:=longB zs.length && (upB (zs.getD 0 0) && (zs.drop 1).all lowB)
def lowOk (zs:List Int):Bool:=longB zs.length && zs.all lowB
set_option maxHeartbeats 400000 in
theorem implUpperOk_any (a:Option Addr) (n D:Nat) (zs:List Int) (w:World) {lo hi:Nat} (h:Rd lo hi w a n D zs) :
    Calls Tryz.prog 101 #[.slice a n D] w fun e w'=>e=.returned (.bool (upOk zs))∧w'=w:=by
 obtain ⟨hl,⟨hn,hm⟩,G,hc⟩:=h;cases z:longB n
 · have HF:Hid (upOk zs=false):=by simp [upOk,Hid,hl,z]
   clear G hc hl;go_enter Tryz.func101, Tryz.ntmps101;go_wp2_with (go_at_call 90;refine (nameLong_any _ _ _ _).mono ?_;rintro e w' ⟨rfl,rfl⟩;rw [z]);go_ret;exact ⟨rb HF.out.symm,rfl⟩
 have h1:1≤n∧n≤6:=by simpa [longB] using z
 rcases hc with h0 | ⟨b,off,rfl,O,hb,hc⟩
 · omega
 obtain ⟨c,HC⟩:∃ c,Hid (c=zs.getD 0 0):=⟨_,rfl⟩;have U:w.cell? ⟨b,off,none⟩=some (.int .u8 c):=by rw [HC.out];exact hc 0 (by omega)
 have hT:Hid (Rd lo hi w (some ⟨b,off+1,none⟩) (n - 1) (D - 1) (zs.drop 1)):=Rd.tail ⟨hl,⟨hn,hm⟩,G,.inr ⟨b,off,rfl,O,hb,hc⟩⟩ h1.1;have HU:Hid (upOk zs=(upB c && (zs.drop 1).all lowB)):=by unfold Hid upOk;rw [hl,z,HC.out];rfl
 have hE:Hid (n≤1→Rd lo hi w (some ⟨b,off,none⟩) (n - 1) 0 (zs.drop 1)):=by
  intro h;have e1:n - 1=0:=by omega
  have e2:zs.drop 1=[]:=by rw [List.drop_eq_nil_iff,hl];omega
  rw [e1,e2];exact Rd.none_of (by omega)
 clear G hc hl;obtain ⟨g1,g6⟩:=h1;cases J:upB c
 · have HF:Hid (upOk zs=false):=by unfold Hid;rw [HU.out,J];rfl
   go_enter Tryz.func101, Tryz.ntmps101;go_wp2_with (first | (go_at_call 90;refine (nameLong_any _ _ _ _).mono ?_;rintro e w' ⟨rfl,rfl⟩;rw [z]) | (go_at_call 112;refine (isUpper_any _ _).mono ?_;rintro e w' ⟨rfl,rfl⟩;rw [J]));go_ret;exact ⟨rb HF.out.symm,rfl⟩
 have HF:Hid (upOk zs=(zs.drop 1).all lowB):=by unfold Hid;rw [HU.out,J];rfl
 go_enter Tryz.func101, Tryz.ntmps101;go_wp2_with (first | (go_at_call 90;refine (nameLong_any _ _ _ _).mono ?_;rintro e w' ⟨rfl,rfl⟩;rw [z]) | (go_at_call 112;refine (isUpper_any _ _).mono ?_;rintro e w' ⟨rfl,rfl⟩;rw [J]))
 all_goals
  refine (allLower_any _ _ _ (zs.drop 1) _ (lo:=lo) (hi:=hi) (by first | exact hT.out | exact hE.out (by omega))).mono ?_;rintro e w'' ⟨rfl,rfl⟩;go_wp2;go_ret;exact ⟨rb (by rw [HF.out,List.drop_one]),rfl⟩
set_option maxHeartbeats 400000 in
theorem specUpperOk_any (a:Option Addr) (n D:Nat) (zs:List Int) (w:World) {lo hi:Nat} (h:Rd lo hi w a n D zs) :
    Calls Tryz.prog 93 #[.slice a n D] w fun e w'=>e=.returned (.bool (upOk zs))∧w'=w:=by
 obtain ⟨hl,⟨hn,hm⟩,G,hc⟩:=h;cases z:longB n
 · have HF:Hid (upOk zs=false):=by simp [upOk,Hid,hl,z]
   have h1:n<1∨6<n:=by simp [longB] at z;omega
   clear G hc hl;rcases h1 with h1 | h1
   · go_enter Tryz.func93, Tryz.ntmps93;go_wp2;go_ret;exact ⟨rb HF.out.symm,rfl⟩
   have hd:decide ((n:Int)<1)=false:=by simp;omega
   go_enter Tryz.func93, Tryz.ntmps93;go_wp2;go_ret;exact ⟨rb HF.out.symm,rfl⟩
 have h1:1≤n∧n≤6:=by simpa [longB] using z
 have hd:decide ((n:Int)<1)=false:=by simp;omega
 have V:decide ((6:Int)<(n:Int))=false:=by simp;omega
 rcases hc with h0 | ⟨b,off,rfl,O,hb,hc⟩
 · omega
 obtain ⟨c,HC⟩:∃ c,Hid (c=zs.getD 0 0):=⟨_,rfl⟩;have U:w.cell? ⟨b,off,none⟩=some (.int .u8 c):=by rw [HC.out];exact hc 0 (by omega)
 have HU:Hid (upOk zs=(upB c && (zs.drop 1).all lowB)):=by unfold Hid upOk;rw [hl,z,HC.out];rfl
 have F:Hid (∀ j,j+1<n→w.cell? ⟨b,off+(j+1),none⟩=some (.int .u8 ((zs.drop 1).getD j 0))):=by
  intro j hj;have:=hc (j+1) hj;simpa [List.getD] using this
 have HL:Hid ((zs.drop 1).length=n - 1):=by simp [Hid,hl]
 clear G hc hl;obtain ⟨g1,g6⟩:=h1;cases J:upB c
 · have HF:Hid (upOk zs=false):=by unfold Hid;rw [HU.out,J];rfl
   go_enter Tryz.func93, Tryz.ntmps93;go_wp2_with (go_at_call 110;refine (l1great_any _ _).mono ?_;rintro e w' ⟨rfl,rfl⟩;rw [J]);go_ret;exact ⟨rb HF.out.symm,rfl⟩
 have HF:Hid (upOk zs=(zs.drop 1).all lowB):=by unfold Hid;rw [HU.out,J];rfl
 obtain ⟨ys,HY⟩:∃ ys,Hid (ys=zs.drop 1):=⟨_,rfl⟩;rw [← HY.out] at HF HL F;go_enter Tryz.func93, Tryz.ntmps93;go_wp2_with (go_at_call 110;refine (l1great_any _ _).mono ?_;rintro e w1 ⟨rfl,hw⟩;subst hw;rw [J]);go_loop [3] (fun i=>∃ k:Nat,k+1≤n∧i=.int .i64 (k+1:Nat)∧(ys.take k).all lowB=true) (fun i=>n - (intOf i).toNat)
 case atStart=>exact ⟨0,by omega,rfl,by simp⟩
 case round =>
  obtain ⟨k,hk,rfl,E⟩:=hrel;have HA:Hid ((ys.take k).all lowB=true):=E;clear E;by_cases hlt:k+1<n
  · obtain ⟨c',N⟩:∃ c,Hid (c=ys.getD k 0):=⟨_,rfl⟩;have T:w1.cell? ⟨b,off+(k+1),none⟩=some (.int .u8 c'):=by rw [N.out];exact F.out k hlt
    cases A:lowB c'
    · have I:Hid (ys.all lowB=false):=all_false_of ys k (by rw [HL.out];omega) (by rw [← N.out];exact A);go_wp2_with (go_at_call 67;refine (l1small_any _ _).mono ?_;rintro e w' ⟨rfl,rfl⟩;rw [A]);go_ret;exact ⟨rb (HF.out.trans I.out).symm,rfl⟩
    have hf:=all_take_succ ys k (by rw [HL.out];omega);rw [HA.out,← N.out,A] at hf;have I:Hid ((ys.take (k+1)).all lowB=true):=hf;clear hf;go_wp2_with (go_at_call 67;refine (l1small_any _ _).mono ?_;rintro e w' ⟨rfl,rfl⟩;rw [A]);go_round
    case rel=>exact ⟨k+1,by omega,by go_num,I.out⟩
    case measure=>simp [intOf];omega
  have ht:ys.take k=ys:=List.take_of_length_le (by rw [HL.out];omega);have I:Hid (ys.all lowB=true):=by rw [← ht];exact HA.out
  clear ht;go_wp2;go_ret;exact ⟨rb (HF.out.trans I.out).symm,rfl⟩
set_option maxHeartbeats 400000 in
theorem implLowerOk_any (a:Option Addr) (n D:Nat) (zs:List Int) (w:World) {lo hi:Nat} (h:Rd lo hi w a n D zs) :
    Calls Tryz.prog 61 #[.slice a n D] w fun e w'=>e=.returned (.bool (lowOk zs))∧w'=w:=by
 have hl:=h.len;cases z:longB n
 · have HF:Hid (lowOk zs=false):=by simp [lowOk,Hid,hl,z]
   clear h hl;go_enter Tryz.func61, Tryz.ntmps61;go_wp2_with (go_at_call 90;refine (nameLong_any _ _ _ _).mono ?_;rintro e w' ⟨rfl,rfl⟩;rw [z]);go_ret;exact ⟨rb HF.out.symm,rfl⟩
 have HF:Hid (lowOk zs=zs.all lowB):=by simp [lowOk,Hid,hl,z]
 have H:Hid (Rd lo hi w a n D zs):=h;clear h hl;go_enter Tryz.func61, Tryz.ntmps61;go_wp2_with (first | (go_at_call 90;refine (nameLong_any _ _ _ _).mono ?_;rintro e w' ⟨rfl,rfl⟩;rw [z]) | (go_at_call 91;refine (allLower_any _ _ _ zs _ H.out).mono ?_;rintro e w' ⟨rfl,rfl⟩));go_ret;exact ⟨rb HF.out.symm,rfl⟩
set_option maxHeartbeats 400000 in
theorem specLowerOk_any (a:Option Addr) (n D:Nat) (ys:List Int) (w:World) {lo hi:Nat} (h:Rd lo hi w a n D ys) :
    Calls Tryz.prog 43 #[.slice a n D] w fun e w'=>e=.returned (.bool (lowOk ys))∧w'=w:=by
 obtain ⟨hl,⟨hn,hm⟩,G,hc⟩:=h;cases z:longB n
 · have HF:Hid (lowOk ys=false):=by simp [lowOk,Hid,hl,z]
   have h1:n<1∨6<n:=by simp [longB] at z;omega
   clear G hc hl;rcases h1 with h1 | h1
   · go_enter Tryz.func43, Tryz.ntmps43;go_wp2;go_ret;exact ⟨rb HF.out.symm,rfl⟩
   have hd:decide ((n:Int)<1)=false:=by simp;omega
   go_enter Tryz.func43, Tryz.ntmps43;go_wp2;go_ret;exact ⟨rb HF.out.symm,rfl⟩
 have h1:1≤n∧n≤6:=by simpa [longB] using z
 have hd:decide ((n:Int)<1)=false:=by simp;omega
 have V:decide ((6:Int)<(n:Int))=false:=by simp;omega
 rcases hc with h0 | ⟨b,off,rfl,O,hb,hc⟩
 · omega
 have HF:Hid (lowOk ys=ys.all lowB):=by simp [lowOk,Hid,hl,z]
 have F:Hid (∀ j,j<n→w.cell? ⟨b,off+j,none⟩=some (.int .u8 (ys.getD j 0))):=hc;have HL:Hid (ys.length=n):=hl;clear G hc hl;obtain ⟨g1,g6⟩:=h1;go_enter Tryz.func43, Tryz.ntmps43;go_wp2;go_loop [3] (fun i=>∃ k:Nat,k≤n∧i=.int .i64 k∧(ys.take k).all lowB=true) (fun i=>n - (intOf i).toNat)
 case atStart=>exact ⟨0,by omega,rfl,by simp⟩
 case round =>
  obtain ⟨k,hk,rfl,E⟩:=hrel;have HA:Hid ((ys.take k).all lowB=true):=E;clear E;by_cases hlt:k<n
  · obtain ⟨c',N⟩:∃ c,Hid (c=ys.getD k 0):=⟨_,rfl⟩;have T:w.cell? ⟨b,off+k,none⟩=some (.int .u8 c'):=by rw [N.out];exact F.out k hlt
    cases A:lowB c'
    · have I:Hid (ys.all lowB=false):=all_false_of ys k (by rw [HL.out];omega) (by rw [← N.out];exact A);go_wp2_with (go_at_call 67;refine (l1small_any _ _).mono ?_;rintro e w' ⟨rfl,rfl⟩;rw [A]);go_ret;exact ⟨rb (HF.out.trans I.out).symm,rfl⟩
    have hf:=all_take_succ ys k (by rw [HL.out];omega);rw [HA.out,← N.out,A] at hf;have I:Hid ((ys.take (k+1)).all lowB=true):=hf;clear hf;go_wp2_with (go_at_call 67;refine (l1small_any _ _).mono ?_;rintro e w' ⟨rfl,rfl⟩;rw [A]);go_round
    case rel=>exact ⟨k+1,by omega,by go_num,I.out⟩
    case measure=>simp [intOf];omega
  have ht:ys.take k=ys:=List.take_of_length_le (by rw [HL.out];omega);have I:Hid (ys.all lowB=true):=by rw [← ht];exact HA.out
  clear ht;go_wp2;go_ret;exact ⟨rb (HF.out.trans I.out).symm,rfl⟩
end

section
open Go.RowKit
def keptWords:List (List UInt8):=[[84,111,112],[66,111,116],[78,111,116],[65,110,100],[79,114],[83,111,109,101],[65,108,108],[83,117,98],[69,113],[68,105,115],[82,111,108,101],[73,115],[82,101,108]]
def keptB (l:List UInt8):Bool:=(l == [84,111,112]) || ((l == [66,111,116]) || ((l == [78,111,116]) || ((l == [65,110,100]) || ((l == [79,114]) || ((l == [83,111,109,101]) || ((l == [65,108,108]) || ((l == [83,117,98]) || ((l == [69,113]) || ((l == [68,105,115]) || ((l == [82,111,108,101]) || ((l == [73,115]) || (l == [82,101,108]))))))))))))
set_option maxRecDepth 100000 in
set_option maxHeartbeats 1000000 in
theorem implKept_any (a:Option Addr) (n D:Nat) (zs:List Int) (w:World) {lo hi:Nat} (h:Rd lo hi w a n D zs) :
    Calls Tryz.prog 82 #[.slice a n D] w fun e w'=>e=.returned (.bool (keptB (strOfNums zs).toList))∧w'=w:=by
 have F:=conv_any h;obtain ⟨s,hs⟩:∃ s,s=strOfNums zs:=⟨_,rfl⟩;rw [← hs] at F ⊢;clear hs h;go_enter Tryz.func82, Tryz.ntmps82;go_wp2
 all_goals
  go_ret;refine ⟨rb ?_,rfl⟩;clear F
  first | (simp only [keptB, *,Bool.true_or,Bool.false_or];done) | (exfalso;simp_all;done)
theorem keptB_eq (l:List UInt8):keptB l=keptWords.any (fun x=>x == l):=by
 simp only [keptB,keptWords,List.any_cons,List.any_nil,Bool.or_false,Bool.beq_comm (a:=l)]
def wordVal (j:Nat):Value:=.string ⟨(keptWords.getD j []).toArray⟩
theorem toList_mk (l:List UInt8):(ByteArray.mk l.toArray).toList=l:=by
 rw [ByteArray.toList_eq]
theorem any_take_succ (k:Nat) (hk:k<13) (l:List UInt8):(keptWords.take (k+1)).any (fun x=>x == l)=((keptWords.take k).any (fun x=>x == l) || (keptWords.getD k [] == l)):=by
 have:k<keptWords.length:=by simp [keptWords];omega
 rw [List.take_succ_eq_append_getElem this,List.any_append];simp [List.getD,this]
theorem any_true_of (k:Nat) (hk:k<13) (l:List UInt8) (h:(keptWords.getD k [] == l)=true):keptB l=true:=by
 have G:k<keptWords.length:=by simp [keptWords];omega
 rw [keptB_eq,List.any_eq_true];exact ⟨keptWords[k],List.getElem_mem G,by simpa [List.getD,G] using h⟩
set_option maxRecDepth 100000 in
set_option maxHeartbeats 1000000 in
theorem specKept_any (a:Option Addr) (n D:Nat) (zs:List Int) (w:World) {lo hi:Nat} (h:Rd lo hi w a n D zs) (J:hi≤w.heap.size) :
    Calls Tryz.prog 94 #[.slice a n D] w fun e w'=>e=.returned (.bool (keptB (strOfNums zs).toList))∧Below w.heap.size w w':=by
 have H:Hid (Rd lo hi w a n D zs):=h;clear h;obtain ⟨s,HS⟩:∃ s,Hid (s=strOfNums zs):=⟨_,rfl⟩;rw [← HS.out];go_enter Tryz.func94, Tryz.ntmps94;go_wp2;go_loopw [4] (fun i wr=>∃ k:Nat,k≤13∧i=.int .i64 k∧wr.rowIs w.heap.size 9 13 wordVal∧Below w.heap.size w wr∧(keptWords.take k).any (fun x=>x == s.toList)=false) (fun i _=>13 - (intOf i).toNat)
 case atStart =>
  refine ⟨0,Nat.zero_le _,rfl,?_,(Below.refl _ _).alloc (Nat.le_refl _) _,by simp⟩;refine World.rowIs_alloc w _ 9 wordVal (fun i hi=>?_);simp at hi
  match i,hi with
  | 0,_ | 1,_ | 2,_ | 3,_ | 4,_ | 5,_ | 6,_ | 7,_ | 8,_ | 9,_ | 10,_ | 11,_ | 12,_=>rfl
 case round =>
  obtain ⟨k,hk,rfl,A,z,E⟩:=hrel;have HN:Hid ((keptWords.take k).any (fun x=>x == s.toList)=false):=E;clear E;by_cases hlt:k<13
  · have N:(k:Int)<13:=by omega
    obtain ⟨t,HT⟩:∃ t,Hid (t=ByteArray.mk (keptWords.getD k []).toArray):=⟨_,rfl⟩;have I:wr.cell? ⟨w.heap.size,k,none⟩=some (.string t):=by rw [HT.out];exact A.cell hlt
    have F:∀ m,(convert 22 9 (.slice a n D)).run Tryz.prog (wr.drewN m)=.ok (.string s) (wr.drewN m):=by
     intro m;rw [HS.out];exact conv_any (H.out.below (below_drewN z m) J)
    have HR:Hid (wr.rowIs w.heap.size 9 13 wordVal):=A;have HB:Hid (Below w.heap.size w wr):=z;clear A z;cases hb:(t.toList == s.toList)
    · have HF:Hid ((keptWords.take (k+1)).any (fun x=>x == s.toList)=false):=by
       unfold Hid;rw [any_take_succ k hlt,HN.out,Bool.false_or];rw [HT.out,toList_mk] at hb;exact hb
      go_wp2;go_quiet (fail);go_wp2;go_roundw
      case rel=>exact ⟨k+1,by omega,by go_num,World.rowIs.of_block HR.out rfl,below_drewN HB.out _,HF.out⟩
      case measure=>simp [intOf];omega
    have HF:Hid (keptB s.toList=true):=any_true_of k hlt _ (by rw [HT.out,toList_mk] at hb;exact hb);go_wp2;go_quiet (fail);go_wp2;go_ret;exact ⟨rb HF.out.symm,below_drewN HB.out _⟩
  have HF:Hid (keptB s.toList=false):=by
   have e:keptWords.take k=keptWords:=List.take_of_length_le (by simp [keptWords];omega);unfold Hid;rw [keptB_eq,← e];exact HN.out
  have HB:Hid (Below w.heap.size w wr):=z;clear A z;go_wp2;go_ret;exact ⟨rb HF.out.symm,HB.out⟩
end

section
open Go.RowKit
theorem longB_of_up {zs:List Int} (h:upOk zs=true):1≤zs.length∧zs.length≤6:=by
 unfold upOk longB at h;simp only [Bool.and_eq_true,decide_eq_true_eq] at h;exact h.1
theorem longB_of_low {zs:List Int} (h:lowOk zs=true):1≤zs.length∧zs.length≤6:=by
 unfold lowOk longB at h;simp only [Bool.and_eq_true,decide_eq_true_eq] at h;exact h.1
def gapT (k:Nat):List Int:=if 0<k then [32] else []
theorem gapT_pos {k:Nat} (h:0<k):gapT k=[32]:=if_pos h
theorem gapT_zero:gapT 0=[]:=rfl
def OwnB (base:Nat) (w:World) (v:Value) (zs:List Int):Prop:=w.ownsRow base 5 1 v zs.length (zs.map (Value.int .u8))
theorem OwnB.nil (base:Nat) (w:World):OwnB base w (.slice none 0 0) []:=World.ownsRow_nil _ _ _ _
theorem OwnB.below {base B:Nat} {w w':World} {v:Value} {zs:List Int} (h:OwnB base w v zs) (hb:Below B w w') (hB:w.heap.size≤B):OwnB base w' v zs:=by
 obtain ⟨h1,h2⟩:=h;refine ⟨h1,?_⟩;rcases h2 with h2 | ⟨g,D,cur,hv,hg,hh,r⟩
 · exact .inl h2
 exact .inr ⟨g,D,cur,hv,hg,by rw [hb.block g (Nat.lt_of_lt_of_le (Array.getElem?_eq_some_iff.1 hh).1 hB)];exact hh,r⟩
theorem OwnB.form {base:Nat} {w:World} {v:Value} {zs:List Int} (h:OwnB base w v zs) (U:∀ i,0≤zs.getD i 0∧zs.getD i 0≤255) :
    ∃ a c b,v=.slice a zs.length c∧Rd base w.heap.size w a zs.length c zs∧(zs.length=0∨a=some ⟨b,0,none⟩)∧LeafOk w (leafB b 0 zs.length)∧(zs.length=0∨(base≤b∧b<w.heap.size)):=by
 by_cases hz:zs.length=0
 · rcases h.2 with ⟨hv,_⟩ | ⟨g,D,cur,hv,_,_,_,F,_⟩
   · refine ⟨none,0,0,by rw [hv,hz],?_,.inl hz,?_,.inl hz⟩
     · rw [List.eq_nil_of_length_eq_zero hz];exact Rd.none_of (by omega)
     rw [hz];intro x hx;simp [leafB] at hx
   unfold maxLen at F;refine ⟨_,D,0,hv,?_,.inl hz,?_,.inl hz⟩
   · rw [List.eq_nil_of_length_eq_zero hz];exact Rd.none_of F
   rw [hz];intro x hx;simp [leafB] at hx
 obtain ⟨h1,h2⟩:=h;rcases h2 with ⟨_,h0⟩ | ⟨g,D,cur,hv,hg,hh,T,F,N,J⟩
 · exact absurd h0 hz
 simp only [Nat.mul_one] at N J;unfold maxLen at F
 have z:Row w g D zs:=by
  refine ⟨cur,hh,N,T,fun i hi=>?_⟩;have e:(cur.toList.take zs.length)[i]?=(zs.map (Value.int .u8))[i]?:=by rw [J]
  rw [List.getElem?_take,if_pos hi] at e;simp only [Array.getElem?_toList] at e;rw [e];simp [List.getD,hi]
 refine ⟨_,D,g,hv,z.rd rfl U F hg z.lt,.inr rfl,?_,.inr ⟨hg,z.lt⟩⟩;intro x hx;simp only [leafB,List.mem_map,List.mem_range] at hx;obtain ⟨j,hj,rfl⟩:=hx;simp only [Nat.zero_add];exact ⟨⟨_,z.cell hj⟩,z.frozen _⟩
theorem leafB_nodup (b off n:Nat):((leafB b off n).map (·.1)).Nodup:=by
 rw [List.nodup_iff_pairwise_ne,List.pairwise_iff_getElem];intro i j hi hj V;simp [leafB] <;> omega
theorem new1 (w:World) (g:Nat) (c:Int) (hg:g=w.heap.size):∀ j u,([c].map (Value.int .u8))[j]?=some u→(w.alloc (.cells #[.int .u8 c] 5)).cell? ((⟨g,0,none⟩:Addr).add j)=some u:=by
 intro j u hu;subst hg;rw [Addr.add_lit]
 match j,hu with
 | 0,hu=>simp at hu;subst hu;simp
theorem oneCB (zs:List Int):∀ u∈zs.map (Value.int .u8),u.oneCell'=true:=by
 intro u hu;simp only [List.mem_map] at hu;obtain ⟨x,_,rfl⟩:=hu;rfl
theorem rd_news {lo hi:Nat} {w:World} {b off n D:Nat} {zs:List Int} (h:Rd lo hi w (some ⟨b,off,none⟩) n D zs):∀ j u,(zs.map (Value.int .u8))[j]?=some u→w.cell? ((⟨b,off,none⟩:Addr).add j)=some u:=by
 intro j u hu;have hj:j<zs.length:=by simpa using (List.getElem?_eq_some_iff.1 hu).1
 rcases h.cells with h0 | ⟨b',off',e,_,_,hc⟩
 · have:=h.len;omega
 simp only [Option.some.injEq,Addr.mk.injEq,and_true] at e;obtain ⟨rfl,rfl⟩:=e;rw [Addr.add_lit,hc j (by have:=h.len;omega),← hu];simp [List.getD,hj]
def Keep5 (base:Nat) (w w':World):Prop:=Below base w w'∧∀ (b:Nat) (c:Array Value) (t:TypeId) (f:Nat × Nat),t≠5→w.heap[b]?=some (.cells c t f)→w'.heap[b]?=some (.cells c t f)
theorem Keep5.refl (base:Nat) (w:World):Keep5 base w w:=⟨Below.refl _ _,fun _ _ _ _ _ h=>h⟩
theorem Keep5.trans {base:Nat} {a b c:World} (h:Keep5 base a b) (k:Keep5 base b c):Keep5 base a c:=⟨h.1.trans k.1,fun x c t f h1 h2=>k.2 x c t f h1 (h.2 x c t f h1 h2)⟩
theorem Keep5.of_below {base:Nat} {w w':World} (h:Below w.heap.size w w') (hb:base≤w.heap.size):Keep5 base w w':=⟨h.mono hb,fun b _ _ _ _ h2=>(h.block b (Array.getElem?_eq_some_iff.1 h2).1).trans h2⟩
theorem Keep5.drew {base:Nat} {w w':World} (h:Keep5 base w w'):Keep5 base w w'.drew:=⟨h.1.drew,h.2⟩
theorem ownB_app {base:Nat} {W w2:World} {v v':Value} {xs ys:List Int} (hO:OwnB base W v xs) (hb:base≤W.heap.size)
    (H:w2.ownsRow base 5 1 v' (xs.length+ys.length) (xs.map (Value.int .u8)++ys.map (Value.int .u8))) (E:W.grownBy w2 v.ownBlock) :
    OwnB base w2 v' (xs++ys)∧Keep5 base W w2:=by
 refine ⟨by unfold OwnB;simpa using H,(Below.refl base W).grown E hb (fun x hx=>?_),fun b c t f ht hh=>?_⟩
 · rcases hO.2 with ⟨rfl,_⟩ | ⟨g1,I,cur,rfl,O,_⟩
   · simp [Value.ownBlock] at hx
   simp [Value.ownBlock] at hx;omega
 refine (E.block b (Array.getElem?_eq_some_iff.1 hh).1 (fun e=>?_)).trans hh;rcases hO.2 with ⟨rfl,_⟩ | ⟨g1,I,cur,rfl,O,G,_⟩
 · simp [Value.ownBlock] at e
 simp [Value.ownBlock] at e;subst e;rw [hh] at G;simp at G;exact ht G.2.1
end

section
def runLow (zs:List Int) (i:Nat):Nat:=((zs.drop i).takeWhile lowB).length
theorem runLow_le (zs:List Int) (i:Nat):runLow zs i≤zs.length - i:=by
 unfold runLow;have:=(List.takeWhile_sublist lowB (l:=zs.drop i)).length_le;simpa using this
theorem runLow_stop (zs:List Int) (i:Nat) (h:zs.length≤i∨lowB (zs.getD i 0)=false):runLow zs i=0:=by
 unfold runLow;by_cases hi:i<zs.length
 · have h':lowB (zs.getD i 0)=false:=by rcases h with h | h;omega;exact h
   rw [List.drop_eq_getElem_cons hi,List.takeWhile_cons];simp [List.getD,hi] at h';simp [h']
 rw [List.drop_eq_nil_of_le (by omega)];rfl
theorem runLow_go (zs:List Int) (i:Nat) (hi:i<zs.length) (h:lowB (zs.getD i 0)=true):runLow zs i=runLow zs (i+1)+1:=by
 unfold runLow;rw [List.drop_eq_getElem_cons hi,List.takeWhile_cons];simp [List.getD,hi] at h;simp [h]
def pend (zs:List Int) (i:Nat):Nat:=if zs.getD i 0=40∨zs.getD i 0=41 then i+1 else i+1+runLow zs (i+1)
def piece (zs:List Int) (i:Nat):List Int:=(zs.drop i).take (pend zs i - i)
theorem pend_gt (zs:List Int) (i:Nat):i<pend zs i:=by unfold pend;split <;> omega
theorem pend_le (zs:List Int) (i:Nat) (hi:i<zs.length):pend zs i≤zs.length:=by
 unfold pend;have:=runLow_le zs (i+1)
 split <;> omega
theorem piece_length (zs:List Int) (i:Nat) (hi:i<zs.length):(piece zs i).length=pend zs i - i:=by
 have:=pend_le zs i hi;simp [piece];omega
theorem piece_getD (zs:List Int) (i j:Nat) (hi:i<zs.length) (hj:j<pend zs i - i):(piece zs i).getD j 0=zs.getD (i+j) 0:=by
 have:=pend_le zs i hi;simp [piece,List.getD,hj]
def kindOf (p:List Int):Int:=if upOk p then 1 else if lowOk p then 2 else if p=[40] then 3 else if p=[41] then 4 else 0
def blankB (c:Int):Bool:=c == 32 || c == 10
def tokAt (zs:List Int) (i:Nat):Tok:=⟨kindOf (piece zs i),i,if kindOf (piece zs i)=1∨kindOf (piece zs i)=2 then piece zs i else []⟩
def toksFrom (zs:List Int):Nat→Nat→List Tok→List Tok × Int
 | 0,_,acc=>(acc,-1)
 | f+1,i,acc=>if i<zs.length then (if blankB (zs.getD i 0) then toksFrom zs f (i+1) acc else if kindOf (piece zs i)=0 then ([],(i:Int)) else toksFrom zs f (pend zs i) (acc++[tokAt zs i])) else (acc,-1)
def toks (zs:List Int):List Tok × Int:=if 1500<zs.length then ([],0) else toksFrom zs (zs.length+1) 0 []
theorem kind_open:kindOf [40]=3:=by decide
theorem kind_close:kindOf [41]=4:=by decide
end

section
open Go.RowKit
theorem ownsRow_empty (w:World) (g base:Nat) (hg:g=w.heap.size) (hb:base≤g):(w.alloc (.cells #[] 5)).ownsRow base 5 1 (.slice (some ⟨g,0,none⟩) 0 0) 0 []:=by
 subst hg;exact World.ownsRow_lit w #[] 0 hb (by decide) rfl
theorem oneC (zs:List Int):∀ u∈zs.map (Value.int .u8),u.oneCell'=true:=by
 intro u hu;simp only [List.mem_map] at hu;obtain ⟨x,_,rfl⟩:=hu;rfl
theorem row_of_owns {w:World} {base n:Nat} {v:Value} {zs:List Int} (h:w.ownsRow base 5 1 v n (zs.map (Value.int .u8))) (hn:0<n) :
    ∃ g c,v=.slice (some ⟨g,0,none⟩) n c∧base≤g∧Row w g c zs∧c≤9223372036854775807:=by
 obtain ⟨h1,h2⟩:=h;rcases h2 with ⟨_,h0⟩ | ⟨g,D,cur,hv,hg,hh,E,A,z,j⟩
 · omega
 simp only [List.length_map,Nat.mul_one] at h1 z j;refine ⟨g,D,hv,hg,⟨cur,hh,z,by omega,fun i hi=>?_⟩,A⟩;have e:(cur.toList.take n)[i]?=(zs.map (Value.int .u8))[i]?:=by rw [j]
 rw [List.getElem?_take,if_pos (by omega)] at e;simp only [Array.getElem?_toList] at e;rw [e];simp [List.getD,hi]
end

section
open Go.RowKit
end

section
open Go.RowKit
end

section
open Go.RowKit
end

end Go.Proofs.YtocpeiaolofodaaGreat
