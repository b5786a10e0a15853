/- Several texts in one: AxImplM, AxTxt. -/
import Derived.Test.YtocpeiaolofodaaGreatNG6
import Derived.Test.YtocpeiaolofodaaGreatNG1
import Derived.Test.YtocpeiaolofodaaGreatNG10
import Derived.Lib.Bytealg
import Derived.Test.YtocpeiaolofodaaGreatNG7
import Derived.Deep.RegionWith
import Derived.Deep.RegionHeld
import Derived.Deep.DeepCutAuto
import Derived.Test.YtocpeiaolofodaaGreatConSayG
namespace Go.Proofs.YtocpeiaolofodaaGreat

section
section
open Go.RowKit
def inS (s:ByteArray) (c:Nat):Bool:=decide (0≤Lib.indexByte s.data.toList c.toUInt8)
def fieldsS (k:Int):ByteArray:=if k=0∨k=1∨k=2 then ⟨#[67,68]⟩ else if k=3 then ⟨#[82,83]⟩ else if k=4 then ⟨#[65,67]⟩ else if k=5 then ⟨#[82,65,66]⟩ else ⟨#[]⟩
set_option maxRecDepth 100000 in
set_option maxHeartbeats 400000 in
theorem indexByte_any (s:ByteArray) (c:Int) (w:World):Calls Tryz.prog 105 #[.string s,.int .u8 c] w fun e w'=>e=.returned (.int .i64 (Lib.indexByte s.data.toList c.toNat.toUInt8))∧w'=w:=by
 have HC:Hid ((Extern.BytealgIndexByte.indexByte #[.string s,.int .u8 c]).run Tryz.prog w=.ok (.int .i64 (Lib.indexByte s.data.toList c.toNat.toUInt8)) w):=Lib.run_indexByteString s c w;go_enter Tryz.func105, Tryz.ntmps105;go_wp2;rw [run_callFunc_extern Tryz.func113 (by kernel_rfl) (by kernel_rfl) (by kernel_rfl) (e:=Extern.BytealgIndexByte.indexByte) (by kernel_rfl),HC.out];simp only [Result.andThen];rw [Oper.upon_value];go_wp2;go_ret;exact ⟨rfl,rfl⟩
set_option maxRecDepth 100000 in
set_option maxHeartbeats 1000000 in
theorem indexL {c:UInt8} {n:Nat} (hc:c=67∧n=67∨c=68∧n=68∨c=82∧n=82∨c=83∧n=83∨c=65∧n=65∨c=66∧n=66) (s:ByteArray) (w:World) (hs:(([c]:List UInt8) == s.toList)=false):Calls Tryz.prog 87 #[.string s,.string ⟨#[c]⟩] w fun e w'=>e=.returned (.int .i64 (Lib.indexByte s.data.toList n.toUInt8))∧w'=w:=by
 rcases hc with ⟨rfl,rfl⟩ | ⟨rfl,rfl⟩ | ⟨rfl,rfl⟩ | ⟨rfl,rfl⟩ | ⟨rfl,rfl⟩ | ⟨rfl,rfl⟩
 all_goals
  go_enter Tryz.func87, Tryz.ntmps87;go_wp2_with (go_at_call 105;refine (indexByte_any s _ _).mono ?_;rintro e w' ⟨rfl,hw⟩;rw [hw];clear hw);go_ret;exact ⟨rfl,rfl⟩
set_option maxRecDepth 100000 in
set_option maxHeartbeats 1000000 in
theorem hasL {c:UInt8} {n:Nat} (hc:c=67∧n=67∨c=68∧n=68∨c=82∧n=82∨c=83∧n=83∨c=65∧n=65∨c=66∧n=66) (s:ByteArray) (p:Nat) (w:World) (hp:w.cell? ⟨p,0,none⟩=some (.string s)) (hs:(([c]:List UInt8) == s.toList)=false):Calls Tryz.prog 32 #[.string ⟨#[c]⟩,.pointer (some ⟨p,0,none⟩)] w fun e w'=>e=.returned (.bool (inS s n))∧w'=w:=by
 obtain ⟨b,hb⟩:∃ b,b=inS s n:=⟨_,rfl⟩;rw [← hb];have I:decide (0≤Lib.indexByte s.data.toList n.toUInt8)=b:=by rw [hb];rfl
 obtain ⟨z,hz⟩:∃ z,z=Lib.indexByte s.data.toList n.toUInt8:=⟨_,rfl⟩;rw [← hz] at I;have HZ:Hid (z=Lib.indexByte s.data.toList n.toUInt8):=hz;have U:decide (z ≥ 0)=b:=I;clear hb hz
 have hI:∀ W:World,Calls Tryz.prog 59 #[.string s,.string ⟨#[c]⟩] W fun e w'=>e=.returned (.int .i64 z)∧w'=W:=by
  intro W;go_enter Tryz.func59, Tryz.ntmps59;go_wp2_with (go_at_call 87;refine (indexL hc s _ hs).mono ?_;rintro e w' ⟨rfl,hw⟩;rw [hw,← HZ.out];clear hw);go_ret;exact ⟨rfl,rfl⟩
 have hC:∀ W:World,Calls Tryz.prog 33 #[.string s,.string ⟨#[c]⟩] W fun e w'=>e=.returned (.bool b)∧w'=W:=by
  intro W;go_enter Tryz.func33, Tryz.ntmps33;go_wp2_with (go_at_call 59;refine (hI _).mono ?_;rintro e w' ⟨rfl,hw⟩;rw [hw];clear hw);go_ret;exact ⟨rb (by first | rfl | exact I | exact U),rfl⟩
 clear I U hI;go_enter Tryz.func32, Tryz.ntmps32;go_wp2_with (go_at_call 33;refine (hC _).mono ?_;rintro e w' ⟨rfl,hw⟩;rw [hw];clear hw);go_ret;exact ⟨rfl,rfl⟩
theorem hasAxC (s:ByteArray) (p:Nat) (w:World) (hp:w.cell? ⟨p,0,none⟩=some (.string s)) (hs:(([67]:List UInt8) == s.toList)=false):Calls Tryz.prog 32 #[.string ⟨#[67]⟩,.pointer (some ⟨p,0,none⟩)] w fun e w'=>e=.returned (.bool (inS s 67))∧w'=w:=hasL (by simp) s p w hp hs
theorem hasAxD (s:ByteArray) (p:Nat) (w:World) (hp:w.cell? ⟨p,0,none⟩=some (.string s)) (hs:(([68]:List UInt8) == s.toList)=false):Calls Tryz.prog 32 #[.string ⟨#[68]⟩,.pointer (some ⟨p,0,none⟩)] w fun e w'=>e=.returned (.bool (inS s 68))∧w'=w:=hasL (by simp) s p w hp hs
theorem hasAxR (s:ByteArray) (p:Nat) (w:World) (hp:w.cell? ⟨p,0,none⟩=some (.string s)) (hs:(([82]:List UInt8) == s.toList)=false):Calls Tryz.prog 32 #[.string ⟨#[82]⟩,.pointer (some ⟨p,0,none⟩)] w fun e w'=>e=.returned (.bool (inS s 82))∧w'=w:=hasL (by simp) s p w hp hs
theorem hasAxS (s:ByteArray) (p:Nat) (w:World) (hp:w.cell? ⟨p,0,none⟩=some (.string s)) (hs:(([83]:List UInt8) == s.toList)=false):Calls Tryz.prog 32 #[.string ⟨#[83]⟩,.pointer (some ⟨p,0,none⟩)] w fun e w'=>e=.returned (.bool (inS s 83))∧w'=w:=hasL (by simp) s p w hp hs
theorem hasAxA (s:ByteArray) (p:Nat) (w:World) (hp:w.cell? ⟨p,0,none⟩=some (.string s)) (hs:(([65]:List UInt8) == s.toList)=false):Calls Tryz.prog 32 #[.string ⟨#[65]⟩,.pointer (some ⟨p,0,none⟩)] w fun e w'=>e=.returned (.bool (inS s 65))∧w'=w:=hasL (by simp) s p w hp hs
theorem hasAxB (s:ByteArray) (p:Nat) (w:World) (hp:w.cell? ⟨p,0,none⟩=some (.string s)) (hs:(([66]:List UInt8) == s.toList)=false):Calls Tryz.prog 32 #[.string ⟨#[66]⟩,.pointer (some ⟨p,0,none⟩)] w fun e w'=>e=.returned (.bool (inS s 66))∧w'=w:=hasL (by simp) s p w hp hs
set_option maxHeartbeats 1000000 in
theorem axiomFields_any (k:Int) (w:World):Calls Tryz.prog 31 #[.int .i64 k] w fun e w'=>e=.returned (.string (fieldsS k))∧w'=w:=by
 by_cases hk:0≤k∧k≤5
 · have G:k=0∨k=1∨k=2∨k=3∨k=4∨k=5:=by omega
   clear hk;rcases G with rfl | rfl | rfl | rfl | rfl | rfl
   all_goals
    go_enter Tryz.func31, Tryz.ntmps31;go_wp2;go_ret;exact ⟨rfl,rfl⟩
 have HE:Hid (fieldsS k=⟨#[]⟩):=by unfold Hid fieldsS;rw [if_neg (by omega),if_neg (by omega),if_neg (by omega),if_neg (by omega)]
 have b0:(k == 0)=false:=by simp;omega
 have b1:(k == 1)=false:=by simp;omega
 have b2:(k == 2)=false:=by simp;omega
 have b3:(k == 3)=false:=by simp;omega
 have b4:(k == 4)=false:=by simp;omega
 have b5:(k == 5)=false:=by simp;omega
 clear hk;go_enter Tryz.func31, Tryz.ntmps31;go_wp2;go_ret;exact ⟨by rw [HE.out];rfl,rfl⟩
set_option maxRecDepth 100000 in
set_option maxHeartbeats 1000000 in
theorem lowerFits_any (a:Option Addr) (n A:Nat) (zs:List Int) (wanted:Bool) (w:World) {lo hi:Nat} (h:Rd lo hi w a n A zs):Calls Tryz.prog 35 #[.slice a n A,.bool wanted] w fun e w'=>e=.returned (.bool (fitL zs wanted))∧w'=w:=by
 have HR:Hid (Rd lo hi w a n A zs):=h;have hl:=h.len;clear h;cases wanted with
 | true =>
  clear hl;go_enter Tryz.func35, Tryz.ntmps35;go_wp2_with (go_at_call 61;refine (implLowerOk_any a n A zs _ HR.out).mono ?_;rintro e w' ⟨rfl,hw⟩;rw [hw];clear hw);go_ret;exact ⟨rfl,rfl⟩
 | false =>
  by_cases h0:n=0
  · have hb:((n:Int) == 0)=true:=by simp;omega
    have HE:Hid (fitL zs false=true):=by unfold Hid fitL;simp [hl,h0]
    clear h0 hl;go_enter Tryz.func35, Tryz.ntmps35;go_wp2_with fail;go_ret;exact ⟨rb HE.out.symm,rfl⟩
  have hb:((n:Int) == 0)=false:=by simp;omega
  have HE:Hid (fitL zs false=false):=by unfold Hid fitL;simp [hl,h0]
  clear h0 hl;go_enter Tryz.func35, Tryz.ntmps35;go_wp2_with fail;go_ret;exact ⟨rb HE.out.symm,rfl⟩
theorem strNil (zs:List Int):((strOfNums zs).toList == (strOfNums []).toList)=decide (zs.length=0):=by
 by_cases h:zs.length=0
 · rw [List.eq_nil_of_length_eq_zero h];simp
 have hl:(strOfNums zs).toList.length=zs.length:=by rw [ByteArray.toList_eq];simp [strOfNums]
 have X:(strOfNums []).toList=[]:=by rw [ByteArray.toList_eq];simp [strOfNums]
 rw [X,decide_eq_false h];cases e:(strOfNums zs).toList with
 | nil=>rw [e] at hl;simp at hl;omega
 | cons x xs=>rfl
set_option maxRecDepth 100000 in
set_option maxHeartbeats 1000000 in
theorem bytesEqual_nil (a:Option Addr) (n A:Nat) (zs:List Int) (w:World) {lo hi:Nat} (h:Rd lo hi w a n A zs):Calls Tryz.prog 88 #[.slice a n A,.slice none 0 0] w fun e w'=>e=.returned (.bool (decide (n=0)))∧w'=w:=by
 have Z:(convert 22 9 (.slice a n A)).run Tryz.prog w=.ok (.string (strOfNums zs)) w:=conv_any h;have Y:(convert 22 9 (.slice none 0 0)).run Tryz.prog w=.ok (.string (strOfNums [])) w:=conv_any (lo:=0) (hi:=0) (Rd.none_of (by omega));have hE:=strNil zs;rw [h.len] at hE;obtain ⟨s,hs⟩:∃ s,s=strOfNums zs:=⟨_,rfl⟩;obtain ⟨t,ht⟩:∃ t,t=strOfNums []:=⟨_,rfl⟩;rw [← hs] at Z hE;rw [← ht] at Y hE;clear h hs ht;cases hb:(s.toList == t.toList)
 · rw [hb] at hE;go_enter Tryz.func88, Tryz.ntmps88;go_wp2;go_ret;exact ⟨by first | rfl | exact rb hE,rfl⟩
 rw [hb] at hE;go_enter Tryz.func88, Tryz.ntmps88;go_wp2;go_ret;exact ⟨by first | rfl | exact rb hE,rfl⟩
set_option maxRecDepth 100000 in
set_option maxHeartbeats 1000000 in
theorem equalFunc_nil (a:Option Addr) (n A:Nat) (f:Value) (w:World):Calls Tryz.prog 89 #[.slice a n A,.slice none 0 0,f] w fun e w'=>e=.returned (.bool (decide (n=0)))∧w'=w:=by
 by_cases h0:n=0
 · subst h0;go_enter Tryz.func89, Tryz.ntmps89;go_wp2_with fail;refine wp_loop_rounds 1 ?_;rw [rounds_succ];go_wp2_with fail;go_ret;exact ⟨rfl,rfl⟩
 have hb:((n:Int) != 0)=true:=by simp;omega
 have HE:Hid (decide (n=0)=false):=by unfold Hid;simp [h0]
 clear h0;go_enter Tryz.func89, Tryz.ntmps89;go_wp2_with fail;go_ret;exact ⟨rb HE.out.symm,rfl⟩
end
section
open Go.RowKit
set_option maxRecDepth 100000 in
set_option maxHeartbeats 2000000 in
theorem sameCon_zero {d:Nat} {v:Value} {c:CN} {w:World} {lo hi:Nat} (h:RdC lo hi w d v c) (j:hi≤w.heap.size) :
    Calls Tryz.prog 60 #[v,.agg #[.int .i64 0,.slice none 0 0,.slice none 0 0,.slice none 0 0]] w fun e w'=>e=.returned (.bool (zeroB c))∧Below w.heap.size w w':=by
 cases d with
 | zero=>exact h.elim
 | succ d =>
  obtain ⟨na,nn,nc,ra,rn,rc,ka,kn,kc,rfl,hn,hr,O⟩:=h;obtain ⟨k,hk⟩:∃ k,k=c.kind:=⟨_,rfl⟩;rw [← hk];have HZ:Hid (zeroB c=(decide (k=0) && (decide (nn=0) && (decide (rn=0) && decide (kn=0))))):=zeroB_of hk hn.len hr.len O.len;have HB:Hid (Below w.heap.size w ((w.alloc (.cells #[.int .i64 k,.slice na nn nc,.slice ra rn rc,.slice ka kn kc] 37)).alloc (.cells #[.int .i64 0,.slice none 0 0,.slice none 0 0,.slice none 0 0] 37))):=((Below.refl _ _).alloc (Nat.le_refl _) _).alloc (by simp) _;have HN:Hid (Rd lo hi w na nn nc c.name):=hn;have HR:Hid (Rd lo hi w ra rn rc c.role):=hr;clear hk hn hr O;by_cases h0:k=0
  · have b0:(k == 0)=true:=by simpa using h0
    cases hN:decide (nn=0)
    · have HE:Hid (zeroB c=false):=by unfold Hid;rw [HZ.out];simp [hN]
      clear h0;go_enter Tryz.func60, Tryz.ntmps60;go_wp2_with (first | (go_at_call_of 88 na;refine (bytesEqual_nil na nn nc c.name _ (lo:=lo) (hi:=hi) (HN.out.below HB.out j)).mono ?_;rintro e w' ⟨rfl,hw⟩;rw [hw,hN];clear hw) | (go_at_call_of 88 ra;refine (bytesEqual_nil ra rn rc c.role _ (lo:=lo) (hi:=hi) (HR.out.below HB.out j)).mono ?_;rintro e w' ⟨rfl,hw⟩;rw [hw,D];clear hw) | (go_at_call 89;refine (equalFunc_nil ka kn kc _ _).mono ?_;rintro e w' ⟨rfl,hw⟩;rw [hw,E];clear hw));go_ret;exact ⟨rb HE.out.symm,HB.out⟩
    cases D:decide (rn=0)
    · have HE:Hid (zeroB c=false):=by unfold Hid;rw [HZ.out];simp [D]
      clear h0;go_enter Tryz.func60, Tryz.ntmps60;go_wp2_with (first | (go_at_call_of 88 na;refine (bytesEqual_nil na nn nc c.name _ (lo:=lo) (hi:=hi) (HN.out.below HB.out j)).mono ?_;rintro e w' ⟨rfl,hw⟩;rw [hw,hN];clear hw) | (go_at_call_of 88 ra;refine (bytesEqual_nil ra rn rc c.role _ (lo:=lo) (hi:=hi) (HR.out.below HB.out j)).mono ?_;rintro e w' ⟨rfl,hw⟩;rw [hw,D];clear hw) | (go_at_call 89;refine (equalFunc_nil ka kn kc _ _).mono ?_;rintro e w' ⟨rfl,hw⟩;rw [hw,E];clear hw));go_ret;exact ⟨rb HE.out.symm,HB.out⟩
    cases E:decide (kn=0)
    · have HE:Hid (zeroB c=false):=by unfold Hid;rw [HZ.out];simp [E]
      clear h0;go_enter Tryz.func60, Tryz.ntmps60;go_wp2_with (first | (go_at_call_of 88 na;refine (bytesEqual_nil na nn nc c.name _ (lo:=lo) (hi:=hi) (HN.out.below HB.out j)).mono ?_;rintro e w' ⟨rfl,hw⟩;rw [hw,hN];clear hw) | (go_at_call_of 88 ra;refine (bytesEqual_nil ra rn rc c.role _ (lo:=lo) (hi:=hi) (HR.out.below HB.out j)).mono ?_;rintro e w' ⟨rfl,hw⟩;rw [hw,D];clear hw) | (go_at_call 89;refine (equalFunc_nil ka kn kc _ _).mono ?_;rintro e w' ⟨rfl,hw⟩;rw [hw,E];clear hw));go_ret;exact ⟨rb HE.out.symm,HB.out⟩
    have HE:Hid (zeroB c=true):=by unfold Hid;rw [HZ.out];simp [h0,hN,D,E]
    clear h0;go_enter Tryz.func60, Tryz.ntmps60;go_wp2_with (first | (go_at_call_of 88 na;refine (bytesEqual_nil na nn nc c.name _ (lo:=lo) (hi:=hi) (HN.out.below HB.out j)).mono ?_;rintro e w' ⟨rfl,hw⟩;rw [hw,hN];clear hw) | (go_at_call_of 88 ra;refine (bytesEqual_nil ra rn rc c.role _ (lo:=lo) (hi:=hi) (HR.out.below HB.out j)).mono ?_;rintro e w' ⟨rfl,hw⟩;rw [hw,D];clear hw) | (go_at_call 89;refine (equalFunc_nil ka kn kc _ _).mono ?_;rintro e w' ⟨rfl,hw⟩;rw [hw,E];clear hw));go_ret;exact ⟨rb HE.out.symm,HB.out⟩
  have b0:(k == 0)=false:=by simpa using h0
  have HE:Hid (zeroB c=false):=by unfold Hid;rw [HZ.out];simp [h0]
  clear h0;go_enter Tryz.func60, Tryz.ntmps60;go_wp2_with fail;go_ret;exact ⟨rb HE.out.symm,HB.out⟩
set_option maxRecDepth 100000 in
set_option maxHeartbeats 2000000 in
theorem conFits_any {d:Nat} {v:Value} {c:CN} {w:World} {lo hi:Nat} (wanted:Bool) (h:RdC lo hi w d v c) (j:hi≤w.heap.size) (T:c.bulk≤1048576) :
    Calls Tryz.prog 34 #[v,.bool wanted] w fun e w'=>e=.returned (.bool (fitC c wanted))∧Below w.heap.size w w':=by
 have a0:Hid (RdC lo hi w d v c):=h;obtain ⟨k,na,nn,nc,ra,rn,rc,ka,kn,kc,rfl⟩:=h.shape;have J:Below w.heap.size w (w.alloc (.cells #[.int .i64 k,.slice na nn nc,.slice ra rn rc,.slice ka kn kc] 37)):=(Below.refl _ _).alloc (Nat.le_refl _) _;have F:Hid (Below w.heap.size w (w.alloc (.cells #[.int .i64 k,.slice na nn nc,.slice ra rn rc,.slice ka kn kc] 37))):=J;have V:Hid (RdC lo hi (w.alloc (.cells #[.int .i64 k,.slice na nn nc,.slice ra rn rc,.slice ka kn kc] 37)) d (.agg #[.int .i64 k,.slice na nn nc,.slice ra rn rc,.slice ka kn kc]) c):=a0.out.below J j;have a1:Hid (c.bulk≤1048576):=T;clear J h T;cases wanted with
 | true =>
  go_enter Tryz.func34, Tryz.ntmps34;go_wp2_with (go_at_call 57;refine (implConOk_any V.out (Nat.le_trans j F.out.size) a1.out).mono ?_;rintro e w1 ⟨rfl,H⟩;have N:Hid (Below w.heap.size w w1):=F.out.trans (H.mono F.out.size);clear H);go_ret;exact ⟨rfl,N.out⟩
 | false =>
  go_enter Tryz.func34, Tryz.ntmps34;go_wp2_with (go_at_call 60;refine (sameCon_zero V.out (Nat.le_trans j F.out.size)).mono ?_;rintro e w1 ⟨rfl,H⟩;have N:Hid (Below w.heap.size w w1):=F.out.trans (H.mono F.out.size);clear H);go_ret;exact ⟨rfl,N.out⟩
end
section
open Go.RowKit
theorem has_fields {k:Int} (h:0≤k∧k≤5):inS (fieldsS k) 67=wantC k∧inS (fieldsS k) 68=wantD k∧inS (fieldsS k) 82=wantR k∧inS (fieldsS k) 83=wantS k∧inS (fieldsS k) 65=wantA k∧inS (fieldsS k) 66=wantB k:=by
 have G:k=0∨k=1∨k=2∨k=3∨k=4∨k=5:=by omega
 rcases G with rfl | rfl | rfl | rfl | rfl | rfl <;> decide +kernel
theorem fields_long {k:Int} (h:0≤k∧k≤5):2≤(fieldsS k).toList.length:=by
 have G:k=0∨k=1∨k=2∨k=3∨k=4∨k=5:=by omega
 rcases G with rfl | rfl | rfl | rfl | rfl | rfl <;> (rw [ByteArray.toList_eq];decide +kernel)
theorem one_ne {c:UInt8} {l:List UInt8} (h:2≤l.length):(([c]:List UInt8) == l)=false:=by
 match l,h with
 | x :: y :: l,_=>simp
theorem ne_nil {l:List UInt8} (h:2≤l.length):(l != [])=true∧(l == [])=false:=by
 match l,h with
 | x :: y :: l,_=>exact ⟨rfl,rfl⟩
end
end

section
open Go.RowKit
def axWord (k:Int):List Int:=if k=0 then [83,117,98] else if k=1 then [69,113] else if k=2 then [68,105,115] else if k=3 then [82,111,108,101] else if k=4 then [73,115] else if k=5 then [82,101,108] else []
def axWordB (k:Int):ByteArray:=if k=0 then ⟨#[83,117,98]⟩ else if k=1 then ⟨#[69,113]⟩ else if k=2 then ⟨#[68,105,115]⟩ else if k=3 then ⟨#[82,111,108,101]⟩ else if k=4 then ⟨#[73,115]⟩ else if k=5 then ⟨#[82,101,108]⟩ else ⟨#[]⟩
theorem axWordB_cells (k:Int):Lib.strCells (axWordB k)=(axWord k).map (Value.int .u8):=by
 unfold axWordB axWord
 repeat' split
 all_goals rfl
theorem axWordB_size (k:Int):(axWordB k).size=(axWord k).length:=by rw [← Lib.strCells_length,axWordB_cells,List.length_map]
theorem axWord_len (k:Int):(axWord k).length≤4:=by
 unfold axWord
 repeat' split
 all_goals simp
theorem axWord_byte (k:Int):∀ x∈axWord k,0≤x∧x≤255:=by
 unfold axWord
 repeat' split
 all_goals (intro x hx;simp at hx;try omega)
theorem ownB_axStr {base:Nat} {W w2:World} {v v':Value} {xs:List Int} {k:Int} (hO:OwnB base W v xs) (hb:base≤W.heap.size)
    (A:w2.ownsRow base 5 1 v' (xs.length+(axWordB k).size) (xs.map (Value.int .u8)++Lib.strCells (axWordB k))) (j:W.grownBy w2 v.ownBlock) (F:v'.ownBlock=v.ownBlock∨v'.ownBlock=some W.heap.size) :
    OwnB base w2 v' (xs++axWord k)∧Keep6 base W v w2 v':=by
 rw [axWordB_size,axWordB_cells] at A;exact ownB_app6 hO hb A j F
def fldT (x:AX) (f:Nat):List Int:=if f=67 then textC x.c else if f=68 then textC x.d else if f=82 then x.r else if f=83 then x.s else if f=65 then x.a else x.b
def fieldsN (k:Int):List Nat:=if k=0∨k=1∨k=2 then [67,68] else if k=3 then [82,83] else if k=4 then [65,67] else if k=5 then [82,65,66] else []
def fldsT (x:AX) (V:Int):List Nat→List Int
 | []=>[]
 | f :: fs=>[V]++fldT x f++fldsT x 32 fs
def axSay (x:AX):List Int:=axWord x.kind++fldsT x 40 (fieldsN x.kind)++[41]
def axText (x:AX):List Int:=if axOk x=true then axSay x else []
theorem axOk_facts {x:AX} (h:axOk x=true):(0≤x.kind∧x.kind≤5)∧fitC x.c (wantC x.kind)=true∧fitC x.d (wantD x.kind)=true∧fitL x.r (wantR x.kind)=true∧fitL x.s (wantS x.kind)=true∧fitL x.a (wantA x.kind)=true∧fitL x.b (wantB x.kind)=true:=by
 unfold axOk at h;simp only [Bool.and_eq_true] at h;exact ⟨of_decide_eq_true h.1,h.2.1,h.2.2.1,h.2.2.2.1,h.2.2.2.2.1,h.2.2.2.2.2.1,h.2.2.2.2.2.2⟩
theorem fitL_want {zs:List Int} {wt:Bool} (h:fitL zs wt=true) (hw:wt=true):1≤zs.length∧zs.length≤6:=by
 subst hw;exact longB_of_low h
theorem fitC_ok {c:CN} {wt:Bool} (h:fitC c wt=true):conOk c=true:=by
 unfold fitC at h
 split at h
 · exact h
 exact ok_of_zero h
theorem textC_320 {c:CN} (h:conOk c=true):(textC c).length≤320:=by
 have h1:=conText_short c;unfold conText at h1;rw [if_pos h] at h1;exact h1
theorem one_rd {w:World} {g:Nat} {c:Int} (h:w.heap[g]?=some (.cells #[.int .u8 c] 5 (0,0))) (h0:0≤c) (h1:c≤255):Rd g (g+1) w (some ⟨g,0,none⟩) 1 1 [c]:=by
 refine ⟨rfl,⟨Nat.le_refl _,by omega⟩,fun i=>?_,.inr ⟨g,0,rfl,Nat.le_refl _,Nat.lt_succ_self _,fun i hi=>?_⟩⟩
 · match i with
   | 0=>exact ⟨h0,h1⟩
   | i+1=>simp
 obtain rfl:i=0:=by omega
 simp [World.cell?,h]
theorem one_alloc (w:World) (c:Int) (h0:0≤c) (h1:c≤255):Rd w.heap.size (w.heap.size+1) (w.alloc (.cells #[.int .u8 c] 5)) (some ⟨w.heap.size,0,none⟩) 1 1 [c]:=one_rd (World.alloc_heap_new w _) h0 h1
theorem list_appB {w:World} {G:Array Oper} {rest:List Oper} {o:Oper} {a:Act} {Q:Exit→Act→World→Prop} (T:o.guard=none) (s x:Operand)
    (ho:o.op=.call { callee:=.builtin .append,args:=#[s,x],argTypes:=#[22, 22] }) (base:Nat) (v:Value) (xs:List Int) (hs:a.eval s=v) (hO:OwnB base w v xs) (lo hi:Nat) (ad:Option Addr) (n D:Nat) (ys:List Int)
    (hx:a.eval x=.slice ad n D) (hR:Rd lo hi w ad n D ys) (h1:1≤n) (U:xs.length+n≤1073741824) (z:base≤w.heap.size)
    (h:∀ v' w',OwnB base w' v' (xs++ys)→Keep6 base w v w' v'→wpList Tryz.prog G Q rest (a.put o.dst v') w'):wpList Tryz.prog G Q (o :: rest) a w:=by
 obtain ⟨i0,O,N,J,I⟩:=info_parts Tryz.info5;rcases hR.cells with e | ⟨b,off,rfl,_,_,_⟩
 · omega
 have hl:=hR.len;subst hl
 exact wpList_append_own_at w T s x 22 ho base 5 i0 (.int .u8 0) 1 1 Tryz.underlying22 O N J I rfl (by decide) v xs.length (xs.map (Value.int .u8)) hs hO ⟨b,off,none⟩ ys.length D (ys.map (Value.int .u8)) hx (by simp) (rd_news hR) (oneCB _) (by unfold maxLen;omega) (by omega) z
  (fun v' w2 A j _ F=>h v' w2 (ownB_app6 hO z A j F).1 (ownB_app6 hO z A j F).2)
theorem atOf {v:Value} {g n D H:Nat} (h:v.ownBlock=some g∨g=H):(Value.slice (some ⟨g,0,none⟩) n D).ownBlock=v.ownBlock∨(Value.slice (some ⟨g,0,none⟩) n D).ownBlock=some H:=by
 rcases h with e | e
 · exact .inl e.symm
 exact .inr (by rw [e];rfl)
theorem step_appB {w:World} {G:Array Oper} {o:Oper} {a:Act} {K:Act→World→Prop} {Q:Exit→Act→World→Prop} {E:Prop} (T:o.guard=none) (s x:Operand)
    (ho:o.op=.call { callee:=.builtin .append,args:=#[s,x],argTypes:=#[22, 22] }) (base:Nat) (v:Value) (xs:List Int) (hs:a.eval s=v) (hO:OwnB base w v xs) (lo hi:Nat) (ad:Option Addr) (n D:Nat) (ys:List Int)
    (hx:a.eval x=.slice ad n D) (hR:Rd lo hi w ad n D ys) (h1:1≤n) (U:xs.length+n≤1073741824) (z:base≤w.heap.size)
    (h:∀ v' w',OwnB base w' v' (xs++ys)→Keep6 base w v w' v'→K (a.put o.dst v') w') :
    if Region.wanted o (yielded G a.tmps)=true then Oper.wp Tryz.prog o a w K Q else E:=by
 obtain ⟨i0,O,N,J,I⟩:=info_parts Tryz.info5;rcases hR.cells with e | ⟨b,off,rfl,_,_,_⟩
 · omega
 have hl:=hR.len;subst hl
 exact step_append_lies w T s x 22 ho base 5 i0 (.int .u8 0) 1 1 Tryz.underlying22 O N J I rfl (by decide) v xs.length (xs.map (Value.int .u8)) hs hO ⟨b,off,none⟩ ys.length D (ys.map (Value.int .u8)) hx (by simp) (rd_news hR) (oneCB _) (by omega) (by unfold maxLen;omega) (by omega) z _ rfl
  (fun g D w2 A j F _=>h _ w2 (ownB_app6 hO z A j (atOf F)).1 (ownB_app6 hO z A j (atOf F)).2)
theorem BoxA.keep5 {t:Nat} (ht:t≠5) {W W':World} {base p:Nat} {k:Int} {c0 c1 c2 c3 d0 d1 d2 d3 r s a b:Value} (h:BoxA t W p k c0 c1 c2 c3 d0 d1 d2 d3 r s a b) (hk:Keep5 base W W'):BoxA t W' p k c0 c1 c2 c3 d0 d1 d2 d3 r s a b:=hk.2 p _ _ _ ht h
theorem BoxA.keep6 {t:Nat} (ht:t≠5) {W W':World} {u u':Value} {base p:Nat} {k:Int} {c0 c1 c2 c3 d0 d1 d2 d3 r s a b:Value} (h:BoxA t W p k c0 c1 c2 c3 d0 d1 d2 d3 r s a b) (hk:Keep6 base W u W' u'):BoxA t W' p k c0 c1 c2 c3 d0 d1 d2 d3 r s a b:=h.keep5 ht hk.k5
set_option maxHeartbeats 400000 in
theorem axiomWord_any (k:Int) (w:World):Calls Tryz.prog 39 #[.int .i64 k] w fun e w'=>e=.returned (.string (axWordB k))∧w'=w:=by
 go_enter Tryz.func39, Tryz.ntmps39;go_wp2
 all_goals
  go_ret;refine ⟨?_,rfl⟩;simp_all [axWordB]
set_option maxHeartbeats 400000 in
theorem l3word_any (k:Nat) (hk:k≤5) (w:World):Calls Tryz.prog 78 #[.int .i64 k] w fun e w'=>e=.returned (.string (axWordB k))∧Below w.heap.size w w':=by
 have hc:k=0∨k=1∨k=2∨k=3∨k=4∨k=5:=by omega
 rcases hc with rfl | rfl | rfl | rfl | rfl | rfl
 all_goals
  go_enter Tryz.func78, Tryz.ntmps78;go_wp2;go_ret;exact ⟨rfl,(Below.refl _ _).alloc (Nat.le_refl _) _⟩
end

end Go.Proofs.YtocpeiaolofodaaGreat
