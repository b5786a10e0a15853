/- Several texts in one: WdFind0, WdRel0, WdSearch0, AxImplM. -/
import Derived.Test.YtnmljalcndfjmaaGreatNG12
import Derived.Test.YtnmljalcndfjmaaGreatNG10
import Derived.Deep.RegionWith
import Derived.Test.YtnmljalcndfjmaaGreatNG2
import Derived.Test.YtnmljalcndfjmaaGreatNG6
import Derived.Test.YtnmljalcndfjmaaGreatNG1
import Derived.Test.YtnmljalcndfjmaaGreatNG11
import Derived.Lib.Bytealg
import Derived.Test.YtnmljalcndfjmaaGreatNG7
import Derived.Deep.RegionHeld
import Derived.Deep.DeepCutAuto
namespace Go.Proofs.YtnmljalcndfjmaaGreat

section
open Go.RowKit
def keyL (zs:List Int):List UInt8:=(strOfNums zs).toList
def hit (l:List (List Int)) (wd:List Int) (i:Nat):Bool:=keyL (l.getD i []) == keyL wd
def idxO (l:List (List Int)) (wd:List Int):Option Nat:=(List.range l.length).find? (hit l wd)
def flagO (l:List (List Int)) (s:List (List Bool)) (wd:List Int) (q:Nat):Bool:=match idxO l wd with | some i=>(s.getD i []).getD q false | none=>false
def inSetB (x:WD) (wd:List Int) (z:Int):Bool:=worldB x && (hasB x.n z && flagO x.names x.sets wd z.toNat)
theorem idx_some {l:List (List Int)} {wd:List Int} {i:Nat} (hi:i<l.length) (he:hit l wd i=true) (hm:∀ j,j<i→hit l wd j=false):idxO l wd=some i:=by
 unfold idxO;rw [List.find?_range_eq_some];exact ⟨he,by simpa using hi,fun j hj=>by simp [hm j hj]⟩
theorem idx_none {l:List (List Int)} {wd:List Int} (h:∀ i,i<l.length→hit l wd i=false):idxO l wd=none:=by
 unfold idxO;rw [List.find?_range_eq_none];exact fun i hi=>by simp [h i hi]
theorem idx_of {l:List (List Int)} {wd:List Int} {i:Nat} (h:idxO l wd=some i):i<l.length:=by
 unfold idxO at h;rw [List.find?_range_eq_some] at h;simpa using h.2.1
theorem flags_long {s:List (List Bool)} {m:Int} (h:flagsB s m=true) {i:Nat} (hi:i<s.length):((s.getD i []).length:Int)=m:=by
 unfold flagsB at h;rw [List.all_eq_true] at h;simpa using h i (by simpa using hi)
end

section
open Go.RowKit
def relO (x:WD) (wd:List Int) (p q L:Nat):Bool:=flagO x.roles x.rels wd (p*L+q)
theorem cell_lt {p q L:Nat} (hp:p<L) (hq:q<L):p*L+q<L*L:=by
 have h1:(p+1)*L≤L*L:=Nat.mul_le_mul_right L hp;have h2:(p+1)*L=p*L+L:=by rw [Nat.add_mul,Nat.one_mul]
 omega
end

section
open Go.RowKit
theorem less_trans:∀ a b c:List UInt8,Op.bytesLess a b=true→Op.bytesLess b c=true→Op.bytesLess a c=true
 | _,_,[],_,h=>by simp [Op.bytesLess] at h
 | [],_,c :: cs,_,_=>by simp [Op.bytesLess]
 | a :: xs,[],_ :: _,h,_=>by simp [Op.bytesLess] at h
 | a :: xs,b :: bs,c :: cs,h1,h2=>by
  have ih:=less_trans xs bs cs;simp only [Op.bytesLess,Bool.or_eq_true,decide_eq_true_eq,Bool.and_eq_true,beq_iff_eq] at h1 h2 ⊢;rcases h1 with h1 | ⟨rfl,h1⟩
  · rcases h2 with h2 | ⟨rfl,h2⟩
    · exact .inl (UInt8.lt_trans h1 h2)
    exact .inl h1
  rcases h2 with h2 | ⟨rfl,h2⟩
  · exact .inl h2
  exact .inr ⟨rfl,ih h1 h2⟩
def Asc (l:List (List Int)):Prop:=∀ j i,i<j→j<l.length→ltB (l.getD i []) (l.getD j [])=true
theorem asc_of {up:Bool} {l:List (List Int)} (h:namesB up l=true):Asc l:=by
 unfold namesB at h;rw [List.all_eq_true] at h
 have hs:∀ j,j+1<l.length→ltB (l.getD j []) (l.getD (j+1) [])=true:=fun j hj=>by
  have:=h (j+1) (by simpa using hj);simp [nameAt] at this;simpa using this.2
 intro j
 induction j with
 | zero=>intro i hi;omega
 | succ j ih =>
  intro i hi hj;by_cases e:i=j
  · subst e;exact hs i hj
  exact less_trans _ _ _ (ih i (by omega) (by omega)) (hs j hj)
theorem hit_not {l:List (List Int)} {wd:List Int} {i:Nat} (h:ltB (l.getD i []) wd=true):hit l wd i=false:=by
 unfold hit keyL;cases e:((strOfNums (l.getD i [])).toList == (strOfNums wd).toList)
 · rfl
 have e2:(strOfNums (l.getD i [])).toList=(strOfNums wd).toList:=by simpa using e
 unfold ltB at h;rw [e2,less_self] at h;exact absurd h (by simp)
theorem cmp_zero (xs ys:List Int):decide (cmpZ xs ys=0)=((strOfNums xs).toList == (strOfNums ys).toList):=by
 unfold cmpZ;rw [← less_cmp];cases h:((strOfNums xs).toList == (strOfNums ys).toList)
 · cases h1:Op.bytesLess (strOfNums xs).toList (strOfNums ys).toList
   · have:=less_tri _ _ h1 h;simp [this]
   simp
 have e2:(strOfNums xs).toList=(strOfNums ys).toList:=by simpa using h
 rw [e2,less_self];simp
theorem search_end {l:List (List Int)} {wd:List Int} {p:Nat} (ha:Asc l) (h1:∀ t,t<p→ltB (l.getD t []) wd=true) (h2:∀ t,p≤t→t<l.length→ltB (l.getD t []) wd=false) (h3:p<l.length→hit l wd p=false):idxO l wd=none:=by
 refine idx_none fun i hi=>?_
 by_cases hp:i<p
 · exact hit_not (h1 i hp)
 by_cases e:i=p
 · subst e;exact h3 hi
 cases he:hit l wd i
 · rfl
 have hk:keyL (l.getD i [])=keyL wd:=by simpa [hit] using he
 have h4:=ha i p (by omega) hi;have h5:=h2 p (Nat.le_refl _) (by omega);unfold ltB at h4 h5;unfold keyL at hk;rw [hk,h5] at h4;exact absurd h4 (by simp)
set_option maxRecDepth 100000 in
set_option maxHeartbeats 8000000 in
theorem search_any (a:Option Addr) (n O:Nat) (xs:List (List Int)) (wa:Option Addr) (wn wc:Nat) (wd:List Int) (w:World) {lo hi lo' R:Nat} (h:RSS lo hi w a n O xs) (h':Rd lo' R w wa wn wc wd) (ha:Asc xs) (hn:n≤1048576) :
    Calls Tryz.prog 149 #[.slice a n O,.slice wa wn wc,.func (.func 121) #[] #[]] w fun e w'=>∃ (i:Nat) (f:Bool),e=.returned (.tuple #[.int .i64 i,.bool f])∧(f=true→idxO xs wd=some i)∧(f=false→idxO xs wd=none)∧w'=w:=by
 have HR:Hid (RSS lo hi w a n O xs):=h;have HW:Hid (Rd lo' R w wa wn wc wd):=h';have HL:Hid (xs.length=n):=h.len;have HA:Hid (Asc xs):=ha;clear h h' ha;go_enter Tryz.func149, Tryz.ntmps149;go_wp2_with fail;go_loopw [9,10] (fun s9 N wr=>∃ p q:Nat,s9=.int .i64 p∧N=.int .i64 q∧p≤q∧q≤n∧(∀ t,t<p→ltB (xs.getD t []) wd=true)∧(∀ t,q≤t→t<xs.length→ltB (xs.getD t []) wd=false)∧wr=w) (fun s9 N _=>(intOf N).toNat - (intOf s9).toNat)
 case atStart=>exact ⟨0,n,rfl,rfl,Nat.zero_le _,Nat.le_refl _,fun t ht=>by omega,fun t h1 h2=>by rw [HL.out] at h2;omega,rfl⟩
 case round =>
  obtain ⟨p,q,rfl,rfl,a2,Y,I,E,X⟩:=hrel;subst X;have D:Hid (∀ t,t<p→ltB (xs.getD t []) wd=true):=I;have A:Hid (∀ t,q≤t→t<xs.length→ltB (xs.getD t []) wd=false):=E;clear I E;by_cases hlt:p<q
  · rcases HR.out.cells with hz | ⟨b,off,e1,_,_,hc⟩
    · omega
    subst e1;obtain ⟨v,c0,ea,en,ec,rfl,hr⟩:=hc ((p+q) / 2) (by omega);have HE:Hid (Rd lo hi wr ea en ec (xs.getD ((p+q) / 2) [])):=hr;obtain ⟨cv,F⟩:∃ cv,cmpZ (xs.getD ((p+q) / 2) []) wd=cv:=⟨_,rfl⟩;have H:Hid (cmpZ (xs.getD ((p+q) / 2) []) wd=cv):=F;have U:Hid (decide (0≤cv)=!(ltB (xs.getD ((p+q) / 2) []) wd)):=by unfold Hid;rw [← F];exact cmp_lt _ _
    clear hc hr F;by_cases h0:cv<0
    · have HT:Hid (ltB (xs.getD ((p+q) / 2) []) wd=true):=by
       have:=U.out;rw [decide_eq_false (by omega)] at this;unfold Hid;cases e:ltB (xs.getD ((p+q) / 2) []) wd
       · rw [e] at this;exact absurd this (by simp)
       rfl
      have J:Hid (∀ t,t<(p+q) / 2+1→ltB (xs.getD t []) wd=true):=fun t ht=>by
       by_cases e:t=(p+q) / 2
       · rw [e];exact HT.out
       exact less_trans _ _ _ (HA.out ((p+q) / 2) t (by omega) (by rw [HL.out];omega)) HT.out
      go_wp2_with (go_at_call 121;refine (bytesCompare_any HE.out HW.out).mono ?_;rintro e w5 ⟨rfl,y⟩;rw [y,H.out];clear y);go_roundw
      case rel=>exact ⟨(p+q) / 2+1,q,by rw [show ((p:Int)+(q:Int)) / 2+1=(((p+q) / 2+1:Nat):Int) by omega],rfl,by omega,Y,J.out,A.out,by first | rfl | trivial⟩
      case measure=>simp [intOf];omega
    have Z:0≤cv:=by omega
    have HT:Hid (ltB (xs.getD ((p+q) / 2) []) wd=false):=by
     have:=U.out;rw [decide_eq_true Z] at this;unfold Hid;cases e:ltB (xs.getD ((p+q) / 2) []) wd
     · rfl
     rw [e] at this;exact absurd this (by simp)
    have G:Hid (∀ t,(p+q) / 2≤t→t<xs.length→ltB (xs.getD t []) wd=false):=fun t h1 h2=>by
     by_cases e:t=(p+q) / 2
     · rw [e];exact HT.out
     cases e2:ltB (xs.getD t []) wd
     · rfl
     have:=less_trans _ _ _ (HA.out t ((p+q) / 2) (by omega) h2) e2;have h3:=HT.out;unfold ltB at h3;rw [h3] at this;exact absurd this (by simp)
    go_wp2_with (go_at_call 121;refine (bytesCompare_any HE.out HW.out).mono ?_;rintro e w5 ⟨rfl,y⟩;rw [y,H.out];clear y);go_roundw
    case rel=>exact ⟨p,(p+q) / 2,rfl,by rw [show ((p:Int)+(q:Int)) / 2=(((p+q) / 2:Nat):Int) by omega],by omega,by omega,D.out,G.out,by first | rfl | trivial⟩
    case measure=>simp [intOf];omega
  have T:Hid (p=q):=by unfold Hid;omega
  have hd:decide ((p:Int)<(q:Int))=false:=by simp;omega
  have a6:decide (p<q)=false:=by simp;omega
  by_cases hpn:p<n
  · rcases HR.out.cells with hz | ⟨b,off,e1,_,_,hc⟩
    · omega
    subst e1;obtain ⟨v,c0,ea,en,ec,rfl,hr⟩:=hc p hpn;have HE:Hid (Rd lo hi wr ea en ec (xs.getD p [])):=hr;obtain ⟨cv,F⟩:∃ cv,cmpZ (xs.getD p []) wd=cv:=⟨_,rfl⟩;have H:Hid (cmpZ (xs.getD p []) wd=cv):=F;have V:Hid (decide (cv=0)=hit xs wd p):=by unfold Hid;rw [← F];exact cmp_zero _ _
    have a3:(p:Int)<(n:Int):=by omega
    clear hc hr F hlt;by_cases h0:cv=0
    · have HG:Hid (idxO xs wd=some p):=idx_some (by rw [HL.out];exact hpn) (by rw [← V.out];exact decide_eq_true h0) (fun j hj=>hit_not (D.out j hj));subst h0;go_wp2_with (go_at_call 121;refine (bytesCompare_any HE.out HW.out).mono ?_;rintro e w5 ⟨rfl,y⟩;rw [y,H.out];clear y);refine bodyPost_ret (v:=.tuple #[.int .i64 p,.bool true]) (by simp [results, Tryz.results149,go_sem]) rfl ?_;exact ⟨p,true,rfl,fun _=>HG.out,fun h=>by simp at h,rfl⟩
    have a5:(cv == 0)=false:=by simpa using h0
    have a0:decide (cv=0)=false:=decide_eq_false h0;have HG:Hid (idxO xs wd=none):=search_end HA.out D.out (by rw [T.out];exact A.out) (fun _=>by rw [← V.out];exact a0);go_wp2_with (go_at_call 121;refine (bytesCompare_any HE.out HW.out).mono ?_;rintro e w5 ⟨rfl,y⟩;rw [y,H.out];clear y);refine bodyPost_ret (v:=.tuple #[.int .i64 p,.bool false]) (by simp [results, Tryz.results149,go_sem]) rfl ?_;exact ⟨p,false,rfl,fun h=>by simp at h,fun _=>HG.out,rfl⟩
  have a4:decide ((p:Int)<(n:Int))=false:=by simp;omega
  have a1:decide (p<n)=false:=by simp;omega
  have HG:Hid (idxO xs wd=none):=search_end HA.out D.out (by rw [T.out];exact A.out) (fun h=>by rw [HL.out] at h;omega);clear hlt hpn;go_wp2_with fail;refine bodyPost_ret (v:=.tuple #[.int .i64 p,.bool false]) (by simp [results, Tryz.results149,go_sem]) rfl ?_;exact ⟨p,false,rfl,fun h=>by simp at h,fun _=>HG.out,rfl⟩
end

section
section
open Go.RowKit
def inS (s:ByteArray) (c:Nat):Bool:=decide (0≤Lib.indexByte s.data.toList c.toUInt8)
def fieldsS (k:Int):ByteArray:=if k=0∨k=1∨k=2 then ⟨#[67,68]⟩ else if k=3 then ⟨#[82,83]⟩ else if k=4 then ⟨#[65,67]⟩ else if k=5 then ⟨#[82,65,66]⟩ else ⟨#[]⟩
set_option maxRecDepth 100000 in
set_option maxHeartbeats 400000 in
theorem indexByte_any (s:ByteArray) (c:Int) (w:World):Calls Tryz.prog 163 #[.string s,.int .u8 c] w fun e w'=>e=.returned (.int .i64 (Lib.indexByte s.data.toList c.toNat.toUInt8))∧w'=w:=by
 have HC:Hid ((Extern.BytealgIndexByte.indexByte #[.string s,.int .u8 c]).run Tryz.prog w=.ok (.int .i64 (Lib.indexByte s.data.toList c.toNat.toUInt8)) w):=Lib.run_indexByteString s c w;go_enter Tryz.func163, Tryz.ntmps163;go_wp2;rw [run_callFunc_extern Tryz.func174 (by kernel_rfl) (by kernel_rfl) (by kernel_rfl) (e:=Extern.BytealgIndexByte.indexByte) (by kernel_rfl),HC.out];simp only [Result.andThen];rw [Oper.upon_value];go_wp2;go_ret;exact ⟨rfl,rfl⟩
set_option maxRecDepth 100000 in
set_option maxHeartbeats 1000000 in
theorem indexL {c:UInt8} {n:Nat} (hc:c=67∧n=67∨c=68∧n=68∨c=82∧n=82∨c=83∧n=83∨c=65∧n=65∨c=66∧n=66) (s:ByteArray) (w:World) (hs:(([c]:List UInt8) == s.toList)=false):Calls Tryz.prog 150 #[.string s,.string ⟨#[c]⟩] w fun e w'=>e=.returned (.int .i64 (Lib.indexByte s.data.toList n.toUInt8))∧w'=w:=by
 rcases hc with ⟨rfl,rfl⟩ | ⟨rfl,rfl⟩ | ⟨rfl,rfl⟩ | ⟨rfl,rfl⟩ | ⟨rfl,rfl⟩ | ⟨rfl,rfl⟩
 all_goals
  go_enter Tryz.func150, Tryz.ntmps150;go_wp2_with (go_at_call 163;refine (indexByte_any s _ _).mono ?_;rintro e w' ⟨rfl,hw⟩;rw [hw];clear hw);go_ret;exact ⟨rfl,rfl⟩
set_option maxRecDepth 100000 in
set_option maxHeartbeats 1000000 in
theorem hasL {c:UInt8} {n:Nat} (hc:c=67∧n=67∨c=68∧n=68∨c=82∧n=82∨c=83∧n=83∨c=65∧n=65∨c=66∧n=66) (s:ByteArray) (p:Nat) (w:World) (hp:w.cell? ⟨p,0,none⟩=some (.string s)) (hs:(([c]:List UInt8) == s.toList)=false):Calls Tryz.prog 63 #[.string ⟨#[c]⟩,.pointer (some ⟨p,0,none⟩)] w fun e w'=>e=.returned (.bool (inS s n))∧w'=w:=by
 obtain ⟨b,hb⟩:∃ b,b=inS s n:=⟨_,rfl⟩;rw [← hb];have I:decide (0≤Lib.indexByte s.data.toList n.toUInt8)=b:=by rw [hb];rfl
 obtain ⟨z,hz⟩:∃ z,z=Lib.indexByte s.data.toList n.toUInt8:=⟨_,rfl⟩;rw [← hz] at I;have HZ:Hid (z=Lib.indexByte s.data.toList n.toUInt8):=hz;have T:decide (z ≥ 0)=b:=I;clear hb hz
 have hI:∀ W:World,Calls Tryz.prog 119 #[.string s,.string ⟨#[c]⟩] W fun e w'=>e=.returned (.int .i64 z)∧w'=W:=by
  intro W;go_enter Tryz.func119, Tryz.ntmps119;go_wp2_with (go_at_call 150;refine (indexL hc s _ hs).mono ?_;rintro e w' ⟨rfl,hw⟩;rw [hw,← HZ.out];clear hw);go_ret;exact ⟨rfl,rfl⟩
 have hC:∀ W:World,Calls Tryz.prog 64 #[.string s,.string ⟨#[c]⟩] W fun e w'=>e=.returned (.bool b)∧w'=W:=by
  intro W;go_enter Tryz.func64, Tryz.ntmps64;go_wp2_with (go_at_call 119;refine (hI _).mono ?_;rintro e w' ⟨rfl,hw⟩;rw [hw];clear hw);go_ret;exact ⟨rb (by first | rfl | exact I | exact T),rfl⟩
 clear I T hI;go_enter Tryz.func63, Tryz.ntmps63;go_wp2_with (go_at_call 64;refine (hC _).mono ?_;rintro e w' ⟨rfl,hw⟩;rw [hw];clear hw);go_ret;exact ⟨rfl,rfl⟩
theorem hasAxC (s:ByteArray) (p:Nat) (w:World) (hp:w.cell? ⟨p,0,none⟩=some (.string s)) (hs:(([67]:List UInt8) == s.toList)=false):Calls Tryz.prog 63 #[.string ⟨#[67]⟩,.pointer (some ⟨p,0,none⟩)] w fun e w'=>e=.returned (.bool (inS s 67))∧w'=w:=hasL (by simp) s p w hp hs
theorem hasAxD (s:ByteArray) (p:Nat) (w:World) (hp:w.cell? ⟨p,0,none⟩=some (.string s)) (hs:(([68]:List UInt8) == s.toList)=false):Calls Tryz.prog 63 #[.string ⟨#[68]⟩,.pointer (some ⟨p,0,none⟩)] w fun e w'=>e=.returned (.bool (inS s 68))∧w'=w:=hasL (by simp) s p w hp hs
theorem hasAxR (s:ByteArray) (p:Nat) (w:World) (hp:w.cell? ⟨p,0,none⟩=some (.string s)) (hs:(([82]:List UInt8) == s.toList)=false):Calls Tryz.prog 63 #[.string ⟨#[82]⟩,.pointer (some ⟨p,0,none⟩)] w fun e w'=>e=.returned (.bool (inS s 82))∧w'=w:=hasL (by simp) s p w hp hs
theorem hasAxS (s:ByteArray) (p:Nat) (w:World) (hp:w.cell? ⟨p,0,none⟩=some (.string s)) (hs:(([83]:List UInt8) == s.toList)=false):Calls Tryz.prog 63 #[.string ⟨#[83]⟩,.pointer (some ⟨p,0,none⟩)] w fun e w'=>e=.returned (.bool (inS s 83))∧w'=w:=hasL (by simp) s p w hp hs
theorem hasAxA (s:ByteArray) (p:Nat) (w:World) (hp:w.cell? ⟨p,0,none⟩=some (.string s)) (hs:(([65]:List UInt8) == s.toList)=false):Calls Tryz.prog 63 #[.string ⟨#[65]⟩,.pointer (some ⟨p,0,none⟩)] w fun e w'=>e=.returned (.bool (inS s 65))∧w'=w:=hasL (by simp) s p w hp hs
theorem hasAxB (s:ByteArray) (p:Nat) (w:World) (hp:w.cell? ⟨p,0,none⟩=some (.string s)) (hs:(([66]:List UInt8) == s.toList)=false):Calls Tryz.prog 63 #[.string ⟨#[66]⟩,.pointer (some ⟨p,0,none⟩)] w fun e w'=>e=.returned (.bool (inS s 66))∧w'=w:=hasL (by simp) s p w hp hs
set_option maxHeartbeats 1000000 in
theorem axiomFields_any (k:Int) (w:World):Calls Tryz.prog 62 #[.int .i64 k] w fun e w'=>e=.returned (.string (fieldsS k))∧w'=w:=by
 by_cases hk:0≤k∧k≤5
 · have G:k=0∨k=1∨k=2∨k=3∨k=4∨k=5:=by omega
   clear hk;rcases G with rfl | rfl | rfl | rfl | rfl | rfl
   all_goals
    go_enter Tryz.func62, Tryz.ntmps62;go_wp2;go_ret;exact ⟨rfl,rfl⟩
 have HE:Hid (fieldsS k=⟨#[]⟩):=by unfold Hid fieldsS;rw [if_neg (by omega),if_neg (by omega),if_neg (by omega),if_neg (by omega)]
 have b0:(k == 0)=false:=by simp;omega
 have b1:(k == 1)=false:=by simp;omega
 have b2:(k == 2)=false:=by simp;omega
 have b3:(k == 3)=false:=by simp;omega
 have b4:(k == 4)=false:=by simp;omega
 have b5:(k == 5)=false:=by simp;omega
 clear hk;go_enter Tryz.func62, Tryz.ntmps62;go_wp2;go_ret;exact ⟨by rw [HE.out];rfl,rfl⟩
set_option maxRecDepth 100000 in
set_option maxHeartbeats 1000000 in
theorem lowerFits_any (a:Option Addr) (n A:Nat) (zs:List Int) (wanted:Bool) (w:World) {lo hi:Nat} (h:Rd lo hi w a n A zs):Calls Tryz.prog 66 #[.slice a n A,.bool wanted] w fun e w'=>e=.returned (.bool (fitL zs wanted))∧w'=w:=by
 have HR:Hid (Rd lo hi w a n A zs):=h;have hl:=h.len;clear h;cases wanted with
 | true =>
  clear hl;go_enter Tryz.func66, Tryz.ntmps66;go_wp2_with (go_at_call 48;refine (implLowerOk_any a n A zs _ HR.out).mono ?_;rintro e w' ⟨rfl,hw⟩;rw [hw];clear hw);go_ret;exact ⟨rfl,rfl⟩
 | false =>
  by_cases h0:n=0
  · have hb:((n:Int) == 0)=true:=by simp;omega
    have HE:Hid (fitL zs false=true):=by unfold Hid fitL;simp [hl,h0]
    clear h0 hl;go_enter Tryz.func66, Tryz.ntmps66;go_wp2_with fail;go_ret;exact ⟨rb HE.out.symm,rfl⟩
  have hb:((n:Int) == 0)=false:=by simp;omega
  have HE:Hid (fitL zs false=false):=by unfold Hid fitL;simp [hl,h0]
  clear h0 hl;go_enter Tryz.func66, Tryz.ntmps66;go_wp2_with fail;go_ret;exact ⟨rb HE.out.symm,rfl⟩
theorem strNil (zs:List Int):((strOfNums zs).toList == (strOfNums []).toList)=decide (zs.length=0):=by
 by_cases h:zs.length=0
 · rw [List.eq_nil_of_length_eq_zero h];simp
 have hl:(strOfNums zs).toList.length=zs.length:=by rw [ByteArray.toList_eq];simp [strOfNums]
 have V:(strOfNums []).toList=[]:=by rw [ByteArray.toList_eq];simp [strOfNums]
 rw [V,decide_eq_false h];cases e:(strOfNums zs).toList with
 | nil=>rw [e] at hl;simp at hl;omega
 | cons x xs=>rfl
set_option maxRecDepth 100000 in
set_option maxHeartbeats 1000000 in
theorem bytesEqual_nil (a:Option Addr) (n A:Nat) (zs:List Int) (w:World) {lo hi:Nat} (h:Rd lo hi w a n A zs):Calls Tryz.prog 151 #[.slice a n A,.slice none 0 0] w fun e w'=>e=.returned (.bool (decide (n=0)))∧w'=w:=by
 have Y:(convert 22 9 (.slice a n A)).run Tryz.prog w=.ok (.string (strOfNums zs)) w:=conv_any h;have X:(convert 22 9 (.slice none 0 0)).run Tryz.prog w=.ok (.string (strOfNums [])) w:=conv_any (lo:=0) (hi:=0) (Rd.none_of (by omega));have hE:=strNil zs;rw [h.len] at hE;obtain ⟨s,hs⟩:∃ s,s=strOfNums zs:=⟨_,rfl⟩;obtain ⟨t,ht⟩:∃ t,t=strOfNums []:=⟨_,rfl⟩;rw [← hs] at Y hE;rw [← ht] at X hE;clear h hs ht;cases hb:(s.toList == t.toList)
 · rw [hb] at hE;go_enter Tryz.func151, Tryz.ntmps151;go_wp2;go_ret;exact ⟨by first | rfl | exact rb hE,rfl⟩
 rw [hb] at hE;go_enter Tryz.func151, Tryz.ntmps151;go_wp2;go_ret;exact ⟨by first | rfl | exact rb hE,rfl⟩
set_option maxRecDepth 100000 in
set_option maxHeartbeats 1000000 in
theorem equalFunc_nil (a:Option Addr) (n A:Nat) (f:Value) (w:World):Calls Tryz.prog 152 #[.slice a n A,.slice none 0 0,f] w fun e w'=>e=.returned (.bool (decide (n=0)))∧w'=w:=by
 by_cases h0:n=0
 · subst h0;go_enter Tryz.func152, Tryz.ntmps152;go_wp2_with fail;refine wp_loop_rounds 1 ?_;rw [rounds_succ];go_wp2_with fail;go_ret;exact ⟨rfl,rfl⟩
 have hb:((n:Int) != 0)=true:=by simp;omega
 have HE:Hid (decide (n=0)=false):=by unfold Hid;simp [h0]
 clear h0;go_enter Tryz.func152, Tryz.ntmps152;go_wp2_with fail;go_ret;exact ⟨rb HE.out.symm,rfl⟩
end
section
open Go.RowKit
set_option maxRecDepth 100000 in
set_option maxHeartbeats 2000000 in
theorem sameCon_zero {d:Nat} {v:Value} {c:CN} {w:World} {lo hi:Nat} (h:RdC lo hi w d v c) (q:hi≤w.heap.size) :
    Calls Tryz.prog 120 #[v,.agg #[.int .i64 0,.slice none 0 0,.slice none 0 0,.slice none 0 0]] w fun e w'=>e=.returned (.bool (zeroB c))∧Below w.heap.size w w':=by
 cases d with
 | zero=>exact h.elim
 | succ d =>
  obtain ⟨na,nn,nc,ra,rn,rc,ka,kn,kc,rfl,hn,hr,O⟩:=h;obtain ⟨k,hk⟩:∃ k,k=c.kind:=⟨_,rfl⟩;rw [← hk];have HZ:Hid (zeroB c=(decide (k=0) && (decide (nn=0) && (decide (rn=0) && decide (kn=0))))):=zeroB_of hk hn.len hr.len O.len;have HB:Hid (Below w.heap.size w ((w.alloc (.cells #[.int .i64 k,.slice na nn nc,.slice ra rn rc,.slice ka kn kc] 30)).alloc (.cells #[.int .i64 0,.slice none 0 0,.slice none 0 0,.slice none 0 0] 30))):=((Below.refl _ _).alloc (Nat.le_refl _) _).alloc (by simp) _;have HN:Hid (Rd lo hi w na nn nc c.name):=hn;have HR:Hid (Rd lo hi w ra rn rc c.role):=hr;clear hk hn hr O;by_cases h0:k=0
  · have b0:(k == 0)=true:=by simpa using h0
    cases hN:decide (nn=0)
    · have HE:Hid (zeroB c=false):=by unfold Hid;rw [HZ.out];simp [hN]
      clear h0;go_enter Tryz.func120, Tryz.ntmps120;go_wp2_with (first | (go_at_call_of 151 na;refine (bytesEqual_nil na nn nc c.name _ (lo:=lo) (hi:=hi) (HN.out.below HB.out q)).mono ?_;rintro e w' ⟨rfl,hw⟩;rw [hw,hN];clear hw) | (go_at_call_of 151 ra;refine (bytesEqual_nil ra rn rc c.role _ (lo:=lo) (hi:=hi) (HR.out.below HB.out q)).mono ?_;rintro e w' ⟨rfl,hw⟩;rw [hw,D];clear hw) | (go_at_call 152;refine (equalFunc_nil ka kn kc _ _).mono ?_;rintro e w' ⟨rfl,hw⟩;rw [hw,E];clear hw));go_ret;exact ⟨rb HE.out.symm,HB.out⟩
    cases D:decide (rn=0)
    · have HE:Hid (zeroB c=false):=by unfold Hid;rw [HZ.out];simp [D]
      clear h0;go_enter Tryz.func120, Tryz.ntmps120;go_wp2_with (first | (go_at_call_of 151 na;refine (bytesEqual_nil na nn nc c.name _ (lo:=lo) (hi:=hi) (HN.out.below HB.out q)).mono ?_;rintro e w' ⟨rfl,hw⟩;rw [hw,hN];clear hw) | (go_at_call_of 151 ra;refine (bytesEqual_nil ra rn rc c.role _ (lo:=lo) (hi:=hi) (HR.out.below HB.out q)).mono ?_;rintro e w' ⟨rfl,hw⟩;rw [hw,D];clear hw) | (go_at_call 152;refine (equalFunc_nil ka kn kc _ _).mono ?_;rintro e w' ⟨rfl,hw⟩;rw [hw,E];clear hw));go_ret;exact ⟨rb HE.out.symm,HB.out⟩
    cases E:decide (kn=0)
    · have HE:Hid (zeroB c=false):=by unfold Hid;rw [HZ.out];simp [E]
      clear h0;go_enter Tryz.func120, Tryz.ntmps120;go_wp2_with (first | (go_at_call_of 151 na;refine (bytesEqual_nil na nn nc c.name _ (lo:=lo) (hi:=hi) (HN.out.below HB.out q)).mono ?_;rintro e w' ⟨rfl,hw⟩;rw [hw,hN];clear hw) | (go_at_call_of 151 ra;refine (bytesEqual_nil ra rn rc c.role _ (lo:=lo) (hi:=hi) (HR.out.below HB.out q)).mono ?_;rintro e w' ⟨rfl,hw⟩;rw [hw,D];clear hw) | (go_at_call 152;refine (equalFunc_nil ka kn kc _ _).mono ?_;rintro e w' ⟨rfl,hw⟩;rw [hw,E];clear hw));go_ret;exact ⟨rb HE.out.symm,HB.out⟩
    have HE:Hid (zeroB c=true):=by unfold Hid;rw [HZ.out];simp [h0,hN,D,E]
    clear h0;go_enter Tryz.func120, Tryz.ntmps120;go_wp2_with (first | (go_at_call_of 151 na;refine (bytesEqual_nil na nn nc c.name _ (lo:=lo) (hi:=hi) (HN.out.below HB.out q)).mono ?_;rintro e w' ⟨rfl,hw⟩;rw [hw,hN];clear hw) | (go_at_call_of 151 ra;refine (bytesEqual_nil ra rn rc c.role _ (lo:=lo) (hi:=hi) (HR.out.below HB.out q)).mono ?_;rintro e w' ⟨rfl,hw⟩;rw [hw,D];clear hw) | (go_at_call 152;refine (equalFunc_nil ka kn kc _ _).mono ?_;rintro e w' ⟨rfl,hw⟩;rw [hw,E];clear hw));go_ret;exact ⟨rb HE.out.symm,HB.out⟩
  have b0:(k == 0)=false:=by simpa using h0
  have HE:Hid (zeroB c=false):=by unfold Hid;rw [HZ.out];simp [h0]
  clear h0;go_enter Tryz.func120, Tryz.ntmps120;go_wp2_with fail;go_ret;exact ⟨rb HE.out.symm,HB.out⟩
set_option maxRecDepth 100000 in
set_option maxHeartbeats 2000000 in
theorem conFits_any {d:Nat} {v:Value} {c:CN} {w:World} {lo hi:Nat} (wanted:Bool) (h:RdC lo hi w d v c) (q:hi≤w.heap.size) (R:c.bulk≤1048576) :
    Calls Tryz.prog 65 #[v,.bool wanted] w fun e w'=>e=.returned (.bool (fitC c wanted))∧Below w.heap.size w w':=by
 have Z:Hid (RdC lo hi w d v c):=h;obtain ⟨k,na,nn,nc,ra,rn,rc,ka,kn,kc,rfl⟩:=h.shape;have J:Below w.heap.size w (w.alloc (.cells #[.int .i64 k,.slice na nn nc,.slice ra rn rc,.slice ka kn kc] 30)):=(Below.refl _ _).alloc (Nat.le_refl _) _;have F:Hid (Below w.heap.size w (w.alloc (.cells #[.int .i64 k,.slice na nn nc,.slice ra rn rc,.slice ka kn kc] 30))):=J;have U:Hid (RdC lo hi (w.alloc (.cells #[.int .i64 k,.slice na nn nc,.slice ra rn rc,.slice ka kn kc] 30)) d (.agg #[.int .i64 k,.slice na nn nc,.slice ra rn rc,.slice ka kn kc]) c):=Z.out.below J q;have a0:Hid (c.bulk≤1048576):=R;clear J h R;cases wanted with
 | true =>
  go_enter Tryz.func65, Tryz.ntmps65;go_wp2_with (go_at_call 32;refine (implConOk_any U.out (Nat.le_trans q F.out.size) a0.out).mono ?_;rintro e w1 ⟨rfl,H⟩;have N:Hid (Below w.heap.size w w1):=F.out.trans (H.mono F.out.size);clear H);go_ret;exact ⟨rfl,N.out⟩
 | false =>
  go_enter Tryz.func65, Tryz.ntmps65;go_wp2_with (go_at_call 120;refine (sameCon_zero U.out (Nat.le_trans q F.out.size)).mono ?_;rintro e w1 ⟨rfl,H⟩;have N:Hid (Below w.heap.size w w1):=F.out.trans (H.mono F.out.size);clear H);go_ret;exact ⟨rfl,N.out⟩
end
section
open Go.RowKit
theorem has_fields {k:Int} (h:0≤k∧k≤5):inS (fieldsS k) 67=wantC k∧inS (fieldsS k) 68=wantD k∧inS (fieldsS k) 82=wantR k∧inS (fieldsS k) 83=wantS k∧inS (fieldsS k) 65=wantA k∧inS (fieldsS k) 66=wantB k:=by
 have G:k=0∨k=1∨k=2∨k=3∨k=4∨k=5:=by omega
 rcases G with rfl | rfl | rfl | rfl | rfl | rfl <;> decide +kernel
theorem fields_long {k:Int} (h:0≤k∧k≤5):2≤(fieldsS k).toList.length:=by
 have G:k=0∨k=1∨k=2∨k=3∨k=4∨k=5:=by omega
 rcases G with rfl | rfl | rfl | rfl | rfl | rfl <;> (rw [ByteArray.toList_eq];decide +kernel)
theorem one_ne {c:UInt8} {l:List UInt8} (h:2≤l.length):(([c]:List UInt8) == l)=false:=by
 match l,h with
 | x :: y :: l,_=>simp
theorem ne_nil {l:List UInt8} (h:2≤l.length):(l != [])=true∧(l == [])=false:=by
 match l,h with
 | x :: y :: l,_=>exact ⟨rfl,rfl⟩
end
end

end Go.Proofs.YtnmljalcndfjmaaGreat
