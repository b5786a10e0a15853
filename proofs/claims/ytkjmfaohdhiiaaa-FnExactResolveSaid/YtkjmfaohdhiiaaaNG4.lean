/- Several texts in one: ClImpl2, ClImpl1. -/
import Derived.Test.YtkjmfaohdhiiaaaNG2
import Derived.Deep.DeepCutAuto
import Derived.Deep.RegionWith
namespace Go.Proofs.Ytkjmfaohdhiiaaa

section
open Go.RowKit
def wordK (k:Int):ByteArray:=if k=0 then ⟨#[111,110,101]⟩ else if k=1 then ⟨#[110,101,120,116]⟩ else if k=2 then ⟨#[101,100,103,101]⟩ else if k=3 then ⟨#[97,108,108]⟩ else if k=4 then ⟨#[114,111,108,101]⟩ else if k=5 then ⟨#[102,97,99,116]⟩ else if k=6 then ⟨#[112,97,105,114]⟩ else ⟨#[]⟩
def knownK (k:Int):Bool:=decide (0≤k∧k≤6)
def shapeV (k:Int):Array Value:=#[.string (wordK k),.bool (hasF k),.bool (hasR k),.bool (hasU k),.bool (hasX k),.bool (hasY k),.bool (hasI k),.bool (hasP k)]
set_option maxRecDepth 100000 in
set_option maxHeartbeats 1000000 in
theorem shapeOf_0 (w:World):Calls Try.prog 49 #[.int .i64 0] w fun e w'=>e=.returned (.tuple #[.agg (shapeV 0),.bool true])∧Below w.heap.size w w':=by
 have d:∀ V:World,(Instr.build 69 #[(0,.string ⟨#[111,110,101]⟩),(4,.bool true)]).run Try.prog V=.ok (.agg #[.string ⟨#[111,110,101]⟩,.bool false,.bool false,.bool false,.bool true,.bool false,.bool false,.bool false]) V:=fun V=>run_build V _ _ _ (by kernel_rfl)
 have HV:Hid (shapeV 0=#[.string ⟨#[111,110,101]⟩,.bool false,.bool false,.bool false,.bool true,.bool false,.bool false,.bool false]):=by unfold Hid;simp [shapeV,wordK,hasF,hasR,hasU,hasX,hasY,hasI,hasP]
 have m:Hid (Below w.heap.size w (w.alloc (.cells #[.string ⟨#[111,110,101]⟩,.bool false,.bool false,.bool false,.bool true,.bool false,.bool false,.bool false] 69))):=(Below.refl _ _).alloc (Nat.le_refl _) _;go_enter Try.func49, Try.ntmps49;go_wp2_with fail;refine bodyPost_ret (v:=.tuple #[.agg #[.string ⟨#[111,110,101]⟩,.bool false,.bool false,.bool false,.bool true,.bool false,.bool false,.bool false],.bool true]) (by simp [results, Try.results49,go_sem]) rfl ⟨by rw [HV.out],m.out⟩
set_option maxRecDepth 100000 in
set_option maxHeartbeats 1000000 in
theorem shapeOf_1 (w:World):Calls Try.prog 49 #[.int .i64 1] w fun e w'=>e=.returned (.tuple #[.agg (shapeV 1),.bool true])∧Below w.heap.size w w':=by
 have d:∀ V:World,(Instr.build 69 #[(0,.string ⟨#[110,101,120,116]⟩),(1,.bool true),(4,.bool true),(5,.bool true)]).run Try.prog V=.ok (.agg #[.string ⟨#[110,101,120,116]⟩,.bool true,.bool false,.bool false,.bool true,.bool true,.bool false,.bool false]) V:=fun V=>run_build V _ _ _ (by kernel_rfl)
 have HV:Hid (shapeV 1=#[.string ⟨#[110,101,120,116]⟩,.bool true,.bool false,.bool false,.bool true,.bool true,.bool false,.bool false]):=by unfold Hid;simp [shapeV,wordK,hasF,hasR,hasU,hasX,hasY,hasI,hasP]
 have m:Hid (Below w.heap.size w (w.alloc (.cells #[.string ⟨#[110,101,120,116]⟩,.bool true,.bool false,.bool false,.bool true,.bool true,.bool false,.bool false] 69))):=(Below.refl _ _).alloc (Nat.le_refl _) _;go_enter Try.func49, Try.ntmps49;go_wp2_with fail;refine bodyPost_ret (v:=.tuple #[.agg #[.string ⟨#[110,101,120,116]⟩,.bool true,.bool false,.bool false,.bool true,.bool true,.bool false,.bool false],.bool true]) (by simp [results, Try.results49,go_sem]) rfl ⟨by rw [HV.out],m.out⟩
set_option maxRecDepth 100000 in
set_option maxHeartbeats 1000000 in
theorem shapeOf_2 (w:World):Calls Try.prog 49 #[.int .i64 2] w fun e w'=>e=.returned (.tuple #[.agg (shapeV 2),.bool true])∧Below w.heap.size w w':=by
 have d:∀ V:World,(Instr.build 69 #[(0,.string ⟨#[101,100,103,101]⟩),(1,.bool true),(2,.bool true),(4,.bool true)]).run Try.prog V=.ok (.agg #[.string ⟨#[101,100,103,101]⟩,.bool true,.bool true,.bool false,.bool true,.bool false,.bool false,.bool false]) V:=fun V=>run_build V _ _ _ (by kernel_rfl)
 have HV:Hid (shapeV 2=#[.string ⟨#[101,100,103,101]⟩,.bool true,.bool true,.bool false,.bool true,.bool false,.bool false,.bool false]):=by unfold Hid;simp [shapeV,wordK,hasF,hasR,hasU,hasX,hasY,hasI,hasP]
 have m:Hid (Below w.heap.size w (w.alloc (.cells #[.string ⟨#[101,100,103,101]⟩,.bool true,.bool true,.bool false,.bool true,.bool false,.bool false,.bool false] 69))):=(Below.refl _ _).alloc (Nat.le_refl _) _;go_enter Try.func49, Try.ntmps49;go_wp2_with fail;refine bodyPost_ret (v:=.tuple #[.agg #[.string ⟨#[101,100,103,101]⟩,.bool true,.bool true,.bool false,.bool true,.bool false,.bool false,.bool false],.bool true]) (by simp [results, Try.results49,go_sem]) rfl ⟨by rw [HV.out],m.out⟩
set_option maxRecDepth 100000 in
set_option maxHeartbeats 1000000 in
theorem shapeOf_3 (w:World):Calls Try.prog 49 #[.int .i64 3] w fun e w'=>e=.returned (.tuple #[.agg (shapeV 3),.bool true])∧Below w.heap.size w w':=by
 have d:∀ V:World,(Instr.build 69 #[(0,.string ⟨#[97,108,108]⟩),(2,.bool true),(4,.bool true),(5,.bool true)]).run Try.prog V=.ok (.agg #[.string ⟨#[97,108,108]⟩,.bool false,.bool true,.bool false,.bool true,.bool true,.bool false,.bool false]) V:=fun V=>run_build V _ _ _ (by kernel_rfl)
 have HV:Hid (shapeV 3=#[.string ⟨#[97,108,108]⟩,.bool false,.bool true,.bool false,.bool true,.bool true,.bool false,.bool false]):=by unfold Hid;simp [shapeV,wordK,hasF,hasR,hasU,hasX,hasY,hasI,hasP]
 have m:Hid (Below w.heap.size w (w.alloc (.cells #[.string ⟨#[97,108,108]⟩,.bool false,.bool true,.bool false,.bool true,.bool true,.bool false,.bool false] 69))):=(Below.refl _ _).alloc (Nat.le_refl _) _;go_enter Try.func49, Try.ntmps49;go_wp2_with fail;refine bodyPost_ret (v:=.tuple #[.agg #[.string ⟨#[97,108,108]⟩,.bool false,.bool true,.bool false,.bool true,.bool true,.bool false,.bool false],.bool true]) (by simp [results, Try.results49,go_sem]) rfl ⟨by rw [HV.out],m.out⟩
set_option maxRecDepth 100000 in
set_option maxHeartbeats 1000000 in
theorem shapeOf_4 (w:World):Calls Try.prog 49 #[.int .i64 4] w fun e w'=>e=.returned (.tuple #[.agg (shapeV 4),.bool true])∧Below w.heap.size w w':=by
 have d:∀ V:World,(Instr.build 69 #[(0,.string ⟨#[114,111,108,101]⟩),(2,.bool true),(3,.bool true)]).run Try.prog V=.ok (.agg #[.string ⟨#[114,111,108,101]⟩,.bool false,.bool true,.bool true,.bool false,.bool false,.bool false,.bool false]) V:=fun V=>run_build V _ _ _ (by kernel_rfl)
 have HV:Hid (shapeV 4=#[.string ⟨#[114,111,108,101]⟩,.bool false,.bool true,.bool true,.bool false,.bool false,.bool false,.bool false]):=by unfold Hid;simp [shapeV,wordK,hasF,hasR,hasU,hasX,hasY,hasI,hasP]
 have m:Hid (Below w.heap.size w (w.alloc (.cells #[.string ⟨#[114,111,108,101]⟩,.bool false,.bool true,.bool true,.bool false,.bool false,.bool false,.bool false] 69))):=(Below.refl _ _).alloc (Nat.le_refl _) _;go_enter Try.func49, Try.ntmps49;go_wp2_with fail;refine bodyPost_ret (v:=.tuple #[.agg #[.string ⟨#[114,111,108,101]⟩,.bool false,.bool true,.bool true,.bool false,.bool false,.bool false,.bool false],.bool true]) (by simp [results, Try.results49,go_sem]) rfl ⟨by rw [HV.out],m.out⟩
set_option maxRecDepth 100000 in
set_option maxHeartbeats 1000000 in
theorem shapeOf_5 (w:World):Calls Try.prog 49 #[.int .i64 5] w fun e w'=>e=.returned (.tuple #[.agg (shapeV 5),.bool true])∧Below w.heap.size w w':=by
 have d:∀ V:World,(Instr.build 69 #[(0,.string ⟨#[102,97,99,116]⟩),(6,.bool true)]).run Try.prog V=.ok (.agg #[.string ⟨#[102,97,99,116]⟩,.bool false,.bool false,.bool false,.bool false,.bool false,.bool true,.bool false]) V:=fun V=>run_build V _ _ _ (by kernel_rfl)
 have HV:Hid (shapeV 5=#[.string ⟨#[102,97,99,116]⟩,.bool false,.bool false,.bool false,.bool false,.bool false,.bool true,.bool false]):=by unfold Hid;simp [shapeV,wordK,hasF,hasR,hasU,hasX,hasY,hasI,hasP]
 have m:Hid (Below w.heap.size w (w.alloc (.cells #[.string ⟨#[102,97,99,116]⟩,.bool false,.bool false,.bool false,.bool false,.bool false,.bool true,.bool false] 69))):=(Below.refl _ _).alloc (Nat.le_refl _) _;go_enter Try.func49, Try.ntmps49;go_wp2_with fail;refine bodyPost_ret (v:=.tuple #[.agg #[.string ⟨#[102,97,99,116]⟩,.bool false,.bool false,.bool false,.bool false,.bool false,.bool true,.bool false],.bool true]) (by simp [results, Try.results49,go_sem]) rfl ⟨by rw [HV.out],m.out⟩
set_option maxRecDepth 100000 in
set_option maxHeartbeats 1000000 in
theorem shapeOf_6 (w:World):Calls Try.prog 49 #[.int .i64 6] w fun e w'=>e=.returned (.tuple #[.agg (shapeV 6),.bool true])∧Below w.heap.size w w':=by
 have d:∀ V:World,(Instr.build 69 #[(0,.string ⟨#[112,97,105,114]⟩),(2,.bool true),(7,.bool true)]).run Try.prog V=.ok (.agg #[.string ⟨#[112,97,105,114]⟩,.bool false,.bool true,.bool false,.bool false,.bool false,.bool false,.bool true]) V:=fun V=>run_build V _ _ _ (by kernel_rfl)
 have HV:Hid (shapeV 6=#[.string ⟨#[112,97,105,114]⟩,.bool false,.bool true,.bool false,.bool false,.bool false,.bool false,.bool true]):=by unfold Hid;simp [shapeV,wordK,hasF,hasR,hasU,hasX,hasY,hasI,hasP]
 have m:Hid (Below w.heap.size w (w.alloc (.cells #[.string ⟨#[112,97,105,114]⟩,.bool false,.bool true,.bool false,.bool false,.bool false,.bool false,.bool true] 69))):=(Below.refl _ _).alloc (Nat.le_refl _) _;go_enter Try.func49, Try.ntmps49;go_wp2_with fail;refine bodyPost_ret (v:=.tuple #[.agg #[.string ⟨#[112,97,105,114]⟩,.bool false,.bool true,.bool false,.bool false,.bool false,.bool false,.bool true],.bool true]) (by simp [results, Try.results49,go_sem]) rfl ⟨by rw [HV.out],m.out⟩
set_option maxRecDepth 100000 in
set_option maxHeartbeats 1000000 in
theorem shapeOf_none {k:Int} (h:¬ (0≤k∧k≤6)) (w:World):Calls Try.prog 49 #[.int .i64 k] w fun e w'=>e=.returned (.tuple #[.agg (shapeV k),.bool false])∧Below w.heap.size w w':=by
 have d:∀ V:World,(Instr.build 69 #[]).run Try.prog V=.ok (.agg #[.string ⟨#[]⟩,.bool false,.bool false,.bool false,.bool false,.bool false,.bool false,.bool false]) V:=fun V=>run_build V _ _ _ (by kernel_rfl)
 have n0:(k == 0)=false:=by simp;omega
 have n1:(k == 1)=false:=by simp;omega
 have n2:(k == 2)=false:=by simp;omega
 have n3:(k == 3)=false:=by simp;omega
 have n4:(k == 4)=false:=by simp;omega
 have n5:(k == 5)=false:=by simp;omega
 have n6:(k == 6)=false:=by simp;omega
 have HV:Hid (shapeV k=#[.string ⟨#[]⟩,.bool false,.bool false,.bool false,.bool false,.bool false,.bool false,.bool false]):=by
  have m0:¬ k=0:=by omega
  have m1:¬ k=1:=by omega
  have m2:¬ k=2:=by omega
  have m3:¬ k=3:=by omega
  have m4:¬ k=4:=by omega
  have m5:¬ k=5:=by omega
  have m6:¬ k=6:=by omega
  unfold Hid;simp [shapeV,wordK,hasF,hasR,hasU,hasX,hasY,hasI,hasP,m0,m1,m2,m3,m4,m5,m6]
 have m:Hid (Below w.heap.size w (w.alloc (.cells #[.string ⟨#[]⟩,.bool false,.bool false,.bool false,.bool false,.bool false,.bool false,.bool false] 69))):=(Below.refl _ _).alloc (Nat.le_refl _) _;clear h;go_enter Try.func49, Try.ntmps49;go_wp2_with fail;refine bodyPost_ret (v:=.tuple #[.agg #[.string ⟨#[]⟩,.bool false,.bool false,.bool false,.bool false,.bool false,.bool false,.bool false],.bool false]) (by simp [results, Try.results49,go_sem]) rfl ⟨by rw [HV.out],m.out⟩
theorem shapeOf_any (k:Int) (w:World):Calls Try.prog 49 #[.int .i64 k] w fun e w'=>e=.returned (.tuple #[.agg (shapeV k),.bool (knownK k)])∧Below w.heap.size w w':=by
 by_cases h:0≤k∧k≤6
 · have e:knownK k=true:=decide_eq_true h;rw [e];rcases (by omega:k=0∨k=1∨k=2∨k=3∨k=4∨k=5∨k=6) with rfl | rfl | rfl | rfl | rfl | rfl | rfl
   · exact shapeOf_0 w
   · exact shapeOf_1 w
   · exact shapeOf_2 w
   · exact shapeOf_3 w
   · exact shapeOf_4 w
   · exact shapeOf_5 w
   exact shapeOf_6 w
 have e:knownK k=false:=decide_eq_false h;rw [e];exact shapeOf_none h w
end

section
open Go.RowKit
theorem numberFits_any (n J:Int) (c:Bool) (w:World):Calls Try.prog 50 #[.int .i64 n,.int .i64 J,.bool c] w fun e w'=>e=.returned (.bool (numB n J c))∧w'=w:=by
 cases c with
 | true =>
  go_enter Try.func50, Try.ntmps50;go_wp2
  all_goals
   go_ret;refine ⟨rb ?_,rfl⟩;rw [Bool.eq_iff_iff];simp [numB];omega
 | false =>
  go_enter Try.func50, Try.ntmps50;go_wp2;go_ret;refine ⟨rb ?_,rfl⟩;rw [Bool.eq_iff_iff];simp [numB]
theorem partFits_any (p n:Int) (c:Bool) (w:World):Calls Try.prog 51 #[.agg #[.int .i64 p,.int .i64 n],.bool c] w fun e w'=>e=.returned (.bool (parB p n c))∧Below w.heap.size w w':=by
 obtain ⟨W,hW⟩:∃ W,W=w.alloc (.cells #[.int .i64 p,.int .i64 n] 29):=⟨_,rfl⟩;have HW:Hid (W=w.alloc (.cells #[.int .i64 p,.int .i64 n] 29)):=hW;have r:Hid (Below w.heap.size w W):=by rw [hW];exact (Below.refl _ _).alloc (Nat.le_refl _) _
 have u:BoxP 29 W w.heap.size p n:=by rw [hW];exact BoxP.new _ w _ _
 obtain ⟨z0,z1⟩:=u.cells;have I:∀ V:World,(Instr.build 29 #[]).run Try.prog V=.ok (.agg #[.int .i64 0,.int .i64 0]) V:=fun V=>run_build V _ _ _ (by kernel_rfl)
 clear hW u;cases c with
 | true =>
  go_enter Try.func51, Try.ntmps51;go_upto_region 1 with fail;rw [← HW.out];go_wp2_with fail;refine (partOk_any p n W).mono ?_;rintro e w1 ⟨rfl,o⟩;have H1:Hid (Below w.heap.size w w1):=r.out.trans (o.mono r.out.size);clear o;go_wp2_with fail;go_ret;exact ⟨rb rfl,H1.out⟩
 | false =>
  by_cases h0:p=0
  · have hp:(p == 0)=true:=by simp [h0]
    have HR:Hid (parB p n false=(n == 0)):=by unfold Hid;rw [Bool.eq_iff_iff];simp [parB,noneB,h0]
    clear h0;go_enter Try.func51, Try.ntmps51;go_upto_region 1 with fail;rw [← HW.out];go_wp2_with fail
    all_goals
     go_ret;refine ⟨rb ?_,r.out⟩;rw [HR.out];simp_all
  have hp:(p == 0)=false:=by simpa using h0
  have HR:Hid (parB p n false=false):=by simp [Hid,parB,noneB,h0]
  clear h0;go_enter Try.func51, Try.ntmps51;go_upto_region 1 with fail;rw [← HW.out];go_wp2_with fail;go_ret;exact ⟨rb HR.out.symm,r.out⟩
set_option maxRecDepth 100000 in
set_option maxHeartbeats 2000000 in
theorem indexPart_any (F:Nat) (cp:Array Value) (g:Int × Int→Bool) (a:Option Addr) (n d:Nat) (xs:List (Int × Int)) (w:World) {lo hi:Nat} (h:RP lo hi w a n d xs) (s:hi≤w.heap.size)
    (M:∀ (args:Array Value) (V:World),(callFunc F args).run Try.prog V=.ok (.enter F args) V)
    (hg:∀ (p q:Int) (V:World),Below w.heap.size w V→Calls Try.prog F (#[.agg #[.int .i64 p,.int .i64 q]]++cp) V fun e w'=>e=.returned (.bool (g (p,q)))∧Below V.heap.size V w') :
    Calls Try.prog 99 #[.slice a n d,.func (.func F) #[] cp] w fun e w'=>∃ i:Int,e=.returned (.int .i64 i)∧decide (0≤i)=xs.any g∧Below w.heap.size w w':=by
 have HR:Hid (RP lo hi w a n d xs):=h;have HL:Hid (xs.length=n):=h.len;have HG:Hid (∀ (p q:Int) (V:World),Below w.heap.size w V→Calls Try.prog F (#[.agg #[.int .i64 p,.int .i64 q]]++cp) V fun e w'=>e=.returned (.bool (g (p,q)))∧Below V.heap.size V w'):=hg;have hf:=h.fits;clear h hg;go_enter Try.func99, Try.ntmps99;go_upto_region 2 with fail;go_loopw [8] (fun i wr=>∃ k:Nat,k≤n∧i=.int .i64 k∧(∀ i,i<k→g (xs.getD i (0,0))=false)∧Below w.heap.size w wr) (fun i _=>n - (intOf i).toNat)
 case atStart=>exact ⟨0,Nat.zero_le _,rfl,fun i hi=>absurd hi (by omega),Below.refl _ _⟩
 case round =>
  obtain ⟨k,hk,rfl,D,m⟩:=hrel;have E:Hid (∀ i,i<k→g (xs.getD i (0,0))=false):=D;have G:Hid (Below w.heap.size w wr):=m;have H:=m.size;clear D;by_cases hlt:k<n
  · rcases (HR.out.below m s).cells with hz | ⟨b,off,e1,_,_,hc⟩
    · omega
    subst e1;obtain ⟨c0,c1⟩:=hc k hlt;obtain ⟨t,ht⟩:∃ t,t=xs.getD k (0,0):=⟨_,rfl⟩;have HT:Hid (t=xs.getD k (0,0)):=ht;rw [← ht] at c0 c1;obtain ⟨tp,tn⟩:=t;have O:(k:Int)<(n:Int):=by omega
    clear hc ht m;go_wp2_with fail;refine (HG.out tp tn wr G.out).mono ?_;rintro e w5 ⟨rfl,z⟩;have A:Hid (Below w.heap.size w w5):=G.out.trans (z.mono H);clear z;cases hq:g (tp,tn)
    · have HS:Hid (∀ i,i<k+1→g (xs.getD i (0,0))=false):=by
       intro i hi;by_cases e:i=k
       · subst e;rw [← HT.out];exact hq
       exact E.out i (by omega)
      clear hq;go_wp2_with fail;go_roundw
      case rel=>exact ⟨k+1,by omega,by go_num,HS.out,A.out⟩
      case measure=>simp [intOf];omega
    have HE:Hid (xs.any g=true):=by
     have hl:=HL.out;refine List.any_eq_true.2 ⟨xs.getD k (0,0),?_,by rw [← HT.out];exact hq⟩;rw [List.getD_eq_getElem?_getD,List.getElem?_eq_getElem (by omega)];exact List.getElem_mem _
    clear hq;go_wp2_with fail;go_ret;exact ⟨k,rfl,by rw [HE.out];simp,A.out⟩
  have HF:Hid (xs.any g=false):=by
   have hl:=HL.out;unfold Hid;rw [List.any_eq_false];intro p hp;obtain ⟨i,hi,e⟩:=List.getElem_of_mem hp;have:=E.out i (by omega);rw [List.getD_eq_getElem?_getD,List.getElem?_eq_getElem hi,e] at this;simpa using this
  have R:decide ((k:Int)<(n:Int))=false:=by simp;omega
  clear m;go_wp2_with fail;go_ret;exact ⟨-1,rfl,by rw [HF.out];simp,G.out⟩
set_option maxRecDepth 100000 in
theorem hasPart_any (F:Nat) (cp:Array Value) (g:Int × Int→Bool) (a:Option Addr) (n d:Nat) (xs:List (Int × Int)) (w:World) {lo hi:Nat} (h:RP lo hi w a n d xs) (s:hi≤w.heap.size)
    (M:∀ (args:Array Value) (V:World),(callFunc F args).run Try.prog V=.ok (.enter F args) V)
    (hg:∀ (p q:Int) (V:World),Below w.heap.size w V→Calls Try.prog F (#[.agg #[.int .i64 p,.int .i64 q]]++cp) V fun e w'=>e=.returned (.bool (g (p,q)))∧Below V.heap.size V w') :
    Calls Try.prog 81 #[.slice a n d,.func (.func F) #[] cp] w fun e w'=>e=.returned (.bool (xs.any g))∧Below w.heap.size w w':=by
 have HC:Hid (Calls Try.prog 99 #[.slice a n d,.func (.func F) #[] cp] w fun e w'=>∃ i:Int,e=.returned (.int .i64 i)∧decide (0≤i)=xs.any g∧Below w.heap.size w w'):=indexPart_any F cp g a n d xs w h s M hg;clear h s hg;go_enter Try.func81, Try.ntmps81;go_wp2_with fail;refine HC.out.mono ?_;rintro e w5 ⟨i,rfl,L,z⟩;have A:Hid (Below w.heap.size w w5):=z;have HI:Hid (decide (0≤i)=xs.any g):=L;clear L z;by_cases hi0:0≤i
 · go_wp2_with fail;go_ret;exact ⟨rb (by rw [← HI.out];simp [hi0]),A.out⟩
 go_wp2_with fail;go_ret;exact ⟨rb (by rw [← HI.out]),A.out⟩
theorem notPart_any (p n:Int) (w:World):Calls Try.prog 82 #[.agg #[.int .i64 p,.int .i64 n]] w fun e w'=>e=.returned (.bool (!(partB p n)))∧Below w.heap.size w w':=by
 obtain ⟨W,hW⟩:∃ W,W=w.alloc (.cells #[.int .i64 p,.int .i64 n] 29):=⟨_,rfl⟩;have HW:Hid (W=w.alloc (.cells #[.int .i64 p,.int .i64 n] 29)):=hW;have r:Hid (Below w.heap.size w W):=by rw [hW];exact (Below.refl _ _).alloc (Nat.le_refl _) _
 have u:BoxP 29 W w.heap.size p n:=by rw [hW];exact BoxP.new _ w _ _
 obtain ⟨z0,z1⟩:=u.cells;clear hW u;go_enter Try.func82, Try.ntmps82;go_upto_region 1 with fail;rw [← HW.out];go_wp2_with fail;refine (partOk_any p n W).mono ?_;rintro e w1 ⟨rfl,o⟩;have H1:Hid (Below w.heap.size w w1):=r.out.trans (o.mono r.out.size);clear o;go_wp2_with fail;go_ret;exact ⟨rfl,H1.out⟩
theorem indsFit_any {a:Option Addr} {n d:Nat} {xs:List (Int × Int)} {w:World} {lo hi:Nat} (h:RP lo hi w a n d xs) (s:hi≤w.heap.size) (c:Bool) :
    Calls Try.prog 52 #[.slice a n d,.bool c] w fun e w'=>e=.returned (.bool (indB xs c))∧Below w.heap.size w w':=by
 have HR:Hid (RP lo hi w a n d xs):=h;have HL:Hid (xs.length=n):=h.len;clear h;cases c with
 | true =>
  by_cases hn:n=4
  · subst hn
    have HI:Hid (indB xs true=!(xs.any (fun p=>!(partB p.1 p.2)))):=by
     unfold Hid;rw [indB,if_pos rfl,HL.out];simp [List.any_eq_not_all_not]
    go_enter Try.func52, Try.ntmps52;go_wp2_with fail;refine (hasPart_any 82 #[] (fun p=>!(partB p.1 p.2)) a 4 d xs w HR.out s Try.call82 (fun p q V _=>notPart_any p q V)).mono ?_;rintro e w1 ⟨rfl,o⟩;have H1:Hid (Below w.heap.size w w1):=o;clear o;go_wp2_with fail;go_ret;exact ⟨rb HI.out.symm,H1.out⟩
  have HI:Hid (indB xs true=false):=by
   have hl:=HL.out;have:¬ xs.length=4:=by omega
   simp [Hid,indB,this]
  have N:((n:Int) == 4)=false:=by simp;omega
  go_enter Try.func52, Try.ntmps52;go_wp2_with fail;go_ret;exact ⟨rb HI.out.symm,Below.refl _ _⟩
 | false =>
  have HI:Hid (indB xs false=((n:Int) == 0)):=by
   have hl:=HL.out;unfold Hid;rw [indB,if_neg (by simp),Bool.eq_iff_iff,hl];simp
  go_enter Try.func52, Try.ntmps52;go_wp2_with fail;go_ret;exact ⟨rb HI.out.symm,Below.refl _ _⟩
end

end Go.Proofs.Ytkjmfaohdhiiaaa
