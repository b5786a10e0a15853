/- Several texts in one: ClImpl1, ClImpl2, ClEq. -/
import Derived.Test.YtellcgmabimieaaGreatDoorNG5
import Derived.Deep.RegionWith
import Derived.Deep.DeepCutAuto
import Derived.ChangeKeysEq
namespace Go.Proofs.YtellcgmabimieaaGreatDoor

section
open Go.RowKit
theorem numberFits_any (n R:Int) (c:Bool) (w:World):Calls Tryz.prog 75 #[.int .i64 n,.int .i64 R,.bool c] w fun e w'=>e=.returned (.bool (numB n R c))∧w'=w:=by
 cases c with
 | true =>
  go_enter Tryz.func75, Tryz.ntmps75;go_wp2
  all_goals
   go_ret;refine ⟨rb ?_,rfl⟩;rw [Bool.eq_iff_iff];simp [numB];omega
 | false =>
  go_enter Tryz.func75, Tryz.ntmps75;go_wp2;go_ret;refine ⟨rb ?_,rfl⟩;rw [Bool.eq_iff_iff];simp [numB]
theorem partFits_any (p n:Int) (c:Bool) (w:World):Calls Tryz.prog 102 #[.agg #[.int .i64 p,.int .i64 n],.bool c] w fun e w'=>e=.returned (.bool (parB p n c))∧Below w.heap.size w w':=by
 obtain ⟨W,hW⟩:∃ W,W=w.alloc (.cells #[.int .i64 p,.int .i64 n] 48):=⟨_,rfl⟩;have HW:Hid (W=w.alloc (.cells #[.int .i64 p,.int .i64 n] 48)):=hW;have A:Hid (Below w.heap.size w W):=by rw [hW];exact (Below.refl _ _).alloc (Nat.le_refl _) _
 have E:BoxP 48 W w.heap.size p n:=by rw [hW];exact BoxP.new _ w _ _
 obtain ⟨z0,z1⟩:=E.cells;have O:∀ V:World,(Instr.build 48 #[]).run Tryz.prog V=.ok (.agg #[.int .i64 0,.int .i64 0]) V:=fun V=>run_build V _ _ _ (by kernel_rfl)
 clear hW E;cases c with
 | true =>
  go_enter Tryz.func102, Tryz.ntmps102;go_upto_region 1 with fail;rw [← HW.out];go_wp2_with fail;refine (partOk_any p n W).mono ?_;rintro e w1 ⟨rfl,z⟩;have H1:Hid (Below w.heap.size w w1):=A.out.trans (z.mono A.out.size);clear z;go_wp2_with fail;go_ret;exact ⟨rb rfl,H1.out⟩
 | false =>
  by_cases h0:p=0
  · have hp:(p == 0)=true:=by simp [h0]
    have HR:Hid (parB p n false=(n == 0)):=by unfold Hid;rw [Bool.eq_iff_iff];simp [parB,noneB,h0]
    clear h0;go_enter Tryz.func102, Tryz.ntmps102;go_upto_region 1 with fail;rw [← HW.out];go_wp2_with fail
    all_goals
     go_ret;refine ⟨rb ?_,A.out⟩;rw [HR.out];simp_all
  have hp:(p == 0)=false:=by simpa using h0
  have HR:Hid (parB p n false=false):=by simp [Hid,parB,noneB,h0]
  clear h0;go_enter Tryz.func102, Tryz.ntmps102;go_upto_region 1 with fail;rw [← HW.out];go_wp2_with fail;go_ret;exact ⟨rb HR.out.symm,A.out⟩
set_option maxRecDepth 100000 in
set_option maxHeartbeats 2000000 in
theorem indexPart_any (F:Nat) (cp:Array Value) (g:Int × Int→Bool) (a:Option Addr) (n o:Nat) (xs:List (Int × Int)) (w:World) {lo hi:Nat} (h:RP lo hi w a n o xs) (D:hi≤w.heap.size)
    (U:∀ (args:Array Value) (V:World),(callFunc F args).run Tryz.prog V=.ok (.enter F args) V)
    (hg:∀ (p q:Int) (V:World),Below w.heap.size w V→Calls Tryz.prog F (#[.agg #[.int .i64 p,.int .i64 q]]++cp) V fun e w'=>e=.returned (.bool (g (p,q)))∧Below V.heap.size V w') :
    Calls Tryz.prog 138 #[.slice a n o,.func (.func F) #[] cp] w fun e w'=>∃ i:Int,e=.returned (.int .i64 i)∧decide (0≤i)=xs.any g∧Below w.heap.size w w':=by
 have HR:Hid (RP lo hi w a n o xs):=h;have HL:Hid (xs.length=n):=h.len;have HG:Hid (∀ (p q:Int) (V:World),Below w.heap.size w V→Calls Tryz.prog F (#[.agg #[.int .i64 p,.int .i64 q]]++cp) V fun e w'=>e=.returned (.bool (g (p,q)))∧Below V.heap.size V w'):=hg;have hf:=h.fits;clear h hg;go_enter Tryz.func138, Tryz.ntmps138;go_upto_region 2 with fail;go_loopw [8] (fun i wr=>∃ k:Nat,k≤n∧i=.int .i64 k∧(∀ i,i<k→g (xs.getD i (0,0))=false)∧Below w.heap.size w wr) (fun i _=>n - (intOf i).toNat)
 case atStart=>exact ⟨0,Nat.zero_le _,rfl,fun i hi=>absurd hi (by omega),Below.refl _ _⟩
 case round =>
  obtain ⟨k,hk,rfl,J,u⟩:=hrel;have L:Hid (∀ i,i<k→g (xs.getD i (0,0))=false):=J;have M:Hid (Below w.heap.size w wr):=u;have N:=u.size;clear J;by_cases hlt:k<n
  · rcases (HR.out.below u D).cells with hz | ⟨b,Y,e1,_,_,hc⟩
    · omega
    subst e1;obtain ⟨c0,c1⟩:=hc k hlt;obtain ⟨t,ht⟩:∃ t,t=xs.getD k (0,0):=⟨_,rfl⟩;have HT:Hid (t=xs.getD k (0,0)):=ht;rw [← ht] at c0 c1;obtain ⟨tp,tn⟩:=t;have a0:(k:Int)<(n:Int):=by omega
    clear hc ht u;go_wp2_with fail;refine (HG.out tp tn wr M.out).mono ?_;rintro e w5 ⟨rfl,G⟩;have I:Hid (Below w.heap.size w w5):=M.out.trans (G.mono N);clear G;cases hq:g (tp,tn)
    · have HS:Hid (∀ i,i<k+1→g (xs.getD i (0,0))=false):=by
       intro i hi;by_cases e:i=k
       · subst e;rw [← HT.out];exact hq
       exact L.out i (by omega)
      clear hq;go_wp2_with fail;go_roundw
      case rel=>exact ⟨k+1,by omega,by go_num,HS.out,I.out⟩
      case measure=>simp [intOf];omega
    have HE:Hid (xs.any g=true):=by
     have hl:=HL.out;refine List.any_eq_true.2 ⟨xs.getD k (0,0),?_,by rw [← HT.out];exact hq⟩;rw [List.getD_eq_getElem?_getD,List.getElem?_eq_getElem (by omega)];exact List.getElem_mem _
    clear hq;go_wp2_with fail;go_ret;exact ⟨k,rfl,by rw [HE.out];simp,I.out⟩
  have HF:Hid (xs.any g=false):=by
   have hl:=HL.out;unfold Hid;rw [List.any_eq_false];intro p hp;obtain ⟨i,hi,e⟩:=List.getElem_of_mem hp;have:=L.out i (by omega);rw [List.getD_eq_getElem?_getD,List.getElem?_eq_getElem hi,e] at this;simpa using this
  have a1:decide ((k:Int)<(n:Int))=false:=by simp;omega
  clear u;go_wp2_with fail;go_ret;exact ⟨-1,rfl,by rw [HF.out];simp,M.out⟩
set_option maxRecDepth 100000 in
theorem hasPart_any (F:Nat) (cp:Array Value) (g:Int × Int→Bool) (a:Option Addr) (n o:Nat) (xs:List (Int × Int)) (w:World) {lo hi:Nat} (h:RP lo hi w a n o xs) (D:hi≤w.heap.size)
    (U:∀ (args:Array Value) (V:World),(callFunc F args).run Tryz.prog V=.ok (.enter F args) V)
    (hg:∀ (p q:Int) (V:World),Below w.heap.size w V→Calls Tryz.prog F (#[.agg #[.int .i64 p,.int .i64 q]]++cp) V fun e w'=>e=.returned (.bool (g (p,q)))∧Below V.heap.size V w') :
    Calls Tryz.prog 125 #[.slice a n o,.func (.func F) #[] cp] w fun e w'=>e=.returned (.bool (xs.any g))∧Below w.heap.size w w':=by
 have HC:Hid (Calls Tryz.prog 138 #[.slice a n o,.func (.func F) #[] cp] w fun e w'=>∃ i:Int,e=.returned (.int .i64 i)∧decide (0≤i)=xs.any g∧Below w.heap.size w w'):=indexPart_any F cp g a n o xs w h D U hg;clear h D hg;go_enter Tryz.func125, Tryz.ntmps125;go_wp2_with fail;refine HC.out.mono ?_;rintro e w5 ⟨i,rfl,T,G⟩;have I:Hid (Below w.heap.size w w5):=G;have HI:Hid (decide (0≤i)=xs.any g):=T;clear T G;by_cases hi0:0≤i
 · go_wp2_with fail;go_ret;exact ⟨rb (by rw [← HI.out];simp [hi0]),I.out⟩
 go_wp2_with fail;go_ret;exact ⟨rb (by rw [← HI.out]),I.out⟩
theorem notPart_any (p n:Int) (w:World):Calls Tryz.prog 126 #[.agg #[.int .i64 p,.int .i64 n]] w fun e w'=>e=.returned (.bool (!(partB p n)))∧Below w.heap.size w w':=by
 obtain ⟨W,hW⟩:∃ W,W=w.alloc (.cells #[.int .i64 p,.int .i64 n] 48):=⟨_,rfl⟩;have HW:Hid (W=w.alloc (.cells #[.int .i64 p,.int .i64 n] 48)):=hW;have A:Hid (Below w.heap.size w W):=by rw [hW];exact (Below.refl _ _).alloc (Nat.le_refl _) _
 have E:BoxP 48 W w.heap.size p n:=by rw [hW];exact BoxP.new _ w _ _
 obtain ⟨z0,z1⟩:=E.cells;clear hW E;go_enter Tryz.func126, Tryz.ntmps126;go_upto_region 1 with fail;rw [← HW.out];go_wp2_with fail;refine (partOk_any p n W).mono ?_;rintro e w1 ⟨rfl,z⟩;have H1:Hid (Below w.heap.size w w1):=A.out.trans (z.mono A.out.size);clear z;go_wp2_with fail;go_ret;exact ⟨rfl,H1.out⟩
theorem indsFit_any {a:Option Addr} {n o:Nat} {xs:List (Int × Int)} {w:World} {lo hi:Nat} (h:RP lo hi w a n o xs) (D:hi≤w.heap.size) (c:Bool) :
    Calls Tryz.prog 103 #[.slice a n o,.bool c] w fun e w'=>e=.returned (.bool (indB xs c))∧Below w.heap.size w w':=by
 have HR:Hid (RP lo hi w a n o xs):=h;have HL:Hid (xs.length=n):=h.len;clear h;cases c with
 | true =>
  by_cases hn:n=4
  · subst hn
    have HI:Hid (indB xs true=!(xs.any (fun p=>!(partB p.1 p.2)))):=by
     unfold Hid;rw [indB,if_pos rfl,HL.out];simp [List.any_eq_not_all_not]
    go_enter Tryz.func103, Tryz.ntmps103;go_wp2_with fail;refine (hasPart_any 126 #[] (fun p=>!(partB p.1 p.2)) a 4 o xs w HR.out D Tryz.call126 (fun p q V _=>notPart_any p q V)).mono ?_;rintro e w1 ⟨rfl,z⟩;have H1:Hid (Below w.heap.size w w1):=z;clear z;go_wp2_with fail;go_ret;exact ⟨rb HI.out.symm,H1.out⟩
  have HI:Hid (indB xs true=false):=by
   have hl:=HL.out;have:¬ xs.length=4:=by omega
   simp [Hid,indB,this]
  have Z:((n:Int) == 4)=false:=by simp;omega
  go_enter Tryz.func103, Tryz.ntmps103;go_wp2_with fail;go_ret;exact ⟨rb HI.out.symm,Below.refl _ _⟩
 | false =>
  have HI:Hid (indB xs false=((n:Int) == 0)):=by
   have hl:=HL.out;unfold Hid;rw [indB,if_neg (by simp),Bool.eq_iff_iff,hl];simp
  go_enter Tryz.func103, Tryz.ntmps103;go_wp2_with fail;go_ret;exact ⟨rb HI.out.symm,Below.refl _ _⟩
end

section
open Go.RowKit
def wordK (k:Int):ByteArray:=if k=0 then ⟨#[111,110,101]⟩ else if k=1 then ⟨#[110,101,120,116]⟩ else if k=2 then ⟨#[101,100,103,101]⟩ else if k=3 then ⟨#[97,108,108]⟩ else if k=4 then ⟨#[114,111,108,101]⟩ else if k=5 then ⟨#[102,97,99,116]⟩ else if k=6 then ⟨#[112,97,105,114]⟩ else ⟨#[]⟩
def knownK (k:Int):Bool:=decide (0≤k∧k≤6)
def shapeV (k:Int):Array Value:=#[.string (wordK k),.bool (hasF k),.bool (hasR k),.bool (hasU k),.bool (hasX k),.bool (hasY k),.bool (hasI k),.bool (hasP k)]
set_option maxRecDepth 100000 in
set_option maxHeartbeats 1000000 in
theorem shapeOf_0 (w:World):Calls Tryz.prog 74 #[.int .i64 0] w fun e w'=>e=.returned (.tuple #[.agg (shapeV 0),.bool true])∧Below w.heap.size w w':=by
 have o:∀ V:World,(Instr.build 124 #[(0,.string ⟨#[111,110,101]⟩),(4,.bool true)]).run Tryz.prog V=.ok (.agg #[.string ⟨#[111,110,101]⟩,.bool false,.bool false,.bool false,.bool true,.bool false,.bool false,.bool false]) V:=fun V=>run_build V _ _ _ (by kernel_rfl)
 have HV:Hid (shapeV 0=#[.string ⟨#[111,110,101]⟩,.bool false,.bool false,.bool false,.bool true,.bool false,.bool false,.bool false]):=by unfold Hid;simp [shapeV,wordK,hasF,hasR,hasU,hasX,hasY,hasI,hasP]
 have q:Hid (Below w.heap.size w (w.alloc (.cells #[.string ⟨#[111,110,101]⟩,.bool false,.bool false,.bool false,.bool true,.bool false,.bool false,.bool false] 124))):=(Below.refl _ _).alloc (Nat.le_refl _) _;go_enter Tryz.func74, Tryz.ntmps74;go_wp2_with fail;refine bodyPost_ret (v:=.tuple #[.agg #[.string ⟨#[111,110,101]⟩,.bool false,.bool false,.bool false,.bool true,.bool false,.bool false,.bool false],.bool true]) (by simp [results, Tryz.results74,go_sem]) rfl ⟨by rw [HV.out],q.out⟩
set_option maxRecDepth 100000 in
set_option maxHeartbeats 1000000 in
theorem shapeOf_1 (w:World):Calls Tryz.prog 74 #[.int .i64 1] w fun e w'=>e=.returned (.tuple #[.agg (shapeV 1),.bool true])∧Below w.heap.size w w':=by
 have o:∀ V:World,(Instr.build 124 #[(0,.string ⟨#[110,101,120,116]⟩),(1,.bool true),(4,.bool true),(5,.bool true)]).run Tryz.prog V=.ok (.agg #[.string ⟨#[110,101,120,116]⟩,.bool true,.bool false,.bool false,.bool true,.bool true,.bool false,.bool false]) V:=fun V=>run_build V _ _ _ (by kernel_rfl)
 have HV:Hid (shapeV 1=#[.string ⟨#[110,101,120,116]⟩,.bool true,.bool false,.bool false,.bool true,.bool true,.bool false,.bool false]):=by unfold Hid;simp [shapeV,wordK,hasF,hasR,hasU,hasX,hasY,hasI,hasP]
 have q:Hid (Below w.heap.size w (w.alloc (.cells #[.string ⟨#[110,101,120,116]⟩,.bool true,.bool false,.bool false,.bool true,.bool true,.bool false,.bool false] 124))):=(Below.refl _ _).alloc (Nat.le_refl _) _;go_enter Tryz.func74, Tryz.ntmps74;go_wp2_with fail;refine bodyPost_ret (v:=.tuple #[.agg #[.string ⟨#[110,101,120,116]⟩,.bool true,.bool false,.bool false,.bool true,.bool true,.bool false,.bool false],.bool true]) (by simp [results, Tryz.results74,go_sem]) rfl ⟨by rw [HV.out],q.out⟩
set_option maxRecDepth 100000 in
set_option maxHeartbeats 1000000 in
theorem shapeOf_2 (w:World):Calls Tryz.prog 74 #[.int .i64 2] w fun e w'=>e=.returned (.tuple #[.agg (shapeV 2),.bool true])∧Below w.heap.size w w':=by
 have o:∀ V:World,(Instr.build 124 #[(0,.string ⟨#[101,100,103,101]⟩),(1,.bool true),(2,.bool true),(4,.bool true)]).run Tryz.prog V=.ok (.agg #[.string ⟨#[101,100,103,101]⟩,.bool true,.bool true,.bool false,.bool true,.bool false,.bool false,.bool false]) V:=fun V=>run_build V _ _ _ (by kernel_rfl)
 have HV:Hid (shapeV 2=#[.string ⟨#[101,100,103,101]⟩,.bool true,.bool true,.bool false,.bool true,.bool false,.bool false,.bool false]):=by unfold Hid;simp [shapeV,wordK,hasF,hasR,hasU,hasX,hasY,hasI,hasP]
 have q:Hid (Below w.heap.size w (w.alloc (.cells #[.string ⟨#[101,100,103,101]⟩,.bool true,.bool true,.bool false,.bool true,.bool false,.bool false,.bool false] 124))):=(Below.refl _ _).alloc (Nat.le_refl _) _;go_enter Tryz.func74, Tryz.ntmps74;go_wp2_with fail;refine bodyPost_ret (v:=.tuple #[.agg #[.string ⟨#[101,100,103,101]⟩,.bool true,.bool true,.bool false,.bool true,.bool false,.bool false,.bool false],.bool true]) (by simp [results, Tryz.results74,go_sem]) rfl ⟨by rw [HV.out],q.out⟩
set_option maxRecDepth 100000 in
set_option maxHeartbeats 1000000 in
theorem shapeOf_3 (w:World):Calls Tryz.prog 74 #[.int .i64 3] w fun e w'=>e=.returned (.tuple #[.agg (shapeV 3),.bool true])∧Below w.heap.size w w':=by
 have o:∀ V:World,(Instr.build 124 #[(0,.string ⟨#[97,108,108]⟩),(2,.bool true),(4,.bool true),(5,.bool true)]).run Tryz.prog V=.ok (.agg #[.string ⟨#[97,108,108]⟩,.bool false,.bool true,.bool false,.bool true,.bool true,.bool false,.bool false]) V:=fun V=>run_build V _ _ _ (by kernel_rfl)
 have HV:Hid (shapeV 3=#[.string ⟨#[97,108,108]⟩,.bool false,.bool true,.bool false,.bool true,.bool true,.bool false,.bool false]):=by unfold Hid;simp [shapeV,wordK,hasF,hasR,hasU,hasX,hasY,hasI,hasP]
 have q:Hid (Below w.heap.size w (w.alloc (.cells #[.string ⟨#[97,108,108]⟩,.bool false,.bool true,.bool false,.bool true,.bool true,.bool false,.bool false] 124))):=(Below.refl _ _).alloc (Nat.le_refl _) _;go_enter Tryz.func74, Tryz.ntmps74;go_wp2_with fail;refine bodyPost_ret (v:=.tuple #[.agg #[.string ⟨#[97,108,108]⟩,.bool false,.bool true,.bool false,.bool true,.bool true,.bool false,.bool false],.bool true]) (by simp [results, Tryz.results74,go_sem]) rfl ⟨by rw [HV.out],q.out⟩
set_option maxRecDepth 100000 in
set_option maxHeartbeats 1000000 in
theorem shapeOf_4 (w:World):Calls Tryz.prog 74 #[.int .i64 4] w fun e w'=>e=.returned (.tuple #[.agg (shapeV 4),.bool true])∧Below w.heap.size w w':=by
 have o:∀ V:World,(Instr.build 124 #[(0,.string ⟨#[114,111,108,101]⟩),(2,.bool true),(3,.bool true)]).run Tryz.prog V=.ok (.agg #[.string ⟨#[114,111,108,101]⟩,.bool false,.bool true,.bool true,.bool false,.bool false,.bool false,.bool false]) V:=fun V=>run_build V _ _ _ (by kernel_rfl)
 have HV:Hid (shapeV 4=#[.string ⟨#[114,111,108,101]⟩,.bool false,.bool true,.bool true,.bool false,.bool false,.bool false,.bool false]):=by unfold Hid;simp [shapeV,wordK,hasF,hasR,hasU,hasX,hasY,hasI,hasP]
 have q:Hid (Below w.heap.size w (w.alloc (.cells #[.string ⟨#[114,111,108,101]⟩,.bool false,.bool true,.bool true,.bool false,.bool false,.bool false,.bool false] 124))):=(Below.refl _ _).alloc (Nat.le_refl _) _;go_enter Tryz.func74, Tryz.ntmps74;go_wp2_with fail;refine bodyPost_ret (v:=.tuple #[.agg #[.string ⟨#[114,111,108,101]⟩,.bool false,.bool true,.bool true,.bool false,.bool false,.bool false,.bool false],.bool true]) (by simp [results, Tryz.results74,go_sem]) rfl ⟨by rw [HV.out],q.out⟩
set_option maxRecDepth 100000 in
set_option maxHeartbeats 1000000 in
theorem shapeOf_5 (w:World):Calls Tryz.prog 74 #[.int .i64 5] w fun e w'=>e=.returned (.tuple #[.agg (shapeV 5),.bool true])∧Below w.heap.size w w':=by
 have o:∀ V:World,(Instr.build 124 #[(0,.string ⟨#[102,97,99,116]⟩),(6,.bool true)]).run Tryz.prog V=.ok (.agg #[.string ⟨#[102,97,99,116]⟩,.bool false,.bool false,.bool false,.bool false,.bool false,.bool true,.bool false]) V:=fun V=>run_build V _ _ _ (by kernel_rfl)
 have HV:Hid (shapeV 5=#[.string ⟨#[102,97,99,116]⟩,.bool false,.bool false,.bool false,.bool false,.bool false,.bool true,.bool false]):=by unfold Hid;simp [shapeV,wordK,hasF,hasR,hasU,hasX,hasY,hasI,hasP]
 have q:Hid (Below w.heap.size w (w.alloc (.cells #[.string ⟨#[102,97,99,116]⟩,.bool false,.bool false,.bool false,.bool false,.bool false,.bool true,.bool false] 124))):=(Below.refl _ _).alloc (Nat.le_refl _) _;go_enter Tryz.func74, Tryz.ntmps74;go_wp2_with fail;refine bodyPost_ret (v:=.tuple #[.agg #[.string ⟨#[102,97,99,116]⟩,.bool false,.bool false,.bool false,.bool false,.bool false,.bool true,.bool false],.bool true]) (by simp [results, Tryz.results74,go_sem]) rfl ⟨by rw [HV.out],q.out⟩
set_option maxRecDepth 100000 in
set_option maxHeartbeats 1000000 in
theorem shapeOf_6 (w:World):Calls Tryz.prog 74 #[.int .i64 6] w fun e w'=>e=.returned (.tuple #[.agg (shapeV 6),.bool true])∧Below w.heap.size w w':=by
 have o:∀ V:World,(Instr.build 124 #[(0,.string ⟨#[112,97,105,114]⟩),(2,.bool true),(7,.bool true)]).run Tryz.prog V=.ok (.agg #[.string ⟨#[112,97,105,114]⟩,.bool false,.bool true,.bool false,.bool false,.bool false,.bool false,.bool true]) V:=fun V=>run_build V _ _ _ (by kernel_rfl)
 have HV:Hid (shapeV 6=#[.string ⟨#[112,97,105,114]⟩,.bool false,.bool true,.bool false,.bool false,.bool false,.bool false,.bool true]):=by unfold Hid;simp [shapeV,wordK,hasF,hasR,hasU,hasX,hasY,hasI,hasP]
 have q:Hid (Below w.heap.size w (w.alloc (.cells #[.string ⟨#[112,97,105,114]⟩,.bool false,.bool true,.bool false,.bool false,.bool false,.bool false,.bool true] 124))):=(Below.refl _ _).alloc (Nat.le_refl _) _;go_enter Tryz.func74, Tryz.ntmps74;go_wp2_with fail;refine bodyPost_ret (v:=.tuple #[.agg #[.string ⟨#[112,97,105,114]⟩,.bool false,.bool true,.bool false,.bool false,.bool false,.bool false,.bool true],.bool true]) (by simp [results, Tryz.results74,go_sem]) rfl ⟨by rw [HV.out],q.out⟩
set_option maxRecDepth 100000 in
set_option maxHeartbeats 1000000 in
theorem shapeOf_none {k:Int} (h:¬ (0≤k∧k≤6)) (w:World):Calls Tryz.prog 74 #[.int .i64 k] w fun e w'=>e=.returned (.tuple #[.agg (shapeV k),.bool false])∧Below w.heap.size w w':=by
 have o:∀ V:World,(Instr.build 124 #[]).run Tryz.prog V=.ok (.agg #[.string ⟨#[]⟩,.bool false,.bool false,.bool false,.bool false,.bool false,.bool false,.bool false]) V:=fun V=>run_build V _ _ _ (by kernel_rfl)
 have n0:(k == 0)=false:=by simp;omega
 have n1:(k == 1)=false:=by simp;omega
 have n2:(k == 2)=false:=by simp;omega
 have n3:(k == 3)=false:=by simp;omega
 have n4:(k == 4)=false:=by simp;omega
 have n5:(k == 5)=false:=by simp;omega
 have n6:(k == 6)=false:=by simp;omega
 have HV:Hid (shapeV k=#[.string ⟨#[]⟩,.bool false,.bool false,.bool false,.bool false,.bool false,.bool false,.bool false]):=by
  have m0:¬ k=0:=by omega
  have m1:¬ k=1:=by omega
  have m2:¬ k=2:=by omega
  have m3:¬ k=3:=by omega
  have m4:¬ k=4:=by omega
  have m5:¬ k=5:=by omega
  have m6:¬ k=6:=by omega
  unfold Hid;simp [shapeV,wordK,hasF,hasR,hasU,hasX,hasY,hasI,hasP,m0,m1,m2,m3,m4,m5,m6]
 have q:Hid (Below w.heap.size w (w.alloc (.cells #[.string ⟨#[]⟩,.bool false,.bool false,.bool false,.bool false,.bool false,.bool false,.bool false] 124))):=(Below.refl _ _).alloc (Nat.le_refl _) _;clear h;go_enter Tryz.func74, Tryz.ntmps74;go_wp2_with fail;refine bodyPost_ret (v:=.tuple #[.agg #[.string ⟨#[]⟩,.bool false,.bool false,.bool false,.bool false,.bool false,.bool false,.bool false],.bool false]) (by simp [results, Tryz.results74,go_sem]) rfl ⟨by rw [HV.out],q.out⟩
theorem shapeOf_any (k:Int) (w:World):Calls Tryz.prog 74 #[.int .i64 k] w fun e w'=>e=.returned (.tuple #[.agg (shapeV k),.bool (knownK k)])∧Below w.heap.size w w':=by
 by_cases h:0≤k∧k≤6
 · have e:knownK k=true:=decide_eq_true h;rw [e];rcases (by omega:k=0∨k=1∨k=2∨k=3∨k=4∨k=5∨k=6) with rfl | rfl | rfl | rfl | rfl | rfl | rfl
   · exact shapeOf_0 w
   · exact shapeOf_1 w
   · exact shapeOf_2 w
   · exact shapeOf_3 w
   · exact shapeOf_4 w
   · exact shapeOf_5 w
   exact shapeOf_6 w
 have e:knownK k=false:=decide_eq_false h;rw [e];exact shapeOf_none h w
end

section
open Go.RowKit
end

end Go.Proofs.YtellcgmabimieaaGreatDoor
