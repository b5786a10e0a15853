/- Several texts in one: ConSame, ConPlace. -/
import Derived.Test.YtellcgmabimieaaGreatDoorNG6
import Derived.Test.YtellcgmabimieaaGreatDoorNG2
import Derived.Test.YtellcgmabimieaaGreatDoorConTo
import Derived.Deep.RegionWith
import Derived.Deep.DeepCutAuto
import Derived.Test.YtellcgmabimieaaGreatDoorConTell
namespace Go.Proofs.YtellcgmabimieaaGreatDoor

section
open Go.RowKit
mutual
def sameC:CN→CN→Bool
 | .mk k n r ks,.mk k' n' r' ks'=>decide (k=k') && (decide (n=n') && (decide (r=r') && sameL ks ks'))
def sameL:List CN→List CN→Bool
 | [],[]=>true
 | a :: A,b :: z=>sameC a b && sameL A z
 | _,_=>false
end
mutual
theorem sameC_iff:∀ a b:CN,sameC a b=true ↔ a=b
 | .mk k n r ks,.mk k' n' r' ks'=>by
  rw [sameC];simp only [Bool.and_eq_true,decide_eq_true_eq,sameL_iff ks ks',CN.mk.injEq]
theorem sameL_iff:∀ A z:List CN,sameL A z=true ↔ A=z
 | [],[]=>by simp [sameL]
 | a :: A,b :: z=>by
  rw [sameL,Bool.and_eq_true,sameC_iff a b,sameL_iff A z,List.cons.injEq]
 | [],b :: z=>by simp [sameL]
 | a :: A,[]=>by simp [sameL]
end
theorem sameC_eq (c c':CN):sameC c c'=(decide (c.kind=c'.kind) && (decide (c.name=c'.name) && (decide (c.role=c'.role) && sameL c.kids c'.kids))):=by
 cases c;cases c';rw [sameC];rfl
theorem sameL_false_of {A z:List CN} (h:A≠z):sameL A z=false:=by
 cases e:sameL A z
 · rfl
 exact absurd ((sameL_iff A z).1 e) h
theorem str_inj {xs ys:List Int} (hx:∀ i,0≤xs.getD i 0∧xs.getD i 0≤255) (hy:∀ i,0≤ys.getD i 0∧ys.getD i 0≤255):((strOfNums xs).toList == (strOfNums ys).toList)=decide (xs=ys):=by
 have e:∀ zs:List Int,(strOfNums zs).toList=zs.map (fun n=>UInt8.ofNat n.toNat):=fun zs=>by rw [ByteArray.toList_eq];rfl
 rw [e,e];by_cases h:xs=ys
 · subst h;simp
 rw [decide_eq_false h];cases hb:(xs.map (fun n:Int=>UInt8.ofNat n.toNat) == ys.map (fun n:Int=>UInt8.ofNat n.toNat))
 · rfl
 refine absurd ?_ h;have aB:=eq_of_beq hb;have hl:xs.length=ys.length:=by have:=congrArg List.length aB;simpa using this
 refine List.ext_getElem hl (fun i h1 h2=>?_);have hi:=congrArg (fun l=>l[i]?) aB;simp only [List.getElem?_map,List.getElem?_eq_getElem h1,List.getElem?_eq_getElem h2,Option.map_some,Option.some.injEq] at hi;have a1:=hx i;have a2:=hy i;simp only [List.getD,List.getElem?_eq_getElem h1,List.getElem?_eq_getElem h2,Option.getD_some] at a1 a2;have hi':=congrArg UInt8.toNat hi;simp only [UInt8.toNat_ofNat'] at hi';omega
set_option maxRecDepth 100000 in
set_option maxHeartbeats 1000000 in
theorem bytesEqual_any {a a':Option Addr} {n F n' cap':Nat} {xs ys:List Int} {w:World} {lo hi lo' hi':Nat} (h:Rd lo hi w a n F xs) (h':Rd lo' hi' w a' n' cap' ys):Calls Tryz.prog 135 #[.slice a n F,.slice a' n' cap'] w fun e w'=>e=.returned (.bool (decide (xs=ys)))∧w'=w:=by
 have aK:(convert 89 9 (.slice a n F)).run Tryz.prog w=.ok (.string (strOfNums xs)) w:=conv_any h;have aJ:(convert 89 9 (.slice a' n' cap')).run Tryz.prog w=.ok (.string (strOfNums ys)) w:=conv_any h';have hE:=str_inj h.byte h'.byte;obtain ⟨s,hs⟩:∃ s,s=strOfNums xs:=⟨_,rfl⟩;obtain ⟨t,ht⟩:∃ t,t=strOfNums ys:=⟨_,rfl⟩;obtain ⟨b,hb⟩:∃ b,b=decide (xs=ys):=⟨_,rfl⟩;rw [← hb];rw [← hs] at aK hE;rw [← ht,← hb] at hE;rw [← ht] at aJ;clear h h' hs ht hb;go_enter Tryz.func135, Tryz.ntmps135;go_wp2;go_ret;exact ⟨by first | rfl | exact rb hE,rfl⟩
def SmC (d:Nat):Prop:=∀ (v v':Value) (c c':CN) (d':Nat) (w:World) (lo hi lo' hi':Nat),RdC lo hi w d v c→RdC lo' hi' w d' v' c'→hi≤w.heap.size→hi'≤w.heap.size →
 Calls Tryz.prog 121 #[v,v'] w fun e w'=>e=.returned (.bool (sameC c c'))∧Below w.heap.size w w'
def SmL (d d':Nat):Prop:=∀ (a:Option Addr) (n F:Nat) (cs:List CN) (a':Option Addr) (n' cap':Nat) (cs':List CN) (w:World) (lo hi lo' hi':Nat),RdL (RdC lo hi w d) lo hi w a n F cs→RdL (RdC lo' hi' w d') lo' hi' w a' n' cap' cs'→hi≤w.heap.size→hi'≤w.heap.size →
 Calls Tryz.prog 136 #[.slice a n F,.slice a' n' cap',.func (.func 121) #[] #[]] w fun e w'=>e=.returned (.bool (sameL cs cs'))∧Below w.heap.size w w'
set_option maxRecDepth 100000 in
set_option maxHeartbeats 2000000 in
theorem smL_of {d d':Nat} (H:SmC d):SmL d d':=by
 intro a n F cs a' n' cap' cs' w lo hi lo' hi' h h' q o;have HR:Hid (RdL (RdC lo hi w d) lo hi w a n F cs):=h;have N:Hid (RdL (RdC lo' hi' w d') lo' hi' w a' n' cap' cs'):=h';have HL:Hid (cs.length=n):=h.len;have ap:Hid (cs'.length=n'):=h'.len;have aP:=h.fits;have aE:=h'.fits;clear h h';by_cases hnn:n=n'
 · subst hnn;have aU:((n:Int) != (n:Int))=false:=by simp
   go_enter Tryz.func136, Tryz.ntmps136;go_wp2_with fail;go_loopw [17] (fun i wr=>∃ j:Nat,j≤n∧i=.int .i64 j∧cs.take j=cs'.take j∧Below w.heap.size w wr) (fun i _=>n - (intOf i).toNat)
   case atStart=>exact ⟨0,Nat.zero_le _,rfl,by simp,Below.refl _ _⟩
   case round =>
    obtain ⟨j,hj,rfl,ak,u⟩:=hrel;have HT:Hid (cs.take j=cs'.take j):=ak;have aN:Hid (Below w.heap.size w wr):=u;by_cases hlt:j<n
    · have aT:(j:Int)<(n:Int):=by omega
      have aI:j<cs.length:=by rw [HL.out];exact hlt
      have aq:j<cs'.length:=by rw [ap.out];exact hlt
      have hR:=HR.out.below u q;have aC:=N.out.below u o;rcases hR.cells with hz | ⟨b,aS,e1,_,aR,hc⟩
      · omega
      rcases aC.cells with hz | ⟨b',off',aL,_,aG,ax⟩
      · omega
      subst e1;subst aL;obtain ⟨v0,v1,v2,v3,q0,q1,q2,q3,al⟩:=hc j hlt;obtain ⟨u0,u1,u2,u3,p0,p1,p2,p3,I⟩:=ax j hlt;obtain ⟨yk,a7,a5,a6,a4,a0,a3,aa,a8,a9,rfl,rfl,rfl,rfl⟩:=al.sh.form;obtain ⟨xk,ag,ae,af,ad,ab,ac,aj,ah,ai,rfl,rfl,rfl,rfl⟩:=I.sh.form;have aH:=u.size;have aQ:b<wr.heap.size:=by omega
      have aF:b'<wr.heap.size:=by omega
      obtain ⟨W4,an⟩:∃ W4,W4=(wr.alloc (.cells #[.int .i64 yk,.slice a7 a5 a6,.slice a4 a0 a3,.slice aa a8 a9] 104)).alloc (.cells #[.int .i64 xk,.slice ag ae af,.slice ad ab ac,.slice aj ah ai] 104):=⟨_,rfl⟩;have aM:Hid (W4=(wr.alloc (.cells #[.int .i64 yk,.slice a7 a5 a6,.slice a4 a0 a3,.slice aa a8 a9] 104)).alloc (.cells #[.int .i64 xk,.slice ag ae af,.slice ad ab ac,.slice aj ah ai] 104)):=an;have U:Below wr.heap.size wr W4:=by rw [an];exact ((Below.refl _ _).alloc (Nat.le_refl _) _).alloc (by simp) _
      have HA:Hid (RdC lo hi W4 d (.agg #[.int .i64 yk,.slice a7 a5 a6,.slice a4 a0 a3,.slice aa a8 a9]) (cs.getD j CN.zero)):=al.below U (by omega);have aO:Hid (RdC lo' hi' W4 d' (.agg #[.int .i64 xk,.slice ag ae af,.slice ad ab ac,.slice aj ah ai]) (cs'.getD j CN.zero)):=I.below U (by omega);have Z:Hid (Below w.heap.size w W4):=u.trans (U.mono aH);obtain ⟨r,hr⟩:∃ r,r=sameC (cs.getD j CN.zero) (cs'.getD j CN.zero):=⟨_,rfl⟩;have ao:Hid (r=sameC (cs.getD j CN.zero) (cs'.getD j CN.zero)):=hr;clear hR aC hc ax al I U an u ak hr;go_wp2_with fail;rw [← aM.out];refine (H _ _ (cs.getD j CN.zero) (cs'.getD j CN.zero) d' W4 lo hi lo' hi' HA.out aO.out (Nat.le_trans q Z.out.size) (Nat.le_trans o Z.out.size)).mono ?_;rintro e w5 ⟨rfl,aA⟩;rw [← ao.out];have aD:Hid (Below w.heap.size w w5):=Z.out.trans (aA.mono Z.out.size);clear aA;cases r with
      | false =>
       have HF:Hid (sameL cs cs'=false):=sameL_false_of (fun e=>by
        have h1:=ao.out;rw [e] at h1;rw [(sameC_iff _ _).2 rfl] at h1
        cases h1)
       go_wp2_with fail;go_ret;exact ⟨rb HF.out.symm,aD.out⟩
      | true =>
       have HF:Hid (cs.take (j+1)=cs'.take (j+1)):=by
        unfold Hid;rw [take_succ_getD cs CN.zero j aI,take_succ_getD cs' CN.zero j aq,HT.out,(sameC_iff _ _).1 ao.out.symm]
       go_wp2_with fail;go_roundw
       case rel=>exact ⟨j+1,by omega,by go_num,HF.out,aD.out⟩
       case measure=>simp [intOf];omega
    have HF:Hid (sameL cs cs'=true):=(sameL_iff _ _).2 (by
     have h1:=HT.out
     rwa [List.take_of_length_le (by rw [HL.out];omega),List.take_of_length_le (by rw [ap.out];omega)] at h1)
    clear ak u;go_wp2_with fail;go_ret;exact ⟨rb HF.out.symm,aN.out⟩
 have hb:((n:Int) != (n':Int))=true:=by simp;omega
 have HF:Hid (sameL cs cs'=false):=sameL_false_of (fun e=>hnn (by rw [← HL.out,← ap.out,e]));clear hnn;go_enter Tryz.func136, Tryz.ntmps136;go_wp2_with fail;go_ret;exact ⟨rb HF.out.symm,Below.refl _ _⟩
set_option maxRecDepth 100000 in
set_option maxHeartbeats 4000000 in
theorem smC_of {d:Nat} (H0:∀ d0,d=d0+1→∀ d',SmL d0 d'):SmC d:=by
 intro v v' c c' d' w lo hi lo' hi' h h' q o;cases d with
 | zero=>exact h.elim
 | succ d =>
  cases d' with
  | zero=>exact h'.elim
  | succ d' =>
   have H:=H0 d rfl d';obtain ⟨na,nn,nc,ra,rn,rc,ka,kn,kc,rfl,hn,hr,av⟩:=h;obtain ⟨na',nn',nc',ra',rn',rc',ka',kn',kc',rfl,au,ar,T⟩:=h';obtain ⟨k,hk⟩:∃ k,k=c.kind:=⟨_,rfl⟩;obtain ⟨k',am⟩:∃ k,k=c'.kind:=⟨_,rfl⟩;rw [← hk,← am];have HZ:Hid (sameC c c'=(decide (k=k') && (decide (c.name=c'.name) && (decide (c.role=c'.role) && sameL c.kids c'.kids)))):=by unfold Hid;rw [hk,am];exact sameC_eq c c'
   obtain ⟨W0,O⟩:∃ W0,W0=(w.alloc (.cells #[.int .i64 k,.slice na nn nc,.slice ra rn rc,.slice ka kn kc] 104)).alloc (.cells #[.int .i64 k',.slice na' nn' nc',.slice ra' rn' rc',.slice ka' kn' kc'] 104):=⟨_,rfl⟩;have R:Hid (W0=(w.alloc (.cells #[.int .i64 k,.slice na nn nc,.slice ra rn rc,.slice ka kn kc] 104)).alloc (.cells #[.int .i64 k',.slice na' nn' nc',.slice ra' rn' rc',.slice ka' kn' kc'] 104)):=O;have HB:Hid (Below w.heap.size w W0):=by rw [O];exact ((Below.refl _ _).alloc (Nat.le_refl _) _).alloc (by simp) _
   have az:BoxC W0 w.heap.size (.int .i64 k) (.slice na nn nc) (.slice ra rn rc) (.slice ka kn kc):=by rw [O];exact (BoxC.new w _ _ _ _).below ((Below.refl _ _).alloc (Nat.le_refl _) _) (by simp)
   have ay:BoxC W0 (w.heap.size+1) (.int .i64 k') (.slice na' nn' nc') (.slice ra' rn' rc') (.slice ka' kn' kc'):=by
    rw [O];have:=BoxC.new (w.alloc (.cells #[.int .i64 k,.slice na nn nc,.slice ra rn rc,.slice ka kn kc] 104)) (.int .i64 k') (.slice na' nn' nc') (.slice ra' rn' rc') (.slice ka' kn' kc')
    rwa [World.size_alloc] at this
   obtain ⟨z0,z1,z2,z3⟩:=az.cells;obtain ⟨y0,y1,y2,y3⟩:=ay.cells;have HN:Hid (Rd lo hi w na nn nc c.name):=hn;have HR:Hid (Rd lo hi w ra rn rc c.role):=hr;have Y:Hid (RdL (RdC lo hi w d) lo hi w ka kn kc c.kids):=av;have V:Hid (Rd lo' hi' w na' nn' nc' c'.name):=au;have N:Hid (Rd lo' hi' w ra' rn' rc' c'.role):=ar;have E:Hid (RdL (RdC lo' hi' w d') lo' hi' w ka' kn' kc' c'.kids):=T;clear hk am hn hr av au ar T O az ay H0;by_cases h0:k=k'
   · have b0:(k == k')=true:=by simpa using h0
     cases L:decide (c.name=c'.name)
     · have HE:Hid (sameC c c'=false):=by unfold Hid;rw [HZ.out];simp [L]
       clear h0;go_enter Tryz.func121, Tryz.ntmps121;go_upto_region 1 with fail;rw [← R.out];go_wp2_with (first | (go_at_call_of 135 na;refine (bytesEqual_any (HN.out.below HB.out q) (V.out.below HB.out o)).mono ?_;rintro e w' ⟨rfl,hw⟩;rw [hw,L];clear hw) | (go_at_call_of 135 ra;refine (bytesEqual_any (HR.out.below HB.out q) (N.out.below HB.out o)).mono ?_;rintro e w' ⟨rfl,hw⟩;rw [hw,J];clear hw) | (go_at_call 136;refine (H ka kn kc c.kids ka' kn' kc' c'.kids W0 lo hi lo' hi' (Y.out.below HB.out q) (E.out.below HB.out o) (Nat.le_trans q HB.out.size) (Nat.le_trans o HB.out.size)).mono ?_;rintro e w1 ⟨rfl,D⟩;rw [M];have G:Hid (Below w.heap.size w w1):=HB.out.trans (D.mono HB.out.size);clear D));go_ret;exact ⟨rb HE.out.symm,by first | exact G.out | exact HB.out⟩
     cases J:decide (c.role=c'.role)
     · have HE:Hid (sameC c c'=false):=by unfold Hid;rw [HZ.out];simp [J]
       clear h0;go_enter Tryz.func121, Tryz.ntmps121;go_upto_region 1 with fail;rw [← R.out];go_wp2_with (first | (go_at_call_of 135 na;refine (bytesEqual_any (HN.out.below HB.out q) (V.out.below HB.out o)).mono ?_;rintro e w' ⟨rfl,hw⟩;rw [hw,L];clear hw) | (go_at_call_of 135 ra;refine (bytesEqual_any (HR.out.below HB.out q) (N.out.below HB.out o)).mono ?_;rintro e w' ⟨rfl,hw⟩;rw [hw,J];clear hw) | (go_at_call 136;refine (H ka kn kc c.kids ka' kn' kc' c'.kids W0 lo hi lo' hi' (Y.out.below HB.out q) (E.out.below HB.out o) (Nat.le_trans q HB.out.size) (Nat.le_trans o HB.out.size)).mono ?_;rintro e w1 ⟨rfl,D⟩;rw [M];have G:Hid (Below w.heap.size w w1):=HB.out.trans (D.mono HB.out.size);clear D));go_ret;exact ⟨rb HE.out.symm,by first | exact G.out | exact HB.out⟩
     cases M:sameL c.kids c'.kids
     · have HE:Hid (sameC c c'=false):=by unfold Hid;rw [HZ.out];simp [M]
       clear h0;go_enter Tryz.func121, Tryz.ntmps121;go_upto_region 1 with fail;rw [← R.out];go_wp2_with (first | (go_at_call_of 135 na;refine (bytesEqual_any (HN.out.below HB.out q) (V.out.below HB.out o)).mono ?_;rintro e w' ⟨rfl,hw⟩;rw [hw,L];clear hw) | (go_at_call_of 135 ra;refine (bytesEqual_any (HR.out.below HB.out q) (N.out.below HB.out o)).mono ?_;rintro e w' ⟨rfl,hw⟩;rw [hw,J];clear hw) | (go_at_call 136;refine (H ka kn kc c.kids ka' kn' kc' c'.kids W0 lo hi lo' hi' (Y.out.below HB.out q) (E.out.below HB.out o) (Nat.le_trans q HB.out.size) (Nat.le_trans o HB.out.size)).mono ?_;rintro e w1 ⟨rfl,D⟩;rw [M];have G:Hid (Below w.heap.size w w1):=HB.out.trans (D.mono HB.out.size);clear D));go_ret;exact ⟨rb HE.out.symm,by first | exact G.out | exact HB.out⟩
     have HE:Hid (sameC c c'=true):=by unfold Hid;rw [HZ.out];simp [h0,L,J,M]
     clear h0;go_enter Tryz.func121, Tryz.ntmps121;go_upto_region 1 with fail;rw [← R.out];go_wp2_with (first | (go_at_call_of 135 na;refine (bytesEqual_any (HN.out.below HB.out q) (V.out.below HB.out o)).mono ?_;rintro e w' ⟨rfl,hw⟩;rw [hw,L];clear hw) | (go_at_call_of 135 ra;refine (bytesEqual_any (HR.out.below HB.out q) (N.out.below HB.out o)).mono ?_;rintro e w' ⟨rfl,hw⟩;rw [hw,J];clear hw) | (go_at_call 136;refine (H ka kn kc c.kids ka' kn' kc' c'.kids W0 lo hi lo' hi' (Y.out.below HB.out q) (E.out.below HB.out o) (Nat.le_trans q HB.out.size) (Nat.le_trans o HB.out.size)).mono ?_;rintro e w1 ⟨rfl,D⟩;rw [M];have G:Hid (Below w.heap.size w w1):=HB.out.trans (D.mono HB.out.size);clear D));go_ret;exact ⟨rb HE.out.symm,by first | exact G.out | exact HB.out⟩
   have b0:(k == k')=false:=by simpa using h0
   have HE:Hid (sameC c c'=false):=by unfold Hid;rw [HZ.out];simp [h0]
   clear h0;go_enter Tryz.func121, Tryz.ntmps121;go_upto_region 1 with fail;rw [← R.out];go_wp2_with fail;go_ret;exact ⟨rb HE.out.symm,HB.out⟩
theorem smC_any:∀ d,SmC d
 | 0=>smC_of (fun d0 h=>by omega)
 | d+1=>smC_of (fun d0 h d'=>by obtain rfl:d=d0:=(by omega);exact smL_of (smC_any d))
end

section
open Go.RowKit
def placeC (l:List CN) (c:CN):Int:=match (List.range l.length).find? (fun i=>sameC (l.getD i CN.zero) c) with | some i=>(i:Int) | none=>-1
def noneC (l:List CN) (c:CN) (j:Nat):Prop:=∀ i,i<j→sameC (l.getD i CN.zero) c=false
theorem noneC_zero (l:List CN) (c:CN):noneC l c 0:=fun i hi=>by omega
theorem noneC_succ {l:List CN} {c:CN} {j:Nat} (h:noneC l c j) (e:sameC (l.getD j CN.zero) c=false):noneC l c (j+1):=fun i hi=>by
 by_cases e':i=j
 · subst e';exact e
 exact h i (by omega)
theorem placeC_some {l:List CN} {c:CN} {j:Nat} (hj:j<l.length) (e:sameC (l.getD j CN.zero) c=true) (h:noneC l c j):placeC l c=j:=by
 unfold placeC;rw [List.find?_range_eq_some.2 ⟨e,by simpa using hj,fun i hi=>by rw [h i hi];rfl⟩]
theorem placeC_none {l:List CN} {c:CN} (h:noneC l c l.length):placeC l c=-1:=by
 unfold placeC;rw [List.find?_eq_none.2 (fun i hi=>by rw [h i (List.mem_range.1 hi)];simp)]
set_option maxRecDepth 100000 in
set_option maxHeartbeats 4000000 in
theorem alike_any {d d' lo hi lo' hi' pb:Nat} {v p0 p1 p2 p3:Value} {x c:CN} {w:World} (h:RdC lo hi w d v x) (h':RdC lo' hi' w d' (.agg #[p0,p1,p2,p3]) c) (I:hi≤w.heap.size) (u:hi'≤w.heap.size) (D:BoxC w pb p0 p1 p2 p3) :
    Calls Tryz.prog 120 #[v,.pointer (some ⟨pb,0,none⟩)] w fun e w'=>e=.returned (.bool (sameC x c))∧Below w.heap.size w w':=by
 have ak:Hid (RdC lo hi w d v x):=h;have ah:Hid (RdC lo' hi' w d' (.agg #[p0,p1,p2,p3]) c):=h';obtain ⟨k,na,nn,nc,ra,rn,rc,ka,kn,kc,rfl⟩:=h.shape;obtain ⟨pk,a5,a3,a4,a2,a0,a1,a8,a6,a7,rfl,rfl,rfl,rfl⟩:=h'.form4;obtain ⟨W0,q⟩:∃ W0,W0=w.alloc (.cells #[.int .i64 k,.slice na nn nc,.slice ra rn rc,.slice ka kn kc] 104):=⟨_,rfl⟩;have M:Hid (W0=w.alloc (.cells #[.int .i64 k,.slice na nn nc,.slice ra rn rc,.slice ka kn kc] 104)):=q;have z:Below w.heap.size w W0:=by rw [q];exact (Below.refl _ _).alloc (Nat.le_refl _) _
 have T:Hid (Below w.heap.size w W0):=z;have aa:w.heap.size<W0.heap.size:=by rw [q];simp
 have J:BoxC W0 w.heap.size (.int .i64 k) (.slice na nn nc) (.slice ra rn rc) (.slice ka kn kc):=by rw [q];exact BoxC.new w _ _ _ _
 obtain ⟨b0,b1,b2,b3⟩:=J.cells;obtain ⟨q0,q1,q2,q3⟩:=(D.below z D.lt).cells;have HA:Hid (RdC lo hi W0 d (.agg #[.int .i64 k,.slice na nn nc,.slice ra rn rc,.slice ka kn kc]) x):=h.below z I;have HC:Hid (RdC lo' hi' W0 d' (.agg #[.int .i64 pk,.slice a5 a3 a4,.slice a2 a0 a1,.slice a8 a6 a7]) c):=h'.below z u;have ad:hi≤W0.heap.size:=by omega
 have L:hi'≤W0.heap.size:=by omega
 obtain ⟨r,hr⟩:∃ r,r=sameC x c:=⟨_,rfl⟩;have HR:Hid (r=sameC x c):=hr;clear z q J h h' hr D;go_enter Tryz.func120, Tryz.ntmps120;go_upto_region 1 with fail;rw [← M.out];go_wp2_with fail;refine (smC_any d _ _ x c d' W0 lo hi lo' hi' HA.out HC.out ad L).mono ?_;rintro e w5 ⟨rfl,A⟩;rw [← HR.out];have G:Hid (Below w.heap.size w w5):=T.out.trans (A.mono (by omega));clear A;go_wp2_with fail;go_ret;exact ⟨by rw [← HR.out];rfl,G.out⟩
set_option maxRecDepth 100000 in
set_option maxHeartbeats 4000000 in
theorem indexAlike_any {d d' lo hi lo' hi' pb n E:Nat} {a:Option Addr} {p0 p1 p2 p3:Value} {cs:List CN} {c:CN} {w:World} (h:RdL (RdC lo hi w d) lo hi w a n E cs) (h':RdC lo' hi' w d' (.agg #[p0,p1,p2,p3]) c) (I:hi≤w.heap.size) (u:hi'≤w.heap.size) (D:BoxC w pb p0 p1 p2 p3) (hn:n≤1048576) :
    Calls Tryz.prog 116 #[.slice a n E,.func (.func 120) #[] #[.pointer (some ⟨pb,0,none⟩)]] w fun e w'=>e=.returned (.int .i64 (placeC cs c))∧Below w.heap.size w w':=by
 have HL:Hid (RdL (RdC lo hi w d) lo hi w a n E cs):=h;have HC:Hid (RdC lo' hi' w d' (.agg #[p0,p1,p2,p3]) c):=h';have R:Hid (BoxC w pb p0 p1 p2 p3):=D;have Y:Hid (cs.length=n):=h.len;have a9:pb<w.heap.size:=D.lt;clear h h' D;go_enter Tryz.func116, Tryz.ntmps116;go_upto_region 2 with fail;go_loopw [8] (fun i wr=>∃ j:Nat,j≤n∧i=.int .i64 j∧noneC cs c j∧Below w.heap.size w wr) (fun i _=>n - (intOf i).toNat)
 case atStart=>exact ⟨0,Nat.zero_le _,rfl,noneC_zero cs c,Below.refl _ _⟩
 case round =>
  obtain ⟨j,hj,rfl,F,o⟩:=hrel;have O:Hid (noneC cs c j):=F;have Z:Hid (Below w.heap.size w wr):=o;have U:=o.size;by_cases hlt:j<n
  · have aj:(j:Int)<(n:Int):=by omega
    have ab:j<cs.length:=by rw [Y.out];exact hlt
    have hR:=HL.out.same (Same.of_below o I);rcases hR.cells with e | ⟨b,ai,rfl,_,_,hc⟩
    · omega
    obtain ⟨v0,v1,v2,v3,q0,q1,q2,q3,V⟩:=hc j hlt;have ae:Hid (RdC lo hi wr d (.agg #[v0,v1,v2,v3]) (cs.getD j CN.zero)):=V;have af:Hid (RdC lo' hi' wr d' (.agg #[p0,p1,p2,p3]) c):=HC.out.below o u;have ag:Hid (BoxC wr pb p0 p1 p2 p3):=R.out.below o a9;have L:hi≤wr.heap.size:=by omega
    have ac:hi'≤wr.heap.size:=by omega
    obtain ⟨r,hr⟩:∃ r,r=sameC (cs.getD j CN.zero) c:=⟨_,rfl⟩;have N:Hid (r=sameC (cs.getD j CN.zero) c):=hr;clear hR hc V hr F o;go_wp2_with fail;refine (alike_any ae.out af.out L ac ag.out).mono ?_;rintro e w5 ⟨rfl,A⟩;rw [← N.out];have G:Hid (Below w.heap.size w w5):=Z.out.trans (A.mono U);clear A;cases r with
    | true =>
     have HP:Hid (placeC cs c=j):=placeC_some ab N.out.symm O.out;go_wp2_with fail;go_ret;exact ⟨by rw [HP.out];rfl,G.out⟩
    | false =>
     have HF:Hid (noneC cs c (j+1)):=noneC_succ O.out N.out.symm;go_wp2_with fail;go_roundw
     case rel=>exact ⟨j+1,by omega,by go_num,HF.out,G.out⟩
     case measure=>simp [intOf];omega
  have HP:Hid (placeC cs c=-1):=placeC_none (by rw [Y.out,show n=j by omega];exact O.out);clear F o;go_wp2_with fail;go_ret;exact ⟨by rw [HP.out];rfl,Z.out⟩
set_option maxRecDepth 100000 in
set_option maxHeartbeats 4000000 in
theorem conIn_any {d d' lo hi lo' hi' n E:Nat} {a:Option Addr} {v:Value} {cs:List CN} {c:CN} {w:World} (h:RdL (RdC lo hi w d) lo hi w a n E cs) (h':RdC lo' hi' w d' v c) (I:hi≤w.heap.size) (u:hi'≤w.heap.size) (hn:n≤1048576) :
    Calls Tryz.prog 97 #[.slice a n E,v] w fun e w'=>e=.returned (.int .i64 (placeC cs c))∧Below w.heap.size w w':=by
 obtain ⟨k,na,nn,nc,ra,rn,rc,ka,kn,kc,rfl⟩:=h'.shape;obtain ⟨W0,q⟩:∃ W0,W0=w.alloc (.cells #[.int .i64 k,.slice na nn nc,.slice ra rn rc,.slice ka kn kc] 104):=⟨_,rfl⟩;have M:Hid (W0=w.alloc (.cells #[.int .i64 k,.slice na nn nc,.slice ra rn rc,.slice ka kn kc] 104)):=q;have z:Below w.heap.size w W0:=by rw [q];exact (Below.refl _ _).alloc (Nat.le_refl _) _
 have T:Hid (Below w.heap.size w W0):=z;have aa:w.heap.size<W0.heap.size:=by rw [q];simp
 have R:Hid (BoxC W0 w.heap.size (.int .i64 k) (.slice na nn nc) (.slice ra rn rc) (.slice ka kn kc)):=by unfold Hid;rw [q];exact BoxC.new w _ _ _ _
 have HL:Hid (RdL (RdC lo hi W0 d) lo hi W0 a n E cs):=h.same (Same.of_below z I);have HC:Hid (RdC lo' hi' W0 d' (.agg #[.int .i64 k,.slice na nn nc,.slice ra rn rc,.slice ka kn kc]) c):=h'.below z u;clear h h' q z;go_enter Tryz.func97, Tryz.ntmps97;go_upto_region 1 with fail;rw [← M.out];go_wp2_with fail;refine (indexAlike_any HL.out HC.out (by omega) (by omega) R.out hn).mono ?_;rintro e w5 ⟨rfl,A⟩;obtain ⟨r,hr⟩:∃ r,r=placeC cs c:=⟨_,rfl⟩;rw [← hr];have HR:Hid (r=placeC cs c):=hr;have G:Hid (Below w.heap.size w w5):=T.out.trans (A.mono (by omega));clear A hr;go_wp2_with fail;go_ret;exact ⟨by rw [← HR.out];rfl,G.out⟩
end

end Go.Proofs.YtellcgmabimieaaGreatDoor
