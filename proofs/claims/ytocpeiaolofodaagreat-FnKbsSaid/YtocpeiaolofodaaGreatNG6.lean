/- Several texts in one: ConTxt, AxMem, ConSpec2. -/
import Derived.Test.YtocpeiaolofodaaGreatNG4
import Derived.Test.YtocpeiaolofodaaGreatNG3
import Derived.Lib.AppendStr
namespace Go.Proofs.YtocpeiaolofodaaGreat

section
open Go.RowKit
def wordOf (k:Int):List Int:=if k=0 then [84,111,112] else if k=1 then [66,111,116] else if k=3 then [78,111,116] else if k=4 then [65,110,100] else if k=5 then [79,114] else if k=6 then [83,111,109,101] else if k=7 then [65,108,108] else []
theorem wordOf_len (k:Int):(wordOf k).length≤4:=by
 unfold wordOf
 repeat' split
 all_goals simp
theorem wordOf_byte (k:Int):∀ x∈wordOf k,0≤x∧x≤255:=by
 unfold wordOf
 repeat' split
 all_goals (intro x hx;simp at hx;try omega)
def roleT (r:List Int):List Int:=if r=[] then [] else r++[32]
mutual
def textC:CN→List Int
 | .mk k n r ks=>if k=2 then n else if ks.length=0 then wordOf k else wordOf k++[40]++roleT r++textJ 0 ks++[41]
def textJ:Nat→List CN→List Int
 | _,[]=>[]
 | i,c :: cs=>gapT i++textC c++textJ (i+1) cs
end
theorem textC_eq (c:CN):textC c=if c.kind=2 then c.name else if c.kids.length=0 then wordOf c.kind else wordOf c.kind++[40]++roleT c.role++textJ 0 c.kids++[41]:=by
 cases c;rw [textC];rfl
theorem textJ_append (xs ys:List CN):∀ i,textJ i (xs++ys)=textJ i xs++textJ (i+xs.length) ys:=by
 induction xs with
 | nil=>intro i;simp [textJ]
 | cons x xs ih=>intro i;simp only [List.cons_append,textJ,ih,List.append_assoc,List.length_cons];rw [show i+1+xs.length=i+(xs.length+1) by omega]
theorem textJ_take_succ (cs:List CN) (j:Nat) (h:j<cs.length):textJ 0 (cs.take (j+1))=textJ 0 (cs.take j)++gapT j++textC (cs.getD j CN.zero):=by
 rw [take_succ_getD cs CN.zero j h,textJ_append];simp only [textJ,List.append_nil,List.length_take,Nat.zero_add];rw [show min j cs.length=j by omega,List.append_assoc]
theorem textJ_take_le (cs:List CN) (j:Nat):(textJ 0 (cs.take j)).length≤(textJ 0 cs).length:=by
 have:=textJ_append (cs.take j) (cs.drop j) 0;rw [List.take_append_drop] at this;rw [this,List.length_append];omega
theorem gapT_len (i:Nat):(gapT i).length≤1:=by unfold gapT;split <;> simp
mutual
theorem textC_len:∀ c:CN,(textC c).length≤30*c.bulk+10
 | .mk k n r ks=>by
  rw [textC,CN.bulk];have h1:=wordOf_len k;have h2:=textJ_len ks 0;have h3:(roleT r).length≤r.length+1:=by unfold roleT;split <;> simp
  split
  · omega
  split
  · omega
  simp only [List.length_append,List.length_cons,List.length_nil];omega
theorem textJ_len:∀ (cs:List CN) (i:Nat),(textJ i cs).length≤30*bulks cs
 | [],_=>by simp [textJ]
 | c :: cs,i=>by
  rw [textJ,bulks];have h1:=textC_len c;have h2:=textJ_len cs (i+1);have h3:=gapT_len i;simp only [List.length_append];omega
end
mutual
def wfC:CN→Bool
 | .mk k n r ks=>shapeB (.mk k n r ks) && wfL ks
def wfL:List CN→Bool
 | []=>true
 | c :: cs=>wfC c && wfL cs
end
theorem wfC_eq (c:CN):wfC c=(shapeB c && wfL c.kids):=by cases c;rw [wfC];rfl
theorem wfL_getD:∀ (cs:List CN) (j:Nat),j<cs.length→wfL cs=true→wfC (cs.getD j CN.zero)=true
 | [],_,h,_=>by simp at h
 | c :: cs,0,_,hw=>by rw [wfL,Bool.and_eq_true] at hw;exact hw.1
 | c :: cs,j+1,h,hw=>by
  rw [wfL,Bool.and_eq_true] at hw;have:=wfL_getD cs j (by simpa using h) hw.2;simpa [List.getD] using this
mutual
theorem wfC_of_parts:∀ (c:CN) (deep:Nat),(parts c deep).all okOne=true→wfC c=true
 | .mk k n r ks,deep,h=>by
  rw [parts,List.all_cons,Bool.and_eq_true] at h;rw [wfC,wfL_of_parts ks (deep+1) h.2,Bool.and_true];have:=h.1;unfold okOne at this;rw [Bool.and_eq_true] at this;exact this.2
theorem wfL_of_parts:∀ (cs:List CN) (deep:Nat),(partsL cs deep).all okOne=true→wfL cs=true
 | [],_,_=>by rw [wfL]
 | c :: cs,deep,h=>by
  rw [partsL,List.all_append,Bool.and_eq_true] at h;rw [wfL,wfC_of_parts c deep h.1,wfL_of_parts cs deep h.2];rfl
end
theorem wfC_of_ok {c:CN} (h:conOk c=true):wfC c=true:=by
 unfold conOk at h;rw [Bool.and_eq_true] at h;exact wfC_of_parts c 1 h.2
theorem kidN_in {k:Int} (h:0≤kidN k):0≤k∧k≤7:=by
 by_cases ho:k<0∨7<k
 · rw [kidN_out ho] at h;omega
 omega
theorem shape_facts {c:CN} (h:shapeB c=true):(0≤c.kind∧c.kind≤7)∧(c.kind=2→1≤c.name.length∧c.kids.length=0)∧(roleB c.kind=true→1≤c.role.length)∧(roleB c.kind=false→c.role=[]):=by
 unfold shapeB at h;simp only [Bool.and_eq_true,decide_eq_true_eq] at h;obtain ⟨h1,h2,h3⟩:=h;refine ⟨kidN_in (by omega),fun hk=>?_,fun hr=>?_,fun hr=>?_⟩
 · unfold nameFit at h1;rw [if_pos hk,Bool.and_eq_true] at h1;refine ⟨(longB_of_up h1.1).1,?_⟩;rw [hk] at h3;simp [kidN] at h3;rw [h3];rfl
 · unfold roleFit at h2;rw [if_pos hr] at h2;exact (longB_of_low h2).1
 unfold roleFit at h2;rw [if_neg (by rw [hr];simp)] at h2;exact List.eq_nil_of_length_eq_zero (by simpa using h2)
theorem BoxC.keep5 {W W':World} {base b:Nat} {v0 v1 v2 v3:Value} (h:BoxC W b v0 v1 v2 v3) (hk:Keep5 base W W'):BoxC W' b v0 v1 v2 v3:=hk.2 b _ _ _ (by decide) h
def wordB (k:Int):ByteArray:=if k=0 then ⟨#[84,111,112]⟩ else if k=1 then ⟨#[66,111,116]⟩ else if k=3 then ⟨#[78,111,116]⟩ else if k=4 then ⟨#[65,110,100]⟩ else if k=5 then ⟨#[79,114]⟩ else if k=6 then ⟨#[83,111,109,101]⟩ else if k=7 then ⟨#[65,108,108]⟩ else ⟨#[]⟩
theorem wordB_cells (k:Int):Lib.strCells (wordB k)=(wordOf k).map (Value.int .u8):=by
 unfold wordB wordOf
 repeat' split
 all_goals rfl
theorem wordB_size (k:Int):(wordB k).size=(wordOf k).length:=by
 rw [← Lib.strCells_length,wordB_cells,List.length_map]
set_option maxHeartbeats 400000 in
theorem l2words_any (w:World):Calls Tryz.prog 102 #[] w fun e w'=>e=.returned (.slice (some ⟨w.heap.size,0,none⟩) 8 8)∧(∀ i:Nat,i<8→w'.cell? ⟨w.heap.size,i,none⟩=some (.string (wordB i)))∧Below w.heap.size w w':=by
 go_enter Tryz.func102, Tryz.ntmps102;go_wp2;go_ret;refine ⟨rfl,fun i hi=>?_,(Below.refl _ _).alloc (Nat.le_refl _) _⟩
 match i,hi with
 | 0,_ | 1,_ | 2,_ | 3,_ | 4,_ | 5,_ | 6,_ | 7,_=>simp;rfl
theorem ownB_str {base:Nat} {W w2:World} {v v':Value} {xs:List Int} {k:Int} (hO:OwnB base W v xs) (hb:base≤W.heap.size)
    (z:w2.ownsRow base 5 1 v' (xs.length+(wordB k).size) (xs.map (Value.int .u8)++Lib.strCells (wordB k))) (A:W.grownBy w2 v.ownBlock) :
    OwnB base w2 v' (xs++wordOf k)∧Keep5 base W w2:=by
 rw [wordB_size,wordB_cells] at z;exact ownB_app hO hb z A
end

section
open Go.RowKit
structure AX where
 kind:Int
 c:CN
 d:CN
 r:List Int
 s:List Int
 a:List Int
 b:List Int
structure RdA (lo hi:Nat) (w:World) (dp:Nat) (c0 c1 c2 c3 d0 d1 d2 d3:Value) (ra:Option Addr) (rn rc:Nat) (sa:Option Addr) (sn sc:Nat) (aa:Option Addr) (an ac:Nat) (ba:Option Addr) (bn bc:Nat) (x:AX):Prop where
 c:RdC lo hi w dp (.agg #[c0,c1,c2,c3]) x.c
 d:RdC lo hi w dp (.agg #[d0,d1,d2,d3]) x.d
 r:Rd lo hi w ra rn rc x.r
 s:Rd lo hi w sa sn sc x.s
 a:Rd lo hi w aa an ac x.a
 b:Rd lo hi w ba bn bc x.b
theorem RdA.below {lo hi B:Nat} {w w':World} {dp:Nat} {c0 c1 c2 c3 d0 d1 d2 d3:Value} {ra:Option Addr} {rn rc:Nat} {sa:Option Addr} {sn sc:Nat} {aa:Option Addr} {an ac:Nat} {ba:Option Addr} {bn bc:Nat} {x:AX}
    (h:RdA lo hi w dp c0 c1 c2 c3 d0 d1 d2 d3 ra rn rc sa sn sc aa an ac ba bn bc x) (hb:Below B w w') (hB:hi≤B):RdA lo hi w' dp c0 c1 c2 c3 d0 d1 d2 d3 ra rn rc sa sn sc aa an ac ba bn bc x :=
 ⟨h.c.below hb hB,h.d.below hb hB,h.r.below hb hB,h.s.below hb hB,h.a.below hb hB,h.b.below hb hB⟩
def BoxA (t:Nat) (W:World) (p:Nat) (k:Int) (c0 c1 c2 c3 d0 d1 d2 d3:Value) (r s a b:Value):Prop:=W.heap[p]?=some (.cells #[.int .i64 k,c0,c1,c2,c3,d0,d1,d2,d3,r,s,a,b] t (0,0))
theorem BoxA.new (t:Nat) (W:World) (k:Int) (c0 c1 c2 c3 d0 d1 d2 d3 r s a b:Value):BoxA t (W.alloc (.cells #[.int .i64 k,c0,c1,c2,c3,d0,d1,d2,d3,r,s,a,b] t)) W.heap.size k c0 c1 c2 c3 d0 d1 d2 d3 r s a b:=World.alloc_heap_new W _
theorem BoxA.below {t:Nat} {W W':World} {p B:Nat} {k:Int} {c0 c1 c2 c3 d0 d1 d2 d3 r s a b:Value} (h:BoxA t W p k c0 c1 c2 c3 d0 d1 d2 d3 r s a b) (hb:Below B W W') (hB:p<B):BoxA t W' p k c0 c1 c2 c3 d0 d1 d2 d3 r s a b:=(hb.block p hB).trans h
theorem BoxA.lt {t:Nat} {W:World} {p:Nat} {k:Int} {c0 c1 c2 c3 d0 d1 d2 d3 r s a b:Value} (h:BoxA t W p k c0 c1 c2 c3 d0 d1 d2 d3 r s a b):p<W.heap.size:=(Array.getElem?_eq_some_iff.1 h).1
theorem BoxA.cells {t:Nat} {W:World} {p:Nat} {k:Int} {c0 c1 c2 c3 d0 d1 d2 d3 r s a b:Value} (h:BoxA t W p k c0 c1 c2 c3 d0 d1 d2 d3 r s a b) :
    W.cell? ⟨p,0,none⟩=some (.int .i64 k)∧W.cell? ⟨p,1,none⟩=some c0∧W.cell? ⟨p,2,none⟩=some c1∧W.cell? ⟨p,3,none⟩=some c2∧W.cell? ⟨p,4,none⟩=some c3∧W.cell? ⟨p,5,none⟩=some d0∧W.cell? ⟨p,6,none⟩=some d1∧W.cell? ⟨p,7,none⟩=some d2∧W.cell? ⟨p,8,none⟩=some d3 ∧
     W.cell? ⟨p,9,none⟩=some r∧W.cell? ⟨p,10,none⟩=some s∧W.cell? ⟨p,11,none⟩=some a∧W.cell? ⟨p,12,none⟩=some b:=by
 unfold BoxA at h;refine ⟨?_,?_,?_,?_,?_,?_,?_,?_,?_,?_,?_,?_,?_⟩ <;> simp [World.cell?,h]
def wantC (k:Int):Bool:=decide (k=0) || decide (k=1) || decide (k=2) || decide (k=4)
def wantD (k:Int):Bool:=decide (k=0) || decide (k=1) || decide (k=2)
def wantR (k:Int):Bool:=decide (k=3) || decide (k=5)
def wantS (k:Int):Bool:=decide (k=3)
def wantA (k:Int):Bool:=decide (k=4) || decide (k=5)
def wantB (k:Int):Bool:=decide (k=5)
def zeroB (c:CN):Bool:=decide (c.kind=0) && (decide (c.name.length=0) && (decide (c.role.length=0) && decide (c.kids.length=0)))
def fitC (c:CN) (wanted:Bool):Bool:=if wanted=true then conOk c else zeroB c
def fitL (zs:List Int) (wanted:Bool):Bool:=if wanted=true then lowOk zs else decide (zs.length=0)
def axOk (x:AX):Bool:=decide (0≤x.kind∧x.kind≤5) && (fitC x.c (wantC x.kind) && (fitC x.d (wantD x.kind) && (fitL x.r (wantR x.kind) && (fitL x.s (wantS x.kind) && (fitL x.a (wantA x.kind) && fitL x.b (wantB x.kind))))))
theorem ok_of_zero {c:CN} (h:zeroB c=true):conOk c=true:=by
 cases c with
 | mk k n r ks =>
  unfold zeroB at h;simp only [CN.kind,CN.name,CN.role,CN.kids,Bool.and_eq_true] at h;obtain ⟨h1,h2,h3,h4⟩:=h;have h1:=of_decide_eq_true h1;have h2:=of_decide_eq_true h2;have h3:=of_decide_eq_true h3;have h4:=of_decide_eq_true h4;have e2:=List.eq_nil_of_length_eq_zero h2;have e3:=List.eq_nil_of_length_eq_zero h3;have e4:=List.eq_nil_of_length_eq_zero h4;subst h1 e2 e3 e4;decide +kernel
end

section
open Go.RowKit
theorem upOk_nil_of {zs:List Int} (h:zs.length=0):upOk zs=false:=by simp [upOk,longB,h]
theorem lowOk_nil_of {zs:List Int} (h:zs.length=0):lowOk zs=false:=by simp [lowOk,longB,h]
set_option maxRecDepth 100000 in
set_option maxHeartbeats 4000000 in
theorem l2ok_good {d:Nat} (H:OkC d) {v:Value} {c:CN} {deep:Nat} {left:Int} {w:World} {lo hi:Nat} (h:RdC lo hi w (d+1) v c) (N:hi≤w.heap.size) (ak:deep≤6) (h0:1≤left) (al:left≤16)
    (ar:0≤c.kind) (aq:c.kind≤7) (a1:((c.kids.length:Nat):Int)=kidS c.kind) :
    Calls Tryz.prog 66 #[v,.int .i64 deep,.int .i64 left] w fun e w'=>e=.returned (.int .i64 (leftOf left (parts c deep)))∧Below w.heap.size w w':=by
 obtain ⟨na,nn,nc,ra,rn,rc,ka,kn,kc,rfl,hn,hr,hk⟩:=h;have aj:=hk.len;have ao:=hn.len;have am:=hr.len;have aF:=hk.fits;have aD:=hn.fits;have aC:=hr.fits;have ay:((c.kids.length:Nat):Int)=kidN c.kind:=by rw [a1,kidS_kidN ar aq]
 have F:Hid (nameFit c=false∨roleFit c=false→leftOf left (parts c deep)=-1):=fun h=>leftOf_bad c deep left (.inr (.inr (by unfold shapeB;rcases h with h | h <;> simp [h])))
 have V:Hid (nameFit c=true→roleFit c=true→leftOf left (parts c deep)=leftOf (left - 1) (partsL c.kids (deep+1))):=fun a b=>leftOf_good c deep left (by omega) ak (by unfold shapeB;rw [a,b,ay];simp)
 have Z:Hid (nameFit c=if c.kind=2 then (upOk c.name && !keptB (strOfNums c.name).toList) else decide (c.name.length=0)):=rfl;have U:Hid (roleFit c=if roleB c.kind=true then lowOk c.role else decide (c.role.length=0)):=rfl;obtain ⟨k,ap⟩:∃ k,k=c.kind:=⟨_,rfl⟩;rw [← ap] at ar aq a1 Z U ⊢;rw [aj] at a1;have a8:Hid (c.kids.length=kn):=aj;have a9:Below w.heap.size w (w.alloc (.cells #[.int .i64 k,.slice na nn nc,.slice ra rn rc,.slice ka kn kc] 37)):=(Below.refl _ _).alloc (Nat.le_refl _) _;have aa:Hid (Below w.heap.size w (w.alloc (.cells #[.int .i64 k,.slice na nn nc,.slice ra rn rc,.slice ka kn kc] 37))):=a9;have af:Hid (BoxC (w.alloc (.cells #[.int .i64 k,.slice na nn nc,.slice ra rn rc,.slice ka kn kc] 37)) w.heap.size (.int .i64 k) (.slice na nn nc) (.slice ra rn rc) (.slice ka kn kc)):=BoxC.new w _ _ _ _;have HN:Hid (Rd lo hi w na nn nc c.name):=hn;have HR:Hid (Rd lo hi w ra rn rc c.role):=hr;have HK:Hid (RdL (RdC lo hi w d) lo hi w ka kn kc c.kids):=hk;have aH:(deep:Int)≤6:=by omega
 have d1:decide (left - 1<0)=false:=by simp;omega
 have d2:decide ((6:Int)<(deep:Int))=false:=by simp;omega
 have d3:decide (k<0)=false:=by simp;omega
 have d4:decide (7<k)=false:=by simp;omega
 have b5:((kn:Int) != kidS k)=false:=by simp;omega
 clear hn hr hk ap aj a9;rw [ao] at Z;rw [am] at U;clear ao am;go_enter Tryz.func66, Tryz.ntmps66;go_wp2_with fail;go_quiet (first | (go_at_call 92;exact Calls.quiet_of_same (l2kids_any _ _)));obtain ⟨W1,ag⟩:∃ W1,W1=(w.alloc (.cells #[.int .i64 k,.slice na nn nc,.slice ra rn rc,.slice ka kn kc] 37)).drewN nq:=⟨_,rfl⟩;rw [← ag];have E:Hid (Below w.heap.size w W1):=by unfold Hid;rw [ag];exact below_drewN aa.out nq
 have I:Hid (BoxC W1 w.heap.size (.int .i64 k) (.slice na nn nc) (.slice ra rn rc) (.slice ka kn kc)):=by unfold Hid;rw [ag];exact af.out
 clear ag aa af d1 d2 d3 d4 b5;obtain ⟨c0,c1,c2,c3⟩:=I.out.cells;by_cases k2:k=2
 · subst k2;have ax:kn=0:=by simp [kidS] at a1;omega
   subst ax;rw [if_pos rfl] at Z;have ae:Hid (roleFit c=decide (rn=0)):=by unfold Hid;rw [U.out];simp [roleB]
   clear U;by_cases n0:nn=0
   · subst n0;have HX:Hid (nameFit c=false):=by unfold Hid;rw [Z.out,upOk_nil_of HN.out.len];rfl
     go_wp2_with fail;go_ret;exact ⟨ri (F.out (.inl HX.out)).symm,E.out⟩
   have av:(0:Int)<(nn:Int):=by omega
   have a7:Hid (Rd lo hi W1 na nn nc c.name):=HN.out.below E.out N;cases hU:upOk c.name
   · have HX:Hid (nameFit c=false):=by unfold Hid;rw [Z.out,hU];rfl
     go_wp2_with (first | (go_at_call 93;refine (specUpperOk_any na nn nc c.name _ a7.out).mono ?_;rintro e w' ⟨rfl,hw⟩;rw [hw,hU];clear hw));go_ret;exact ⟨ri (F.out (.inl HX.out)).symm,E.out⟩
   cases ac:keptB (strOfNums c.name).toList
   · have HX:Hid (nameFit c=true):=by unfold Hid;rw [Z.out,hU,ac];rfl
     by_cases r0:rn=0
     · subst r0
       have HG:Hid (leftOf left (parts c deep)=left - 1):=by
        unfold Hid;rw [V.out HX.out (by rw [ae.out];rfl),List.eq_nil_of_length_eq_zero a8.out,partsL,leftOf_nil _ (by omega)]
       go_wp2_with (first | (go_at_call 93;refine (specUpperOk_any na nn nc c.name _ a7.out).mono ?_;rintro e w' ⟨rfl,hw⟩;rw [hw,hU];clear hw) | (go_at_call 94;refine (specKept_any na nn nc c.name _ a7.out (Nat.le_trans N E.out.size)).mono ?_;rintro e W2 ⟨rfl,Y⟩;rw [ac];have z:Hid (BoxC W2 w.heap.size (.int .i64 2) (.slice na nn nc) (.slice ra 0 rc) (.slice ka 0 kc)):=I.out.below Y I.out.lt;have G:Hid (Below w.heap.size w W2):=E.out.trans (Y.mono E.out.size);clear Y c0 c1 c2 c3;obtain ⟨c0,c1,c2,c3⟩:=z.out.cells));refine wp_loop_rounds 1 ?_;rw [rounds_succ];go_wp2_with fail;go_ret;exact ⟨ri HG.out.symm,G.out⟩
     have ai:(0:Int)<(rn:Int):=by omega
     have HY:Hid (roleFit c=false):=by unfold Hid;rw [ae.out];simpa using r0
     go_wp2_with (first | (go_at_call 93;refine (specUpperOk_any na nn nc c.name _ a7.out).mono ?_;rintro e w' ⟨rfl,hw⟩;rw [hw,hU];clear hw) | (go_at_call 94;refine (specKept_any na nn nc c.name _ a7.out (Nat.le_trans N E.out.size)).mono ?_;rintro e W2 ⟨rfl,Y⟩;rw [ac];have z:Hid (BoxC W2 w.heap.size (.int .i64 2) (.slice na nn nc) (.slice ra rn rc) (.slice ka 0 kc)):=I.out.below Y I.out.lt;have G:Hid (Below w.heap.size w W2):=E.out.trans (Y.mono E.out.size);clear Y c0 c1 c2 c3;obtain ⟨c0,c1,c2,c3⟩:=z.out.cells));go_ret;exact ⟨ri (F.out (.inr HY.out)).symm,G.out⟩
   have HX:Hid (nameFit c=false):=by unfold Hid;rw [Z.out,hU,ac];rfl
   go_wp2_with (first | (go_at_call 93;refine (specUpperOk_any na nn nc c.name _ a7.out).mono ?_;rintro e w' ⟨rfl,hw⟩;rw [hw,hU];clear hw) | (go_at_call 94;refine (specKept_any na nn nc c.name _ a7.out (Nat.le_trans N E.out.size)).mono ?_;rintro e W2 ⟨rfl,Y⟩;rw [ac];have G:Hid (Below w.heap.size w W2):=E.out.trans (Y.mono E.out.size);clear Y));go_ret;exact ⟨ri (F.out (.inl HX.out)).symm,G.out⟩
 rw [if_neg k2] at Z;have aG:(k == 2)=false:=by simpa using k2
 by_cases n0:nn=0
 · subst n0;have HX:Hid (nameFit c=true):=by unfold Hid;rw [Z.out];rfl
   have ah:Hid (Rd lo hi W1 ra rn rc c.role):=HR.out.below E.out N;by_cases m:k=6∨k=7
   · rw [if_pos (show roleB k=true from by unfold roleB;simp;exact m)] at U
     have hm:(k == 6)=true∨((k == 6)=false∧(k == 7)=true):=by
      rcases m with h | h
      · exact .inl (by simp [h])
      exact .inr ⟨by simp [h],by simp [h]⟩
     rcases hm with hm | ⟨hm,aE⟩
     · by_cases r0:rn=0
       · subst r0;have HY:Hid (roleFit c=false):=by unfold Hid;rw [U.out,lowOk_nil_of HR.out.len]
         go_wp2_with fail;go_ret;exact ⟨ri (F.out (.inr HY.out)).symm,E.out⟩
       have ai:(0:Int)<(rn:Int):=by omega
       cases a0:lowOk c.role
       · have HY:Hid (roleFit c=false):=by unfold Hid;rw [U.out,a0]
         go_wp2_with (first | (go_at_call 43;refine (specLowerOk_any ra rn rc c.role _ ah.out).mono ?_;rintro e w' ⟨rfl,hw⟩;rw [hw,a0];clear hw));go_ret;exact ⟨ri (F.out (.inr HY.out)).symm,E.out⟩
       have HG:Hid (leftOf left (parts c deep)=leftOf (left - 1) (partsL c.kids (deep+1))):=V.out HX.out (by rw [U.out,a0]);go_wp2_with (first | (go_at_call 43;refine (specLowerOk_any ra rn rc c.role _ ah.out).mono ?_;rintro e w' ⟨rfl,hw⟩;rw [hw,a0];clear hw));go_loopw [2,8] (fun l i wr=>∃ (j:Nat) (L:Int),j≤kn∧i=.int .i64 j∧l=.int .i64 L∧0≤L∧L≤16∧leftOf (left - 1) (partsL (c.kids.take j) (deep+1))=L∧Below w.heap.size w wr∧BoxC wr w.heap.size (.int .i64 k) (.slice na 0 nc) (.slice ra rn rc) (.slice ka kn kc)) (fun _ i _=>kn - (intOf i).toNat)
       case atStart=>exact ⟨0,left - 1,Nat.zero_le _,rfl,rfl,by omega,by omega,by simp [partsL,leftOf_nil _ (show 0≤left - 1 by omega)],E.out,I.out⟩
       case round =>
        obtain ⟨j,L,hj,rfl,rfl,a3,ab,a2,D,A⟩:=hrel;obtain ⟨q0,q1,q2,q3⟩:=A.cells;have G:Hid (Below w.heap.size w wr):=D;have a5:Hid (leftOf (left - 1) (partsL (c.kids.take j) (deep+1))=L):=a2;have z:Hid (BoxC wr w.heap.size (.int .i64 k) (.slice na 0 nc) (.slice ra rn rc) (.slice ka kn kc)):=A;clear a2;by_cases hlt:j<kn
        · have hR:=HK.out.same (Same.of_below D N);rcases hR.cells with hz | ⟨b,off,e1,_,_,hc⟩
          · omega
          subst e1;obtain ⟨v0,v1,v2,v3,c0,c1,c2,c3,hr⟩:=hc j hlt;have X:Hid (RdC lo hi wr d (.agg #[v0,v1,v2,v3]) (c.kids.getD j CN.zero)):=hr;have au:(j:Int)<(kn:Int):=by omega
          obtain ⟨r,O⟩:∃ r,r=leftOf L (parts (c.kids.getD j CN.zero) (deep+1)):=⟨_,rfl⟩;have ad:Hid (r=leftOf L (parts (c.kids.getD j CN.zero) (deep+1))):=O
          have a4:Hid (leftOf (left - 1) (partsL (c.kids.take (j+1)) (deep+1))=r):=by
           unfold Hid;rw [partsL_take_succ _ _ _ (by rw [a8.out];exact hlt),leftOf_append,a5.out,if_neg (by omega),O]
          have an:r≤L:=by rw [O];exact leftOf_le a3 _
          clear hR hc hr D A O;go_wp2_with fail;refine (H (.agg #[v0,v1,v2,v3]) (c.kids.getD j CN.zero) (deep+1) L wr lo hi X.out (Nat.le_trans N G.out.size) (by omega) a3 ab).mono ?_;rintro e w' ⟨rfl,T⟩;have a6:Hid (Below w.heap.size w w'):=G.out.trans (T.mono G.out.size);have J:Hid (BoxC w' w.heap.size (.int .i64 k) (.slice na 0 nc) (.slice ra rn rc) (.slice (some ⟨b,off,none⟩) kn kc)):=z.out.below T z.out.lt;rw [← ad.out];clear T;by_cases hneg:r<0
          · have HE:Hid (leftOf left (parts c deep)=-1):=by
             unfold Hid;rw [HG.out,partsL_take_drop _ (j+1),leftOf_append,a4.out,if_pos hneg]
            go_wp2_with fail;go_ret;exact ⟨ri HE.out.symm,a6.out⟩
          go_wp2_with fail;go_roundw
          case rel=>exact ⟨j+1,r,by omega,by go_num,rfl,by omega,by omega,a4.out,a6.out,J.out⟩
          case measure=>simp [intOf];omega
        have HE:Hid (L=leftOf left (parts c deep)):=by
         unfold Hid;rw [HG.out,← a5.out,List.take_of_length_le (by rw [a8.out];omega)]
        clear D A;go_wp2_with fail;go_ret;exact ⟨ri HE.out,G.out⟩
     by_cases r0:rn=0
     · subst r0;have HY:Hid (roleFit c=false):=by unfold Hid;rw [U.out,lowOk_nil_of HR.out.len]
       go_wp2_with fail;go_ret;exact ⟨ri (F.out (.inr HY.out)).symm,E.out⟩
     have ai:(0:Int)<(rn:Int):=by omega
     cases a0:lowOk c.role
     · have HY:Hid (roleFit c=false):=by unfold Hid;rw [U.out,a0]
       go_wp2_with (first | (go_at_call 43;refine (specLowerOk_any ra rn rc c.role _ ah.out).mono ?_;rintro e w' ⟨rfl,hw⟩;rw [hw,a0];clear hw));go_ret;exact ⟨ri (F.out (.inr HY.out)).symm,E.out⟩
     have HG:Hid (leftOf left (parts c deep)=leftOf (left - 1) (partsL c.kids (deep+1))):=V.out HX.out (by rw [U.out,a0]);go_wp2_with (first | (go_at_call 43;refine (specLowerOk_any ra rn rc c.role _ ah.out).mono ?_;rintro e w' ⟨rfl,hw⟩;rw [hw,a0];clear hw));go_loopw [2,8] (fun l i wr=>∃ (j:Nat) (L:Int),j≤kn∧i=.int .i64 j∧l=.int .i64 L∧0≤L∧L≤16∧leftOf (left - 1) (partsL (c.kids.take j) (deep+1))=L∧Below w.heap.size w wr∧BoxC wr w.heap.size (.int .i64 k) (.slice na 0 nc) (.slice ra rn rc) (.slice ka kn kc)) (fun _ i _=>kn - (intOf i).toNat)
     case atStart=>exact ⟨0,left - 1,Nat.zero_le _,rfl,rfl,by omega,by omega,by simp [partsL,leftOf_nil _ (show 0≤left - 1 by omega)],E.out,I.out⟩
     case round =>
      obtain ⟨j,L,hj,rfl,rfl,a3,ab,a2,D,A⟩:=hrel;obtain ⟨q0,q1,q2,q3⟩:=A.cells;have G:Hid (Below w.heap.size w wr):=D;have a5:Hid (leftOf (left - 1) (partsL (c.kids.take j) (deep+1))=L):=a2;have z:Hid (BoxC wr w.heap.size (.int .i64 k) (.slice na 0 nc) (.slice ra rn rc) (.slice ka kn kc)):=A;clear a2;by_cases hlt:j<kn
      · have hR:=HK.out.same (Same.of_below D N);rcases hR.cells with hz | ⟨b,off,e1,_,_,hc⟩
        · omega
        subst e1;obtain ⟨v0,v1,v2,v3,c0,c1,c2,c3,hr⟩:=hc j hlt;have X:Hid (RdC lo hi wr d (.agg #[v0,v1,v2,v3]) (c.kids.getD j CN.zero)):=hr;have au:(j:Int)<(kn:Int):=by omega
        obtain ⟨r,O⟩:∃ r,r=leftOf L (parts (c.kids.getD j CN.zero) (deep+1)):=⟨_,rfl⟩;have ad:Hid (r=leftOf L (parts (c.kids.getD j CN.zero) (deep+1))):=O
        have a4:Hid (leftOf (left - 1) (partsL (c.kids.take (j+1)) (deep+1))=r):=by
         unfold Hid;rw [partsL_take_succ _ _ _ (by rw [a8.out];exact hlt),leftOf_append,a5.out,if_neg (by omega),O]
        have an:r≤L:=by rw [O];exact leftOf_le a3 _
        clear hR hc hr D A O;go_wp2_with fail;refine (H (.agg #[v0,v1,v2,v3]) (c.kids.getD j CN.zero) (deep+1) L wr lo hi X.out (Nat.le_trans N G.out.size) (by omega) a3 ab).mono ?_;rintro e w' ⟨rfl,T⟩;have a6:Hid (Below w.heap.size w w'):=G.out.trans (T.mono G.out.size);have J:Hid (BoxC w' w.heap.size (.int .i64 k) (.slice na 0 nc) (.slice ra rn rc) (.slice (some ⟨b,off,none⟩) kn kc)):=z.out.below T z.out.lt;rw [← ad.out];clear T;by_cases hneg:r<0
        · have HE:Hid (leftOf left (parts c deep)=-1):=by
           unfold Hid;rw [HG.out,partsL_take_drop _ (j+1),leftOf_append,a4.out,if_pos hneg]
          go_wp2_with fail;go_ret;exact ⟨ri HE.out.symm,a6.out⟩
        go_wp2_with fail;go_roundw
        case rel=>exact ⟨j+1,r,by omega,by go_num,rfl,by omega,by omega,a4.out,a6.out,J.out⟩
        case measure=>simp [intOf];omega
      have HE:Hid (L=leftOf left (parts c deep)):=by
       unfold Hid;rw [HG.out,← a5.out,List.take_of_length_le (by rw [a8.out];omega)]
      clear D A;go_wp2_with fail;go_ret;exact ⟨ri HE.out,G.out⟩
   rw [if_neg (show ¬ roleB k=true from by unfold roleB;simp;omega)] at U;have m6:(k == 6)=false:=by simp;omega
   have m7:(k == 7)=false:=by simp;omega
   by_cases r0:rn=0
   · subst r0;have HG:Hid (leftOf left (parts c deep)=leftOf (left - 1) (partsL c.kids (deep+1))):=V.out HX.out (by rw [U.out];rfl);go_wp2_with fail;go_loopw [2,8] (fun l i wr=>∃ (j:Nat) (L:Int),j≤kn∧i=.int .i64 j∧l=.int .i64 L∧0≤L∧L≤16∧leftOf (left - 1) (partsL (c.kids.take j) (deep+1))=L∧Below w.heap.size w wr∧BoxC wr w.heap.size (.int .i64 k) (.slice na 0 nc) (.slice ra 0 rc) (.slice ka kn kc)) (fun _ i _=>kn - (intOf i).toNat)
     case atStart=>exact ⟨0,left - 1,Nat.zero_le _,rfl,rfl,by omega,by omega,by simp [partsL,leftOf_nil _ (show 0≤left - 1 by omega)],E.out,I.out⟩
     case round =>
      obtain ⟨j,L,hj,rfl,rfl,a3,ab,a2,D,A⟩:=hrel;obtain ⟨q0,q1,q2,q3⟩:=A.cells;have G:Hid (Below w.heap.size w wr):=D;have a5:Hid (leftOf (left - 1) (partsL (c.kids.take j) (deep+1))=L):=a2;have z:Hid (BoxC wr w.heap.size (.int .i64 k) (.slice na 0 nc) (.slice ra 0 rc) (.slice ka kn kc)):=A;clear a2;by_cases hlt:j<kn
      · have hR:=HK.out.same (Same.of_below D N);rcases hR.cells with hz | ⟨b,off,e1,_,_,hc⟩
        · omega
        subst e1;obtain ⟨v0,v1,v2,v3,c0,c1,c2,c3,hr⟩:=hc j hlt;have X:Hid (RdC lo hi wr d (.agg #[v0,v1,v2,v3]) (c.kids.getD j CN.zero)):=hr;have au:(j:Int)<(kn:Int):=by omega
        obtain ⟨r,O⟩:∃ r,r=leftOf L (parts (c.kids.getD j CN.zero) (deep+1)):=⟨_,rfl⟩;have ad:Hid (r=leftOf L (parts (c.kids.getD j CN.zero) (deep+1))):=O
        have a4:Hid (leftOf (left - 1) (partsL (c.kids.take (j+1)) (deep+1))=r):=by
         unfold Hid;rw [partsL_take_succ _ _ _ (by rw [a8.out];exact hlt),leftOf_append,a5.out,if_neg (by omega),O]
        have an:r≤L:=by rw [O];exact leftOf_le a3 _
        clear hR hc hr D A O;go_wp2_with fail;refine (H (.agg #[v0,v1,v2,v3]) (c.kids.getD j CN.zero) (deep+1) L wr lo hi X.out (Nat.le_trans N G.out.size) (by omega) a3 ab).mono ?_;rintro e w' ⟨rfl,T⟩;have a6:Hid (Below w.heap.size w w'):=G.out.trans (T.mono G.out.size);have J:Hid (BoxC w' w.heap.size (.int .i64 k) (.slice na 0 nc) (.slice ra 0 rc) (.slice (some ⟨b,off,none⟩) kn kc)):=z.out.below T z.out.lt;rw [← ad.out];clear T;by_cases hneg:r<0
        · have HE:Hid (leftOf left (parts c deep)=-1):=by
           unfold Hid;rw [HG.out,partsL_take_drop _ (j+1),leftOf_append,a4.out,if_pos hneg]
          go_wp2_with fail;go_ret;exact ⟨ri HE.out.symm,a6.out⟩
        go_wp2_with fail;go_roundw
        case rel=>exact ⟨j+1,r,by omega,by go_num,rfl,by omega,by omega,a4.out,a6.out,J.out⟩
        case measure=>simp [intOf];omega
      have HE:Hid (L=leftOf left (parts c deep)):=by
       unfold Hid;rw [HG.out,← a5.out,List.take_of_length_le (by rw [a8.out];omega)]
      clear D A;go_wp2_with fail;go_ret;exact ⟨ri HE.out,G.out⟩
   have ai:(0:Int)<(rn:Int):=by omega
   have HY:Hid (roleFit c=false):=by unfold Hid;rw [U.out];simpa using r0
   go_wp2_with fail;go_ret;exact ⟨ri (F.out (.inr HY.out)).symm,E.out⟩
 have av:(0:Int)<(nn:Int):=by omega
 have HX:Hid (nameFit c=false):=by unfold Hid;rw [Z.out];simpa using n0
 go_wp2_with fail;go_ret;exact ⟨ri (F.out (.inl HX.out)).symm,E.out⟩
theorem okC_any:∀ d,OkC d
 | 0=>fun _ _ _ _ _ _ _ h=>h.elim
 | d+1=>fun v c deep left w lo hi h N ak h0 al=>by
  by_cases hbad:left=0∨deep=7∨c.kind<0∨7<c.kind∨((c.kids.length:Nat):Int)≠kidS c.kind
  · exact l2ok_bad h ak h0 al hbad
  exact l2ok_good (okC_any d) h N (by omega) (by omega) al (by omega) (by omega) (by omega)
set_option maxHeartbeats 400000 in
theorem specConOk_any {d:Nat} {v:Value} {c:CN} {w:World} {lo hi:Nat} (h:RdC lo hi w d v c) (N:hi≤w.heap.size) :
    Calls Tryz.prog 41 #[v] w fun e w'=>e=.returned (.bool (conOk c))∧Below w.heap.size w w':=by
 cases d with
 | zero=>exact h.elim
 | succ d =>
  have aA:Hid (RdC lo hi w (d+1) v c):=h;obtain ⟨na,nn,nc,ra,rn,rc,ka,kn,kc,rfl,_,_,_⟩:=h;have a9:Below w.heap.size w (w.alloc (.cells #[.int .i64 c.kind,.slice na nn nc,.slice ra rn rc,.slice ka kn kc] 37)):=(Below.refl _ _).alloc (Nat.le_refl _) _;have aa:Hid (Below w.heap.size w (w.alloc (.cells #[.int .i64 c.kind,.slice na nn nc,.slice ra rn rc,.slice ka kn kc] 37))):=a9;have aB:Hid (RdC lo hi (w.alloc (.cells #[.int .i64 c.kind,.slice na nn nc,.slice ra rn rc,.slice ka kn kc] 37)) (d+1) (.agg #[.int .i64 c.kind,.slice na nn nc,.slice ra rn rc,.slice ka kn kc]) c):=aA.out.below a9 N;obtain ⟨r,hr⟩:∃ r,r=leftOf 16 (parts c 1):=⟨_,rfl⟩;have az:Hid (r=leftOf 16 (parts c 1)):=hr;have HC:Hid (conOk c=decide (0≤r)):=by unfold Hid;rw [conOk_left,hr]
  clear a9 hr;go_enter Tryz.func41, Tryz.ntmps41;go_wp2_with fail;refine (okC_any (d+1) _ c 1 16 _ lo hi aB.out (Nat.le_trans N aa.out.size) (by omega) (by omega) (by omega)).mono ?_;rintro e w' ⟨rfl,T⟩;rw [← az.out];have E:Hid (Below w.heap.size w w'):=aa.out.trans (T.mono aa.out.size);clear T;go_wp2_with fail;go_ret;exact ⟨rb HC.out.symm,E.out⟩
end

end Go.Proofs.YtocpeiaolofodaaGreat
