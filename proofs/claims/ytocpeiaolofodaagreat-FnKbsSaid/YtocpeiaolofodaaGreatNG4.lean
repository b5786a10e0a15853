/- Several texts in one: ConMath, ConSpec, ConMark, ConShape, ReadM. -/
import Derived.Test.YtocpeiaolofodaaGreatNG1
import Derived.Test.YtocpeiaolofodaaGreatNG3
import Derived.BigQuiet
import Derived.RangeFuncRecord
import Derived.Deep.RegionWith
namespace Go.Proofs.YtocpeiaolofodaaGreat

section
open Go.RowKit
def kidN (k:Int):Int:=if k=0∨k=1∨k=2 then 0 else if k=3∨k=6∨k=7 then 1 else if k=4∨k=5 then 2 else -1
def roleB (k:Int):Bool:=decide (k=6) || decide (k=7)
def nameFit (c:CN):Bool:=if c.kind=2 then (upOk c.name && !keptB (strOfNums c.name).toList) else decide (c.name.length=0)
def roleFit (c:CN):Bool:=if roleB c.kind=true then lowOk c.role else decide (c.role.length=0)
def shapeB (c:CN):Bool:=nameFit c && (roleFit c && decide ((c.kids.length:Int)=kidN c.kind))
mutual
def parts:CN→Nat→List (Nat × CN)
 | .mk k n r ks,deep=>(deep,.mk k n r ks) :: partsL ks (deep+1)
def partsL:List CN→Nat→List (Nat × CN)
 | [],_=>[]
 | c :: cs,deep=>parts c deep++partsL cs deep
end
theorem parts_eq (c:CN) (deep:Nat):parts c deep=(deep,c) :: partsL c.kids (deep+1):=by
 cases c;rw [parts];rfl
theorem partsL_append (xs ys:List CN) (deep:Nat):partsL (xs++ys) deep=partsL xs deep++partsL ys deep:=by
 induction xs with
 | nil=>simp [partsL]
 | cons x xs ih=>simp only [List.cons_append,partsL,ih,List.append_assoc]
theorem partsL_take_succ (cs:List CN) (k deep:Nat) (h:k<cs.length):partsL (cs.take (k+1)) deep=partsL (cs.take k) deep++parts (cs.getD k CN.zero) deep:=by
 rw [take_succ_getD cs CN.zero k h,partsL_append];simp only [partsL,List.append_nil]
theorem partsL_take_drop (cs:List CN) (k deep:Nat):partsL cs deep=partsL (cs.take k) deep++partsL (cs.drop k) deep:=by
 rw [← partsL_append,List.take_append_drop]
def okOne (x:Nat × CN):Bool:=decide (x.1≤6) && shapeB x.2
def conOk (c:CN):Bool:=decide ((parts c 1).length≤16) && (parts c 1).all okOne
def leftOf (left:Int) (L:List (Nat × CN)):Int:=if (L.length:Int)≤left∧L.all okOne=true then left - L.length else -1
theorem leftOf_pos {left:Int} {L:List (Nat × CN)} (h:(L.length:Int)≤left) (k:L.all okOne=true):leftOf left L=left - L.length:=if_pos ⟨h,k⟩
theorem leftOf_neg {left:Int} {L:List (Nat × CN)} (h:¬ ((L.length:Int)≤left∧L.all okOne=true)):leftOf left L=-1:=if_neg h
theorem leftOf_append {left:Int} (L M:List (Nat × CN)):leftOf left (L++M)=if leftOf left L<0 then -1 else leftOf (leftOf left L) M:=by
 by_cases h1:(L.length:Int)≤left∧L.all okOne=true
 · rw [leftOf_pos h1.1 h1.2,if_neg (by omega)];by_cases h2:(M.length:Int)≤left - L.length∧M.all okOne=true
   · rw [leftOf_pos h2.1 h2.2,leftOf_pos (by rw [List.length_append];omega) (by rw [List.all_append,h1.2,h2.2];rfl),List.length_append];omega
   rw [leftOf_neg h2,leftOf_neg];rintro ⟨h3,h4⟩;rw [List.length_append] at h3;rw [List.all_append,Bool.and_eq_true] at h4;exact h2 ⟨by omega,h4.2⟩
 rw [leftOf_neg h1,if_pos (by omega),leftOf_neg];rintro ⟨h3,h4⟩;rw [List.length_append] at h3;rw [List.all_append,Bool.and_eq_true] at h4;exact h1 ⟨by omega,h4.1⟩
theorem leftOf_le {left:Int} (h:0≤left) (L:List (Nat × CN)):leftOf left L≤left:=by
 unfold leftOf;split <;> omega
theorem leftOf_nil (left:Int) (h:0≤left):leftOf left []=left:=by simp [leftOf,h]
theorem leftOf_bad (c:CN) (deep:Nat) (left:Int) (h:left - 1<0∨6<deep∨shapeB c=false):leftOf left (parts c deep)=-1:=by
 rw [parts_eq];unfold leftOf;rw [if_neg];rintro ⟨h1,h2⟩;simp only [List.length_cons,List.all_cons,okOne,Bool.and_eq_true,decide_eq_true_eq] at h1 h2;rcases h with h | h | h
 · omega
 · omega
 rw [h2.1.2] at h;cases h
theorem leftOf_good (c:CN) (deep:Nat) (left:Int) (h1:0≤left - 1) (h2:deep≤6) (h3:shapeB c=true):leftOf left (parts c deep)=leftOf (left - 1) (partsL c.kids (deep+1)):=by
 rw [parts_eq,show ((deep,c) :: partsL c.kids (deep+1))=[(deep,c)]++partsL c.kids (deep+1) from rfl,leftOf_append]
 have e:leftOf left [(deep,c)]=left - 1:=by
  unfold leftOf;rw [if_pos ⟨by simp;omega,by simp [okOne,h2,h3]⟩];simp
 rw [e,if_neg (by omega)]
theorem conOk_left (c:CN):conOk c=decide (0≤leftOf 16 (parts c 1)):=by
 unfold conOk leftOf;by_cases h1:(parts c 1).length≤16
 · by_cases h2:(parts c 1).all okOne=true
   · rw [if_pos ⟨by omega,h2⟩,h2];simp;omega
   rw [if_neg (fun h=>h2 h.2)];simp at h2 ⊢;intro _;exact h2
 rw [if_neg (by omega)];simp [h1]
end

section
open Go.RowKit
def kidS (k:Int):Int:=if k=0∨k=1∨k=2 then 0 else if k=4∨k=5 then 2 else 1
set_option maxHeartbeats 400000 in
theorem l2kids_any (k:Int) (w:World):Calls Tryz.prog 92 #[.int .i64 k] w fun e w'=>e=.returned (.int .i64 (kidS k))∧w'=w:=by
 go_enter Tryz.func92, Tryz.ntmps92;go_wp2
 all_goals
  go_ret;refine ⟨ri ?_,rfl⟩
  first | (simp_all [kidS];done) | (unfold kidS;simp_all;omega)
theorem kidS_kidN {k:Int} (h0:0≤k) (h7:k≤7):kidS k=kidN k:=by
 unfold kidS kidN;by_cases h1:k=0∨k=1∨k=2
 · rw [if_pos h1,if_pos h1]
 rw [if_neg h1,if_neg h1];by_cases h2:k=4∨k=5
 · rw [if_pos h2,if_neg (by omega),if_pos h2]
 rw [if_neg h2,if_pos (by omega)]
theorem kidN_out {k:Int} (h:k<0∨7<k):kidN k=-1:=by
 unfold kidN;rw [if_neg (by omega),if_neg (by omega),if_neg (by omega)]
def BoxC (W:World) (b:Nat) (v0 v1 v2 v3:Value):Prop:=W.heap[b]?=some (.cells #[v0,v1,v2,v3] 37 (0,0))
theorem BoxC.new (W:World) (v0 v1 v2 v3:Value):BoxC (W.alloc (.cells #[v0,v1,v2,v3] 37)) W.heap.size v0 v1 v2 v3:=World.alloc_heap_new W _
theorem BoxC.below {W W':World} {b B:Nat} {v0 v1 v2 v3:Value} (h:BoxC W b v0 v1 v2 v3) (hb:Below B W W') (hB:b<B):BoxC W' b v0 v1 v2 v3:=(hb.block b hB).trans h
theorem BoxC.lt {W:World} {b:Nat} {v0 v1 v2 v3:Value} (h:BoxC W b v0 v1 v2 v3):b<W.heap.size:=(Array.getElem?_eq_some_iff.1 h).1
theorem BoxC.cells {W:World} {b:Nat} {v0 v1 v2 v3:Value} (h:BoxC W b v0 v1 v2 v3):W.cell? ⟨b,0,none⟩=some v0∧W.cell? ⟨b,1,none⟩=some v1∧W.cell? ⟨b,2,none⟩=some v2∧W.cell? ⟨b,3,none⟩=some v3:=by
 unfold BoxC at h;refine ⟨?_,?_,?_,?_⟩ <;> simp [World.cell?,h]
def OkC (d:Nat):Prop:=∀ (v:Value) (c:CN) (deep:Nat) (left:Int) (w:World) (lo hi:Nat),RdC lo hi w d v c→hi≤w.heap.size→deep≤7→0≤left→left≤16 →
 Calls Tryz.prog 66 #[v,.int .i64 deep,.int .i64 left] w fun e w'=>e=.returned (.int .i64 (leftOf left (parts c deep)))∧Below w.heap.size w w'
set_option maxRecDepth 100000 in
set_option maxHeartbeats 1000000 in
theorem l2ok_bad {v:Value} {c:CN} {d deep:Nat} {left:Int} {w:World} {lo hi:Nat} (h:RdC lo hi w (d+1) v c) (D:deep≤7) (h0:0≤left) (F:left≤16)
    (j:left=0∨deep=7∨c.kind<0∨7<c.kind∨((c.kids.length:Nat):Int)≠kidS c.kind) :
    Calls Tryz.prog 66 #[v,.int .i64 deep,.int .i64 left] w fun e w'=>e=.returned (.int .i64 (leftOf left (parts c deep)))∧Below w.heap.size w w':=by
 obtain ⟨na,nn,nc,ra,rn,rc,ka,kn,kc,rfl,hn,hr,hk⟩:=h;have z:=hk.len
 have hE:leftOf left (parts c deep)=-1:=by
  refine leftOf_bad c deep left ?_;rcases j with h | h | h | h | h
  · exact .inl (by omega)
  · exact .inr (.inl (by omega))
  · exact .inr (.inr (by simp [shapeB,kidN_out (.inl h)];done))
  · exact .inr (.inr (by simp [shapeB,kidN_out (.inr h)];done))
  by_cases ho:c.kind<0∨7<c.kind
  · exact .inr (.inr (by simp [shapeB,kidN_out ho];done))
  rw [kidS_kidN (by omega) (by omega)] at h;exact .inr (.inr (by simp [shapeB,h]))
 have HE:Hid (leftOf left (parts c deep)=-1):=hE;have HB:Hid (∀ n,Below w.heap.size w ((w.alloc (.cells #[.int .i64 c.kind,.slice na nn nc,.slice ra rn rc,.slice ka kn kc] 37)).drewN n)):=fun n=>below_drewN ((Below.refl _ _).alloc (Nat.le_refl _) _) n
 obtain ⟨k,A⟩:∃ k,k=c.kind:=⟨_,rfl⟩;rw [← A] at j HB ⊢;rw [z] at j;have E:(deep:Int)≤7:=by omega
 clear hn hr hk hE A z;go_enter Tryz.func66, Tryz.ntmps66;go_wp2_with fail;by_cases b1:left=0
 · subst b1;go_quiet (fail);go_wp2_with fail;go_ret;exact ⟨ri HE.out.symm,HB.out _⟩
 have d1:decide (left - 1<0)=false:=by simp;omega
 by_cases b2:deep=7
 · subst b2;go_quiet (fail);go_wp2_with fail;go_ret;exact ⟨ri HE.out.symm,HB.out _⟩
 have d2:decide ((6:Int)<(deep:Int))=false:=by simp;omega
 by_cases b3:k<0
 · go_quiet (fail);go_wp2_with fail;go_ret;exact ⟨ri HE.out.symm,HB.out _⟩
 have d3:decide (k<0)=false:=by simp;omega
 by_cases b4:7<k
 · go_quiet (fail);go_wp2_with fail;go_ret;exact ⟨ri HE.out.symm,HB.out _⟩
 have d4:decide (7<k)=false:=by simp;omega
 have b5:((kn:Int) != kidS k)=true:=by simp;omega
 clear j;go_quiet (first | (go_at_call 92;exact Calls.quiet_of_same (l2kids_any _ _)));go_wp2_with fail;go_ret;exact ⟨ri HE.out.symm,HB.out _⟩
end

section
open Go.RowKit
structure MarkRel (lo hi:Nat) (w w':World):Prop where
 os:w'.os=w.os
 tape:w'.tape=w.tape
 output:w'.output=w.output
 size:w.heap.size≤w'.heap.size
 out:∀ b,b<w.heap.size→(b<lo∨hi≤b)→w'.heap[b]?=w.heap[b]?
 cell:∀ (p:Addr) (v:Value),w.cell? p=some v→w'.cell? p=some v∨∃ kd m m',v=.int kd m∧w'.cell? p=some (.int kd m')
 frz:∀ p:Addr,p.block<w.heap.size→w'.frozen? p=w.frozen? p
theorem MarkRel.refl (lo hi:Nat) (w:World):MarkRel lo hi w w:=⟨rfl,rfl,rfl,Nat.le_refl _,fun _ _ _=>rfl,fun _ _ h=>.inl h,fun _ _=>rfl⟩
theorem MarkRel.trans {lo hi:Nat} {a b c:World} (h:MarkRel lo hi a b) (k:MarkRel lo hi b c):MarkRel lo hi a c:=by
 refine ⟨k.os.trans h.os,k.tape.trans h.tape,k.output.trans h.output,Nat.le_trans h.size k.size,fun x h1 h2=>(k.out x (Nat.lt_of_lt_of_le h1 h.size) h2).trans (h.out x h1 h2),fun p v hp=>?_,fun p hp=>(k.frz p (Nat.lt_of_lt_of_le hp h.size)).trans (h.frz p hp)⟩;rcases h.cell p v hp with h1 | ⟨kd,m,m',e,h1⟩
 · exact k.cell p v h1
 rcases k.cell p _ h1 with h2 | ⟨D,m2,A,e2,h2⟩
 · exact .inr ⟨kd,m,m',e,h2⟩
 simp only [Value.int.injEq] at e2;obtain ⟨rfl,_⟩:=e2;exact .inr ⟨kd,m,A,e,h2⟩
theorem MarkRel.of_below {lo hi:Nat} {w w':World} (h:Below w.heap.size w w'):MarkRel lo hi w w' :=
 ⟨h.os,h.tape,h.output,h.size,fun b h1 _=>h.block b h1,fun p _ hp=>.inl ((h.cell (p:=p) (block_lt_of_cell hp)).trans hp),fun p hp=>World.frozen?_of_block (w:=w) (h.block p.block hp)⟩
theorem MarkRel.set {lo hi:Nat} {w:World} {a:Addr} {kd:IntKind} {m:Int} (h:w.cell? a=some (.int kd m)) (h1:lo≤a.block) (h2:a.block<hi) (m':Int):MarkRel lo hi w (w.setCell a (.int kd m')):=by
 have hb:=(Below.refl a.block w).setCell (p:=a) (Nat.le_refl _) (.int kd m');refine ⟨hb.os,hb.tape,hb.output,hb.size,fun b _ E=>Below.heap_setCell w a _ b (by omega),fun p v hp=>?_,fun p _=>by simp⟩;by_cases e:a=p
 · subst e;rw [h] at hp;cases hp;exact .inr ⟨kd,m,m',rfl,World.cell?_setCell_same _ _ _ h⟩
 exact .inl (by rw [World.cell?_setCell_other _ _ _ _ e];exact hp)
theorem MarkRel.keep {lo hi:Nat} {w w':World} (h:MarkRel lo hi w w') {p:Addr} {v:Value} (hp:w.cell? p=some v) (hv:∀ kd m,v≠.int kd m):w'.cell? p=some v:=by
 rcases h.cell p v hp with h1 | ⟨kd,m,_,e,_⟩
 · exact h1
 exact absurd e (hv kd m)
theorem MarkRel.int {lo hi:Nat} {w w':World} (h:MarkRel lo hi w w') {p:Addr} {kd:IntKind} {m:Int} (hp:w.cell? p=some (.int kd m)):∃ m',w'.cell? p=some (.int kd m'):=by
 rcases h.cell p _ hp with h1 | ⟨kd',m1,m',e,h1⟩
 · exact ⟨m,h1⟩
 simp only [Value.int.injEq] at e;obtain ⟨rfl,_⟩:=e;exact ⟨m',h1⟩
structure ShB (lo hi:Nat) (w:World) (a:Option Addr) (n j:Nat):Prop where
 fits:n≤j∧j≤9223372036854775807
 cells:n=0∨∃ b off,a=some ⟨b,off,none⟩∧lo≤b∧b<hi∧∀ i,i<n→∃ z,w.cell? ⟨b,off+i,none⟩=some (.int .u8 z)
theorem Rd.sh {lo hi:Nat} {w:World} {a:Option Addr} {n j:Nat} {zs:List Int} (h:Rd lo hi w a n j zs):ShB lo hi w a n j:=by
 obtain ⟨_,hm,_,hc⟩:=h;refine ⟨hm,?_⟩;rcases hc with h0 | ⟨b,off,e,h1,h2,hc⟩
 · exact .inl h0
 exact .inr ⟨b,off,e,h1,h2,fun i hi=>⟨_,hc i hi⟩⟩
def ShC (lo hi:Nat) (w:World):Nat→Value→CN→Prop
 | 0,_,_=>False
 | d+1,v,c=>∃ k na nn nc ra rn rc ka kn kc,v=.agg #[.int .i64 k,.slice na nn nc,.slice ra rn rc,.slice ka kn kc] ∧
     c.name.length=nn∧ShB lo hi w na nn nc∧c.role.length=rn∧ShB lo hi w ra rn rc∧RdL (ShC lo hi w d) lo hi w ka kn kc c.kids
theorem RdC.sh {lo hi:Nat} {w:World}:∀ {d:Nat} {v:Value} {c:CN},RdC lo hi w d v c→ShC lo hi w d v c:=by
 intro d
 induction d with
 | zero=>intro v c h;exact h
 | succ d ih =>
  intro v c h;obtain ⟨na,nn,nc,ra,rn,rc,ka,kn,kc,hv,h1,h2,h3⟩:=h;exact ⟨_,na,nn,nc,ra,rn,rc,ka,kn,kc,hv,h1.len,h1.sh,h2.len,h2.sh,h3.imp (fun v c h=>ih h) (Same.refl _ _ _) (Nat.le_refl _) (Nat.le_refl _)⟩
theorem ShC.form {lo hi:Nat} {w:World} {d:Nat} {v0 v1 v2 v3:Value} {c:CN} (h:ShC lo hi w d (.agg #[v0,v1,v2,v3]) c):∃ k na nn nc ra rn rc ka kn kc,v0=.int .i64 k∧v1=.slice na nn nc∧v2=.slice ra rn rc∧v3=.slice ka kn kc:=by
 cases d with
 | zero=>exact h.elim
 | succ d =>
  obtain ⟨k,na,nn,nc,ra,rn,rc,ka,kn,kc,hv,_⟩:=h;simp only [Value.agg.injEq,Array.mk.injEq,List.cons.injEq,and_true] at hv;exact ⟨k,na,nn,nc,ra,rn,rc,ka,kn,kc,hv.1,hv.2.1,hv.2.2.1,hv.2.2.2⟩
end

section
open Go.RowKit
set_option maxHeartbeats 400000 in
theorem kidCount_any (k:Int) (w:World):Calls Tryz.prog 83 #[.int .i64 k] w fun e w'=>e=.returned (.int .i64 (kidN k))∧w'=w:=by
 go_enter Tryz.func83, Tryz.ntmps83;go_wp2
 all_goals
  go_ret;refine ⟨ri ?_,rfl⟩
  first | (simp_all [kidN];done) | (unfold kidN;simp_all;omega)
set_option maxHeartbeats 400000 in
theorem hasRole_any (k:Int) (w:World):Calls Tryz.prog 84 #[.int .i64 k] w fun e w'=>e=.returned (.bool (roleB k))∧w'=w:=by
 by_cases h:k=6
 · subst h;go_enter Tryz.func84, Tryz.ntmps84;go_wp2;go_ret;exact ⟨rfl,rfl⟩
 have h6:(k == 6)=false:=by simpa using h
 have HE:Hid (roleB k=(k == 7)):=by unfold Hid roleB;simp [h];rfl
 go_enter Tryz.func84, Tryz.ntmps84;go_wp2;go_ret;exact ⟨rb HE.out.symm,rfl⟩
set_option maxRecDepth 100000 in
set_option maxHeartbeats 1000000 in
theorem nameFits_any {d:Nat} {v:Value} {c:CN} {w:World} {lo hi:Nat} (h:RdC lo hi w d v c) (F:hi≤w.heap.size) :
    Calls Tryz.prog 103 #[v] w fun e w'=>e=.returned (.bool (nameFit c))∧Below w.heap.size w w':=by
 cases d with
 | zero=>exact h.elim
 | succ d =>
  obtain ⟨na,nn,nc,ra,rn,rc,ka,kn,kc,rfl,hn,_,_⟩:=h;have I:=hn.len;have z:Below w.heap.size w (w.alloc (.cells #[.int .i64 c.kind,.slice na nn nc,.slice ra rn rc,.slice ka kn kc] 37)):=(Below.refl _ _).alloc (Nat.le_refl _) _;have j:Hid (Below w.heap.size w (w.alloc (.cells #[.int .i64 c.kind,.slice na nn nc,.slice ra rn rc,.slice ka kn kc] 37))):=z;have HN:Hid (Rd lo hi (w.alloc (.cells #[.int .i64 c.kind,.slice na nn nc,.slice ra rn rc,.slice ka kn kc] 37)) na nn nc c.name):=hn.below z F;have A:Hid (nameFit c=if c.kind=2 then (upOk c.name && !keptB (strOfNums c.name).toList) else decide (nn=0)):=by unfold Hid nameFit;rw [I]
  obtain ⟨k,D⟩:∃ k,k=c.kind:=⟨_,rfl⟩;rw [← D] at j HN A ⊢;clear z hn D I;by_cases k2:k=2
  · subst k2;rw [if_pos rfl] at A;cases hU:upOk c.name
    · have HX:Hid (nameFit c=false):=by unfold Hid;rw [A.out,hU];rfl
      go_enter Tryz.func103, Tryz.ntmps103;go_wp2_with (first | (go_at_call 101;refine (implUpperOk_any na nn nc c.name _ HN.out).mono ?_;rintro e w' ⟨rfl,hw⟩;rw [hw,hU];clear hw));go_ret;exact ⟨rb HX.out.symm,j.out⟩
    obtain ⟨kp,E⟩:∃ kp,kp=keptB (strOfNums c.name).toList:=⟨_,rfl⟩;have HX:Hid (nameFit c=!kp):=by unfold Hid;rw [A.out,hU,E];rfl
    have J:Hid (kp=keptB (strOfNums c.name).toList):=E;clear E;go_enter Tryz.func103, Tryz.ntmps103;go_wp2_with (first | (go_at_call 101;refine (implUpperOk_any na nn nc c.name _ HN.out).mono ?_;rintro e w' ⟨rfl,hw⟩;rw [hw,hU];clear hw) | (go_at_call 82;refine (implKept_any na nn nc c.name _ HN.out).mono ?_;rintro e w' ⟨rfl,hw⟩;rw [hw,← J.out];clear hw));go_ret;exact ⟨rb HX.out.symm,j.out⟩
  rw [if_neg k2] at A;have N:(k == 2)=false:=by simpa using k2
  have HX:Hid (nameFit c=((nn:Int) == 0)):=by unfold Hid;rw [A.out];by_cases h:nn=0 <;> simp [h]
  go_enter Tryz.func103, Tryz.ntmps103;go_wp2_with fail;go_ret;exact ⟨rb (by rw [HX.out]),j.out⟩
set_option maxRecDepth 100000 in
set_option maxHeartbeats 1000000 in
theorem roleFits_any {d:Nat} {v:Value} {c:CN} {w:World} {lo hi:Nat} (h:RdC lo hi w d v c) (F:hi≤w.heap.size) :
    Calls Tryz.prog 104 #[v] w fun e w'=>e=.returned (.bool (roleFit c))∧Below w.heap.size w w':=by
 cases d with
 | zero=>exact h.elim
 | succ d =>
  obtain ⟨na,nn,nc,ra,rn,rc,ka,kn,kc,rfl,_,hr,_⟩:=h;have H:=hr.len;have z:Below w.heap.size w (w.alloc (.cells #[.int .i64 c.kind,.slice na nn nc,.slice ra rn rc,.slice ka kn kc] 37)):=(Below.refl _ _).alloc (Nat.le_refl _) _;have j:Hid (Below w.heap.size w (w.alloc (.cells #[.int .i64 c.kind,.slice na nn nc,.slice ra rn rc,.slice ka kn kc] 37))):=z;have HR:Hid (Rd lo hi (w.alloc (.cells #[.int .i64 c.kind,.slice na nn nc,.slice ra rn rc,.slice ka kn kc] 37)) ra rn rc c.role):=hr.below z F;have G:Hid (roleFit c=if roleB c.kind=true then lowOk c.role else decide (rn=0)):=by unfold Hid roleFit;rw [H]
  obtain ⟨k,D⟩:∃ k,k=c.kind:=⟨_,rfl⟩;rw [← D] at j HR G ⊢;clear z hr D H;cases hm:roleB k
  · have HX:Hid (roleFit c=((rn:Int) == 0)):=by unfold Hid;rw [G.out,hm,if_neg (by simp)];by_cases h:rn=0 <;> simp [h]
    go_enter Tryz.func104, Tryz.ntmps104;go_wp2_with (first | (go_at_call 84;refine (hasRole_any _ _).mono ?_;rintro e w' ⟨rfl,hw⟩;rw [hw,hm];clear hw));go_ret;exact ⟨rb (by rw [HX.out]),j.out⟩
  have HX:Hid (roleFit c=lowOk c.role):=by unfold Hid;rw [G.out,hm,if_pos rfl]
  go_enter Tryz.func104, Tryz.ntmps104;go_wp2_with (first | (go_at_call 84;refine (hasRole_any _ _).mono ?_;rintro e w' ⟨rfl,hw⟩;rw [hw,hm];clear hw) | (go_at_call 61;refine (implLowerOk_any ra rn rc c.role _ HR.out).mono ?_;rintro e w' ⟨rfl,hw⟩;rw [hw];clear hw));go_ret;exact ⟨rb HX.out.symm,j.out⟩
end

section
inductive Res where
 | ok (c:CN) (j:Nat)
 | bad (at':Int)
inductive ResL where
 | ok (cs:List CN) (j:Nat)
 | bad (at':Int)
def kindW (l:List UInt8):Int :=
 if l=[84,111,112] then 0 else if l=[66,111,116] then 1 else if l=[78,111,116] then 3 else if l=[65,110,100] then 4 else if l=[79,114] then 5 else if l=[83,111,109,101] then 6 else if l=[65,108,108] then 7 else 2
theorem kindW_range (l:List UInt8):kindW l=0∨kindW l=1∨kindW l=2∨kindW l=3∨kindW l=4∨kindW l=5∨kindW l=6∨kindW l=7:=by
 unfold kindW
 split
 · simp
 split
 · simp
 split
 · simp
 split
 · simp
 split
 · simp
 split
 · simp
 split <;> simp
def isI (ts:List Tok) (k:Int) (i:Nat):Bool:=decide (i<ts.length) && decide ((ts.getD i Tok.zero).kind=k)
def hereI (ts:List Tok) (en:Int) (i:Nat):Int:=if i<ts.length then (ts.getD i Tok.zero).place else en
def wordI (ts:List Tok) (i:Nat):List Int:=(ts.getD i Tok.zero).text
def kindI (ts:List Tok) (i:Nat):Int:=kindW (strOfNums (wordI ts i)).toList
def kidsR (g:Nat→Res) (j:Nat):Nat→ResL
 | 0=>.ok [] j
 | m+1=>match kidsR g j m with
  | .bad a=>.bad a
  | .ok cs j'=>match g j' with
   | .bad a=>.bad a
   | .ok c j''=>.ok (cs++[c]) j''
def closeR (ts:List Tok) (en:Int) (k:Int) (rl:List Int):ResL→Res
 | .bad a=>.bad a
 | .ok cs j=>if isI ts 4 j=true then .ok (.mk k [] rl cs) (j+1) else .bad (hereI ts en j)
def roleI (ts:List Tok) (k:Int) (i:Nat):List Int:=if roleB k=true then wordI ts (i+2) else []
def startI (k:Int) (i:Nat):Nat:=if roleB k=true then i+3 else i+2
def conR (ts:List Tok) (en:Int):Nat→Nat→Res
 | 0,i=>.bad (hereI ts en i)
 | f+1,i =>
  if isI ts 1 i=false then .bad (hereI ts en i)
  else if kindI ts i=2 then (if keptB (strOfNums (wordI ts i)).toList=true then .bad (hereI ts en i) else .ok (.mk 2 (wordI ts i) [] []) (i+1))
  else if kidN (kindI ts i)=0 then .ok (.mk (kindI ts i) [] [] []) (i+1)
  else if isI ts 3 (i+1)=false then .bad (hereI ts en (i+1))
  else if roleB (kindI ts i)=true∧isI ts 2 (i+2)=false then .bad (hereI ts en (i+2))
  else closeR ts en (kindI ts i) (roleI ts (kindI ts i) i) (kidsR (conR ts en f) (startI (kindI ts i) i) (kidN (kindI ts i)).toNat)
def wholeR (zs:List Int):CN × Int :=
 if (toks zs).2≠-1 then (CN.zero,(toks zs).2)
 else match conR (toks zs).1 (zs.length:Nat) 6 0 with
  | .bad a=>(CN.zero,a)
  | .ok c j=>if j<(toks zs).1.length then (CN.zero,hereI (toks zs).1 (zs.length:Nat) j) else (c,-1)
def conRead (zs:List Int):CN × Int:=if (wholeR zs).2=-1∧conOk (wholeR zs).1=false then (CN.zero,(zs.length:Nat)) else wholeR zs
theorem wholeR_tok {zs:List Int} {ts:List Tok} {p:Int} (ht:toks zs=(ts,p)) (hp:p≠-1):wholeR zs=(CN.zero,p):=by
 unfold wholeR;rw [ht];rw [if_pos hp]
theorem wholeR_bad {zs:List Int} {ts:List Tok} {n:Nat} {a:Int} (ht:toks zs=(ts,-1)) (hl:zs.length=n) (h:conR ts (n:Nat) 6 0=.bad a):wholeR zs=(CN.zero,a):=by
 unfold wholeR;rw [ht,hl];rw [if_neg (by simp)];simp only;rw [h]
theorem wholeR_more {zs:List Int} {ts:List Tok} {n:Nat} {c:CN} {j:Nat} (ht:toks zs=(ts,-1)) (hl:zs.length=n) (h:conR ts (n:Nat) 6 0=.ok c j) (hj:j<ts.length):wholeR zs=(CN.zero,hereI ts (n:Nat) j):=by
 unfold wholeR;rw [ht,hl];rw [if_neg (by simp)];simp only;rw [h];simp only;rw [if_pos hj]
theorem wholeR_ok {zs:List Int} {ts:List Tok} {n:Nat} {c:CN} {j:Nat} (ht:toks zs=(ts,-1)) (hl:zs.length=n) (h:conR ts (n:Nat) 6 0=.ok c j) (hj:¬ j<ts.length):wholeR zs=(c,-1):=by
 unfold wholeR;rw [ht,hl];rw [if_neg (by simp)];simp only;rw [h];simp only;rw [if_neg hj]
theorem toksFrom_short (zs:List Int):∀ (f i:Nat) (z:List Tok),(∀ t∈z,t.text.length≤6)→∀ t∈(toksFrom zs f i z).1,t.text.length≤6
 | 0,_,z,h=>by simpa [toksFrom] using h
 | f+1,i,z,h=>by
  rw [toksFrom]
  split
  · split
    · exact toksFrom_short zs f (i+1) z h
    split
    · intro t ht;simp at ht
    refine toksFrom_short zs f (pend zs i) (z++[tokAt zs i]) (fun t ht=>?_);rcases List.mem_append.1 ht with ht | ht
    · exact h t ht
    simp only [List.mem_singleton] at ht;subst ht
    have hb:∀ p:List Int,longB p.length=true→p.length≤6:=fun p hp=>by
     simp only [longB,Bool.and_eq_true,decide_eq_true_eq] at hp;exact hp.2
    simp only [tokAt]
    split
    · rename_i hk
      unfold kindOf at hk
      split at hk
      · rename_i hu
        simp only [upOk,Bool.and_eq_true] at hu;exact hb _ hu.1
      split at hk
      · rename_i hu
        simp only [lowOk,Bool.and_eq_true] at hu;exact hb _ hu.1
      split at hk
      · simp at hk
      split at hk <;> simp at hk
    simp
  exact h
theorem toks_short (zs:List Int) (i:Nat):(wordI (toks zs).1 i).length≤6:=by
 have h:∀ t∈(toks zs).1,t.text.length≤6:=by
  unfold toks
  split
  · intro t ht;simp at ht
  exact toksFrom_short zs _ _ _ (fun t ht=>by simp at ht)
 unfold wordI;by_cases hi:i<(toks zs).1.length
 · have e:(toks zs).1.getD i Tok.zero=(toks zs).1[i]:=by simp [List.getD,hi]
   rw [e];exact h _ (List.getElem_mem hi)
 have e:(toks zs).1.getD i Tok.zero=Tok.zero:=by simp [List.getD,List.getElem?_eq_none (Nat.le_of_not_lt hi)]
 rw [e];simp [Tok.zero]
theorem isI_lt {ts:List Tok} {k:Int} {i:Nat} (h:isI ts k i=true):i<ts.length:=by
 simp only [isI,Bool.and_eq_true,decide_eq_true_eq] at h;exact h.1
theorem isI_kind {ts:List Tok} {k:Int} {i:Nat} (h:isI ts k i=true):(ts.getD i Tok.zero).kind=k:=by
 simp only [isI,Bool.and_eq_true,decide_eq_true_eq] at h;exact h.2
theorem conR_end (ts:List Tok) (en:Int):∀ (f i:Nat) (c:CN) (j:Nat),conR ts en f i=.ok c j→i<j∧j≤ts.length:=by
 intro f
 induction f with
 | zero=>intro i c j h;simp [conR] at h
 | succ f ih =>
  intro i c j h
  have hk:∀ (s m:Nat) (cs:List CN) (j':Nat),kidsR (conR ts en f) s m=.ok cs j'→s≤ts.length→s≤j'∧j'≤ts.length:=by
   intro s m
   induction m with
   | zero=>intro cs j' h hs;simp only [kidsR,ResL.ok.injEq] at h;omega
   | succ m ihm =>
    intro cs j' h hs;simp only [kidsR] at h;cases h1:kidsR (conR ts en f) s m with
    | bad a=>rw [h1] at h;simp at h
    | ok cs1 j1 =>
     rw [h1] at h;simp only at h;cases h2:conR ts en f j1 with
     | bad a=>rw [h2] at h;simp at h
     | ok c2 j2 =>
      rw [h2] at h;simp only [ResL.ok.injEq] at h;have:=ihm cs1 j1 h1 hs;have:=ih j1 c2 j2 h2;omega
  simp only [conR] at h
  split at h
  · simp at h
  rename_i h1
  have l1:i<ts.length:=isI_lt (k:=1) (by simpa using h1)
  split at h
  · split at h
    · simp at h
    simp only [Res.ok.injEq] at h;omega
  split at h
  · simp only [Res.ok.injEq] at h;omega
  split at h
  · simp at h
  rename_i h3
  have l3:i+1<ts.length:=isI_lt (k:=3) (by simpa using h3)
  split at h
  · simp at h
  rename_i h4
  have hs:i+2≤startI (kindI ts i) i∧startI (kindI ts i) i≤ts.length:=by
   unfold startI
   split
   · rename_i hr
     have:isI ts 2 (i+2)=true:=by
      cases hh:isI ts 2 (i+2)
      · exact absurd ⟨hr,hh⟩ h4
      rfl
     have:=isI_lt this;omega
   omega
  cases h5:kidsR (conR ts en f) (startI (kindI ts i) i) (kidN (kindI ts i)).toNat with
  | bad a=>rw [h5] at h;simp [closeR] at h
  | ok cs1 j1 =>
   rw [h5] at h;simp only [closeR] at h
   split at h
   · rename_i h6
     have:=isI_lt h6;have:=hk _ _ _ _ h5 hs.2;simp only [Res.ok.injEq] at h;omega
   simp at h
theorem conR_bulk (ts:List Tok) (en:Int) (hw:∀ i,(wordI ts i).length≤6):∀ (f i:Nat) (c:CN) (j:Nat),conR ts en f i=.ok c j→c.bulk+1+7*i≤7*j:=by
 intro f
 induction f with
 | zero=>intro i c j h;simp [conR] at h
 | succ f ih =>
  intro i c j h
  have hk:∀ (s m:Nat) (cs:List CN) (j':Nat),kidsR (conR ts en f) s m=.ok cs j'→bulks cs+7*s≤7*j':=by
   intro s m
   induction m with
   | zero=>intro cs j' h;simp only [kidsR,ResL.ok.injEq] at h;rw [← h.1,← h.2];simp [bulks]
   | succ m ihm =>
    intro cs j' h;simp only [kidsR] at h;cases h1:kidsR (conR ts en f) s m with
    | bad a=>rw [h1] at h;simp at h
    | ok cs1 j1 =>
     rw [h1] at h;simp only at h;cases h2:conR ts en f j1 with
     | bad a=>rw [h2] at h;simp at h
     | ok c2 j2 =>
      rw [h2] at h;simp only [ResL.ok.injEq] at h;have:=ihm cs1 j1 h1;have:=ih j1 c2 j2 h2;rw [← h.1,← h.2,bulks_append];simp only [bulks];omega
  simp only [conR] at h
  split at h
  · simp at h
  split at h
  · split at h
    · simp at h
    simp only [Res.ok.injEq] at h;have:=hw i;rw [← h.1,← h.2,CN.bulk_eq];simp only [CN.name,CN.role,CN.kids,List.length_nil,bulks];omega
  split at h
  · simp only [Res.ok.injEq] at h;rw [← h.1,← h.2,CN.bulk_eq];simp only [CN.name,CN.role,CN.kids,List.length_nil,bulks];omega
  split at h
  · simp at h
  split at h
  · simp at h
  cases h5:kidsR (conR ts en f) (startI (kindI ts i) i) (kidN (kindI ts i)).toNat with
  | bad a=>rw [h5] at h;simp [closeR] at h
  | ok cs1 j1 =>
   rw [h5] at h;simp only [closeR] at h
   split at h
   · simp only [Res.ok.injEq] at h;have h7:=hk _ _ _ _ h5
     have h8:(roleI ts (kindI ts i) i).length+7*i+8≤7*startI (kindI ts i) i:=by
      unfold roleI startI
      split
      · have:=hw (i+2);omega
      simp;omega
     rw [← h.1,← h.2,CN.bulk_eq];simp only [CN.name,CN.role,CN.kids,List.length_nil];omega
   simp at h
theorem wholeR_bulk (zs:List Int) (hn:(toks zs).1.length≤1500):(wholeR zs).1.bulk≤10500:=by
 have hz:CN.zero.bulk≤10500:=by rw [CN.bulk_eq];simp [CN.zero,CN.name,CN.role,CN.kids,bulks]
 unfold wholeR
 split
 · exact hz
 cases h:conR (toks zs).1 (zs.length:Nat) 6 0 with
 | bad a=>exact hz
 | ok c j =>
  simp only
  split
  · exact hz
  have h1:=conR_bulk _ _ (toks_short zs) 6 0 c j h;have h2:=(conR_end _ _ 6 0 c j h).2
  show c.bulk≤10500
  omega
end

end Go.Proofs.YtocpeiaolofodaaGreat
