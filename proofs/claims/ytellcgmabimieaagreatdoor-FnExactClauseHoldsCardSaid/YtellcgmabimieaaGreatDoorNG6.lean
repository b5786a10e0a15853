/- Several texts in one: ConMath, ConSpec, ConMark, ConTree, ConShape. -/
import Derived.Test.YtellcgmabimieaaGreatDoorNG2
import Derived.Test.YtellcgmabimieaaGreatDoorNG4
import Derived.BigQuiet
import Derived.RangeFuncRecord
import Derived.Test.YtellcgmabimieaaGreatDoorNG1
import Derived.RangeFuncNested
import Derived.RangeFuncBound
import Derived.RangeFuncCalls
import Derived.RangeFuncLeaves
import Derived.RangeFuncBox
import Derived.Shelf.Abstract
import Derived.Shelf.RegionOpen
import Derived.OwnWalkIn
import Derived.TacticsInMore
import Derived.LoopNIn
import Derived.LoopIn
import Derived.Laws.EntriesVeiled
import Derived.Deep.RegionWith
namespace Go.Proofs.YtellcgmabimieaaGreatDoor

section
open Go.RowKit
def kidN (k:Int):Int:=if k=0∨k=1∨k=2 then 0 else if k=3∨k=6∨k=7 then 1 else if k=4∨k=5 then 2 else -1
def roleB (k:Int):Bool:=decide (k=6) || decide (k=7)
def nameFit (c:CN):Bool:=if c.kind=2 then (upOk c.name && !keptB (strOfNums c.name).toList) else decide (c.name.length=0)
def roleFit (c:CN):Bool:=if roleB c.kind=true then lowOk c.role else decide (c.role.length=0)
def shapeB (c:CN):Bool:=nameFit c && (roleFit c && decide ((c.kids.length:Int)=kidN c.kind))
mutual
def parts:CN→Nat→List (Nat × CN)
 | .mk k n r ks,deep=>(deep,.mk k n r ks) :: partsL ks (deep+1)
def partsL:List CN→Nat→List (Nat × CN)
 | [],_=>[]
 | c :: cs,deep=>parts c deep++partsL cs deep
end
theorem parts_eq (c:CN) (deep:Nat):parts c deep=(deep,c) :: partsL c.kids (deep+1):=by
 cases c;rw [parts];rfl
theorem partsL_append (xs ys:List CN) (deep:Nat):partsL (xs++ys) deep=partsL xs deep++partsL ys deep:=by
 induction xs with
 | nil=>simp [partsL]
 | cons x xs ih=>simp only [List.cons_append,partsL,ih,List.append_assoc]
theorem partsL_take_succ (cs:List CN) (k deep:Nat) (h:k<cs.length):partsL (cs.take (k+1)) deep=partsL (cs.take k) deep++parts (cs.getD k CN.zero) deep:=by
 rw [take_succ_getD cs CN.zero k h,partsL_append];simp only [partsL,List.append_nil]
theorem partsL_take_drop (cs:List CN) (k deep:Nat):partsL cs deep=partsL (cs.take k) deep++partsL (cs.drop k) deep:=by
 rw [← partsL_append,List.take_append_drop]
def okOne (x:Nat × CN):Bool:=decide (x.1≤6) && shapeB x.2
def conOk (c:CN):Bool:=decide ((parts c 1).length≤16) && (parts c 1).all okOne
def leftOf (left:Int) (L:List (Nat × CN)):Int:=if (L.length:Int)≤left∧L.all okOne=true then left - L.length else -1
theorem leftOf_pos {left:Int} {L:List (Nat × CN)} (h:(L.length:Int)≤left) (k:L.all okOne=true):leftOf left L=left - L.length:=if_pos ⟨h,k⟩
theorem leftOf_neg {left:Int} {L:List (Nat × CN)} (h:¬ ((L.length:Int)≤left∧L.all okOne=true)):leftOf left L=-1:=if_neg h
theorem leftOf_append {left:Int} (L M:List (Nat × CN)):leftOf left (L++M)=if leftOf left L<0 then -1 else leftOf (leftOf left L) M:=by
 by_cases h1:(L.length:Int)≤left∧L.all okOne=true
 · rw [leftOf_pos h1.1 h1.2,if_neg (by omega)];by_cases h2:(M.length:Int)≤left - L.length∧M.all okOne=true
   · rw [leftOf_pos h2.1 h2.2,leftOf_pos (by rw [List.length_append];omega) (by rw [List.all_append,h1.2,h2.2];rfl),List.length_append];omega
   rw [leftOf_neg h2,leftOf_neg];rintro ⟨h3,h4⟩;rw [List.length_append] at h3;rw [List.all_append,Bool.and_eq_true] at h4;exact h2 ⟨by omega,h4.2⟩
 rw [leftOf_neg h1,if_pos (by omega),leftOf_neg];rintro ⟨h3,h4⟩;rw [List.length_append] at h3;rw [List.all_append,Bool.and_eq_true] at h4;exact h1 ⟨by omega,h4.1⟩
theorem leftOf_le {left:Int} (h:0≤left) (L:List (Nat × CN)):leftOf left L≤left:=by
 unfold leftOf;split <;> omega
theorem leftOf_nil (left:Int) (h:0≤left):leftOf left []=left:=by simp [leftOf,h]
theorem leftOf_bad (c:CN) (deep:Nat) (left:Int) (h:left - 1<0∨6<deep∨shapeB c=false):leftOf left (parts c deep)=-1:=by
 rw [parts_eq];unfold leftOf;rw [if_neg];rintro ⟨h1,h2⟩;simp only [List.length_cons,List.all_cons,okOne,Bool.and_eq_true,decide_eq_true_eq] at h1 h2;rcases h with h | h | h
 · omega
 · omega
 rw [h2.1.2] at h;cases h
theorem leftOf_good (c:CN) (deep:Nat) (left:Int) (h1:0≤left - 1) (h2:deep≤6) (h3:shapeB c=true):leftOf left (parts c deep)=leftOf (left - 1) (partsL c.kids (deep+1)):=by
 rw [parts_eq,show ((deep,c) :: partsL c.kids (deep+1))=[(deep,c)]++partsL c.kids (deep+1) from rfl,leftOf_append]
 have e:leftOf left [(deep,c)]=left - 1:=by
  unfold leftOf;rw [if_pos ⟨by simp;omega,by simp [okOne,h2,h3]⟩];simp
 rw [e,if_neg (by omega)]
theorem conOk_left (c:CN):conOk c=decide (0≤leftOf 16 (parts c 1)):=by
 unfold conOk leftOf;by_cases h1:(parts c 1).length≤16
 · by_cases h2:(parts c 1).all okOne=true
   · rw [if_pos ⟨by omega,h2⟩,h2];simp;omega
   rw [if_neg (fun h=>h2 h.2)];simp at h2 ⊢;intro _;exact h2
 rw [if_neg (by omega)];simp [h1]
end

section
open Go.RowKit
def kidS (k:Int):Int:=if k=0∨k=1∨k=2 then 0 else if k=4∨k=5 then 2 else 1
set_option maxHeartbeats 400000 in
theorem l2kids_any (k:Int) (w:World):Calls Tryz.prog 111 #[.int .i64 k] w fun e w'=>e=.returned (.int .i64 (kidS k))∧w'=w:=by
 go_enter Tryz.func111, Tryz.ntmps111;go_wp2
 all_goals
  go_ret;refine ⟨ri ?_,rfl⟩
  first | (simp_all [kidS];done) | (unfold kidS;simp_all;omega)
theorem kidS_kidN {k:Int} (h0:0≤k) (h7:k≤7):kidS k=kidN k:=by
 unfold kidS kidN;by_cases h1:k=0∨k=1∨k=2
 · rw [if_pos h1,if_pos h1]
 rw [if_neg h1,if_neg h1];by_cases h2:k=4∨k=5
 · rw [if_pos h2,if_neg (by omega),if_pos h2]
 rw [if_neg h2,if_pos (by omega)]
theorem kidN_out {k:Int} (h:k<0∨7<k):kidN k=-1:=by
 unfold kidN;rw [if_neg (by omega),if_neg (by omega),if_neg (by omega)]
def BoxC (W:World) (b:Nat) (v0 v1 v2 v3:Value):Prop:=W.heap[b]?=some (.cells #[v0,v1,v2,v3] 104 (0,0))
theorem BoxC.new (W:World) (v0 v1 v2 v3:Value):BoxC (W.alloc (.cells #[v0,v1,v2,v3] 104)) W.heap.size v0 v1 v2 v3:=World.alloc_heap_new W _
theorem BoxC.below {W W':World} {b B:Nat} {v0 v1 v2 v3:Value} (h:BoxC W b v0 v1 v2 v3) (hb:Below B W W') (hB:b<B):BoxC W' b v0 v1 v2 v3:=(hb.block b hB).trans h
theorem BoxC.lt {W:World} {b:Nat} {v0 v1 v2 v3:Value} (h:BoxC W b v0 v1 v2 v3):b<W.heap.size:=(Array.getElem?_eq_some_iff.1 h).1
theorem BoxC.cells {W:World} {b:Nat} {v0 v1 v2 v3:Value} (h:BoxC W b v0 v1 v2 v3):W.cell? ⟨b,0,none⟩=some v0∧W.cell? ⟨b,1,none⟩=some v1∧W.cell? ⟨b,2,none⟩=some v2∧W.cell? ⟨b,3,none⟩=some v3:=by
 unfold BoxC at h;refine ⟨?_,?_,?_,?_⟩ <;> simp [World.cell?,h]
def OkC (d:Nat):Prop:=∀ (v:Value) (c:CN) (deep:Nat) (left:Int) (w:World) (lo hi:Nat),RdC lo hi w d v c→hi≤w.heap.size→deep≤7→0≤left→left≤16 →
 Calls Tryz.prog 87 #[v,.int .i64 deep,.int .i64 left] w fun e w'=>e=.returned (.int .i64 (leftOf left (parts c deep)))∧Below w.heap.size w w'
set_option maxRecDepth 100000 in
set_option maxHeartbeats 1000000 in
theorem l2ok_bad {v:Value} {c:CN} {d deep:Nat} {left:Int} {w:World} {lo hi:Nat} (h:RdC lo hi w (d+1) v c) (z:deep≤7) (h0:0≤left) (D:left≤16)
    (o:left=0∨deep=7∨c.kind<0∨7<c.kind∨((c.kids.length:Nat):Int)≠kidS c.kind) :
    Calls Tryz.prog 87 #[v,.int .i64 deep,.int .i64 left] w fun e w'=>e=.returned (.int .i64 (leftOf left (parts c deep)))∧Below w.heap.size w w':=by
 obtain ⟨na,nn,nc,ra,rn,rc,ka,kn,kc,rfl,hn,hr,hk⟩:=h;have q:=hk.len
 have hE:leftOf left (parts c deep)=-1:=by
  refine leftOf_bad c deep left ?_;rcases o with h | h | h | h | h
  · exact .inl (by omega)
  · exact .inr (.inl (by omega))
  · exact .inr (.inr (by simp [shapeB,kidN_out (.inl h)];done))
  · exact .inr (.inr (by simp [shapeB,kidN_out (.inr h)];done))
  by_cases ho:c.kind<0∨7<c.kind
  · exact .inr (.inr (by simp [shapeB,kidN_out ho];done))
  rw [kidS_kidN (by omega) (by omega)] at h;exact .inr (.inr (by simp [shapeB,h]))
 have HE:Hid (leftOf left (parts c deep)=-1):=hE;have HB:Hid (∀ n,Below w.heap.size w ((w.alloc (.cells #[.int .i64 c.kind,.slice na nn nc,.slice ra rn rc,.slice ka kn kc] 104)).drewN n)):=fun n=>below_drewN ((Below.refl _ _).alloc (Nat.le_refl _) _) n
 obtain ⟨k,u⟩:∃ k,k=c.kind:=⟨_,rfl⟩;rw [← u] at o HB ⊢;rw [q] at o;have A:(deep:Int)≤7:=by omega
 clear hn hr hk hE u q;go_enter Tryz.func87, Tryz.ntmps87;go_wp2_with fail;by_cases b1:left=0
 · subst b1;go_quiet (fail);go_wp2_with fail;go_ret;exact ⟨ri HE.out.symm,HB.out _⟩
 have d1:decide (left - 1<0)=false:=by simp;omega
 by_cases b2:deep=7
 · subst b2;go_quiet (fail);go_wp2_with fail;go_ret;exact ⟨ri HE.out.symm,HB.out _⟩
 have d2:decide ((6:Int)<(deep:Int))=false:=by simp;omega
 by_cases b3:k<0
 · go_quiet (fail);go_wp2_with fail;go_ret;exact ⟨ri HE.out.symm,HB.out _⟩
 have d3:decide (k<0)=false:=by simp;omega
 by_cases b4:7<k
 · go_quiet (fail);go_wp2_with fail;go_ret;exact ⟨ri HE.out.symm,HB.out _⟩
 have d4:decide (7<k)=false:=by simp;omega
 have b5:((kn:Int) != kidS k)=true:=by simp;omega
 clear o;go_quiet (first | (go_at_call 111;exact Calls.quiet_of_same (l2kids_any _ _)));go_wp2_with fail;go_ret;exact ⟨ri HE.out.symm,HB.out _⟩
end

section
open Go.RowKit
structure MarkRel (lo hi:Nat) (w w':World):Prop where
 os:w'.os=w.os
 tape:w'.tape=w.tape
 output:w'.output=w.output
 size:w.heap.size≤w'.heap.size
 out:∀ b,b<w.heap.size→(b<lo∨hi≤b)→w'.heap[b]?=w.heap[b]?
 cell:∀ (p:Addr) (v:Value),w.cell? p=some v→w'.cell? p=some v∨∃ kd m m',v=.int kd m∧w'.cell? p=some (.int kd m')
 frz:∀ p:Addr,p.block<w.heap.size→w'.frozen? p=w.frozen? p
theorem MarkRel.refl (lo hi:Nat) (w:World):MarkRel lo hi w w:=⟨rfl,rfl,rfl,Nat.le_refl _,fun _ _ _=>rfl,fun _ _ h=>.inl h,fun _ _=>rfl⟩
theorem MarkRel.trans {lo hi:Nat} {a b c:World} (h:MarkRel lo hi a b) (k:MarkRel lo hi b c):MarkRel lo hi a c:=by
 refine ⟨k.os.trans h.os,k.tape.trans h.tape,k.output.trans h.output,Nat.le_trans h.size k.size,fun x h1 h2=>(k.out x (Nat.lt_of_lt_of_le h1 h.size) h2).trans (h.out x h1 h2),fun p v hp=>?_,fun p hp=>(k.frz p (Nat.lt_of_lt_of_le hp h.size)).trans (h.frz p hp)⟩;rcases h.cell p v hp with h1 | ⟨kd,m,m',e,h1⟩
 · exact k.cell p v h1
 rcases k.cell p _ h1 with h2 | ⟨A,m2,u,e2,h2⟩
 · exact .inr ⟨kd,m,m',e,h2⟩
 simp only [Value.int.injEq] at e2;obtain ⟨rfl,_⟩:=e2;exact .inr ⟨kd,m,u,e,h2⟩
theorem MarkRel.of_below {lo hi:Nat} {w w':World} (h:Below w.heap.size w w'):MarkRel lo hi w w' :=
 ⟨h.os,h.tape,h.output,h.size,fun b h1 _=>h.block b h1,fun p _ hp=>.inl ((h.cell (p:=p) (block_lt_of_cell hp)).trans hp),fun p hp=>World.frozen?_of_block (w:=w) (h.block p.block hp)⟩
theorem MarkRel.set {lo hi:Nat} {w:World} {a:Addr} {kd:IntKind} {m:Int} (h:w.cell? a=some (.int kd m)) (h1:lo≤a.block) (h2:a.block<hi) (m':Int):MarkRel lo hi w (w.setCell a (.int kd m')):=by
 have hb:=(Below.refl a.block w).setCell (p:=a) (Nat.le_refl _) (.int kd m');refine ⟨hb.os,hb.tape,hb.output,hb.size,fun b _ D=>Below.heap_setCell w a _ b (by omega),fun p v hp=>?_,fun p _=>by simp⟩;by_cases e:a=p
 · subst e;rw [h] at hp;cases hp;exact .inr ⟨kd,m,m',rfl,World.cell?_setCell_same _ _ _ h⟩
 exact .inl (by rw [World.cell?_setCell_other _ _ _ _ e];exact hp)
theorem MarkRel.int {lo hi:Nat} {w w':World} (h:MarkRel lo hi w w') {p:Addr} {kd:IntKind} {m:Int} (hp:w.cell? p=some (.int kd m)):∃ m',w'.cell? p=some (.int kd m'):=by
 rcases h.cell p _ hp with h1 | ⟨kd',m1,m',e,h1⟩
 · exact ⟨m,h1⟩
 simp only [Value.int.injEq] at e;obtain ⟨rfl,_⟩:=e;exact ⟨m',h1⟩
structure ShB (lo hi:Nat) (w:World) (a:Option Addr) (n o:Nat):Prop where
 fits:n≤o∧o≤9223372036854775807
 cells:n=0∨∃ b q,a=some ⟨b,q,none⟩∧lo≤b∧b<hi∧∀ i,i<n→∃ z,w.cell? ⟨b,q+i,none⟩=some (.int .u8 z)
theorem Rd.sh {lo hi:Nat} {w:World} {a:Option Addr} {n o:Nat} {zs:List Int} (h:Rd lo hi w a n o zs):ShB lo hi w a n o:=by
 obtain ⟨_,hm,_,hc⟩:=h;refine ⟨hm,?_⟩;rcases hc with h0 | ⟨b,q,e,h1,h2,hc⟩
 · exact .inl h0
 exact .inr ⟨b,q,e,h1,h2,fun i hi=>⟨_,hc i hi⟩⟩
def ShC (lo hi:Nat) (w:World):Nat→Value→CN→Prop
 | 0,_,_=>False
 | d+1,v,c=>∃ k na nn nc ra rn rc ka kn kc,v=.agg #[.int .i64 k,.slice na nn nc,.slice ra rn rc,.slice ka kn kc] ∧
     c.name.length=nn∧ShB lo hi w na nn nc∧c.role.length=rn∧ShB lo hi w ra rn rc∧RdL (ShC lo hi w d) lo hi w ka kn kc c.kids
theorem RdC.sh {lo hi:Nat} {w:World}:∀ {d:Nat} {v:Value} {c:CN},RdC lo hi w d v c→ShC lo hi w d v c:=by
 intro d
 induction d with
 | zero=>intro v c h;exact h
 | succ d ih =>
  intro v c h;obtain ⟨na,nn,nc,ra,rn,rc,ka,kn,kc,hv,h1,h2,h3⟩:=h;exact ⟨_,na,nn,nc,ra,rn,rc,ka,kn,kc,hv,h1.len,h1.sh,h2.len,h2.sh,h3.imp (fun v c h=>ih h) (Same.refl _ _ _) (Nat.le_refl _) (Nat.le_refl _)⟩
theorem ShC.form {lo hi:Nat} {w:World} {d:Nat} {v0 v1 v2 v3:Value} {c:CN} (h:ShC lo hi w d (.agg #[v0,v1,v2,v3]) c):∃ k na nn nc ra rn rc ka kn kc,v0=.int .i64 k∧v1=.slice na nn nc∧v2=.slice ra rn rc∧v3=.slice ka kn kc:=by
 cases d with
 | zero=>exact h.elim
 | succ d =>
  obtain ⟨k,na,nn,nc,ra,rn,rc,ka,kn,kc,hv,_⟩:=h;simp only [Value.agg.injEq,Array.mk.injEq,List.cons.injEq,and_true] at hv;exact ⟨k,na,nn,nc,ra,rn,rc,ka,kn,kc,hv.1,hv.2.1,hv.2.2.1,hv.2.2.2⟩
end

section
open Go.RowKit Go.Shelf
attribute [local go_sem] Oper.semAt_some
set_option maxHeartbeats 1000000 in
theorem kidsOf_in (n:Nat) (v0 v1 v2 v3:Value) (w:World) :
    CallsIn Fence.wide n Tryz.prog 129 #[.agg #[v0,v1,v2,v3]] w fun e w'=>e=.returned v3∧w'=w.alloc (.cells #[v0,v1,v2,v3] 104):=by
 refine callsIn_of_wp Tryz.func129 rfl trivial ?_ rfl;simp only [Tryz.ntmps129,List.size_toArray,List.length_cons,List.length_nil,Nat.reduceAdd,Nat.reduceSub,Array.replicate_succ,Array.replicate_zero,List.push_toArray,List.append_toArray,List.nil_append,List.cons_append]
 gi_wp2
 go_ret;exact ⟨rfl,rfl⟩
set_option maxHeartbeats 1000000 in
theorem conTree_in (n:Nat) (k:Int) (na:Option Addr) (nn nc:Nat) (ra:Option Addr) (rn rc:Nat) (ka:Option Addr) (kn kc:Nat) (w:World) :
    CallsIn Fence.wide n Tryz.prog 117 #[.agg #[.int .i64 k,.slice na nn nc,.slice ra rn rc,.slice ka kn kc]] w fun e w'=>e=.returned (.agg #[.int .i64 k,.slice na nn nc,.slice ra rn rc,.slice ka kn kc,.func (.func 129) #[] #[]]) ∧
     w'=(w.alloc (.cells #[.int .i64 k,.slice na nn nc,.slice ra rn rc,.slice ka kn kc] 104)).alloc (.cells #[.int .i64 k,.slice na nn nc,.slice ra rn rc,.slice ka kn kc,.func (.func 129) #[] #[]] 165):=by
 refine callsIn_of_wp Tryz.func117 rfl trivial ?_ rfl;simp only [Tryz.ntmps117,List.size_toArray,List.length_cons,List.length_nil,Nat.reduceAdd,Nat.reduceSub,Array.replicate_succ,Array.replicate_zero,List.push_toArray,List.append_toArray,List.nil_append,List.cons_append]
 gi_wp2
 refine bodyPost_ret (v:=.agg #[.int .i64 k,.slice na nn nc,.slice ra rn rc,.slice ka kn kc,.func (.func 129) #[] #[]]) (by simp [results, Tryz.results117,go_sem]) rfl ⟨rfl,rfl⟩
set_option maxHeartbeats 1000000 in
theorem all_in (n:Nat) (k:Int) (na:Option Addr) (nn nc:Nat) (ra:Option Addr) (rn rc:Nat) (ka:Option Addr) (kn kc:Nat) (w:World) :
    CallsIn Fence.wide n Tryz.prog 118 #[.agg #[.int .i64 k,.slice na nn nc,.slice ra rn rc,.slice ka kn kc,.func (.func 129) #[] #[]]] w fun e w'=>e=.returned (.func (.func 130) #[] #[.pointer (some ⟨w.heap.size,0,none⟩)]) ∧
     w'=w.alloc (.cells #[.int .i64 k,.slice na nn nc,.slice ra rn rc,.slice ka kn kc,.func (.func 129) #[] #[]] 165):=by
 refine callsIn_of_wp Tryz.func118 rfl trivial ?_ rfl;simp only [Tryz.ntmps118,List.size_toArray,List.length_cons,List.length_nil,Nat.reduceAdd,Nat.reduceSub,Array.replicate_succ,Array.replicate_zero,List.push_toArray,List.append_toArray,List.nil_append,List.cons_append]
 gi_wp2
 go_ret;exact ⟨rfl,rfl⟩
end

section
open Go.RowKit
set_option maxHeartbeats 400000 in
theorem kidCount_any (k:Int) (w:World):Calls Tryz.prog 134 #[.int .i64 k] w fun e w'=>e=.returned (.int .i64 (kidN k))∧w'=w:=by
 go_enter Tryz.func134, Tryz.ntmps134;go_wp2
 all_goals
  go_ret;refine ⟨ri ?_,rfl⟩
  first | (simp_all [kidN];done) | (unfold kidN;simp_all;omega)
set_option maxHeartbeats 400000 in
theorem hasRole_any (k:Int) (w:World):Calls Tryz.prog 140 #[.int .i64 k] w fun e w'=>e=.returned (.bool (roleB k))∧w'=w:=by
 by_cases h:k=6
 · subst h;go_enter Tryz.func140, Tryz.ntmps140;go_wp2;go_ret;exact ⟨rfl,rfl⟩
 have h6:(k == 6)=false:=by simpa using h
 have HE:Hid (roleB k=(k == 7)):=by unfold Hid roleB;simp [h];rfl
 go_enter Tryz.func140, Tryz.ntmps140;go_wp2;go_ret;exact ⟨rb HE.out.symm,rfl⟩
set_option maxRecDepth 100000 in
set_option maxHeartbeats 1000000 in
theorem nameFits_any {d:Nat} {v:Value} {c:CN} {w:World} {lo hi:Nat} (h:RdC lo hi w d v c) (D:hi≤w.heap.size) :
    Calls Tryz.prog 132 #[v] w fun e w'=>e=.returned (.bool (nameFit c))∧Below w.heap.size w w':=by
 cases d with
 | zero=>exact h.elim
 | succ d =>
  obtain ⟨na,nn,nc,ra,rn,rc,ka,kn,kc,rfl,hn,_,_⟩:=h;have G:=hn.len;have q:Below w.heap.size w (w.alloc (.cells #[.int .i64 c.kind,.slice na nn nc,.slice ra rn rc,.slice ka kn kc] 104)):=(Below.refl _ _).alloc (Nat.le_refl _) _;have o:Hid (Below w.heap.size w (w.alloc (.cells #[.int .i64 c.kind,.slice na nn nc,.slice ra rn rc,.slice ka kn kc] 104))):=q;have HN:Hid (Rd lo hi (w.alloc (.cells #[.int .i64 c.kind,.slice na nn nc,.slice ra rn rc,.slice ka kn kc] 104)) na nn nc c.name):=hn.below q D;have u:Hid (nameFit c=if c.kind=2 then (upOk c.name && !keptB (strOfNums c.name).toList) else decide (nn=0)):=by unfold Hid nameFit;rw [G]
  obtain ⟨k,z⟩:∃ k,k=c.kind:=⟨_,rfl⟩;rw [← z] at o HN u ⊢;clear q hn z G;by_cases k2:k=2
  · subst k2;rw [if_pos rfl] at u;cases hU:upOk c.name
    · have HX:Hid (nameFit c=false):=by unfold Hid;rw [u.out,hU];rfl
      go_enter Tryz.func132, Tryz.ntmps132;go_wp2_with (first | (go_at_call 90;refine (implUpperOk_any na nn nc c.name _ HN.out).mono ?_;rintro e w' ⟨rfl,hw⟩;rw [hw,hU];clear hw));go_ret;exact ⟨rb HX.out.symm,o.out⟩
    obtain ⟨kp,A⟩:∃ kp,kp=keptB (strOfNums c.name).toList:=⟨_,rfl⟩;have HX:Hid (nameFit c=!kp):=by unfold Hid;rw [u.out,hU,A];rfl
    have I:Hid (kp=keptB (strOfNums c.name).toList):=A;clear A;go_enter Tryz.func132, Tryz.ntmps132;go_wp2_with (first | (go_at_call 90;refine (implUpperOk_any na nn nc c.name _ HN.out).mono ?_;rintro e w' ⟨rfl,hw⟩;rw [hw,hU];clear hw) | (go_at_call 139;refine (implKept_any na nn nc c.name _ HN.out).mono ?_;rintro e w' ⟨rfl,hw⟩;rw [hw,← I.out];clear hw));go_ret;exact ⟨rb HX.out.symm,o.out⟩
  rw [if_neg k2] at u;have J:(k == 2)=false:=by simpa using k2
  have HX:Hid (nameFit c=((nn:Int) == 0)):=by unfold Hid;rw [u.out];by_cases h:nn=0 <;> simp [h]
  go_enter Tryz.func132, Tryz.ntmps132;go_wp2_with fail;go_ret;exact ⟨rb (by rw [HX.out]),o.out⟩
set_option maxRecDepth 100000 in
set_option maxHeartbeats 1000000 in
theorem roleFits_any {d:Nat} {v:Value} {c:CN} {w:World} {lo hi:Nat} (h:RdC lo hi w d v c) (D:hi≤w.heap.size) :
    Calls Tryz.prog 133 #[v] w fun e w'=>e=.returned (.bool (roleFit c))∧Below w.heap.size w w':=by
 cases d with
 | zero=>exact h.elim
 | succ d =>
  obtain ⟨na,nn,nc,ra,rn,rc,ka,kn,kc,rfl,_,hr,_⟩:=h;have F:=hr.len;have q:Below w.heap.size w (w.alloc (.cells #[.int .i64 c.kind,.slice na nn nc,.slice ra rn rc,.slice ka kn kc] 104)):=(Below.refl _ _).alloc (Nat.le_refl _) _;have o:Hid (Below w.heap.size w (w.alloc (.cells #[.int .i64 c.kind,.slice na nn nc,.slice ra rn rc,.slice ka kn kc] 104))):=q;have HR:Hid (Rd lo hi (w.alloc (.cells #[.int .i64 c.kind,.slice na nn nc,.slice ra rn rc,.slice ka kn kc] 104)) ra rn rc c.role):=hr.below q D;have E:Hid (roleFit c=if roleB c.kind=true then lowOk c.role else decide (rn=0)):=by unfold Hid roleFit;rw [F]
  obtain ⟨k,z⟩:∃ k,k=c.kind:=⟨_,rfl⟩;rw [← z] at o HR E ⊢;clear q hr z F;cases hm:roleB k
  · have HX:Hid (roleFit c=((rn:Int) == 0)):=by unfold Hid;rw [E.out,hm,if_neg (by simp)];by_cases h:rn=0 <;> simp [h]
    go_enter Tryz.func133, Tryz.ntmps133;go_wp2_with (first | (go_at_call 140;refine (hasRole_any _ _).mono ?_;rintro e w' ⟨rfl,hw⟩;rw [hw,hm];clear hw));go_ret;exact ⟨rb (by rw [HX.out]),o.out⟩
  have HX:Hid (roleFit c=lowOk c.role):=by unfold Hid;rw [E.out,hm,if_pos rfl]
  go_enter Tryz.func133, Tryz.ntmps133;go_wp2_with (first | (go_at_call 140;refine (hasRole_any _ _).mono ?_;rintro e w' ⟨rfl,hw⟩;rw [hw,hm];clear hw) | (go_at_call 69;refine (implLowerOk_any ra rn rc c.role _ HR.out).mono ?_;rintro e w' ⟨rfl,hw⟩;rw [hw];clear hw));go_ret;exact ⟨rb HX.out.symm,o.out⟩
end

end Go.Proofs.YtellcgmabimieaaGreatDoor
