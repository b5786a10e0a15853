/- Several texts in one: Mem, Bytes, ClMath, LitMath, ClMem. -/
import Derived.WalkKit
import Derived.WalkSpells
import Derived.WalkLawsBesides
import Derived.Deep.OwnRows
import Derived.Test.YtellcgmabimieaaGreatDoorRows
import Derived.Deep.QuietTactic
import Derived.BigQuiet
import Derived.Lib.BitFns
import Derived.Lib.TrailingZeros
import Derived.RangeFuncRecord
namespace Go.Proofs.YtellcgmabimieaaGreatDoor

section
open Go.RowKit
theorem rb {a b:Bool} (h:a=b):Ending.returned (.bool a)=.returned (.bool b):=by rw [h]
theorem ri {a b:Int} (h:a=b):Ending.returned (.int .i64 a)=.returned (.int .i64 b):=by rw [h]
theorem drew_add (w:World) (m n:Nat):(w.drewN m).drewN n=w.drewN (m+n):=by
 induction n with
 | zero=>rfl
 | succ n ih=>show ((w.drewN m).drewN n).drew=_;rw [ih];rfl
def Same (lo hi:Nat) (w w':World):Prop:=∀ b,lo≤b→b<hi→w'.heap[b]?=w.heap[b]?
theorem Same.refl (lo hi:Nat) (w:World):Same lo hi w w:=fun _ _ _=>rfl
theorem Same.trans {lo hi:Nat} {a b c:World} (h:Same lo hi a b) (k:Same lo hi b c):Same lo hi a c:=fun x h1 h2=>(k x h1 h2).trans (h x h1 h2)
theorem Same.mono {lo hi lo' hi':Nat} {w w':World} (h:Same lo hi w w') (h1:lo≤lo') (h2:hi'≤hi):Same lo' hi' w w':=fun b a c=>h b (by omega) (by omega)
theorem Same.of_below {lo hi B:Nat} {w w':World} (h:Below B w w') (hB:hi≤B):Same lo hi w w':=fun b _ h2=>h.block b (by omega)
theorem Same.drew {lo hi:Nat} {w w':World} (h:Same lo hi w w') (n:Nat):Same lo hi w (w'.drewN n):=h
theorem Same.cell {lo hi:Nat} {w w':World} (h:Same lo hi w w') {p:Addr} (h1:lo≤p.block) (h2:p.block<hi):w'.cell? p=w.cell? p:=World.cell?_of_block (w:=w) (h p.block h1 h2)
structure Rd (lo hi:Nat) (w:World) (a:Option Addr) (n q:Nat) (zs:List Int):Prop where
 len:zs.length=n
 fits:n≤q∧q≤9223372036854775807
 byte:∀ i,0≤zs.getD i 0∧zs.getD i 0≤255
 cells:n=0∨∃ b u,a=some ⟨b,u,none⟩∧lo≤b∧b<hi∧∀ i,i<n→w.cell? ⟨b,u+i,none⟩=some (.int .u8 (zs.getD i 0))
theorem Rd.tail {lo hi:Nat} {w:World} {b u n q:Nat} {zs:List Int} (h:Rd lo hi w (some ⟨b,u,none⟩) n q zs) (hn:1≤n):Rd lo hi w (some ⟨b,u+1,none⟩) (n - 1) (q - 1) (zs.drop 1):=by
 obtain ⟨hl,⟨hn,hm⟩,z,hc⟩:=h;refine ⟨by simp [hl],by omega,fun i=>?_,?_⟩
 · have:=z (i+1);simpa [List.getD] using this
 rcases hc with h0 | ⟨b,u,e,hb,A,hc⟩
 · exact .inl (by omega)
 simp at e;obtain ⟨rfl,rfl⟩:=e;refine .inr ⟨_,_,rfl,hb,A,fun i hi=>?_⟩;have:=hc (i+1) (by omega);rw [Nat.add_right_comm,Nat.add_assoc];simpa [List.getD] using this
theorem Rd.none_of {lo hi:Nat} {w:World} {a:Option Addr} {q:Nat} (h:q≤9223372036854775807):Rd lo hi w a 0 q []:=⟨rfl,⟨Nat.zero_le _,h⟩,by simp,.inl rfl⟩
theorem Rd.same {lo hi:Nat} {w w':World} {a:Option Addr} {n q:Nat} {zs:List Int} (h:Rd lo hi w a n q zs) (hs:Same lo hi w w'):Rd lo hi w' a n q zs:=by
 obtain ⟨hl,hm,z,hc⟩:=h;refine ⟨hl,hm,z,?_⟩;rcases hc with h0 | ⟨b,u,e,h1,h2,hc⟩
 · exact .inl h0
 exact .inr ⟨b,u,e,h1,h2,fun i hi=>(hs.cell (p:=⟨b,u+i,none⟩) h1 h2).trans (hc i hi)⟩
theorem Rd.mono {lo hi lo' hi':Nat} {w:World} {a:Option Addr} {n q:Nat} {zs:List Int} (h:Rd lo hi w a n q zs) (h1:lo'≤lo) (h2:hi≤hi'):Rd lo' hi' w a n q zs:=by
 obtain ⟨hl,hm,z,hc⟩:=h;refine ⟨hl,hm,z,?_⟩;rcases hc with h0 | ⟨b,u,e,h3,h4,hc⟩
 · exact .inl h0
 exact .inr ⟨b,u,e,by omega,by omega,hc⟩
theorem Rd.below {lo hi:Nat} {w w':World} {B:Nat} {a:Option Addr} {n q:Nat} {zs:List Int} (h:Rd lo hi w a n q zs) (hb:Below B w w') (hB:hi≤B):Rd lo hi w' a n q zs:=h.same (Same.of_below hb hB)
def Row (w:World) (g q:Nat) (zs:List Int):Prop:=∃ c:Array Value,w.heap[g]?=some (.cells c 5 (0,0))∧c.size=q∧zs.length≤q∧∀ i,i<zs.length→c[i]?=some (.int .u8 (zs.getD i 0))
theorem Row.of_rowIs {w:World} {g:Nat} {zs:List Int} (h:w.rowIs g 5 zs.length (fun i=>.int .u8 (zs.getD i 0))):Row w g zs.length zs:=by
 obtain ⟨c,h1,h2,h3⟩:=h;exact ⟨c,h1,h2,Nat.le_refl _,h3⟩
theorem Row.cell {w:World} {g q:Nat} {zs:List Int} (h:Row w g q zs) {i:Nat} (hi:i<zs.length):w.cell? ⟨g,i,none⟩=some (.int .u8 (zs.getD i 0)):=by
 obtain ⟨c,hb,_,_,hc⟩:=h;simp [World.cell?,hb,hc i hi]
theorem Row.frozen {w:World} {g q:Nat} {zs:List Int} (h:Row w g q zs) (i:Nat):w.frozen? ⟨g,i,none⟩=false:=by
 obtain ⟨c,hb,_⟩:=h;simp [World.frozen?,hb]
theorem Row.lt {w:World} {g q:Nat} {zs:List Int} (h:Row w g q zs):g<w.heap.size:=by
 obtain ⟨c,hb,_⟩:=h;exact (Array.getElem?_eq_some_iff.1 hb).1
theorem Row.rd {lo hi:Nat} {w:World} {g n q:Nat} {zs:List Int} (h:Row w g q zs) (hl:zs.length=n) (z:∀ i,0≤zs.getD i 0∧zs.getD i 0≤255) (hn:q≤9223372036854775807) (h1:lo≤g) (h2:g<hi):Rd lo hi w (some ⟨g,0,none⟩) n q zs:=by
 have F:zs.length≤q:=by obtain ⟨c,_,_,h,_⟩:=h;exact h
 refine ⟨hl,⟨by omega,hn⟩,z,.inr ⟨g,0,rfl,h1,h2,fun i hi=>?_⟩⟩;rw [Nat.zero_add];exact Row.cell h (by omega)
theorem Row.of_block {w w':World} {g q:Nat} {zs:List Int} (h:Row w g q zs) (e:w'.heap[g]?=w.heap[g]?):Row w' g q zs:=by
 obtain ⟨c,hb,r⟩:=h;exact ⟨c,e.trans hb,r⟩
theorem Row.below {w w':World} {B g q:Nat} {zs:List Int} (h:Row w g q zs) (hb:Below B w w') (hg:g<B):Row w' g q zs:=h.of_block (hb.block g hg)
theorem Row.same {lo hi:Nat} {w w':World} {g q:Nat} {zs:List Int} (h:Row w g q zs) (hs:Same lo hi w w') (h1:lo≤g) (h2:g<hi):Row w' g q zs:=h.of_block (hs g h1 h2)
theorem Row.setOf {w:World} {g q:Nat} {zs:List Int} {a:Addr} {v:Value} (ha:g≠a.block) (h:Row w g q zs):Row (w.setCell a v) g q zs:=h.of_block (Below.heap_setCell _ _ _ _ ha)
theorem below_set (B:Nat) (x w:World) (b o:Nat) (v:Value) (h:B≤b):Below B x (w.setCell ⟨b,o,none⟩ v)=Below B x w:=by
 refine propext ⟨fun k=>⟨k.os,k.tape,k.output,by have:=k.size;simpa using this,fun i hi=>?_⟩,fun k=>k.setCell h v⟩;rw [← k.block i hi,Below.heap_setCell w ⟨b,o,none⟩ v i (by show i≠b;omega)]
def marks (w:World):List (Addr × IntKind)→Int→World
 | [],_=>w
 | (a,kd) :: L,k=>marks (w.setCell a (.int kd (kd.wrap k))) L (k+1)
def LeafOk (w:World) (L:List (Addr × IntKind)):Prop:=∀ x∈L,(∃ n,w.cell? x.1=some (.int x.2 n))∧w.frozen? x.1=false
theorem LeafOk.set {w:World} {L:List (Addr × IntKind)} (h:LeafOk w L) {a:Addr} {kd:IntKind} {m:Int} (ha:w.cell? a=some (.int kd m)) (v:Int):LeafOk (w.setCell a (.int kd v)) L:=by
 intro x hx;obtain ⟨⟨n,hn⟩,hf⟩:=h x hx;refine ⟨?_,by simpa using hf⟩;by_cases e:a=x.1
 · subst e;rw [ha] at hn;simp at hn;exact ⟨v,by rw [World.cell?_setCell_same _ _ _ ha,hn.1]⟩
 exact ⟨n,by rw [World.cell?_setCell_other _ _ _ _ e];exact hn⟩
theorem LeafOk.marks {L:List (Addr × IntKind)}:∀ {w:World} {M:List (Addr × IntKind)},LeafOk w L→LeafOk w M→∀ k,LeafOk (marks w L k) M∧LeafOk (marks w L k) L:=by
 induction L with
 | nil=>intro w M h1 h2 k;exact ⟨h2,h1⟩
 | cons x L ih =>
  intro w M h1 h2 k;obtain ⟨a,kd⟩:=x;obtain ⟨⟨m,hm⟩,hf⟩:=h1 (a,kd) (by simp);have D:=h1.set hm (kd.wrap k);have E:=h2.set hm (kd.wrap k);refine ⟨(ih (fun x hx=>D x (by simp [hx])) E (k+1)).1,?_⟩;exact (ih (fun x hx=>D x (by simp [hx])) D (k+1)).1
def Held (w:World):List (Addr × IntKind)→Int→Prop
 | [],_=>True
 | (a,kd) :: L,k=>w.cell? a=some (.int kd (kd.wrap k))∧Held w L (k+1)
theorem Held.same {lo hi:Nat} {w w':World} (hs:Same lo hi w w') {L:List (Addr × IntKind)}:∀ {k:Int},(∀ x∈L,lo≤x.1.block∧x.1.block<hi)→Held w L k→Held w' L k:=by
 induction L with
 | nil=>intro k _ _;trivial
 | cons x L ih =>
  intro k hb h;obtain ⟨a,kd⟩:=x;have A:=hb (a,kd) (by simp);exact ⟨(hs.cell A.1 A.2).trans h.1,ih (fun x hx=>hb x (by simp [hx])) h.2⟩
end

section
open Go.RowKit
theorem Tryz.info5:(Tryz.prog.info? 5).map (fun i=>(i.zero,i.size,i.bytes))=some (some (.int .u8 0),1,1):=by kernel_rfl
def part (zs:List Int) (k:Nat) (i:Nat):Value:=.int .u8 (if i<k then zs.getD i 0 else 0)
theorem row_step {w:World} {g n:Nat} {zs:List Int} {k:Nat} (h:w.rowIs g 5 n (part zs k)):(w.setCell ⟨g,k,none⟩ (.int .u8 (zs.getD k 0))).rowIs g 5 n (part zs (k+1)):=by
 refine (h.set k _).congr fun i _=>?_
 unfold part;by_cases e:i=k
 · subst e;simp
 rw [if_neg e]
 congr 1
 by_cases h1:i<k
 · rw [if_pos h1,if_pos (by omega)]
 rw [if_neg h1,if_neg (by omega)]
theorem take_eq_succ {xs ys:List Int} {k:Nat} (hx:k<xs.length) (hy:k<ys.length) (h:xs.take k=ys.take k) (e:xs.getD k 0=ys.getD k 0):xs.take (k+1)=ys.take (k+1):=by
 rw [List.take_succ_eq_append_getElem hx,List.take_succ_eq_append_getElem hy,h];simp [List.getD,hx,hy] at e;rw [e]
set_option maxHeartbeats 400000 in
theorem eqByteS_any (a a':Option Addr) (n G n' cap':Nat) (xs ys:List Int) (w:World) {lo hi lo' hi':Nat} (h:Rd lo hi w a n G xs) (h':Rd lo' hi' w a' n' cap' ys) :
    Calls Tryz.prog 83 #[.slice a n G,.slice a' n' cap'] w fun e w'=>e=.returned (.bool (decide (xs=ys)))∧∃ nd,w'=w.drewN nd:=by
 obtain ⟨hl,⟨hm,hM⟩,D,hc⟩:=h;obtain ⟨q,⟨O,Z⟩,o,z⟩:=h';by_cases hne:n=n'
 · subst hne;have V:((n:Int) != (n:Int))=false:=by simp
   rcases hc with h0 | ⟨b,A,rfl,R,hb,hc⟩
   · subst h0;have hx:xs=[]:=List.eq_nil_of_length_eq_zero hl;have hy:ys=[]:=List.eq_nil_of_length_eq_zero q;have HF:Hid (decide (xs=ys)=true):=by simp [Hid,hx,hy]
     clear hx hy D o z hl q;go_enter Tryz.func83, Tryz.ntmps83;go_wp2;refine wp_loop_rounds 1 ?_;rw [rounds_succ];go_wp2;go_ret;exact ⟨rb HF.out.symm,0,rfl⟩
   rcases z with h0 | ⟨b',off',rfl,M,Y,z⟩
   · subst h0;have hx:xs=[]:=List.eq_nil_of_length_eq_zero hl;have hy:ys=[]:=List.eq_nil_of_length_eq_zero q;have HF:Hid (decide (xs=ys)=true):=by simp [Hid,hx,hy]
     clear hx hy D o hc hl q;go_enter Tryz.func83, Tryz.ntmps83;go_wp2;refine wp_loop_rounds 1 ?_;rw [rounds_succ];go_wp2;go_ret;exact ⟨rb HF.out.symm,0,rfl⟩
   have HC:Hid (∀ j,j<n→w.cell? ⟨b,A+j,none⟩=some (.int .u8 (xs.getD j 0))):=hc;have L:Hid (∀ j,j<n→w.cell? ⟨b',off'+j,none⟩=some (.int .u8 (ys.getD j 0))):=z;have HL:Hid (xs.length=n):=hl;have I:Hid (ys.length=n):=q;clear hc D hl z o q;go_enter Tryz.func83, Tryz.ntmps83;go_wp2;go_loopw [5] (fun i wr=>∃ k:Nat,k≤n∧i=.int .i64 k∧xs.take k=ys.take k∧∃ nd,wr=w.drewN nd) (fun i _=>n - (intOf i).toNat)
   case atStart=>exact ⟨0,Nat.zero_le _,rfl,by simp,0,rfl⟩
   case round =>
    obtain ⟨k,hk,rfl,E,nd,J⟩:=hrel;have HT:Hid (xs.take k=ys.take k):=E;clear E;subst J;by_cases hlt:k<n
    · obtain ⟨c,HX⟩:∃ c,Hid (c=xs.getD k 0):=⟨_,rfl⟩;obtain ⟨c',HY⟩:∃ c,Hid (c=ys.getD k 0):=⟨_,rfl⟩;have U:w.cell? ⟨b,A+k,none⟩=some (.int .u8 c):=by rw [HX.out];exact HC.out k hlt
      have N:w.cell? ⟨b',off'+k,none⟩=some (.int .u8 c'):=by rw [HY.out];exact L.out k hlt
      have T:(k:Int)<(n:Int):=by omega
      by_cases u:c=c'
      · have HF:Hid (xs.take (k+1)=ys.take (k+1)):=take_eq_succ (by rw [HL.out];omega) (by rw [I.out];omega) HT.out (by rw [← HX.out,← HY.out];exact u);have F:(c != c')=false:=by simp [u]
        clear u;go_wp2;go_quiet (fail);go_wp2;go_roundw
        case rel=>exact ⟨k+1,by omega,by go_num,HF.out,nd+nq,by first | rfl | exact drew_add _ _ _⟩
        case measure=>simp [intOf];omega
      have HF:Hid (decide (xs=ys)=false):=by unfold Hid;rw [decide_eq_false_iff_not];intro e;apply u;rw [HX.out,HY.out,e]
      have F:(c != c')=true:=by simp [u]
      clear u;go_wp2;go_quiet (fail);go_wp2;go_ret;exact ⟨rb HF.out.symm,nd+nq,by first | rfl | exact drew_add _ _ _⟩
    have HF:Hid (decide (xs=ys)=true):=by
     have e1:xs.take k=xs:=List.take_of_length_le (by rw [HL.out];omega);have e2:ys.take k=ys:=List.take_of_length_le (by rw [I.out];omega);unfold Hid;rw [decide_eq_true_iff,← e1,← e2];exact HT.out
    go_wp2;go_ret;exact ⟨rb HF.out.symm,nd,rfl⟩
 have HF:Hid (decide (xs=ys)=false):=by unfold Hid;rw [decide_eq_false_iff_not];intro e;rw [e] at hl;omega
 have F:((n:Int) != (n':Int))=true:=by simp;omega
 clear D o hc z hl q hne;go_enter Tryz.func83, Tryz.ntmps83;go_wp2;go_ret;exact ⟨rb HF.out.symm,0,rfl⟩
def leafB (b A n:Nat):List (Addr × IntKind):=(List.range n).map (fun j=>(⟨b,A+j,none⟩,.u8))
end

section
open Go.RowKit
structure CL where
 kind:Int
 fn:Int
 role:Int
 above:Int
 xp:Int
 xn:Int
 yp:Int
 yn:Int
 inds:List (Int × Int)
 a:Int
 b:Int
def maskB (m:Int):Bool:=decide (0≤m) && decide (m<16777216)
def partB (p n:Int):Bool:=maskB p && maskB n
def noneB (p n:Int):Bool:=decide (p=0) && decide (n=0)
theorem maskB_iff {m:Int}:maskB m=true ↔ 0≤m∧m<16777216:=by simp [maskB]
theorem partB_iff {p n:Int}:partB p n=true ↔ (0≤p∧p<16777216)∧(0≤n∧n<16777216):=by simp [partB,maskB]
theorem noneB_iff {p n:Int}:noneB p n=true ↔ p=0∧n=0:=by simp [noneB]
theorem wrap_id (k:Nat) (h:k<9223372036854775808):IntKind.i64.wrap (k:Int)=(k:Int):=by
 simp [IntKind.wrap,IntKind.bits,IntKind.signed];omega
theorem bits_and_nat (a b:Nat) (ha:a<9223372036854775808) (hb:b<9223372036854775808):bits .and .i64 (a:Int) (b:Int)=((a &&& b:Nat):Int):=by
 have h1:a &&& b≤a:=Nat.and_le_left
 have e:((BitVec.ofInt 64 (a:Int)) &&& (BitVec.ofInt 64 (b:Int))).toNat=a &&& b:=by
  rw [BitVec.toNat_and,BitVec.ofInt_natCast,BitVec.ofInt_natCast,BitVec.toNat_ofNat,BitVec.toNat_ofNat,Nat.mod_eq_of_lt (by omega),Nat.mod_eq_of_lt (by omega)]
 show IntKind.i64.wrap (((BitVec.ofInt 64 (a:Int)) &&& (BitVec.ofInt 64 (b:Int))).toNat:Int)=_
 rw [e,wrap_id _ (by omega)]
theorem bits_or_nat (a b:Nat) (ha:a<16777216) (hb:b<16777216):bits .or .i64 (a:Int) (b:Int)=((a ||| b:Nat):Int):=by
 have h1:a ||| b<2 ^ 24:=Nat.or_lt_two_pow (by omega) (by omega)
 have e:((BitVec.ofInt 64 (a:Int)) ||| (BitVec.ofInt 64 (b:Int))).toNat=a ||| b:=by
  rw [BitVec.toNat_or,BitVec.ofInt_natCast,BitVec.ofInt_natCast,BitVec.toNat_ofNat,BitVec.toNat_ofNat,Nat.mod_eq_of_lt (by omega),Nat.mod_eq_of_lt (by omega)]
 show IntKind.i64.wrap (((BitVec.ofInt 64 (a:Int)) ||| (BitVec.ofInt 64 (b:Int))).toNat:Int)=_
 rw [e,wrap_id _ (by omega)]
theorem bit_at (a i:Nat) (ha:a<16777216):(bits .and .i64 ((a:Int) / 2 ^ i) 1 == 1)=a.testBit i:=by
 have e:((a:Int) / 2 ^ i)=((a / 2 ^ i:Nat):Int):=by simp
 have hl:a / 2 ^ i<9223372036854775808:=Nat.lt_of_le_of_lt (Nat.div_le_self _ _) (by omega);rw [e,show (1:Int)=((1:Nat):Int) from rfl,bits_and_nat _ _ hl (by omega),Nat.and_one_is_mod];rw [Nat.testBit_eq_decide_div_mod_eq];by_cases h:a / 2 ^ i % 2=1
 · rw [h];simp
 have:a / 2 ^ i % 2=0:=by omega
 rw [this];simp
end

section
open Go.RowKit
structure LT where
 place:Nat
 atom:Nat
 no:Bool
def litAt (i p n a:Nat):List LT:=(if p.testBit a=true then [⟨i,a,false⟩] else [])++(if n.testBit a=true then [⟨i,a,true⟩] else [])
def litsTo (i p n:Nat):Nat→List LT
 | 0=>[]
 | k+1=>litsTo i p n k++litAt i p n k
def litsP (i p n:Nat):List LT:=litsTo i p n 24
def litsL:Nat→List (Nat × Nat)→List LT
 | _,[]=>[]
 | i,x :: xs=>litsP i x.1 x.2++litsL (i+1) xs
theorem litsL_append:∀ (xs ys:List (Nat × Nat)) (i:Nat),litsL i (xs++ys)=litsL i xs++litsL (i+xs.length) ys
 | [],ys,i=>by simp [litsL]
 | x :: xs,ys,i=>by
  rw [List.cons_append,litsL,litsL,litsL_append xs ys (i+1),List.append_assoc,List.length_cons]
  congr 3
  omega
theorem litsTo_skip (i p n a:Nat):∀ d,(∀ j,a≤j→j<a+d→(p ||| n).testBit j=false)→litsTo i p n (a+d)=litsTo i p n a
 | 0,_=>rfl
 | d+1,h=>by
  have hb:=h (a+d) (by omega) (by omega);rw [Nat.testBit_or,Bool.or_eq_false_iff] at hb;rw [← Nat.add_assoc,litsTo,litsTo_skip i p n a d (fun j h1 h2=>h j h1 (by omega))];simp [litAt,hb.1,hb.2]
def RestAt (x a r:Nat):Prop:=∀ j,r.testBit j=(decide (a≤j) && x.testBit j)
theorem RestAt.start (x:Nat):RestAt x 0 x:=fun j=>by simp
theorem RestAt.zero {x a:Nat} (h:RestAt x a 0) (j:Nat) (hj:a≤j):x.testBit j=false:=by
 have:=h j;simp [hj] at this;exact this.symm ▸ rfl
theorem RestAt.lt {x a r:Nat} (h:RestAt x a r) (hx:x<16777216):r<16777216:=by
 have:r<2 ^ 24:=by
  apply Nat.lt_of_not_le;intro z;obtain ⟨i,hi,hb⟩:=Nat.exists_ge_and_testBit_of_ge_two_pow z;rw [h i,Nat.testBit_lt_two_pow (x:=x) (Nat.lt_of_lt_of_le (show x<2 ^ 24 by omega) (Nat.pow_le_pow_right (by omega) hi))] at hb;simp at hb
 omega
theorem RestAt.step {x a r:Nat} (h:RestAt x a r) (hx:x<16777216) (h0:r≠0) :
    a≤Lib.ctz 64 r∧Lib.ctz 64 r<24∧(∀ j,a≤j→j<Lib.ctz 64 r→x.testBit j=false)∧x.testBit (Lib.ctz 64 r)=true∧RestAt x (Lib.ctz 64 r+1) (r &&& (r - 1))∧r &&& (r - 1)<r:=by
 have hr:=h.lt hx;obtain ⟨m,hm,hk⟩:=Lib.ctzFrom_spec 64 r (by omega) (by omega);have e:Lib.ctz 64 r=Lib.ctzFrom 64 r:=by simp [Lib.ctz,h0]
 rw [← e] at hm hk;obtain ⟨t,ht⟩:∃ t,t=Lib.ctz 64 r:=⟨_,rfl⟩;rw [← ht] at hm ⊢;have I:0<2 ^ t:=Nat.two_pow_pos t
 have u:∀ j,r.testBit j=(decide (t≤j) && (2*m+1).testBit (j - t)):=by
  intro j;rw [hm,Nat.testBit_two_pow_mul]
 have e1:r - 1=2 ^ t*(2*m)+(2 ^ t - 1):=by
  rw [hm,Nat.mul_add];omega
 have G:∀ j,(r - 1).testBit j=if j<t then (2 ^ t - 1).testBit j else (2*m).testBit (j - t):=by
  intro j;rw [e1,Nat.testBit_two_pow_mul_add _ (by omega)]
 have A:r.testBit t=true:=by rw [u];simp
 have o:∀ j,(r &&& (r - 1)).testBit j=(decide (t+1≤j) && r.testBit j):=by
  intro j;rw [Nat.testBit_and,G,u];by_cases h1:j<t
  · simp [h1,show ¬ t≤j by omega]
  by_cases h2:j=t
  · subst h2;simp
  obtain ⟨d,rfl⟩:∃ d,j=t+(d+1):=⟨j - t - 1,by omega⟩;have e2:t+(d+1) - t=d+1:=by omega
  have d1:(2*m+1) / 2=m:=by omega
  have d2:2*m / 2=m:=by omega
  simp only [h1,e2,if_false,Nat.testBit_succ,d1,d2];simp
 have E:∀ j,r.testBit j=true→x.testBit j=true∧a≤j:=by
  intro j hj;rw [h j] at hj;simp at hj;exact ⟨hj.2,hj.1⟩
 obtain ⟨q,D⟩:=E t A;refine ⟨D,?_,?_,q,?_,?_⟩
 · apply Nat.lt_of_not_le;intro z;rw [Nat.testBit_lt_two_pow (x:=x) (Nat.lt_of_lt_of_le (show x<2 ^ 24 by omega) (Nat.pow_le_pow_right (by omega) z))] at q;cases q
 · intro j h1 h2;have:=h j;rw [u,show decide (t≤j)=false from by simp;omega,show decide (a≤j)=true from by simp;omega] at this;simpa using this.symm
 · intro j;rw [o,h j];by_cases hj:t+1≤j
   · simp [hj,show a≤j by omega]
   simp [hj]
 refine Nat.lt_of_le_of_ne Nat.and_le_left fun e=>?_
 have:=o t;rw [e,A] at this;simp at this;omega
theorem litsTo_step {x a p n i t:Nat} (hx:x=p ||| n) (D:a≤t) (F:∀ j,a≤j→j<t→x.testBit j=false):litsTo i p n (t+1)=litsTo i p n a++litAt i p n t:=by
 have:litsTo i p n t=litsTo i p n a:=by
  have:=litsTo_skip i p n a (t - a) (fun j h1 h2=>by rw [← hx];exact F j h1 (by omega))
  rwa [show a+(t - a)=t by omega] at this
 rw [litsTo,this]
theorem litsTo_end {x a p n i:Nat} (hx:x=p ||| n) (hr:RestAt x a 0) (ha:a≤24):litsP i p n=litsTo i p n a:=by
 have:=litsTo_skip i p n a (24 - a) (fun j h1 h2=>by rw [← hx];exact hr.zero j h1)
 rwa [show a+(24 - a)=24 by omega] at this
end

section
open Go.RowKit
def BoxP (t:Nat) (W:World) (b:Nat) (p n:Int):Prop:=W.heap[b]?=some (.cells #[.int .i64 p,.int .i64 n] t (0,0))
theorem BoxP.new (t:Nat) (W:World) (p n:Int):BoxP t (W.alloc (.cells #[.int .i64 p,.int .i64 n] t)) W.heap.size p n:=World.alloc_heap_new W _
theorem BoxP.below {t:Nat} {W W':World} {b B:Nat} {p n:Int} (h:BoxP t W b p n) (hb:Below B W W') (hB:b<B):BoxP t W' b p n:=(hb.block b hB).trans h
theorem BoxP.lt {t:Nat} {W:World} {b:Nat} {p n:Int} (h:BoxP t W b p n):b<W.heap.size:=(Array.getElem?_eq_some_iff.1 h).1
theorem BoxP.cells {t:Nat} {W:World} {b:Nat} {p n:Int} (h:BoxP t W b p n):W.cell? ⟨b,0,none⟩=some (.int .i64 p)∧W.cell? ⟨b,1,none⟩=some (.int .i64 n):=by
 unfold BoxP at h;refine ⟨?_,?_⟩ <;> simp [World.cell?,h]
structure RP (lo hi:Nat) (w:World) (a:Option Addr) (n z:Nat) (xs:List (Int × Int)):Prop where
 len:xs.length=n
 fits:n≤z∧z≤9223372036854775807
 cells:n=0∨∃ b A,a=some ⟨b,A,none⟩∧lo≤b∧b<hi∧∀ i,i<n →
  w.cell? ⟨b,A+i*2,none⟩=some (.int .i64 (xs.getD i (0,0)).1)∧w.cell? ⟨b,A+i*2+1,none⟩=some (.int .i64 (xs.getD i (0,0)).2)
theorem RP.same {lo hi:Nat} {w w':World} {a:Option Addr} {n z:Nat} {xs:List (Int × Int)} (h:RP lo hi w a n z xs) (hs:Same lo hi w w'):RP lo hi w' a n z xs:=by
 obtain ⟨hl,hm,hc⟩:=h;refine ⟨hl,hm,?_⟩;rcases hc with h0 | ⟨b,A,e,h1,h2,hc⟩
 · exact .inl h0
 exact .inr ⟨b,A,e,h1,h2,fun i hi=>⟨(hs.cell (p:=⟨b,_,none⟩) h1 h2).trans (hc i hi).1,(hs.cell (p:=⟨b,_,none⟩) h1 h2).trans (hc i hi).2⟩⟩
theorem RP.below {lo hi B:Nat} {w w':World} {a:Option Addr} {n z:Nat} {xs:List (Int × Int)} (h:RP lo hi w a n z xs) (hb:Below B w w') (hB:hi≤B):RP lo hi w' a n z xs:=h.same (Same.of_below hb hB)
theorem RP.mono {lo hi lo' hi':Nat} {w:World} {a:Option Addr} {n z:Nat} {xs:List (Int × Int)} (h:RP lo hi w a n z xs) (h1:lo'≤lo) (h2:hi≤hi'):RP lo' hi' w a n z xs:=by
 obtain ⟨hl,hm,hc⟩:=h;refine ⟨hl,hm,?_⟩;rcases hc with h0 | ⟨b,A,e,q1,q2,hc⟩
 · exact .inl h0
 exact .inr ⟨b,A,e,by omega,by omega,hc⟩
theorem RP.at {lo hi:Nat} {w:World} {b A n z:Nat} {xs:List (Int × Int)} (h:RP lo hi w (some ⟨b,A,none⟩) n z xs) {i:Nat} (D:i<n) :
    w.cell? ⟨b,A+i*2,none⟩=some (.int .i64 (xs.getD i (0,0)).1)∧w.cell? ⟨b,A+i*2+1,none⟩=some (.int .i64 (xs.getD i (0,0)).2)∧b<hi:=by
 rcases h.cells with h0 | ⟨b',off',e,_,h2,hc⟩
 · omega
 simp only [Option.some.injEq,Addr.mk.injEq,and_true] at e;obtain ⟨rfl,rfl⟩:=e;exact ⟨(hc i D).1,(hc i D).2,h2⟩
def BoxK (t:Nat) (W:World) (q:Nat) (k f r u xp xn yp yn:Int) (s:Value) (a b:Int):Prop:=W.heap[q]?=some (.cells #[.int .i64 k,.int .i64 f,.int .i64 r,.int .i64 u,.int .i64 xp,.int .i64 xn,.int .i64 yp,.int .i64 yn,s,.int .i64 a,.int .i64 b] t (0,0))
theorem BoxK.new (t:Nat) (W:World) (k f r u xp xn yp yn:Int) (s:Value) (a b:Int):BoxK t (W.alloc (.cells #[.int .i64 k,.int .i64 f,.int .i64 r,.int .i64 u,.int .i64 xp,.int .i64 xn,.int .i64 yp,.int .i64 yn,s,.int .i64 a,.int .i64 b] t)) W.heap.size k f r u xp xn yp yn s a b:=World.alloc_heap_new W _
theorem BoxK.below {t:Nat} {W W':World} {q B:Nat} {k f r u xp xn yp yn:Int} {s:Value} {a b:Int} (h:BoxK t W q k f r u xp xn yp yn s a b) (hb:Below B W W') (hB:q<B):BoxK t W' q k f r u xp xn yp yn s a b:=(hb.block q hB).trans h
theorem BoxK.lt {t:Nat} {W:World} {q:Nat} {k f r u xp xn yp yn:Int} {s:Value} {a b:Int} (h:BoxK t W q k f r u xp xn yp yn s a b):q<W.heap.size:=(Array.getElem?_eq_some_iff.1 h).1
theorem BoxK.cells {t:Nat} {W:World} {q:Nat} {k f r u xp xn yp yn:Int} {s:Value} {a b:Int} (h:BoxK t W q k f r u xp xn yp yn s a b) :
    W.cell? ⟨q,0,none⟩=some (.int .i64 k)∧W.cell? ⟨q,1,none⟩=some (.int .i64 f)∧W.cell? ⟨q,2,none⟩=some (.int .i64 r)∧W.cell? ⟨q,3,none⟩=some (.int .i64 u)∧W.cell? ⟨q,4,none⟩=some (.int .i64 xp)∧W.cell? ⟨q,5,none⟩=some (.int .i64 xn) ∧
     W.cell? ⟨q,6,none⟩=some (.int .i64 yp)∧W.cell? ⟨q,7,none⟩=some (.int .i64 yn)∧W.cell? ⟨q,8,none⟩=some s∧W.cell? ⟨q,9,none⟩=some (.int .i64 a)∧W.cell? ⟨q,10,none⟩=some (.int .i64 b):=by
 unfold BoxK at h;refine ⟨?_,?_,?_,?_,?_,?_,?_,?_,?_,?_,?_⟩ <;> simp [World.cell?,h]
theorem BoxK.frz {t:Nat} {W:World} {q:Nat} {k f r u xp xn yp yn:Int} {s:Value} {a b:Int} (h:BoxK t W q k f r u xp xn yp yn s a b) (o:Nat):W.frozen? ⟨q,o,none⟩=false:=by
 unfold BoxK at h;simp [World.frozen?,h]
theorem BoxK.at {t:Nat} {W:World} {q:Nat} {k f r u xp xn yp yn:Int} {s:Value} {a b:Int} (h:BoxK t W q k f r u xp xn yp yn s a b) (i:Nat) (v:Value) :
    (W.setCell ⟨q,i,none⟩ v).heap[q]?=some (.cells (#[.int .i64 k,.int .i64 f,.int .i64 r,.int .i64 u,.int .i64 xp,.int .i64 xn,.int .i64 yp,.int .i64 yn,s,.int .i64 a,.int .i64 b].setIfInBounds i v) t (0,0)):=heap_setCell_same W q i _ _ v h
end

end Go.Proofs.YtellcgmabimieaaGreatDoor
