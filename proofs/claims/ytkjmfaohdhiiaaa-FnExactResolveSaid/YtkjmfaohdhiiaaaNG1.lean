/- Several texts in one: ClMath, Mem, RegH, Bytes, ClMem, SzB, OpenB. -/
import Derived.WalkKit
import Derived.Lib.BitFns
import Derived.WalkSpells
import Derived.WalkLawsBesides
import Derived.Deep.OwnRows
import Derived.Deep.RegionHeld
import Derived.Laws.Tables
import Derived.Test.YtkjmfaohdhiiaaaRows
import Derived.Deep.QuietTactic
import Derived.BigQuiet
import Derived.RangeFuncRecord
import Derived.Deep.Strs
import Derived.Deep.Slices
import Derived.ChangeOld
import Derived.OpenShut
namespace Go.Proofs.Ytkjmfaohdhiiaaa

section
open Go.RowKit
structure CL where
 kind:Int
 fn:Int
 role:Int
 above:Int
 xp:Int
 xn:Int
 yp:Int
 yn:Int
 inds:List (Int × Int)
 a:Int
 b:Int
def maskB (m:Int):Bool:=decide (0≤m) && decide (m<16777216)
def partB (p n:Int):Bool:=maskB p && maskB n
def noneB (p n:Int):Bool:=decide (p=0) && decide (n=0)
theorem maskB_iff {m:Int}:maskB m=true ↔ 0≤m∧m<16777216:=by simp [maskB]
theorem partB_iff {p n:Int}:partB p n=true ↔ (0≤p∧p<16777216)∧(0≤n∧n<16777216):=by simp [partB,maskB]
theorem noneB_iff {p n:Int}:noneB p n=true ↔ p=0∧n=0:=by simp [noneB]
theorem wrap_id (k:Nat) (h:k<9223372036854775808):IntKind.i64.wrap (k:Int)=(k:Int):=by
 simp [IntKind.wrap,IntKind.bits,IntKind.signed];omega
theorem bits_and_nat (a b:Nat) (ha:a<9223372036854775808) (hb:b<9223372036854775808):bits .and .i64 (a:Int) (b:Int)=((a &&& b:Nat):Int):=by
 have h1:a &&& b≤a:=Nat.and_le_left
 have e:((BitVec.ofInt 64 (a:Int)) &&& (BitVec.ofInt 64 (b:Int))).toNat=a &&& b:=by
  rw [BitVec.toNat_and,BitVec.ofInt_natCast,BitVec.ofInt_natCast,BitVec.toNat_ofNat,BitVec.toNat_ofNat,Nat.mod_eq_of_lt (by omega),Nat.mod_eq_of_lt (by omega)]
 show IntKind.i64.wrap (((BitVec.ofInt 64 (a:Int)) &&& (BitVec.ofInt 64 (b:Int))).toNat:Int)=_
 rw [e,wrap_id _ (by omega)]
theorem bits_or_nat (a b:Nat) (ha:a<16777216) (hb:b<16777216):bits .or .i64 (a:Int) (b:Int)=((a ||| b:Nat):Int):=by
 have h1:a ||| b<2 ^ 24:=Nat.or_lt_two_pow (by omega) (by omega)
 have e:((BitVec.ofInt 64 (a:Int)) ||| (BitVec.ofInt 64 (b:Int))).toNat=a ||| b:=by
  rw [BitVec.toNat_or,BitVec.ofInt_natCast,BitVec.ofInt_natCast,BitVec.toNat_ofNat,BitVec.toNat_ofNat,Nat.mod_eq_of_lt (by omega),Nat.mod_eq_of_lt (by omega)]
 show IntKind.i64.wrap (((BitVec.ofInt 64 (a:Int)) ||| (BitVec.ofInt 64 (b:Int))).toNat:Int)=_
 rw [e,wrap_id _ (by omega)]
theorem bit_at (a i:Nat) (ha:a<16777216):(bits .and .i64 ((a:Int) / 2 ^ i) 1 == 1)=a.testBit i:=by
 have e:((a:Int) / 2 ^ i)=((a / 2 ^ i:Nat):Int):=by simp
 have hl:a / 2 ^ i<9223372036854775808:=Nat.lt_of_le_of_lt (Nat.div_le_self _ _) (by omega);rw [e,show (1:Int)=((1:Nat):Int) from rfl,bits_and_nat _ _ hl (by omega),Nat.and_one_is_mod];rw [Nat.testBit_eq_decide_div_mod_eq];by_cases h:a / 2 ^ i % 2=1
 · rw [h];simp
 have:a / 2 ^ i % 2=0:=by omega
 rw [this];simp
def grF (p n:Nat):Nat→Int × Bool × Bool
 | 0=>(0,false,false)
 | i+1=>if n.testBit i=true then ((i:Int),true,true) else if p.testBit i=true then ((i:Int),false,true) else grF p n i
theorem bitLen_pos (x:Nat) (h0:x≠0) (h:x<16777216):∃ l,Lib.bitLen x=l+1∧l<24∧2 ^ l≤x∧x<2 ^ (l+1):=by
 have o:∀ k x:Nat,x≠0→x<2 ^ k→x<18446744073709551616→∃ l,Lib.bitLen x=l+1∧l<k∧2 ^ l≤x∧x<2 ^ (l+1):=by
  intro k
  induction k with
  | zero=>intro x h0 h;simp at h;omega
  | succ k ih =>
   intro x h0 h hx;rw [Lib.bitLen_half x h0 hx];by_cases h1:x / 2=0
   · have:x=1:=by omega
     subst this;exact ⟨0,by decide +kernel,by omega,by decide,by decide⟩
   obtain ⟨l,e,hl,q1,q2⟩:=ih (x / 2) h1 (by rw [Nat.pow_succ] at h;omega) (by omega);refine ⟨l+1,by omega,by omega,?_,?_⟩
   · rw [Nat.pow_succ];omega
   rw [Nat.pow_succ];omega
 exact o 24 x h0 (by omega) (by omega)
theorem grF_all (p n:Nat) (hp:p<16777216) (hn:n<16777216) (h0:p ||| n≠0) :
    grF p n 24=((Lib.bitLen (p ||| n):Int) - 1,n.testBit (Lib.bitLen (p ||| n) - 1),true):=by
 have hx:p ||| n<2 ^ 24:=Nat.or_lt_two_pow (by omega) (by omega)
 obtain ⟨l,e,hl,q1,q2⟩:=bitLen_pos (p ||| n) h0 (by omega);rw [e]
 have hi:∀ i,l+1≤i→p.testBit i=false∧n.testBit i=false:=by
  intro i hi;have:(p ||| n).testBit i=false:=Nat.testBit_lt_two_pow (Nat.lt_of_lt_of_le q2 (Nat.pow_le_pow_right (by omega) hi));rw [Nat.testBit_or] at this;simpa using this
 have hd:∀ d,grF p n (l+1+d)=grF p n (l+1):=by
  intro d
  induction d with
  | zero=>rfl
  | succ d ih =>
   obtain ⟨a,b⟩:=hi (l+1+d) (by omega);rw [← Nat.add_assoc,grF,a,b];simpa using ih
 have r:(24:Nat)=l+1+(23 - l):=by omega
 rw [r,hd,grF]
 have ht:(p ||| n).testBit l=true:=by
  rw [Nat.testBit_eq_decide_div_mod_eq]
  have:(p ||| n) / 2 ^ l=1:=by
   apply Nat.div_eq_of_lt_le
   · omega
   rw [Nat.pow_succ] at q2;omega
  simp [this]
 rw [Nat.testBit_or] at ht;by_cases hb:n.testBit l=true
 · simp [hb]
 have hb':n.testBit l=false:=by simpa using hb
 rw [hb',Bool.or_false] at ht;simp [hb',ht]
theorem grF_none:grF 0 0 24=(0,false,false):=by decide +kernel
end

section
open Go.RowKit
theorem rb {a b:Bool} (h:a=b):Ending.returned (.bool a)=.returned (.bool b):=by rw [h]
theorem ri {a b:Int} (h:a=b):Ending.returned (.int .i64 a)=.returned (.int .i64 b):=by rw [h]
def Same (lo hi:Nat) (w w':World):Prop:=∀ b,lo≤b→b<hi→w'.heap[b]?=w.heap[b]?
theorem Same.refl (lo hi:Nat) (w:World):Same lo hi w w:=fun _ _ _=>rfl
theorem Same.trans {lo hi:Nat} {a b c:World} (h:Same lo hi a b) (k:Same lo hi b c):Same lo hi a c:=fun x h1 h2=>(k x h1 h2).trans (h x h1 h2)
theorem Same.mono {lo hi lo' o:Nat} {w w':World} (h:Same lo hi w w') (h1:lo≤lo') (h2:o≤hi):Same lo' o w w':=fun b a c=>h b (by omega) (by omega)
theorem Same.of_below {lo hi B:Nat} {w w':World} (h:Below B w w') (hB:hi≤B):Same lo hi w w':=fun b _ h2=>h.block b (by omega)
theorem Same.drew {lo hi:Nat} {w w':World} (h:Same lo hi w w') (n:Nat):Same lo hi w (w'.drewN n):=h
theorem Same.cell {lo hi:Nat} {w w':World} (h:Same lo hi w w') {p:Addr} (h1:lo≤p.block) (h2:p.block<hi):w'.cell? p=w.cell? p:=World.cell?_of_block (w:=w) (h p.block h1 h2)
structure Rd (lo hi:Nat) (w:World) (a:Option Addr) (n d:Nat) (zs:List Int):Prop where
 len:zs.length=n
 fits:n≤d∧d≤9223372036854775807
 byte:∀ i,0≤zs.getD i 0∧zs.getD i 0≤255
 cells:n=0∨∃ b off,a=some ⟨b,off,none⟩∧lo≤b∧b<hi∧∀ i,i<n→w.cell? ⟨b,off+i,none⟩=some (.int .u8 (zs.getD i 0))
theorem Rd.same {lo hi:Nat} {w w':World} {a:Option Addr} {n d:Nat} {zs:List Int} (h:Rd lo hi w a n d zs) (hs:Same lo hi w w'):Rd lo hi w' a n d zs:=by
 obtain ⟨hl,hm,s,hc⟩:=h;refine ⟨hl,hm,s,?_⟩;rcases hc with h0 | ⟨b,off,e,h1,h2,hc⟩
 · exact .inl h0
 exact .inr ⟨b,off,e,h1,h2,fun i hi=>(hs.cell (p:=⟨b,off+i,none⟩) h1 h2).trans (hc i hi)⟩
theorem Rd.mono {lo hi lo' o:Nat} {w:World} {a:Option Addr} {n d:Nat} {zs:List Int} (h:Rd lo hi w a n d zs) (h1:lo'≤lo) (h2:hi≤o):Rd lo' o w a n d zs:=by
 obtain ⟨hl,hm,s,hc⟩:=h;refine ⟨hl,hm,s,?_⟩;rcases hc with h0 | ⟨b,off,e,h3,h4,hc⟩
 · exact .inl h0
 exact .inr ⟨b,off,e,by omega,by omega,hc⟩
theorem Rd.below {lo hi:Nat} {w w':World} {B:Nat} {a:Option Addr} {n d:Nat} {zs:List Int} (h:Rd lo hi w a n d zs) (hb:Below B w w') (hB:hi≤B):Rd lo hi w' a n d zs:=h.same (Same.of_below hb hB)
def Row (w:World) (g d:Nat) (zs:List Int):Prop:=∃ c:Array Value,w.heap[g]?=some (.cells c 5 (0,0))∧c.size=d∧zs.length≤d∧∀ i,i<zs.length→c[i]?=some (.int .u8 (zs.getD i 0))
theorem Row.cell {w:World} {g d:Nat} {zs:List Int} (h:Row w g d zs) {i:Nat} (hi:i<zs.length):w.cell? ⟨g,i,none⟩=some (.int .u8 (zs.getD i 0)):=by
 obtain ⟨c,hb,_,_,hc⟩:=h;simp [World.cell?,hb,hc i hi]
theorem Row.frozen {w:World} {g d:Nat} {zs:List Int} (h:Row w g d zs) (i:Nat):w.frozen? ⟨g,i,none⟩=false:=by
 obtain ⟨c,hb,_⟩:=h;simp [World.frozen?,hb]
theorem Row.lt {w:World} {g d:Nat} {zs:List Int} (h:Row w g d zs):g<w.heap.size:=by
 obtain ⟨c,hb,_⟩:=h;exact (Array.getElem?_eq_some_iff.1 hb).1
theorem Row.rd {lo hi:Nat} {w:World} {g n d:Nat} {zs:List Int} (h:Row w g d zs) (hl:zs.length=n) (s:∀ i,0≤zs.getD i 0∧zs.getD i 0≤255) (hn:d≤9223372036854775807) (h1:lo≤g) (h2:g<hi):Rd lo hi w (some ⟨g,0,none⟩) n d zs:=by
 have z:zs.length≤d:=by obtain ⟨c,_,_,h,_⟩:=h;exact h
 refine ⟨hl,⟨by omega,hn⟩,s,.inr ⟨g,0,rfl,h1,h2,fun i hi=>?_⟩⟩;rw [Nat.zero_add];exact Row.cell h (by omega)
theorem Row.of_block {w w':World} {g d:Nat} {zs:List Int} (h:Row w g d zs) (e:w'.heap[g]?=w.heap[g]?):Row w' g d zs:=by
 obtain ⟨c,hb,r⟩:=h;exact ⟨c,e.trans hb,r⟩
theorem Row.below {w w':World} {B g d:Nat} {zs:List Int} (h:Row w g d zs) (hb:Below B w w') (hg:g<B):Row w' g d zs:=h.of_block (hb.block g hg)
theorem Row.same {lo hi:Nat} {w w':World} {g d:Nat} {zs:List Int} (h:Row w g d zs) (hs:Same lo hi w w') (h1:lo≤g) (h2:g<hi):Row w' g d zs:=h.of_block (hs g h1 h2)
def marks (w:World):List (Addr × IntKind)→Int→World
 | [],_=>w
 | (a,kd) :: L,k=>marks (w.setCell a (.int kd (kd.wrap k))) L (k+1)
theorem marks_append (L M:List (Addr × IntKind)):∀ (w:World) (k:Int),marks w (L++M) k=marks (marks w L k) M (k+L.length):=by
 induction L with
 | nil=>intro w k;simp [marks]
 | cons x L ih =>
  intro w k;obtain ⟨a,kd⟩:=x;simp only [List.cons_append,marks,ih,List.length_cons]
  congr 1
  omega
def LeafOk (w:World) (L:List (Addr × IntKind)):Prop:=∀ x∈L,(∃ n,w.cell? x.1=some (.int x.2 n))∧w.frozen? x.1=false
theorem LeafOk.set {w:World} {L:List (Addr × IntKind)} (h:LeafOk w L) {a:Addr} {kd:IntKind} {m:Int} (ha:w.cell? a=some (.int kd m)) (v:Int):LeafOk (w.setCell a (.int kd v)) L:=by
 intro x hx;obtain ⟨⟨n,hn⟩,hf⟩:=h x hx;refine ⟨?_,by simpa using hf⟩;by_cases e:a=x.1
 · subst e;rw [ha] at hn;simp at hn;exact ⟨v,by rw [World.cell?_setCell_same _ _ _ ha,hn.1]⟩
 exact ⟨n,by rw [World.cell?_setCell_other _ _ _ _ e];exact hn⟩
theorem LeafOk.marks {L:List (Addr × IntKind)}:∀ {w:World} {M:List (Addr × IntKind)},LeafOk w L→LeafOk w M→∀ k,LeafOk (marks w L k) M∧LeafOk (marks w L k) L:=by
 induction L with
 | nil=>intro w M h1 h2 k;exact ⟨h2,h1⟩
 | cons x L ih =>
  intro w M h1 h2 k;obtain ⟨a,kd⟩:=x;obtain ⟨⟨m,hm⟩,hf⟩:=h1 (a,kd) (by simp);have t:=h1.set hm (kd.wrap k);have u:=h2.set hm (kd.wrap k);refine ⟨(ih (fun x hx=>t x (by simp [hx])) u (k+1)).1,?_⟩;exact (ih (fun x hx=>t x (by simp [hx])) t (k+1)).1
def Held (w:World):List (Addr × IntKind)→Int→Prop
 | [],_=>True
 | (a,kd) :: L,k=>w.cell? a=some (.int kd (kd.wrap k))∧Held w L (k+1)
theorem held_append {w:World} {L M:List (Addr × IntKind)}:∀ {k:Int},Held w (L++M) k ↔ Held w L k∧Held w M (k+L.length):=by
 induction L with
 | nil=>intro k;simp [Held]
 | cons x L ih =>
  intro k;obtain ⟨a,kd⟩:=x;simp only [List.cons_append,Held,ih,List.length_cons,and_assoc];rw [show k+1+(L.length:Int)=k+((L.length+1:Nat):Int) from by omega]
theorem cell_marks_other {L:List (Addr × IntKind)}:∀ {w:World} {p:Addr},(∀ x∈L,x.1≠p)→∀ k,(marks w L k).cell? p=w.cell? p:=by
 induction L with
 | nil=>intro w p _ k;rfl
 | cons x L ih =>
  intro w p h k;obtain ⟨a,kd⟩:=x;rw [marks,ih (fun x hx=>h x (by simp [hx]))];exact World.cell?_setCell_other _ _ _ _ (h (a,kd) (by simp))
theorem held_marks {L:List (Addr × IntKind)}:∀ {w:World},LeafOk w L→(L.map (·.1)).Nodup→∀ k,Held (marks w L k) L k:=by
 induction L with
 | nil=>intro w _ _ k;trivial
 | cons x L ih =>
  intro w hL hN k;obtain ⟨a,kd⟩:=x;obtain ⟨⟨m,hm⟩,hf⟩:=hL (a,kd) (by simp);have t:=hL.set hm (kd.wrap k);simp only [List.map_cons,List.nodup_cons] at hN;refine ⟨?_,ih (fun x hx=>t x (by simp [hx])) hN.2 (k+1)⟩;rw [marks,cell_marks_other (fun x hx e=>hN.1 (by rw [← e];exact List.mem_map_of_mem hx))];exact World.cell?_setCell_same _ _ _ hm
theorem Held.same {lo hi:Nat} {w w':World} (hs:Same lo hi w w') {L:List (Addr × IntKind)}:∀ {k:Int},(∀ x∈L,lo≤x.1.block∧x.1.block<hi)→Held w L k→Held w' L k:=by
 induction L with
 | nil=>intro k _ _;trivial
 | cons x L ih =>
  intro k hb h;obtain ⟨a,kd⟩:=x;have hb':=hb (a,kd) (by simp);exact ⟨(hs.cell hb'.1 hb'.2).trans h.1,ih (fun x hx=>hb x (by simp [hx])) h.2⟩
theorem below_marks {B:Nat} {L:List (Addr × IntKind)}:∀ {a w:World},Below B a w→(∀ x∈L,B≤x.1.block)→∀ k,Below B a (marks w L k):=by
 induction L with
 | nil=>intro a w h _ k;exact h
 | cons x L ih =>
  intro a w h hb k;obtain ⟨p,kd⟩:=x;exact ih (h.setCell (hb (p,kd) (by simp)) _) (fun x hx=>hb x (by simp [hx])) (k+1)
theorem same_marks {lo hi:Nat} {L:List (Addr × IntKind)}:∀ {w:World},(∀ x∈L,x.1.block<lo∨hi≤x.1.block)→∀ k,Same lo hi w (marks w L k):=by
 induction L with
 | nil=>intro w _ k;exact Same.refl _ _ _
 | cons x L ih =>
  intro w hb k;obtain ⟨p,kd⟩:=x;have h1:=hb (p,kd) (by simp);refine Same.trans (fun b D A=>?_) (ih (fun x hx=>hb x (by simp [hx])) (k+1));exact Below.heap_setCell _ _ _ _ (by simp only at h1;omega)
theorem size_marks {L:List (Addr × IntKind)}:∀ {w:World} (k:Int),(marks w L k).heap.size=w.heap.size:=by
 induction L with
 | nil=>intro w k;rfl
 | cons x L ih =>
  intro w k;obtain ⟨p,kd⟩:=x;rw [marks,ih];simp
theorem wrap64_id {k:Int} (h:0≤k∧k≤4611686018427387904):IntKind.i64.wrap k=k:=by
 simp [IntKind.wrap,IntKind.bits,IntKind.signed];omega
end

section
open Go.RowKit
set_option linter.unusedVariables false
section
variable {P:Program} {d:Array Oper} {Q:Exit→Act→World→Prop} {md:Region.Mode} {S:World→Prop} {i:Nat} {oi:Oper} {v:Value} {fuel:Nat} {listed:Array Bool} {a:Act} {w:World}
theorem takeR (hi:d[i]?=some oi) (hw:Region.wanted oi (yielded d a.tmps)=true) (hy:∀ w,S w→(execOp a.eval oi).run P w=.ok (.value v) w) (hS:S w)
    (h:wpAnyH P md d Q S fuel (listed.setIfInBounds i true) (a.put oi.dst v) w) (hs:Region.noSelect d=true:=by kernel_rfl) (hf:Region.free md d listed i=true:=by kernel_rfl) (hr:(Region.ready md d listed).contains i=true:=by kernel_rfl)
    (hQ:∀ c a w,Q (.panic c) (a.put oi.dst v) w→Q (.panic c) a w:=by exact fun _ _ _ h=>h):wpAnyH P md d Q S (fuel+1) listed a w :=
 wpAnyH_take hi hs hf hr hQ (Or.inl ⟨hw,hy⟩) hS h
theorem skipR (hi:d[i]?=some oi) (h:wpAnyH P md d Q S fuel (listed.setIfInBounds i true) (a.put oi.dst undef) w) (hS:S w:=by assumption) (hw:Region.wanted oi (yielded d a.tmps)=false:=by kernel_rfl)
    (hs:Region.noSelect d=true:=by kernel_rfl) (hf:Region.free md d listed i=true:=by kernel_rfl) (hr:(Region.ready md d listed).contains i=true:=by kernel_rfl)
    (hQ:∀ c a w,Q (.panic c) (a.put oi.dst undef) w→Q (.panic c) a w:=by exact fun _ _ _ h=>h):wpAnyH P md d Q S (fuel+1) listed a w :=
 wpAnyH_take hi hs hf hr hQ (Or.inr ⟨hw,rfl⟩) hS h
theorem storeR (hi:d[i]?=some oi) (ty:TypeId) (x y:Operand) (ho:oi.op=.store ty x y) (g:Nat) (cells:Array Value) (hx:a.eval x=.pointer (some ⟨g,0,none⟩)) (hy:a.eval y=.agg cells)
    (t:TypeId) (e:Array Value) (hg:w.heap[g]?=some (.cells e t (0,0))) (o:(P.info? ty).map (·.size)=some cells.size) (m:e.size=cells.size) (h1:cells.all (·.oneCell')=true)
    (hS:S (w.setRow g cells)) (h:S (w.setRow g cells)→wpAnyH P md d Q S fuel (listed.setIfInBounds i true) (a.put oi.dst undef) (w.setRow g cells))
    (hr:Region.ready md d listed=[i]:=by kernel_rfl) (hw:Region.wanted oi (yielded d a.tmps)=true:=by kernel_rfl):wpAnyH P md d Q S (fuel+1) listed a w :=
 wpAnyH_ready hr (by simp) (AllReadyH.cons hi (fun K hK=>by rw [if_pos hw];exact wp_store_row ty x y ho g cells hx hy t e hg o m h1 (hK.out _ _ hS (fun _=>h hS))) AllReadyH.nil)
end
theorem below_setRow {B:Nat} {w V:World} {g:Nat} {cs:Array Value} (h:Below B w V) (hg:B≤g):Below B w (V.setRow g cs) :=
 ⟨h.os,h.tape,h.output,by rw [setRow_size];exact h.size,fun q hq=>(setRow_other V g q cs (by omega)).trans (h.block q hq)⟩
end

section
open Go.RowKit
def part (zs:List Int) (k:Nat) (i:Nat):Value:=.int .u8 (if i<k then zs.getD i 0 else 0)
end

section
open Go.RowKit
def BoxP (t:Nat) (W:World) (b:Nat) (p n:Int):Prop:=W.heap[b]?=some (.cells #[.int .i64 p,.int .i64 n] t (0,0))
theorem BoxP.new (t:Nat) (W:World) (p n:Int):BoxP t (W.alloc (.cells #[.int .i64 p,.int .i64 n] t)) W.heap.size p n:=World.alloc_heap_new W _
theorem BoxP.below {t:Nat} {W W':World} {b B:Nat} {p n:Int} (h:BoxP t W b p n) (hb:Below B W W') (hB:b<B):BoxP t W' b p n:=(hb.block b hB).trans h
theorem BoxP.lt {t:Nat} {W:World} {b:Nat} {p n:Int} (h:BoxP t W b p n):b<W.heap.size:=(Array.getElem?_eq_some_iff.1 h).1
theorem BoxP.cells {t:Nat} {W:World} {b:Nat} {p n:Int} (h:BoxP t W b p n):W.cell? ⟨b,0,none⟩=some (.int .i64 p)∧W.cell? ⟨b,1,none⟩=some (.int .i64 n):=by
 unfold BoxP at h;refine ⟨?_,?_⟩ <;> simp [World.cell?,h]
structure RP (lo hi:Nat) (w:World) (a:Option Addr) (n d:Nat) (xs:List (Int × Int)):Prop where
 len:xs.length=n
 fits:n≤d∧d≤9223372036854775807
 cells:n=0∨∃ b off,a=some ⟨b,off,none⟩∧lo≤b∧b<hi∧∀ i,i<n →
  w.cell? ⟨b,off+i*2,none⟩=some (.int .i64 (xs.getD i (0,0)).1)∧w.cell? ⟨b,off+i*2+1,none⟩=some (.int .i64 (xs.getD i (0,0)).2)
theorem RP.same {lo hi:Nat} {w w':World} {a:Option Addr} {n d:Nat} {xs:List (Int × Int)} (h:RP lo hi w a n d xs) (hs:Same lo hi w w'):RP lo hi w' a n d xs:=by
 obtain ⟨hl,hm,hc⟩:=h;refine ⟨hl,hm,?_⟩;rcases hc with h0 | ⟨b,off,e,h1,h2,hc⟩
 · exact .inl h0
 exact .inr ⟨b,off,e,h1,h2,fun i hi=>⟨(hs.cell (p:=⟨b,_,none⟩) h1 h2).trans (hc i hi).1,(hs.cell (p:=⟨b,_,none⟩) h1 h2).trans (hc i hi).2⟩⟩
theorem RP.below {lo hi B:Nat} {w w':World} {a:Option Addr} {n d:Nat} {xs:List (Int × Int)} (h:RP lo hi w a n d xs) (hb:Below B w w') (hB:hi≤B):RP lo hi w' a n d xs:=h.same (Same.of_below hb hB)
theorem RP.mono {lo hi lo' z:Nat} {w:World} {a:Option Addr} {n d:Nat} {xs:List (Int × Int)} (h:RP lo hi w a n d xs) (h1:lo'≤lo) (h2:hi≤z):RP lo' z w a n d xs:=by
 obtain ⟨hl,hm,hc⟩:=h;refine ⟨hl,hm,?_⟩;rcases hc with h0 | ⟨b,off,e,q1,q2,hc⟩
 · exact .inl h0
 exact .inr ⟨b,off,e,by omega,by omega,hc⟩
theorem RP.at {lo hi:Nat} {w:World} {b off n d:Nat} {xs:List (Int × Int)} (h:RP lo hi w (some ⟨b,off,none⟩) n d xs) {i:Nat} (m:i<n) :
    w.cell? ⟨b,off+i*2,none⟩=some (.int .i64 (xs.getD i (0,0)).1)∧w.cell? ⟨b,off+i*2+1,none⟩=some (.int .i64 (xs.getD i (0,0)).2)∧b<hi:=by
 rcases h.cells with h0 | ⟨b',off',e,_,h2,hc⟩
 · omega
 simp only [Option.some.injEq,Addr.mk.injEq,and_true] at e;obtain ⟨rfl,rfl⟩:=e;exact ⟨(hc i m).1,(hc i m).2,h2⟩
def BoxK (t:Nat) (W:World) (q:Nat) (k f r u xp xn yp yn:Int) (s:Value) (a b:Int):Prop:=W.heap[q]?=some (.cells #[.int .i64 k,.int .i64 f,.int .i64 r,.int .i64 u,.int .i64 xp,.int .i64 xn,.int .i64 yp,.int .i64 yn,s,.int .i64 a,.int .i64 b] t (0,0))
theorem BoxK.new (t:Nat) (W:World) (k f r u xp xn yp yn:Int) (s:Value) (a b:Int):BoxK t (W.alloc (.cells #[.int .i64 k,.int .i64 f,.int .i64 r,.int .i64 u,.int .i64 xp,.int .i64 xn,.int .i64 yp,.int .i64 yn,s,.int .i64 a,.int .i64 b] t)) W.heap.size k f r u xp xn yp yn s a b:=World.alloc_heap_new W _
theorem BoxK.below {t:Nat} {W W':World} {q B:Nat} {k f r u xp xn yp yn:Int} {s:Value} {a b:Int} (h:BoxK t W q k f r u xp xn yp yn s a b) (hb:Below B W W') (hB:q<B):BoxK t W' q k f r u xp xn yp yn s a b:=(hb.block q hB).trans h
theorem BoxK.lt {t:Nat} {W:World} {q:Nat} {k f r u xp xn yp yn:Int} {s:Value} {a b:Int} (h:BoxK t W q k f r u xp xn yp yn s a b):q<W.heap.size:=(Array.getElem?_eq_some_iff.1 h).1
theorem BoxK.cells {t:Nat} {W:World} {q:Nat} {k f r u xp xn yp yn:Int} {s:Value} {a b:Int} (h:BoxK t W q k f r u xp xn yp yn s a b) :
    W.cell? ⟨q,0,none⟩=some (.int .i64 k)∧W.cell? ⟨q,1,none⟩=some (.int .i64 f)∧W.cell? ⟨q,2,none⟩=some (.int .i64 r)∧W.cell? ⟨q,3,none⟩=some (.int .i64 u)∧W.cell? ⟨q,4,none⟩=some (.int .i64 xp)∧W.cell? ⟨q,5,none⟩=some (.int .i64 xn) ∧
     W.cell? ⟨q,6,none⟩=some (.int .i64 yp)∧W.cell? ⟨q,7,none⟩=some (.int .i64 yn)∧W.cell? ⟨q,8,none⟩=some s∧W.cell? ⟨q,9,none⟩=some (.int .i64 a)∧W.cell? ⟨q,10,none⟩=some (.int .i64 b):=by
 unfold BoxK at h;refine ⟨?_,?_,?_,?_,?_,?_,?_,?_,?_,?_,?_⟩ <;> simp [World.cell?,h]
theorem BoxK.frz {t:Nat} {W:World} {q:Nat} {k f r u xp xn yp yn:Int} {s:Value} {a b:Int} (h:BoxK t W q k f r u xp xn yp yn s a b) (o:Nat):W.frozen? ⟨q,o,none⟩=false:=by
 unfold BoxK at h;simp [World.frozen?,h]
theorem BoxK.at {t:Nat} {W:World} {q:Nat} {k f r u xp xn yp yn:Int} {s:Value} {a b:Int} (h:BoxK t W q k f r u xp xn yp yn s a b) (i:Nat) (v:Value) :
    (W.setCell ⟨q,i,none⟩ v).heap[q]?=some (.cells (#[.int .i64 k,.int .i64 f,.int .i64 r,.int .i64 u,.int .i64 xp,.int .i64 xn,.int .i64 yp,.int .i64 yn,s,.int .i64 a,.int .i64 b].setIfInBounds i v) t (0,0)):=heap_setCell_same W q i _ _ v h
end

section
open Go.RowKit
def szRes (left:Int) (n:Nat):Int:=if left<n then -1 else left - n
end

section
open Go.RowKit Go.Deep Go.ChangeShapes Go.WideShapes
end

end Go.Proofs.Ytkjmfaohdhiiaaa
