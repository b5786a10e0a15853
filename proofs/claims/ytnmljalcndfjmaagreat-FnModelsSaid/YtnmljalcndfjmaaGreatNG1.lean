/- Several texts in one: Mem, Bytes, ConMem, SzB, ConTo, Conv, ClMath, Draw1, DrawPick, LawBox. -/
import Derived.WalkKit
import Derived.WalkSpells
import Derived.WalkLawsBesides
import Derived.Deep.OwnRows
import Derived.Test.YtnmljalcndfjmaaGreatRows
import Derived.Deep.QuietTactic
import Derived.BigQuiet
import Derived.Laws.BytesArg
import Derived.Lib.BitFns
import Derived.Deep.DeepCutAuto
import Derived.Deep.RegionWith
import Derived.RangeFuncRecord
namespace Go.Proofs.YtnmljalcndfjmaaGreat

section
open Go.RowKit
theorem rb {a b:Bool} (h:a=b):Ending.returned (.bool a)=.returned (.bool b):=by rw [h]
theorem ri {a b:Int} (h:a=b):Ending.returned (.int .i64 a)=.returned (.int .i64 b):=by rw [h]
theorem drew_add (w:World) (m n:Nat):(w.drewN m).drewN n=w.drewN (m+n):=by
 induction n with
 | zero=>rfl
 | succ n ih=>show ((w.drewN m).drewN n).drew=_;rw [ih];rfl
def Same (lo hi:Nat) (w w':World):Prop:=∀ b,lo≤b→b<hi→w'.heap[b]?=w.heap[b]?
theorem Same.refl (lo hi:Nat) (w:World):Same lo hi w w:=fun _ _ _=>rfl
theorem Same.trans {lo hi:Nat} {a b c:World} (h:Same lo hi a b) (k:Same lo hi b c):Same lo hi a c:=fun x h1 h2=>(k x h1 h2).trans (h x h1 h2)
theorem Same.mono {lo hi lo' A:Nat} {w w':World} (h:Same lo hi w w') (h1:lo≤lo') (h2:A≤hi):Same lo' A w w':=fun b a c=>h b (by omega) (by omega)
theorem Same.of_below {lo hi B:Nat} {w w':World} (h:Below B w w') (hB:hi≤B):Same lo hi w w':=fun b _ h2=>h.block b (by omega)
theorem Same.drew {lo hi:Nat} {w w':World} (h:Same lo hi w w') (n:Nat):Same lo hi w (w'.drewN n):=h
theorem Same.cell {lo hi:Nat} {w w':World} (h:Same lo hi w w') {p:Addr} (h1:lo≤p.block) (h2:p.block<hi):w'.cell? p=w.cell? p:=World.cell?_of_block (w:=w) (h p.block h1 h2)
structure Rd (lo hi:Nat) (w:World) (a:Option Addr) (n q:Nat) (zs:List Int):Prop where
 len:zs.length=n
 fits:n≤q∧q≤9223372036854775807
 byte:∀ i,0≤zs.getD i 0∧zs.getD i 0≤255
 cells:n=0∨∃ b off,a=some ⟨b,off,none⟩∧lo≤b∧b<hi∧∀ i,i<n→w.cell? ⟨b,off+i,none⟩=some (.int .u8 (zs.getD i 0))
theorem Rd.tail {lo hi:Nat} {w:World} {b off n q:Nat} {zs:List Int} (h:Rd lo hi w (some ⟨b,off,none⟩) n q zs) (hn:1≤n):Rd lo hi w (some ⟨b,off+1,none⟩) (n - 1) (q - 1) (zs.drop 1):=by
 obtain ⟨hl,⟨hn,hm⟩,y,hc⟩:=h;refine ⟨by simp [hl],by omega,fun i=>?_,?_⟩
 · have:=y (i+1);simpa [List.getD] using this
 rcases hc with h0 | ⟨b,off,e,hb,D,hc⟩
 · exact .inl (by omega)
 simp at e;obtain ⟨rfl,rfl⟩:=e;refine .inr ⟨_,_,rfl,hb,D,fun i hi=>?_⟩;have:=hc (i+1) (by omega);rw [Nat.add_right_comm,Nat.add_assoc];simpa [List.getD] using this
theorem Rd.none_of {lo hi:Nat} {w:World} {a:Option Addr} {q:Nat} (h:q≤9223372036854775807):Rd lo hi w a 0 q []:=⟨rfl,⟨Nat.zero_le _,h⟩,by simp,.inl rfl⟩
theorem Rd.same {lo hi:Nat} {w w':World} {a:Option Addr} {n q:Nat} {zs:List Int} (h:Rd lo hi w a n q zs) (hs:Same lo hi w w'):Rd lo hi w' a n q zs:=by
 obtain ⟨hl,hm,y,hc⟩:=h;refine ⟨hl,hm,y,?_⟩;rcases hc with h0 | ⟨b,off,e,h1,h2,hc⟩
 · exact .inl h0
 exact .inr ⟨b,off,e,h1,h2,fun i hi=>(hs.cell (p:=⟨b,off+i,none⟩) h1 h2).trans (hc i hi)⟩
theorem Rd.mono {lo hi lo' A:Nat} {w:World} {a:Option Addr} {n q:Nat} {zs:List Int} (h:Rd lo hi w a n q zs) (h1:lo'≤lo) (h2:hi≤A):Rd lo' A w a n q zs:=by
 obtain ⟨hl,hm,y,hc⟩:=h;refine ⟨hl,hm,y,?_⟩;rcases hc with h0 | ⟨b,off,e,h3,h4,hc⟩
 · exact .inl h0
 exact .inr ⟨b,off,e,by omega,by omega,hc⟩
theorem Rd.below {lo hi:Nat} {w w':World} {B:Nat} {a:Option Addr} {n q:Nat} {zs:List Int} (h:Rd lo hi w a n q zs) (hb:Below B w w') (hB:hi≤B):Rd lo hi w' a n q zs:=h.same (Same.of_below hb hB)
def Row (w:World) (g q:Nat) (zs:List Int):Prop:=∃ c:Array Value,w.heap[g]?=some (.cells c 5 (0,0))∧c.size=q∧zs.length≤q∧∀ i,i<zs.length→c[i]?=some (.int .u8 (zs.getD i 0))
theorem Row.cell {w:World} {g q:Nat} {zs:List Int} (h:Row w g q zs) {i:Nat} (hi:i<zs.length):w.cell? ⟨g,i,none⟩=some (.int .u8 (zs.getD i 0)):=by
 obtain ⟨c,hb,_,_,hc⟩:=h;simp [World.cell?,hb,hc i hi]
theorem Row.frozen {w:World} {g q:Nat} {zs:List Int} (h:Row w g q zs) (i:Nat):w.frozen? ⟨g,i,none⟩=false:=by
 obtain ⟨c,hb,_⟩:=h;simp [World.frozen?,hb]
theorem Row.lt {w:World} {g q:Nat} {zs:List Int} (h:Row w g q zs):g<w.heap.size:=by
 obtain ⟨c,hb,_⟩:=h;exact (Array.getElem?_eq_some_iff.1 hb).1
theorem Row.rd {lo hi:Nat} {w:World} {g n q:Nat} {zs:List Int} (h:Row w g q zs) (hl:zs.length=n) (y:∀ i,0≤zs.getD i 0∧zs.getD i 0≤255) (hn:q≤9223372036854775807) (h1:lo≤g) (h2:g<hi):Rd lo hi w (some ⟨g,0,none⟩) n q zs:=by
 have G:zs.length≤q:=by obtain ⟨c,_,_,h,_⟩:=h;exact h
 refine ⟨hl,⟨by omega,hn⟩,y,.inr ⟨g,0,rfl,h1,h2,fun i hi=>?_⟩⟩;rw [Nat.zero_add];exact Row.cell h (by omega)
theorem Row.of_block {w w':World} {g q:Nat} {zs:List Int} (h:Row w g q zs) (e:w'.heap[g]?=w.heap[g]?):Row w' g q zs:=by
 obtain ⟨c,hb,r⟩:=h;exact ⟨c,e.trans hb,r⟩
theorem Row.below {w w':World} {B g q:Nat} {zs:List Int} (h:Row w g q zs) (hb:Below B w w') (hg:g<B):Row w' g q zs:=h.of_block (hb.block g hg)
theorem Row.same {lo hi:Nat} {w w':World} {g q:Nat} {zs:List Int} (h:Row w g q zs) (hs:Same lo hi w w') (h1:lo≤g) (h2:g<hi):Row w' g q zs:=h.of_block (hs g h1 h2)
theorem Row.setOf {w:World} {g q:Nat} {zs:List Int} {a:Addr} {v:Value} (ha:g≠a.block) (h:Row w g q zs):Row (w.setCell a v) g q zs:=h.of_block (Below.heap_setCell _ _ _ _ ha)
theorem Row.allocOf {w:World} {g q:Nat} {zs:List Int} {o:Obj} (h:Row w g q zs):Row (w.alloc o) g q zs:=h.of_block (Below.heap_alloc _ _ _ h.lt)
theorem row_drew (w:World) (g q:Nat) (zs:List Int):Row w.drew g q zs=Row w g q zs:=rfl
theorem row_set (w:World) (g q:Nat) (zs:List Int) (b o:Nat) (v:Value) (h:g≠b):Row (w.setCell ⟨b,o,none⟩ v) g q zs=Row w g q zs:=by
 unfold Row;rw [Below.heap_setCell w ⟨b,o,none⟩ v g h]
theorem below_drewE (B:Nat) (x w:World):Below B x w.drew=Below B x w:=propext ⟨fun h=>⟨h.os,h.tape,h.output,h.size,h.block⟩,fun h=>h.drew⟩
theorem below_set (B:Nat) (x w:World) (b o:Nat) (v:Value) (h:B≤b):Below B x (w.setCell ⟨b,o,none⟩ v)=Below B x w:=by
 refine propext ⟨fun k=>⟨k.os,k.tape,k.output,by have:=k.size;simpa using this,fun i hi=>?_⟩,fun k=>k.setCell h v⟩;rw [← k.block i hi,Below.heap_setCell w ⟨b,o,none⟩ v i (by show i≠b;omega)]
def marks (w:World):List (Addr × IntKind)→Int→World
 | [],_=>w
 | (a,kd) :: L,k=>marks (w.setCell a (.int kd (kd.wrap k))) L (k+1)
def LeafOk (w:World) (L:List (Addr × IntKind)):Prop:=∀ x∈L,(∃ n,w.cell? x.1=some (.int x.2 n))∧w.frozen? x.1=false
theorem LeafOk.set {w:World} {L:List (Addr × IntKind)} (h:LeafOk w L) {a:Addr} {kd:IntKind} {m:Int} (ha:w.cell? a=some (.int kd m)) (v:Int):LeafOk (w.setCell a (.int kd v)) L:=by
 intro x hx;obtain ⟨⟨n,hn⟩,hf⟩:=h x hx;refine ⟨?_,by simpa using hf⟩;by_cases e:a=x.1
 · subst e;rw [ha] at hn;simp at hn;exact ⟨v,by rw [World.cell?_setCell_same _ _ _ ha,hn.1]⟩
 exact ⟨n,by rw [World.cell?_setCell_other _ _ _ _ e];exact hn⟩
theorem LeafOk.marks {L:List (Addr × IntKind)}:∀ {w:World} {M:List (Addr × IntKind)},LeafOk w L→LeafOk w M→∀ k,LeafOk (marks w L k) M∧LeafOk (marks w L k) L:=by
 induction L with
 | nil=>intro w M h1 h2 k;exact ⟨h2,h1⟩
 | cons x L ih =>
  intro w M h1 h2 k;obtain ⟨a,kd⟩:=x;obtain ⟨⟨m,hm⟩,hf⟩:=h1 (a,kd) (by simp);have E:=h1.set hm (kd.wrap k);have F:=h2.set hm (kd.wrap k);refine ⟨(ih (fun x hx=>E x (by simp [hx])) F (k+1)).1,?_⟩;exact (ih (fun x hx=>E x (by simp [hx])) E (k+1)).1
def Held (w:World):List (Addr × IntKind)→Int→Prop
 | [],_=>True
 | (a,kd) :: L,k=>w.cell? a=some (.int kd (kd.wrap k))∧Held w L (k+1)
theorem Held.same {lo hi:Nat} {w w':World} (hs:Same lo hi w w') {L:List (Addr × IntKind)}:∀ {k:Int},(∀ x∈L,lo≤x.1.block∧x.1.block<hi)→Held w L k→Held w' L k:=by
 induction L with
 | nil=>intro k _ _;trivial
 | cons x L ih =>
  intro k hb h;obtain ⟨a,kd⟩:=x;have D:=hb (a,kd) (by simp);exact ⟨(hs.cell D.1 D.2).trans h.1,ih (fun x hx=>hb x (by simp [hx])) h.2⟩
theorem wrap64_id {k:Int} (h:0≤k∧k≤4611686018427387904):IntKind.i64.wrap k=k:=by
 simp [IntKind.wrap,IntKind.bits,IntKind.signed];omega
end

section
open Go.RowKit
theorem Tryz.info5:(Tryz.prog.info? 5).map (fun i=>(i.zero,i.size,i.bytes))=some (some (.int .u8 0),1,1):=by kernel_rfl
def part (zs:List Int) (k:Nat) (i:Nat):Value:=.int .u8 (if i<k then zs.getD i 0 else 0)
def leafB (b off n:Nat):List (Addr × IntKind):=(List.range n).map (fun j=>(⟨b,off+j,none⟩,.u8))
theorem leafB_length (b off n:Nat):(leafB b off n).length=n:=by simp [leafB]
end

section
open Go.RowKit
inductive CN where
 | mk (kind:Int) (name role:List Int) (kids:List CN)
def CN.kind:CN→Int | .mk k _ _ _=>k
def CN.name:CN→List Int | .mk _ n _ _=>n
def CN.role:CN→List Int | .mk _ _ r _=>r
def CN.kids:CN→List CN | .mk _ _ _ ks=>ks
def CN.zero:CN:=.mk 0 [] [] []
instance:Inhabited CN:=⟨CN.zero⟩
mutual
def CN.bulk:CN→Nat
 | .mk _ n r ks=>n.length+r.length+bulks ks
def bulks:List CN→Nat
 | []=>0
 | c :: cs=>1+c.bulk+bulks cs
end
theorem CN.bulk_eq (c:CN):c.bulk=c.name.length+c.role.length+bulks c.kids:=by
 cases c;rw [CN.bulk];rfl
theorem bulks_append (xs ys:List CN):bulks (xs++ys)=bulks xs+bulks ys:=by
 induction xs with
 | nil=>simp [bulks]
 | cons x xs ih=>simp only [List.cons_append,bulks,ih];omega
theorem take_succ_getD {α:Type} (l:List α) (d:α) (k:Nat) (h:k<l.length):l.take (k+1)=l.take k++[l.getD k d]:=by
 rw [List.take_succ_eq_append_getElem h];simp [List.getD,h]
theorem bulks_take_succ (cs:List CN) (k:Nat) (h:k<cs.length):bulks (cs.take (k+1))=bulks (cs.take k)+1+(cs.getD k CN.zero).bulk:=by
 rw [take_succ_getD cs CN.zero k h,bulks_append];simp only [bulks];omega
theorem bulks_take_le (cs:List CN) (k:Nat):bulks (cs.take k)≤bulks cs:=by
 have:=bulks_append (cs.take k) (cs.drop k);rw [List.take_append_drop] at this;omega
theorem length_le_bulks (cs:List CN):cs.length≤bulks cs:=by
 induction cs with
 | nil=>simp
 | cons c cs ih=>simp only [List.length_cons,bulks];omega
theorem getD_bulk_le (cs:List CN) (k:Nat) (h:k<cs.length):(cs.getD k CN.zero).bulk+1≤bulks cs:=by
 have:=bulks_take_succ cs k h;have:=bulks_take_le cs (k+1);omega
structure RdL (R:Value→CN→Prop) (lo hi:Nat) (w:World) (a:Option Addr) (n q:Nat) (cs:List CN):Prop where
 len:cs.length=n
 fits:n≤q∧q≤9223372036854775807
 cells:n=0∨∃ b off,a=some ⟨b,off,none⟩∧lo≤b∧b<hi∧∀ i,i<n→∃ v0 v1 v2 v3,
  w.cell? ⟨b,off+i*4,none⟩=some v0∧w.cell? ⟨b,off+i*4+1,none⟩=some v1∧w.cell? ⟨b,off+i*4+2,none⟩=some v2∧w.cell? ⟨b,off+i*4+3,none⟩=some v3 ∧
  R (.agg #[v0,v1,v2,v3]) (cs.getD i CN.zero)
def RdC (lo hi:Nat) (w:World):Nat→Value→CN→Prop
 | 0,_,_=>False
 | d+1,v,c=>∃ na nn nc ra rn rc ka kn kc,v=.agg #[.int .i64 c.kind,.slice na nn nc,.slice ra rn rc,.slice ka kn kc] ∧
     Rd lo hi w na nn nc c.name∧Rd lo hi w ra rn rc c.role∧RdL (RdC lo hi w d) lo hi w ka kn kc c.kids
theorem RdL.imp {R S:Value→CN→Prop} {lo hi lo' y:Nat} {w w':World} {a:Option Addr} {n q:Nat} {cs:List CN} (h:RdL R lo hi w a n q cs)
    (D:∀ v c,R v c→S v c) (hs:Same lo hi w w') (h1:lo'≤lo) (h2:hi≤y):RdL S lo' y w' a n q cs:=by
 obtain ⟨hl,hm,hc⟩:=h;refine ⟨hl,hm,?_⟩;rcases hc with h0 | ⟨b,off,e,q1,q2,hc⟩
 · exact .inl h0
 refine .inr ⟨b,off,e,by omega,by omega,fun i hi=>?_⟩;obtain ⟨v0,v1,v2,v3,c0,c1,c2,c3,hr⟩:=hc i hi;exact ⟨v0,v1,v2,v3,(hs.cell (p:=⟨b,_,none⟩) q1 q2).trans c0,(hs.cell (p:=⟨b,_,none⟩) q1 q2).trans c1,(hs.cell (p:=⟨b,_,none⟩) q1 q2).trans c2,(hs.cell (p:=⟨b,_,none⟩) q1 q2).trans c3,D _ _ hr⟩
theorem RdC.same {lo hi:Nat} {w w':World} (hs:Same lo hi w w'):∀ {d:Nat} {v:Value} {c:CN},RdC lo hi w d v c→RdC lo hi w' d v c:=by
 intro d
 induction d with
 | zero=>intro v c h;exact h
 | succ d ih =>
  intro v c h;obtain ⟨na,nn,nc,ra,rn,rc,ka,kn,kc,hv,h1,h2,h3⟩:=h;exact ⟨na,nn,nc,ra,rn,rc,ka,kn,kc,hv,h1.same hs,h2.same hs,h3.imp (fun v c h=>ih h) hs (Nat.le_refl _) (Nat.le_refl _)⟩
theorem RdC.mono {lo hi lo' y:Nat} {w:World} (q1:lo'≤lo) (q2:hi≤y):∀ {d:Nat} {v:Value} {c:CN},RdC lo hi w d v c→RdC lo' y w d v c:=by
 intro d
 induction d with
 | zero=>intro v c h;exact h
 | succ d ih =>
  intro v c h;obtain ⟨na,nn,nc,ra,rn,rc,ka,kn,kc,hv,h1,h2,h3⟩:=h;exact ⟨na,nn,nc,ra,rn,rc,ka,kn,kc,hv,h1.mono q1 q2,h2.mono q1 q2,h3.imp (fun v c h=>ih h) (Same.refl _ _ _) q1 q2⟩
theorem RdC.below {lo hi B:Nat} {w w':World} {d:Nat} {v:Value} {c:CN} (h:RdC lo hi w d v c) (hb:Below B w w') (hB:hi≤B):RdC lo hi w' d v c:=h.same (Same.of_below hb hB)
theorem RdL.same {lo hi d:Nat} {w w':World} {a:Option Addr} {n q:Nat} {cs:List CN} (h:RdL (RdC lo hi w d) lo hi w a n q cs) (hs:Same lo hi w w'):RdL (RdC lo hi w' d) lo hi w' a n q cs :=
 h.imp (fun _ _ h=>h.same hs) hs (Nat.le_refl _) (Nat.le_refl _)
theorem RdL.below {lo hi d B:Nat} {w w':World} {a:Option Addr} {n q:Nat} {cs:List CN} (h:RdL (RdC lo hi w d) lo hi w a n q cs) (hb:Below B w w') (hB:hi≤B):RdL (RdC lo hi w' d) lo hi w' a n q cs:=h.same (Same.of_below hb hB)
def Free (lo hi:Nat) (w:World):Prop:=∀ b,lo≤b→b<hi→∀ o,w.frozen? ⟨b,o,none⟩=false
theorem Free.same {lo hi:Nat} {w w':World} (h:Free lo hi w) (hs:Same lo hi w w'):Free lo hi w':=by
 intro b h1 h2 o;exact (World.frozen?_of_block (w:=w) (hs b h1 h2)).trans (h b h1 h2 o)
theorem Free.mono {lo hi lo' y:Nat} {w:World} (h:Free lo hi w) (q1:lo≤lo') (q2:y≤hi):Free lo' y w:=fun b h1 h2 o=>h b (by omega) (by omega) o
theorem Free.join {lo A hi:Nat} {w:World} (h:Free lo A w) (k:Free A hi w):Free lo hi w:=by
 intro b h1 h2 o;by_cases e:b<A
 · exact h b h1 e o
 exact k b (by omega) h2 o
theorem Free.set {lo hi:Nat} {w:World} (h:Free lo hi w) (a:Addr) (v:Value):Free lo hi (w.setCell a v):=by
 intro b h1 h2 o;have:=h b h1 h2 o;simpa using this
theorem Free.one (w:World) (c:Array Value) (t:TypeId):Free w.heap.size (w.heap.size+1) (w.alloc (.cells c t)):=by
 intro b h1 h2 o;have e:b=w.heap.size:=by omega
 subst e
 have hb:(w.alloc (.cells c t)).heap[w.heap.size]?=some (.cells c t):=by
  show (w.heap.push _)[w.heap.size]?=_
  simp
 unfold World.frozen?;simp only [];rw [hb];simp
theorem Free.alloc {lo:Nat} {w:World} (h:Free lo w.heap.size w) (c:Array Value) (t:TypeId):Free lo (w.heap.size+1) (w.alloc (.cells c t)) :=
 (h.same (Same.of_below ((Below.refl w.heap.size w).alloc (Nat.le_refl _) _) (Nat.le_refl _))).join (Free.one w c t)
theorem Free.nil (w:World) (lo:Nat):Free lo lo w:=fun b h1 h2=>absurd h2 (by omega)
theorem Free.next {lo:Nat} {w w':World} (h:Free lo w.heap.size w) (hb:Below w.heap.size w w') (k:Free w.heap.size w'.heap.size w'):Free lo w'.heap.size w' :=
 (h.same (Same.of_below hb (Nat.le_refl _))).join k
end

section
open Go.RowKit
end

section
open Go.RowKit
def Blk (w:World) (g:Nat) (t:TypeId) (x0 x1 x2 x3:Value):Prop:=w.heap[g]?=some (.cells #[x0,x1,x2,x3] t (0,0))
theorem Blk.cells {w:World} {g:Nat} {t:TypeId} {x0 x1 x2 x3:Value} (h:Blk w g t x0 x1 x2 x3) :
    w.cell? ⟨g,0,none⟩=some x0∧w.cell? ⟨g,1,none⟩=some x1∧w.cell? ⟨g,2,none⟩=some x2∧w.cell? ⟨g,3,none⟩=some x3∧∀ o,w.frozen? ⟨g,o,none⟩=false:=by
 unfold Blk at h;refine ⟨by simp [World.cell?,h],by simp [World.cell?,h],by simp [World.cell?,h],by simp [World.cell?,h],fun o=>by simp [World.frozen?,h]⟩
theorem Blk.lt {w:World} {g:Nat} {t:TypeId} {x0 x1 x2 x3:Value} (h:Blk w g t x0 x1 x2 x3):g<w.heap.size:=(Array.getElem?_eq_some_iff.1 h).1
theorem Blk.of_block {w w':World} {g:Nat} {t:TypeId} {x0 x1 x2 x3:Value} (h:Blk w g t x0 x1 x2 x3) (e:w'.heap[g]?=w.heap[g]?):Blk w' g t x0 x1 x2 x3:=e.trans h
theorem Blk.below {w w':World} {B g:Nat} {t:TypeId} {x0 x1 x2 x3:Value} (h:Blk w g t x0 x1 x2 x3) (hb:Below B w w') (hg:g<B):Blk w' g t x0 x1 x2 x3:=h.of_block (hb.block g hg)
theorem Blk.alloc {w:World} {g:Nat} {t:TypeId} {x0 x1 x2 x3:Value} (h:Blk w g t x0 x1 x2 x3) (o:Obj):Blk (w.alloc o) g t x0 x1 x2 x3:=h.of_block (Below.heap_alloc _ _ _ h.lt)
theorem Blk.set {w:World} {g:Nat} {t:TypeId} {x0 x1 x2 x3:Value} (h:Blk w g t x0 x1 x2 x3) (j:Nat) (v:Value):(w.setCell ⟨g,j,none⟩ v).heap[g]?=some (.cells (#[x0,x1,x2,x3].setIfInBounds j v) t (0,0)):=by
 unfold Blk at h;simp [World.setCell,Array.getElem?_modify,h]
theorem Blk.set1 {w:World} {g:Nat} {t:TypeId} {x0 x1 x2 x3:Value} (h:Blk w g t x0 x1 x2 x3) (v:Value):Blk (w.setCell ⟨g,1,none⟩ v) g t x0 v x2 x3:=h.set 1 v
theorem Blk.set2 {w:World} {g:Nat} {t:TypeId} {x0 x1 x2 x3:Value} (h:Blk w g t x0 x1 x2 x3) (v:Value):Blk (w.setCell ⟨g,2,none⟩ v) g t x0 x1 v x3:=h.set 2 v
theorem Blk.set3 {w:World} {g:Nat} {t:TypeId} {x0 x1 x2 x3:Value} (h:Blk w g t x0 x1 x2 x3) (v:Value):Blk (w.setCell ⟨g,3,none⟩ v) g t x0 x1 x2 v:=h.set 3 v
theorem RdC.shape {lo hi:Nat} {w:World} {d:Nat} {v:Value} {c:CN} (h:RdC lo hi w d v c):∃ k na nn nc ra rn rc ka kn kc,v=.agg #[.int .i64 k,.slice na nn nc,.slice ra rn rc,.slice ka kn kc]:=by
 cases d with
 | zero=>exact h.elim
 | succ d =>
  obtain ⟨na,nn,nc,ra,rn,rc,ka,kn,kc,hv,_⟩:=h;exact ⟨_,na,nn,nc,ra,rn,rc,ka,kn,kc,hv⟩
end

section
open Go.RowKit
theorem conv_any {a:Option Addr} {n q:Nat} {zs:List Int} {w:World} {lo hi:Nat} (h:Rd lo hi w a n q zs):(convert 22 9 (.slice a n q)).run Tryz.prog w=.ok (.string (strOfNums zs)) w:=by
 obtain ⟨hl,_,_,hc⟩:=h;rcases hc with h0 | ⟨b,off,rfl,y,hb,hc⟩
 · subst h0;have hz:zs=[]:=List.eq_nil_of_length_eq_zero hl;subst hz;rw [run_convert_bytes_string w 22 9 5 _ 0 q Tryz.underlying22 Tryz.underlying5 Tryz.underlying9];cases a <;> simp [Conv.bytesToString,loadCells]
   all_goals rfl
 exact run_convert_bytes_arg w 22 5 Tryz.underlying22 Tryz.underlying5 b off n q zs hl hc 9 Tryz.underlying9
end

section
open Go.RowKit
theorem wrap_id (k:Nat) (h:k<9223372036854775808):IntKind.i64.wrap (k:Int)=(k:Int):=by
 simp [IntKind.wrap,IntKind.bits,IntKind.signed];omega
end

section
open Go.RowKit
def BoxCur (W:World) (B:Nat) (v:Value) (i h:Int):Prop:=W.heap[B]?=some (.cells #[v,.int .i64 i,.int .i64 h] 105 (0,0))
theorem BoxCur.new (W:World) (v:Value) (i h:Int):BoxCur (W.alloc (.cells #[v,.int .i64 i,.int .i64 h] 105)) W.heap.size v i h:=World.alloc_heap_new W _
theorem BoxCur.lt {W:World} {B:Nat} {v:Value} {i h:Int} (q:BoxCur W B v i h):B<W.heap.size:=(Array.getElem?_eq_some_iff.1 q).1
theorem BoxCur.cells {W:World} {B:Nat} {v:Value} {i h:Int} (q:BoxCur W B v i h):W.cell? ⟨B,0,none⟩=some v∧W.cell? ⟨B,1,none⟩=some (.int .i64 i)∧W.cell? ⟨B,2,none⟩=some (.int .i64 h)∧∀ o,W.frozen? ⟨B,o,none⟩=false:=by
 unfold BoxCur at q;refine ⟨?_,?_,?_,fun o=>?_⟩ <;> simp [World.cell?,World.frozen?,q]
theorem BoxCur.setH {W:World} {B:Nat} {v:Value} {i h:Int} (q:BoxCur W B v i h) (h':Int):BoxCur (W.setCell ⟨B,2,none⟩ (.int .i64 h')) B v i h':=heap_setCell_same W B 2 _ _ _ q
theorem BoxCur.setI {W:World} {B:Nat} {v:Value} {i h:Int} (q:BoxCur W B v i h) (i':Int):BoxCur (W.setCell ⟨B,1,none⟩ (.int .i64 i')) B v i' h:=heap_setCell_same W B 1 _ _ _ q
structure Only (B:Nat) (w w':World):Prop where
 below:Below B w w'
 other:∀ b,b<w.heap.size→b≠B→w'.heap[b]?=w.heap[b]?
theorem Only.refl (B:Nat) (w:World):Only B w w:=⟨Below.refl _ _,fun _ _ _=>rfl⟩
theorem Only.trans {B:Nat} {a b c:World} (h:Only B a b) (k:Only B b c):Only B a c:=⟨h.below.trans k.below,fun x h1 h2=>(k.other x (Nat.lt_of_lt_of_le h1 h.below.size) h2).trans (h.other x h1 h2)⟩
theorem Only.drew {B:Nat} {w w':World} (h:Only B w w'):Only B w w'.drew:=⟨h.below.drew,h.other⟩
theorem Only.set {B o:Nat} {w w':World} (h:Only B w w') (v:Value):Only B w (w'.setCell ⟨B,o,none⟩ v) :=
 ⟨h.below.setCell (Nat.le_refl _) v,fun b h1 h2=>(Below.heap_setCell w' ⟨B,o,none⟩ v b h2).trans (h.other b h1 h2)⟩
structure Cur (w:World) (B:Nat) (a:Option Addr) (n A:Nat) (zs:List Int) (hi:Nat):Prop where
 box:∃ (i:Nat) (h:Int),i≤n∧BoxCur w B (.slice a n A) i h
 rd:Rd 0 hi w a n A zs
 le:hi≤B
theorem Cur.only {w w':World} {B:Nat} {a:Option Addr} {n A:Nat} {zs:List Int} {hi:Nat} (c:Cur w B a n A zs hi) (i:Nat) (h:Int) (H:i≤n) (hb:BoxCur w' B (.slice a n A) i h) (o:Only B w w'):Cur w' B a n A zs hi :=
 ⟨⟨i,h,H,hb⟩,c.rd.same (fun b _ h2=>o.other b (Nat.lt_of_lt_of_le h2 (by obtain ⟨_,_,_,q⟩:=c.box;have:=q.lt;have:=c.le;omega)) (by have:=c.le;omega)),c.le⟩
theorem and_255 (y:Int):0≤bits .and .i64 y 255∧bits .and .i64 y 255≤255:=by
 have e:((BitVec.ofInt 64 y) &&& (BitVec.ofInt 64 255)).toNat≤255:=by
  rw [BitVec.toNat_and];exact Nat.le_trans Nat.and_le_right (by decide)
 have e2:bits .and .i64 y 255=((((BitVec.ofInt 64 y) &&& (BitVec.ofInt 64 255)).toNat:Nat):Int):=by
  show IntKind.i64.wrap ((((BitVec.ofInt 64 y) &&& (BitVec.ofInt 64 255)).toNat:Nat):Int)=_
  rw [wrap_id _ (by omega)]
 rw [e2];omega
set_option maxRecDepth 100000 in
set_option maxHeartbeats 4000000 in
theorem l1Byte_any {w:World} {B:Nat} {a:Option Addr} {n A:Nat} {zs:List Int} {hi:Nat} (c:Cur w B a n A zs hi) :
    Calls Tryz.prog 105 #[.pointer (some ⟨B,0,none⟩)] w fun e w'=>∃ x:Int,e=.returned (.int .i64 x)∧(0≤x∧x≤255)∧Cur w' B a n A zs hi∧Only B w w':=by
 obtain ⟨i,h,H,I⟩:=c.box;have HC:Hid (Cur w B a n A zs hi):=c;have T:=c.rd.fits;have ac:=I.lt;obtain ⟨z0,z1,z2,zf⟩:=I.cells;have f2:=zf 2;have a6:Hid (BoxCur w B (.slice a n A) i h):=I;clear c I zf;obtain ⟨h1,Z⟩:∃ h1,h1=wrap64 (wrap64 (h*6364136223846793005)+1442695040888963407):=⟨_,rfl⟩;obtain ⟨W1,J⟩:∃ W1,W1=w.setCell ⟨B,2,none⟩ (.int .i64 h1):=⟨_,rfl⟩;have a5:Hid (W1=w.setCell ⟨B,2,none⟩ (.int .i64 (wrap64 (wrap64 (h*6364136223846793005)+1442695040888963407)))):=by unfold Hid;rw [J,Z]
 have D:BoxCur W1 B (.slice a n A) i h1:=by rw [J];exact a6.out.setH h1
 have G:Hid (BoxCur W1 B (.slice a n A) i h1):=D;have E:Hid (Only B w W1):=by unfold Hid;rw [J];exact (Only.refl B w).set _
 have a0:Hid (Rd 0 hi W1 a n A zs):=(HC.out.only i h1 H D E.out).rd;clear Z J;go_enter Tryz.func105, Tryz.ntmps105;go_upto_region 2 with fail;rw [← a5.out];clear z0 z1 z2 f2;obtain ⟨z0,z1,z2,zf⟩:=D.cells;have f1:=zf 1;clear zf D;go_cut [3] (fun v W=>∃ x:Int,v=.int .i64 x∧(0≤x∧x≤255)∧W=W1.drew)
 case first =>
  first | go_region | fail
  all_goals
   go_wp2_with fail;go_meet
   case rel=>exact ⟨_,rfl,and_255 _,rfl⟩
 case rest =>
  obtain ⟨x,hv,hx,hw⟩:=hcut;subst hv;rw [hw];clear hw;by_cases hlt:i<n
  · have a1:(i:Int)<(n:Int):=by omega
    obtain ⟨bb,off,ea,N⟩:∃ bb off,a=some ⟨bb,off,none⟩∧W1.cell? ⟨bb,off+i,none⟩=some (.int .u8 (zs.getD i 0)):=by
     rcases a0.out.cells with h0 | ⟨bb,off,e,_,_,hc⟩
     · omega
     exact ⟨bb,off,e,hc i hlt⟩
    subst ea;have O:=a0.out.byte i;obtain ⟨y,hy⟩:∃ y,y=zs.getD i 0:=⟨_,rfl⟩;rw [← hy] at N O;clear hy;go_wp2_with fail
    first | go_region | fail
    all_goals
     go_wp2_with fail
     first | go_region | fail
     all_goals
      go_wp2_with fail;go_ret;have a4:BoxCur (W1.drew.drew.drew.setCell ⟨B,1,none⟩ (.int .i64 ((i:Int)+1))) B (.slice (some ⟨bb,off,none⟩) n A) ((i+1:Nat):Int) h1:=BoxCur.setI (W:=W1.drew.drew.drew) G.out _;have X:Only B w (W1.drew.drew.drew.setCell ⟨B,1,none⟩ (.int .i64 ((i:Int)+1))):=E.out.drew.drew.drew.set _;exact ⟨_,rfl,and_255 _,HC.out.only (i+1) h1 (by omega) a4 X,X⟩
  have a1:decide ((i:Int)<(n:Int))=false:=by simp;omega
  go_wp2_with fail
  first | go_region | fail
  all_goals
   go_wp2_with fail;go_ret;exact ⟨x,rfl,hx,HC.out.only i h1 H G.out E.out.drew.drew,E.out.drew.drew⟩
set_option maxRecDepth 100000 in
theorem l1Below_any {w:World} {B:Nat} {a:Option Addr} {n A:Nat} {zs:List Int} {hi:Nat} (c:Cur w B a n A zs hi) (m:Int) (hm:1≤m∧m≤256) :
    Calls Tryz.prog 46 #[.pointer (some ⟨B,0,none⟩),.int .i64 m] w fun e w'=>∃ x:Int,e=.returned (.int .i64 x)∧(0≤x∧x<m)∧Cur w' B a n A zs hi∧Only B w w':=by
 obtain ⟨aa,a9⟩:=hm;have HC:Hid (Cur w B a n A zs hi):=c;clear c;go_enter Tryz.func46, Tryz.ntmps46;go_wp2_with fail;refine (l1Byte_any HC.out).mono ?_;rintro e w1 ⟨x,rfl,hx,hc,ho⟩;have R:Hid (Cur w1 B a n A zs hi):=hc;have E:Hid (Only B w w1):=ho;obtain ⟨a8,a7⟩:=hx;clear hc ho;go_wp2_with fail;go_ret;exact ⟨x % m,rfl,⟨Int.emod_nonneg _ (by omega),Int.emod_lt_of_pos _ (by omega)⟩,R.out,E.out⟩
theorem l1Once_any {w:World} {B:Nat} {a:Option Addr} {n A:Nat} {zs:List Int} {hi:Nat} (c:Cur w B a n A zs hi) (m:Int) (hm:1≤m∧m≤256) :
    Calls Tryz.prog 74 #[.pointer (some ⟨B,0,none⟩),.int .i64 m] w fun e w'=>∃ x:Bool,e=.returned (.bool x)∧Cur w' B a n A zs hi∧Only B w w':=by
 have HC:Hid (Cur w B a n A zs hi):=c;clear c;go_enter Tryz.func74, Tryz.ntmps74;go_wp2_with fail;refine (l1Below_any HC.out m hm).mono ?_;rintro e w1 ⟨x,rfl,hx,hc,ho⟩;have R:Hid (Cur w1 B a n A zs hi):=hc;have E:Hid (Only B w w1):=ho;clear hc ho hx;go_wp2_with fail;go_ret;exact ⟨_,rfl,R.out,E.out⟩
set_option maxRecDepth 100000 in
set_option maxHeartbeats 1000000 in
theorem l1New_any {a:Option Addr} {n A:Nat} {zs:List Int} {w:World} {hi:Nat} (h:Rd 0 hi w a n A zs) (Y:hi≤w.heap.size) :
    Calls Tryz.prog 29 #[.slice a n A] w fun e w'=>e=.returned (.pointer (some ⟨w.heap.size,0,none⟩))∧Cur w' w.heap.size a n A zs hi∧Below w.heap.size w w':=by
 have HR:Hid (Rd 0 hi w a n A zs):=h;have T:=h.fits;have U:∀ (hv:Int) (V:World),(Instr.build 105 #[(0,.slice a n A),(2,.int .i64 hv)]).run Tryz.prog V=.ok (.agg #[.slice a n A,.int .i64 0,.int .i64 hv]) V:=fun hv V=>run_build V _ _ _ (by kernel_rfl)
 have F:Hid (∀ hv:Int,Cur (w.alloc (.cells #[.slice a n A,.int .i64 0,.int .i64 hv] 105)) w.heap.size a n A zs hi∧Below w.heap.size w (w.alloc (.cells #[.slice a n A,.int .i64 0,.int .i64 hv] 105))):=fun hv=>by
  have hb:Below w.heap.size w (w.alloc (.cells #[.slice a n A,.int .i64 0,.int .i64 hv] 105)):=(Below.refl _ _).alloc (Nat.le_refl _) _;exact ⟨⟨⟨0,hv,Nat.zero_le _,BoxCur.new w _ _ _⟩,h.below hb Y,Y⟩,hb⟩
 clear h;go_enter Tryz.func29, Tryz.ntmps29;go_wp2_with fail;go_loop [3,4] (fun q i=>∃ (k:Nat) (hv:Int),k≤n∧k≤4000∧i=.int .i64 k∧q=.int .i64 hv) (fun _ i=>4000 - (intOf i).toNat)
 case atStart=>exact ⟨0,_,Nat.zero_le _,by omega,rfl,rfl⟩
 case round =>
  obtain ⟨k,hv,hk,ab,rfl,rfl⟩:=hrel;by_cases hlt:k<n
  · by_cases hl4:k<4000
    · obtain ⟨bb,off,ea,N⟩:∃ bb off,a=some ⟨bb,off,none⟩∧w.cell? ⟨bb,off+k,none⟩=some (.int .u8 (zs.getD k 0)):=by
       rcases HR.out.cells with h0 | ⟨bb,off,e,_,_,hc⟩
       · omega
       exact ⟨bb,off,e,hc k hlt⟩
      subst ea;have O:=HR.out.byte k;obtain ⟨y,hy⟩:∃ y,y=zs.getD k 0:=⟨_,rfl⟩;rw [← hy] at N O;have a2:(k:Int)<(n:Int):=by omega
      clear hy;go_wp2_with fail;go_round
      case rel=>exact ⟨k+1,_,by omega,by omega,by go_num,rfl⟩
      case measure=>simp [intOf];omega
    have a3:k=4000:=by omega
    have a2:(k:Int)<(n:Int):=by omega
    have hd:decide ((k:Int)<4000)=false:=by simp;omega
    clear a3;go_wp2_with fail;go_ret;exact ⟨rfl,F.out _⟩
  have hd:decide ((k:Int)<(n:Int))=false:=by simp;omega
  go_wp2_with fail
  all_goals
   go_ret;exact ⟨rfl,F.out _⟩
end

section
open Go.RowKit
set_option maxRecDepth 100000 in
theorem pickN_any {w:World} {B:Nat} {a:Option Addr} {n q:Nat} {zs:List Int} {hi:Nat} (c:Cur w B a n q zs hi) {g m:Nat} (hg:g≠B) (hm:1≤m∧m≤100) (P:Int→Prop) (hc:∀ i,i<m→∃ z,w.cell? ⟨g,i,none⟩=some (.int .i64 z)∧P z) :
    Calls Tryz.prog 75 #[.pointer (some ⟨B,0,none⟩),.slice (some ⟨g,0,none⟩) m m] w fun e w'=>∃ x:Int,e=.returned (.int .i64 x)∧P x∧Cur w' B a n q zs hi∧Only B w w':=by
 have HC:Hid (Cur w B a n q zs hi):=c;have E:Hid (∀ i,i<m→∃ z,w.cell? ⟨g,i,none⟩=some (.int .i64 z)∧P z):=hc
 have A:g<w.heap.size:=by
  obtain ⟨z,h,_⟩:=hc 0 (by omega);exact World.block_lt_of_cell? w _ h
 clear c hc;go_enter Tryz.func75, Tryz.ntmps75;go_wp2_with fail;refine (l1Below_any HC.out (m:Int) ⟨by omega,by omega⟩).mono ?_;rintro e w1 ⟨x,rfl,⟨y,G⟩,hc,ho⟩;obtain ⟨i,hi⟩:∃ i:Nat,x=(i:Int):=⟨x.toNat,by omega⟩;subst hi;obtain ⟨z,hz,hp⟩:=E.out i (by omega);have e0:w1.cell? ⟨g,i,none⟩=some (.int .i64 z):=(World.cell?_of_block (w:=w) (ho.other g A hg)).trans hz;have F:Hid (Cur w1 B a n q zs hi):=hc;have D:Hid (Only B w w1):=ho;have HP:Hid (P z):=hp;clear hc ho hz hp y;go_wp2_with fail;go_ret;exact ⟨_,rfl,HP.out,F.out,D.out⟩
end

section
open Go.RowKit
end

end Go.Proofs.YtnmljalcndfjmaaGreat
