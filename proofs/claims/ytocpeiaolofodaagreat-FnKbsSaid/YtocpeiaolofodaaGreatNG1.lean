/- Several texts in one: Mem, ConMem, Bytes, Conv, ConTo, ClMath, LawBox, Draw1, SzB, Draw4. -/
import Derived.WalkKit
import Derived.WalkSpells
import Derived.WalkLawsBesides
import Derived.Deep.OwnRows
import Derived.Test.YtocpeiaolofodaaGreatRows
import Derived.Deep.QuietTactic
import Derived.BigQuiet
import Derived.Laws.BytesArg
import Derived.Lib.BitFns
import Derived.RangeFuncRecord
import Derived.Deep.DeepCutAuto
import Derived.Deep.RegionWith
namespace Go.Proofs.YtocpeiaolofodaaGreat

section
open Go.RowKit
theorem rb {a b:Bool} (h:a=b):Ending.returned (.bool a)=.returned (.bool b):=by rw [h]
theorem ri {a b:Int} (h:a=b):Ending.returned (.int .i64 a)=.returned (.int .i64 b):=by rw [h]
def Same (lo hi:Nat) (w w':World):Prop:=∀ b,lo≤b→b<hi→w'.heap[b]?=w.heap[b]?
theorem Same.refl (lo hi:Nat) (w:World):Same lo hi w w:=fun _ _ _=>rfl
theorem Same.trans {lo hi:Nat} {a b c:World} (h:Same lo hi a b) (k:Same lo hi b c):Same lo hi a c:=fun x h1 h2=>(k x h1 h2).trans (h x h1 h2)
theorem Same.mono {lo hi lo' A:Nat} {w w':World} (h:Same lo hi w w') (h1:lo≤lo') (h2:A≤hi):Same lo' A w w':=fun b a c=>h b (by omega) (by omega)
theorem Same.of_below {lo hi B:Nat} {w w':World} (h:Below B w w') (hB:hi≤B):Same lo hi w w':=fun b _ h2=>h.block b (by omega)
theorem Same.drew {lo hi:Nat} {w w':World} (h:Same lo hi w w') (n:Nat):Same lo hi w (w'.drewN n):=h
theorem Same.cell {lo hi:Nat} {w w':World} (h:Same lo hi w w') {p:Addr} (h1:lo≤p.block) (h2:p.block<hi):w'.cell? p=w.cell? p:=World.cell?_of_block (w:=w) (h p.block h1 h2)
structure Rd (lo hi:Nat) (w:World) (a:Option Addr) (n j:Nat) (zs:List Int):Prop where
 len:zs.length=n
 fits:n≤j∧j≤9223372036854775807
 byte:∀ i,0≤zs.getD i 0∧zs.getD i 0≤255
 cells:n=0∨∃ b off,a=some ⟨b,off,none⟩∧lo≤b∧b<hi∧∀ i,i<n→w.cell? ⟨b,off+i,none⟩=some (.int .u8 (zs.getD i 0))
theorem Rd.tail {lo hi:Nat} {w:World} {b off n j:Nat} {zs:List Int} (h:Rd lo hi w (some ⟨b,off,none⟩) n j zs) (hn:1≤n):Rd lo hi w (some ⟨b,off+1,none⟩) (n - 1) (j - 1) (zs.drop 1):=by
 obtain ⟨hl,⟨hn,hm⟩,z,hc⟩:=h;refine ⟨by simp [hl],by omega,fun i=>?_,?_⟩
 · have:=z (i+1);simpa [List.getD] using this
 rcases hc with h0 | ⟨b,off,e,hb,D,hc⟩
 · exact .inl (by omega)
 simp at e;obtain ⟨rfl,rfl⟩:=e;refine .inr ⟨_,_,rfl,hb,D,fun i hi=>?_⟩;have:=hc (i+1) (by omega);rw [Nat.add_right_comm,Nat.add_assoc];simpa [List.getD] using this
theorem Rd.none_of {lo hi:Nat} {w:World} {a:Option Addr} {j:Nat} (h:j≤9223372036854775807):Rd lo hi w a 0 j []:=⟨rfl,⟨Nat.zero_le _,h⟩,by simp,.inl rfl⟩
theorem Rd.same {lo hi:Nat} {w w':World} {a:Option Addr} {n j:Nat} {zs:List Int} (h:Rd lo hi w a n j zs) (hs:Same lo hi w w'):Rd lo hi w' a n j zs:=by
 obtain ⟨hl,hm,z,hc⟩:=h;refine ⟨hl,hm,z,?_⟩;rcases hc with h0 | ⟨b,off,e,h1,h2,hc⟩
 · exact .inl h0
 exact .inr ⟨b,off,e,h1,h2,fun i hi=>(hs.cell (p:=⟨b,off+i,none⟩) h1 h2).trans (hc i hi)⟩
theorem Rd.mono {lo hi lo' A:Nat} {w:World} {a:Option Addr} {n j:Nat} {zs:List Int} (h:Rd lo hi w a n j zs) (h1:lo'≤lo) (h2:hi≤A):Rd lo' A w a n j zs:=by
 obtain ⟨hl,hm,z,hc⟩:=h;refine ⟨hl,hm,z,?_⟩;rcases hc with h0 | ⟨b,off,e,h3,h4,hc⟩
 · exact .inl h0
 exact .inr ⟨b,off,e,by omega,by omega,hc⟩
theorem Rd.below {lo hi:Nat} {w w':World} {B:Nat} {a:Option Addr} {n j:Nat} {zs:List Int} (h:Rd lo hi w a n j zs) (hb:Below B w w') (hB:hi≤B):Rd lo hi w' a n j zs:=h.same (Same.of_below hb hB)
def Row (w:World) (g j:Nat) (zs:List Int):Prop:=∃ c:Array Value,w.heap[g]?=some (.cells c 5 (0,0))∧c.size=j∧zs.length≤j∧∀ i,i<zs.length→c[i]?=some (.int .u8 (zs.getD i 0))
theorem Row.cell {w:World} {g j:Nat} {zs:List Int} (h:Row w g j zs) {i:Nat} (hi:i<zs.length):w.cell? ⟨g,i,none⟩=some (.int .u8 (zs.getD i 0)):=by
 obtain ⟨c,hb,_,_,hc⟩:=h;simp [World.cell?,hb,hc i hi]
theorem Row.frozen {w:World} {g j:Nat} {zs:List Int} (h:Row w g j zs) (i:Nat):w.frozen? ⟨g,i,none⟩=false:=by
 obtain ⟨c,hb,_⟩:=h;simp [World.frozen?,hb]
theorem Row.lt {w:World} {g j:Nat} {zs:List Int} (h:Row w g j zs):g<w.heap.size:=by
 obtain ⟨c,hb,_⟩:=h;exact (Array.getElem?_eq_some_iff.1 hb).1
theorem Row.rd {lo hi:Nat} {w:World} {g n j:Nat} {zs:List Int} (h:Row w g j zs) (hl:zs.length=n) (z:∀ i,0≤zs.getD i 0∧zs.getD i 0≤255) (hn:j≤9223372036854775807) (h1:lo≤g) (h2:g<hi):Rd lo hi w (some ⟨g,0,none⟩) n j zs:=by
 have G:zs.length≤j:=by obtain ⟨c,_,_,h,_⟩:=h;exact h
 refine ⟨hl,⟨by omega,hn⟩,z,.inr ⟨g,0,rfl,h1,h2,fun i hi=>?_⟩⟩;rw [Nat.zero_add];exact Row.cell h (by omega)
theorem Row.of_block {w w':World} {g j:Nat} {zs:List Int} (h:Row w g j zs) (e:w'.heap[g]?=w.heap[g]?):Row w' g j zs:=by
 obtain ⟨c,hb,r⟩:=h;exact ⟨c,e.trans hb,r⟩
theorem Row.below {w w':World} {B g j:Nat} {zs:List Int} (h:Row w g j zs) (hb:Below B w w') (hg:g<B):Row w' g j zs:=h.of_block (hb.block g hg)
theorem Row.same {lo hi:Nat} {w w':World} {g j:Nat} {zs:List Int} (h:Row w g j zs) (hs:Same lo hi w w') (h1:lo≤g) (h2:g<hi):Row w' g j zs:=h.of_block (hs g h1 h2)
theorem Row.setOf {w:World} {g j:Nat} {zs:List Int} {a:Addr} {v:Value} (ha:g≠a.block) (h:Row w g j zs):Row (w.setCell a v) g j zs:=h.of_block (Below.heap_setCell _ _ _ _ ha)
theorem Row.allocOf {w:World} {g j:Nat} {zs:List Int} {o:Obj} (h:Row w g j zs):Row (w.alloc o) g j zs:=h.of_block (Below.heap_alloc _ _ _ h.lt)
def marks (w:World):List (Addr × IntKind)→Int→World
 | [],_=>w
 | (a,kd) :: L,k=>marks (w.setCell a (.int kd (kd.wrap k))) L (k+1)
def LeafOk (w:World) (L:List (Addr × IntKind)):Prop:=∀ x∈L,(∃ n,w.cell? x.1=some (.int x.2 n))∧w.frozen? x.1=false
theorem LeafOk.set {w:World} {L:List (Addr × IntKind)} (h:LeafOk w L) {a:Addr} {kd:IntKind} {m:Int} (ha:w.cell? a=some (.int kd m)) (v:Int):LeafOk (w.setCell a (.int kd v)) L:=by
 intro x hx;obtain ⟨⟨n,hn⟩,hf⟩:=h x hx;refine ⟨?_,by simpa using hf⟩;by_cases e:a=x.1
 · subst e;rw [ha] at hn;simp at hn;exact ⟨v,by rw [World.cell?_setCell_same _ _ _ ha,hn.1]⟩
 exact ⟨n,by rw [World.cell?_setCell_other _ _ _ _ e];exact hn⟩
theorem LeafOk.marks {L:List (Addr × IntKind)}:∀ {w:World} {M:List (Addr × IntKind)},LeafOk w L→LeafOk w M→∀ k,LeafOk (marks w L k) M∧LeafOk (marks w L k) L:=by
 induction L with
 | nil=>intro w M h1 h2 k;exact ⟨h2,h1⟩
 | cons x L ih =>
  intro w M h1 h2 k;obtain ⟨a,kd⟩:=x;obtain ⟨⟨m,hm⟩,hf⟩:=h1 (a,kd) (by simp);have E:=h1.set hm (kd.wrap k);have F:=h2.set hm (kd.wrap k);refine ⟨(ih (fun x hx=>E x (by simp [hx])) F (k+1)).1,?_⟩;exact (ih (fun x hx=>E x (by simp [hx])) E (k+1)).1
def Held (w:World):List (Addr × IntKind)→Int→Prop
 | [],_=>True
 | (a,kd) :: L,k=>w.cell? a=some (.int kd (kd.wrap k))∧Held w L (k+1)
theorem Held.same {lo hi:Nat} {w w':World} (hs:Same lo hi w w') {L:List (Addr × IntKind)}:∀ {k:Int},(∀ x∈L,lo≤x.1.block∧x.1.block<hi)→Held w L k→Held w' L k:=by
 induction L with
 | nil=>intro k _ _;trivial
 | cons x L ih =>
  intro k hb h;obtain ⟨a,kd⟩:=x;have D:=hb (a,kd) (by simp);exact ⟨(hs.cell D.1 D.2).trans h.1,ih (fun x hx=>hb x (by simp [hx])) h.2⟩
theorem wrap64_id {k:Int} (h:0≤k∧k≤4611686018427387904):IntKind.i64.wrap k=k:=by
 simp [IntKind.wrap,IntKind.bits,IntKind.signed];omega
end

section
open Go.RowKit
inductive CN where
 | mk (kind:Int) (name role:List Int) (kids:List CN)
def CN.kind:CN→Int | .mk k _ _ _=>k
def CN.name:CN→List Int | .mk _ n _ _=>n
def CN.role:CN→List Int | .mk _ _ r _=>r
def CN.kids:CN→List CN | .mk _ _ _ ks=>ks
def CN.zero:CN:=.mk 0 [] [] []
instance:Inhabited CN:=⟨CN.zero⟩
mutual
def CN.bulk:CN→Nat
 | .mk _ n r ks=>n.length+r.length+bulks ks
def bulks:List CN→Nat
 | []=>0
 | c :: cs=>1+c.bulk+bulks cs
end
theorem CN.bulk_eq (c:CN):c.bulk=c.name.length+c.role.length+bulks c.kids:=by
 cases c;rw [CN.bulk];rfl
theorem bulks_append (xs ys:List CN):bulks (xs++ys)=bulks xs+bulks ys:=by
 induction xs with
 | nil=>simp [bulks]
 | cons x xs ih=>simp only [List.cons_append,bulks,ih];omega
theorem take_succ_getD {α:Type} (l:List α) (d:α) (k:Nat) (h:k<l.length):l.take (k+1)=l.take k++[l.getD k d]:=by
 rw [List.take_succ_eq_append_getElem h];simp [List.getD,h]
theorem bulks_take_succ (cs:List CN) (k:Nat) (h:k<cs.length):bulks (cs.take (k+1))=bulks (cs.take k)+1+(cs.getD k CN.zero).bulk:=by
 rw [take_succ_getD cs CN.zero k h,bulks_append];simp only [bulks];omega
theorem bulks_take_le (cs:List CN) (k:Nat):bulks (cs.take k)≤bulks cs:=by
 have:=bulks_append (cs.take k) (cs.drop k);rw [List.take_append_drop] at this;omega
theorem length_le_bulks (cs:List CN):cs.length≤bulks cs:=by
 induction cs with
 | nil=>simp
 | cons c cs ih=>simp only [List.length_cons,bulks];omega
theorem getD_bulk_le (cs:List CN) (k:Nat) (h:k<cs.length):(cs.getD k CN.zero).bulk+1≤bulks cs:=by
 have:=bulks_take_succ cs k h;have:=bulks_take_le cs (k+1);omega
structure RdL (R:Value→CN→Prop) (lo hi:Nat) (w:World) (a:Option Addr) (n j:Nat) (cs:List CN):Prop where
 len:cs.length=n
 fits:n≤j∧j≤9223372036854775807
 cells:n=0∨∃ b off,a=some ⟨b,off,none⟩∧lo≤b∧b<hi∧∀ i,i<n→∃ v0 v1 v2 v3,
  w.cell? ⟨b,off+i*4,none⟩=some v0∧w.cell? ⟨b,off+i*4+1,none⟩=some v1∧w.cell? ⟨b,off+i*4+2,none⟩=some v2∧w.cell? ⟨b,off+i*4+3,none⟩=some v3 ∧
  R (.agg #[v0,v1,v2,v3]) (cs.getD i CN.zero)
def RdC (lo hi:Nat) (w:World):Nat→Value→CN→Prop
 | 0,_,_=>False
 | d+1,v,c=>∃ na nn nc ra rn rc ka kn kc,v=.agg #[.int .i64 c.kind,.slice na nn nc,.slice ra rn rc,.slice ka kn kc] ∧
     Rd lo hi w na nn nc c.name∧Rd lo hi w ra rn rc c.role∧RdL (RdC lo hi w d) lo hi w ka kn kc c.kids
theorem RdL.imp {R S:Value→CN→Prop} {lo hi lo' z:Nat} {w w':World} {a:Option Addr} {n j:Nat} {cs:List CN} (h:RdL R lo hi w a n j cs)
    (D:∀ v c,R v c→S v c) (hs:Same lo hi w w') (h1:lo'≤lo) (h2:hi≤z):RdL S lo' z w' a n j cs:=by
 obtain ⟨hl,hm,hc⟩:=h;refine ⟨hl,hm,?_⟩;rcases hc with h0 | ⟨b,off,e,q1,q2,hc⟩
 · exact .inl h0
 refine .inr ⟨b,off,e,by omega,by omega,fun i hi=>?_⟩;obtain ⟨v0,v1,v2,v3,c0,c1,c2,c3,hr⟩:=hc i hi;exact ⟨v0,v1,v2,v3,(hs.cell (p:=⟨b,_,none⟩) q1 q2).trans c0,(hs.cell (p:=⟨b,_,none⟩) q1 q2).trans c1,(hs.cell (p:=⟨b,_,none⟩) q1 q2).trans c2,(hs.cell (p:=⟨b,_,none⟩) q1 q2).trans c3,D _ _ hr⟩
theorem RdC.same {lo hi:Nat} {w w':World} (hs:Same lo hi w w'):∀ {d:Nat} {v:Value} {c:CN},RdC lo hi w d v c→RdC lo hi w' d v c:=by
 intro d
 induction d with
 | zero=>intro v c h;exact h
 | succ d ih =>
  intro v c h;obtain ⟨na,nn,nc,ra,rn,rc,ka,kn,kc,hv,h1,h2,h3⟩:=h;exact ⟨na,nn,nc,ra,rn,rc,ka,kn,kc,hv,h1.same hs,h2.same hs,h3.imp (fun v c h=>ih h) hs (Nat.le_refl _) (Nat.le_refl _)⟩
theorem RdC.mono {lo hi lo' z:Nat} {w:World} (q1:lo'≤lo) (q2:hi≤z):∀ {d:Nat} {v:Value} {c:CN},RdC lo hi w d v c→RdC lo' z w d v c:=by
 intro d
 induction d with
 | zero=>intro v c h;exact h
 | succ d ih =>
  intro v c h;obtain ⟨na,nn,nc,ra,rn,rc,ka,kn,kc,hv,h1,h2,h3⟩:=h;exact ⟨na,nn,nc,ra,rn,rc,ka,kn,kc,hv,h1.mono q1 q2,h2.mono q1 q2,h3.imp (fun v c h=>ih h) (Same.refl _ _ _) q1 q2⟩
theorem RdC.below {lo hi B:Nat} {w w':World} {d:Nat} {v:Value} {c:CN} (h:RdC lo hi w d v c) (hb:Below B w w') (hB:hi≤B):RdC lo hi w' d v c:=h.same (Same.of_below hb hB)
theorem RdL.same {lo hi d:Nat} {w w':World} {a:Option Addr} {n j:Nat} {cs:List CN} (h:RdL (RdC lo hi w d) lo hi w a n j cs) (hs:Same lo hi w w'):RdL (RdC lo hi w' d) lo hi w' a n j cs :=
 h.imp (fun _ _ h=>h.same hs) hs (Nat.le_refl _) (Nat.le_refl _)
theorem RdL.below {lo hi d B:Nat} {w w':World} {a:Option Addr} {n j:Nat} {cs:List CN} (h:RdL (RdC lo hi w d) lo hi w a n j cs) (hb:Below B w w') (hB:hi≤B):RdL (RdC lo hi w' d) lo hi w' a n j cs:=h.same (Same.of_below hb hB)
def Free (lo hi:Nat) (w:World):Prop:=∀ b,lo≤b→b<hi→∀ o,w.frozen? ⟨b,o,none⟩=false
theorem Free.same {lo hi:Nat} {w w':World} (h:Free lo hi w) (hs:Same lo hi w w'):Free lo hi w':=by
 intro b h1 h2 o;exact (World.frozen?_of_block (w:=w) (hs b h1 h2)).trans (h b h1 h2 o)
theorem Free.mono {lo hi lo' z:Nat} {w:World} (h:Free lo hi w) (q1:lo≤lo') (q2:z≤hi):Free lo' z w:=fun b h1 h2 o=>h b (by omega) (by omega) o
theorem Free.join {lo A hi:Nat} {w:World} (h:Free lo A w) (k:Free A hi w):Free lo hi w:=by
 intro b h1 h2 o;by_cases e:b<A
 · exact h b h1 e o
 exact k b (by omega) h2 o
theorem Free.set {lo hi:Nat} {w:World} (h:Free lo hi w) (a:Addr) (v:Value):Free lo hi (w.setCell a v):=by
 intro b h1 h2 o;have:=h b h1 h2 o;simpa using this
theorem Free.one (w:World) (c:Array Value) (t:TypeId):Free w.heap.size (w.heap.size+1) (w.alloc (.cells c t)):=by
 intro b h1 h2 o;have e:b=w.heap.size:=by omega
 subst e
 have hb:(w.alloc (.cells c t)).heap[w.heap.size]?=some (.cells c t):=by
  show (w.heap.push _)[w.heap.size]?=_
  simp
 unfold World.frozen?;simp only [];rw [hb];simp
theorem Free.alloc {lo:Nat} {w:World} (h:Free lo w.heap.size w) (c:Array Value) (t:TypeId):Free lo (w.heap.size+1) (w.alloc (.cells c t)) :=
 (h.same (Same.of_below ((Below.refl w.heap.size w).alloc (Nat.le_refl _) _) (Nat.le_refl _))).join (Free.one w c t)
theorem Free.nil (w:World) (lo:Nat):Free lo lo w:=fun b h1 h2=>absurd h2 (by omega)
theorem Free.next {lo:Nat} {w w':World} (h:Free lo w.heap.size w) (hb:Below w.heap.size w w') (k:Free w.heap.size w'.heap.size w'):Free lo w'.heap.size w' :=
 (h.same (Same.of_below hb (Nat.le_refl _))).join k
end

section
open Go.RowKit
theorem Tryz.info5:(Tryz.prog.info? 5).map (fun i=>(i.zero,i.size,i.bytes))=some (some (.int .u8 0),1,1):=by kernel_rfl
def part (zs:List Int) (k:Nat) (i:Nat):Value:=.int .u8 (if i<k then zs.getD i 0 else 0)
def leafB (b off n:Nat):List (Addr × IntKind):=(List.range n).map (fun j=>(⟨b,off+j,none⟩,.u8))
theorem leafB_length (b off n:Nat):(leafB b off n).length=n:=by simp [leafB]
end

section
open Go.RowKit
theorem conv_any {a:Option Addr} {n j:Nat} {zs:List Int} {w:World} {lo hi:Nat} (h:Rd lo hi w a n j zs):(convert 22 9 (.slice a n j)).run Tryz.prog w=.ok (.string (strOfNums zs)) w:=by
 obtain ⟨hl,_,_,hc⟩:=h;rcases hc with h0 | ⟨b,off,rfl,z,hb,hc⟩
 · subst h0;have hz:zs=[]:=List.eq_nil_of_length_eq_zero hl;subst hz;rw [run_convert_bytes_string w 22 9 5 _ 0 j Tryz.underlying22 Tryz.underlying5 Tryz.underlying9];cases a <;> simp [Conv.bytesToString,loadCells]
   all_goals rfl
 exact run_convert_bytes_arg w 22 5 Tryz.underlying22 Tryz.underlying5 b off n j zs hl hc 9 Tryz.underlying9
end

section
open Go.RowKit
def Blk (w:World) (g:Nat) (t:TypeId) (x0 x1 x2 x3:Value):Prop:=w.heap[g]?=some (.cells #[x0,x1,x2,x3] t (0,0))
theorem Blk.cells {w:World} {g:Nat} {t:TypeId} {x0 x1 x2 x3:Value} (h:Blk w g t x0 x1 x2 x3) :
    w.cell? ⟨g,0,none⟩=some x0∧w.cell? ⟨g,1,none⟩=some x1∧w.cell? ⟨g,2,none⟩=some x2∧w.cell? ⟨g,3,none⟩=some x3∧∀ o,w.frozen? ⟨g,o,none⟩=false:=by
 unfold Blk at h;refine ⟨by simp [World.cell?,h],by simp [World.cell?,h],by simp [World.cell?,h],by simp [World.cell?,h],fun o=>by simp [World.frozen?,h]⟩
theorem Blk.lt {w:World} {g:Nat} {t:TypeId} {x0 x1 x2 x3:Value} (h:Blk w g t x0 x1 x2 x3):g<w.heap.size:=(Array.getElem?_eq_some_iff.1 h).1
theorem Blk.of_block {w w':World} {g:Nat} {t:TypeId} {x0 x1 x2 x3:Value} (h:Blk w g t x0 x1 x2 x3) (e:w'.heap[g]?=w.heap[g]?):Blk w' g t x0 x1 x2 x3:=e.trans h
theorem Blk.below {w w':World} {B g:Nat} {t:TypeId} {x0 x1 x2 x3:Value} (h:Blk w g t x0 x1 x2 x3) (hb:Below B w w') (hg:g<B):Blk w' g t x0 x1 x2 x3:=h.of_block (hb.block g hg)
theorem Blk.alloc {w:World} {g:Nat} {t:TypeId} {x0 x1 x2 x3:Value} (h:Blk w g t x0 x1 x2 x3) (o:Obj):Blk (w.alloc o) g t x0 x1 x2 x3:=h.of_block (Below.heap_alloc _ _ _ h.lt)
theorem Blk.set {w:World} {g:Nat} {t:TypeId} {x0 x1 x2 x3:Value} (h:Blk w g t x0 x1 x2 x3) (j:Nat) (v:Value):(w.setCell ⟨g,j,none⟩ v).heap[g]?=some (.cells (#[x0,x1,x2,x3].setIfInBounds j v) t (0,0)):=by
 unfold Blk at h;simp [World.setCell,Array.getElem?_modify,h]
theorem Blk.set2 {w:World} {g:Nat} {t:TypeId} {x0 x1 x2 x3:Value} (h:Blk w g t x0 x1 x2 x3) (v:Value):Blk (w.setCell ⟨g,2,none⟩ v) g t x0 x1 v x3:=h.set 2 v
theorem Blk.set3 {w:World} {g:Nat} {t:TypeId} {x0 x1 x2 x3:Value} (h:Blk w g t x0 x1 x2 x3) (v:Value):Blk (w.setCell ⟨g,3,none⟩ v) g t x0 x1 x2 v:=h.set 3 v
theorem RdC.shape {lo hi:Nat} {w:World} {d:Nat} {v:Value} {c:CN} (h:RdC lo hi w d v c):∃ k na nn nc ra rn rc ka kn kc,v=.agg #[.int .i64 k,.slice na nn nc,.slice ra rn rc,.slice ka kn kc]:=by
 cases d with
 | zero=>exact h.elim
 | succ d =>
  obtain ⟨na,nn,nc,ra,rn,rc,ka,kn,kc,hv,_⟩:=h;exact ⟨_,na,nn,nc,ra,rn,rc,ka,kn,kc,hv⟩
end

section
open Go.RowKit
theorem wrap_id (k:Nat) (h:k<9223372036854775808):IntKind.i64.wrap (k:Int)=(k:Int):=by
 simp [IntKind.wrap,IntKind.bits,IntKind.signed];omega
end

section
open Go.RowKit
end

section
open Go.RowKit
def BoxCur (W:World) (B:Nat) (v:Value) (i h:Int):Prop:=W.heap[B]?=some (.cells #[v,.int .i64 i,.int .i64 h] 72 (0,0))
theorem BoxCur.new (W:World) (v:Value) (i h:Int):BoxCur (W.alloc (.cells #[v,.int .i64 i,.int .i64 h] 72)) W.heap.size v i h:=World.alloc_heap_new W _
theorem BoxCur.lt {W:World} {B:Nat} {v:Value} {i h:Int} (q:BoxCur W B v i h):B<W.heap.size:=(Array.getElem?_eq_some_iff.1 q).1
theorem BoxCur.cells {W:World} {B:Nat} {v:Value} {i h:Int} (q:BoxCur W B v i h):W.cell? ⟨B,0,none⟩=some v∧W.cell? ⟨B,1,none⟩=some (.int .i64 i)∧W.cell? ⟨B,2,none⟩=some (.int .i64 h)∧∀ o,W.frozen? ⟨B,o,none⟩=false:=by
 unfold BoxCur at q;refine ⟨?_,?_,?_,fun o=>?_⟩ <;> simp [World.cell?,World.frozen?,q]
theorem BoxCur.setH {W:World} {B:Nat} {v:Value} {i h:Int} (q:BoxCur W B v i h) (h':Int):BoxCur (W.setCell ⟨B,2,none⟩ (.int .i64 h')) B v i h':=heap_setCell_same W B 2 _ _ _ q
theorem BoxCur.setI {W:World} {B:Nat} {v:Value} {i h:Int} (q:BoxCur W B v i h) (i':Int):BoxCur (W.setCell ⟨B,1,none⟩ (.int .i64 i')) B v i' h:=heap_setCell_same W B 1 _ _ _ q
structure Only (B:Nat) (w w':World):Prop where
 below:Below B w w'
 other:∀ b,b<w.heap.size→b≠B→w'.heap[b]?=w.heap[b]?
theorem Only.refl (B:Nat) (w:World):Only B w w:=⟨Below.refl _ _,fun _ _ _=>rfl⟩
theorem Only.trans {B:Nat} {a b c:World} (h:Only B a b) (k:Only B b c):Only B a c:=⟨h.below.trans k.below,fun x h1 h2=>(k.other x (Nat.lt_of_lt_of_le h1 h.below.size) h2).trans (h.other x h1 h2)⟩
theorem Only.drew {B:Nat} {w w':World} (h:Only B w w'):Only B w w'.drew:=⟨h.below.drew,h.other⟩
theorem Only.set {B o:Nat} {w w':World} (h:Only B w w') (v:Value):Only B w (w'.setCell ⟨B,o,none⟩ v) :=
 ⟨h.below.setCell (Nat.le_refl _) v,fun b h1 h2=>(Below.heap_setCell w' ⟨B,o,none⟩ v b h2).trans (h.other b h1 h2)⟩
structure Cur (w:World) (B:Nat) (a:Option Addr) (n j:Nat) (zs:List Int) (hi:Nat):Prop where
 box:∃ (i:Nat) (h:Int),i≤n∧BoxCur w B (.slice a n j) i h
 rd:Rd 0 hi w a n j zs
 le:hi≤B
theorem Cur.only {w w':World} {B:Nat} {a:Option Addr} {n j:Nat} {zs:List Int} {hi:Nat} (c:Cur w B a n j zs hi) (i:Nat) (h:Int) (F:i≤n) (hb:BoxCur w' B (.slice a n j) i h) (o:Only B w w'):Cur w' B a n j zs hi :=
 ⟨⟨i,h,F,hb⟩,c.rd.same (fun b _ h2=>o.other b (Nat.lt_of_lt_of_le h2 (by obtain ⟨_,_,_,q⟩:=c.box;have:=q.lt;have:=c.le;omega)) (by have:=c.le;omega)),c.le⟩
theorem and_255 (y:Int):0≤bits .and .i64 y 255∧bits .and .i64 y 255≤255:=by
 have e:((BitVec.ofInt 64 y) &&& (BitVec.ofInt 64 255)).toNat≤255:=by
  rw [BitVec.toNat_and];exact Nat.le_trans Nat.and_le_right (by decide)
 have e2:bits .and .i64 y 255=((((BitVec.ofInt 64 y) &&& (BitVec.ofInt 64 255)).toNat:Nat):Int):=by
  show IntKind.i64.wrap ((((BitVec.ofInt 64 y) &&& (BitVec.ofInt 64 255)).toNat:Nat):Int)=_
  rw [wrap_id _ (by omega)]
 rw [e2];omega
set_option maxRecDepth 100000 in
set_option maxHeartbeats 4000000 in
theorem l1Byte_any {w:World} {B:Nat} {a:Option Addr} {n j:Nat} {zs:List Int} {hi:Nat} (c:Cur w B a n j zs hi) :
    Calls Tryz.prog 65 #[.pointer (some ⟨B,0,none⟩)] w fun e w'=>∃ x:Int,e=.returned (.int .i64 x)∧(0≤x∧x≤255)∧Cur w' B a n j zs hi∧Only B w w':=by
 obtain ⟨i,h,F,G⟩:=c.box;have HC:Hid (Cur w B a n j zs hi):=c;have O:=c.rd.fits;have ab:=G.lt;obtain ⟨z0,z1,z2,zf⟩:=G.cells;have f2:=zf 2;have a5:Hid (BoxCur w B (.slice a n j) i h):=G;clear c G zf;obtain ⟨h1,Y⟩:∃ h1,h1=wrap64 (wrap64 (h*6364136223846793005)+1442695040888963407):=⟨_,rfl⟩;obtain ⟨W1,H⟩:∃ W1,W1=w.setCell ⟨B,2,none⟩ (.int .i64 h1):=⟨_,rfl⟩;have a4:Hid (W1=w.setCell ⟨B,2,none⟩ (.int .i64 (wrap64 (wrap64 (h*6364136223846793005)+1442695040888963407)))):=by unfold Hid;rw [H,Y]
 have z:BoxCur W1 B (.slice a n j) i h1:=by rw [H];exact a5.out.setH h1
 have E:Hid (BoxCur W1 B (.slice a n j) i h1):=z;have A:Hid (Only B w W1):=by unfold Hid;rw [H];exact (Only.refl B w).set _
 have Z:Hid (Rd 0 hi W1 a n j zs):=(HC.out.only i h1 F z A.out).rd;clear Y H;go_enter Tryz.func65, Tryz.ntmps65;go_upto_region 2 with fail;rw [← a4.out];clear z0 z1 z2 f2;obtain ⟨z0,z1,z2,zf⟩:=z.cells;have f1:=zf 1;clear zf z;go_cut [3] (fun v W=>∃ x:Int,v=.int .i64 x∧(0≤x∧x≤255)∧W=W1.drew)
 case first =>
  first | go_region | fail
  all_goals
   go_wp2_with fail;go_meet
   case rel=>exact ⟨_,rfl,and_255 _,rfl⟩
 case rest =>
  obtain ⟨x,hv,hx,hw⟩:=hcut;subst hv;rw [hw];clear hw;by_cases hlt:i<n
  · have a0:(i:Int)<(n:Int):=by omega
    obtain ⟨bb,off,ea,I⟩:∃ bb off,a=some ⟨bb,off,none⟩∧W1.cell? ⟨bb,off+i,none⟩=some (.int .u8 (zs.getD i 0)):=by
     rcases Z.out.cells with h0 | ⟨bb,off,e,_,_,hc⟩
     · omega
     exact ⟨bb,off,e,hc i hlt⟩
    subst ea;have J:=Z.out.byte i;obtain ⟨y,hy⟩:∃ y,y=zs.getD i 0:=⟨_,rfl⟩;rw [← hy] at I J;clear hy;go_wp2_with fail
    first | go_region | fail
    all_goals
     go_wp2_with fail
     first | go_region | fail
     all_goals
      go_wp2_with fail;go_ret;have a3:BoxCur (W1.drew.drew.drew.setCell ⟨B,1,none⟩ (.int .i64 ((i:Int)+1))) B (.slice (some ⟨bb,off,none⟩) n j) ((i+1:Nat):Int) h1:=BoxCur.setI (W:=W1.drew.drew.drew) E.out _;have U:Only B w (W1.drew.drew.drew.setCell ⟨B,1,none⟩ (.int .i64 ((i:Int)+1))):=A.out.drew.drew.drew.set _;exact ⟨_,rfl,and_255 _,HC.out.only (i+1) h1 (by omega) a3 U,U⟩
  have a0:decide ((i:Int)<(n:Int))=false:=by simp;omega
  go_wp2_with fail
  first | go_region | fail
  all_goals
   go_wp2_with fail;go_ret;exact ⟨x,rfl,hx,HC.out.only i h1 F E.out A.out.drew.drew,A.out.drew.drew⟩
set_option maxRecDepth 100000 in
theorem l1Below_any {w:World} {B:Nat} {a:Option Addr} {n j:Nat} {zs:List Int} {hi:Nat} (c:Cur w B a n j zs hi) (m:Int) (hm:1≤m∧m≤256) :
    Calls Tryz.prog 37 #[.pointer (some ⟨B,0,none⟩),.int .i64 m] w fun e w'=>∃ x:Int,e=.returned (.int .i64 x)∧(0≤x∧x<m)∧Cur w' B a n j zs hi∧Only B w w':=by
 obtain ⟨a9,a8⟩:=hm;have HC:Hid (Cur w B a n j zs hi):=c;clear c;go_enter Tryz.func37, Tryz.ntmps37;go_wp2_with fail;refine (l1Byte_any HC.out).mono ?_;rintro e w1 ⟨x,rfl,hx,hc,ho⟩;have N:Hid (Cur w1 B a n j zs hi):=hc;have A:Hid (Only B w w1):=ho;obtain ⟨a7,a6⟩:=hx;clear hc ho;go_wp2_with fail;go_ret;exact ⟨x % m,rfl,⟨Int.emod_nonneg _ (by omega),Int.emod_lt_of_pos _ (by omega)⟩,N.out,A.out⟩
theorem l1Once_any {w:World} {B:Nat} {a:Option Addr} {n j:Nat} {zs:List Int} {hi:Nat} (c:Cur w B a n j zs hi) (m:Int) (hm:1≤m∧m≤256) :
    Calls Tryz.prog 27 #[.pointer (some ⟨B,0,none⟩),.int .i64 m] w fun e w'=>∃ x:Bool,e=.returned (.bool x)∧Cur w' B a n j zs hi∧Only B w w':=by
 have HC:Hid (Cur w B a n j zs hi):=c;clear c;go_enter Tryz.func27, Tryz.ntmps27;go_wp2_with fail;refine (l1Below_any HC.out m hm).mono ?_;rintro e w1 ⟨x,rfl,hx,hc,ho⟩;have N:Hid (Cur w1 B a n j zs hi):=hc;have A:Hid (Only B w w1):=ho;clear hc ho hx;go_wp2_with fail;go_ret;exact ⟨_,rfl,N.out,A.out⟩
set_option maxRecDepth 100000 in
set_option maxHeartbeats 1000000 in
theorem l1New_any {a:Option Addr} {n j:Nat} {zs:List Int} {w:World} {hi:Nat} (h:Rd 0 hi w a n j zs) (X:hi≤w.heap.size) :
    Calls Tryz.prog 15 #[.slice a n j] w fun e w'=>e=.returned (.pointer (some ⟨w.heap.size,0,none⟩))∧Cur w' w.heap.size a n j zs hi∧Below w.heap.size w w':=by
 have HR:Hid (Rd 0 hi w a n j zs):=h;have O:=h.fits;have T:∀ (hv:Int) (V:World),(Instr.build 72 #[(0,.slice a n j),(2,.int .i64 hv)]).run Tryz.prog V=.ok (.agg #[.slice a n j,.int .i64 0,.int .i64 hv]) V:=fun hv V=>run_build V _ _ _ (by kernel_rfl)
 have D:Hid (∀ hv:Int,Cur (w.alloc (.cells #[.slice a n j,.int .i64 0,.int .i64 hv] 72)) w.heap.size a n j zs hi∧Below w.heap.size w (w.alloc (.cells #[.slice a n j,.int .i64 0,.int .i64 hv] 72))):=fun hv=>by
  have hb:Below w.heap.size w (w.alloc (.cells #[.slice a n j,.int .i64 0,.int .i64 hv] 72)):=(Below.refl _ _).alloc (Nat.le_refl _) _;exact ⟨⟨⟨0,hv,Nat.zero_le _,BoxCur.new w _ _ _⟩,h.below hb X,X⟩,hb⟩
 clear h;go_enter Tryz.func15, Tryz.ntmps15;go_wp2_with fail;go_loop [3,4] (fun q i=>∃ (k:Nat) (hv:Int),k≤n∧k≤4000∧i=.int .i64 k∧q=.int .i64 hv) (fun _ i=>4000 - (intOf i).toNat)
 case atStart=>exact ⟨0,_,Nat.zero_le _,by omega,rfl,rfl⟩
 case round =>
  obtain ⟨k,hv,hk,aa,rfl,rfl⟩:=hrel;by_cases hlt:k<n
  · by_cases hl4:k<4000
    · obtain ⟨bb,off,ea,I⟩:∃ bb off,a=some ⟨bb,off,none⟩∧w.cell? ⟨bb,off+k,none⟩=some (.int .u8 (zs.getD k 0)):=by
       rcases HR.out.cells with h0 | ⟨bb,off,e,_,_,hc⟩
       · omega
       exact ⟨bb,off,e,hc k hlt⟩
      subst ea;have J:=HR.out.byte k;obtain ⟨y,hy⟩:∃ y,y=zs.getD k 0:=⟨_,rfl⟩;rw [← hy] at I J;have a1:(k:Int)<(n:Int):=by omega
      clear hy;go_wp2_with fail;go_round
      case rel=>exact ⟨k+1,_,by omega,by omega,by go_num,rfl⟩
      case measure=>simp [intOf];omega
    have a2:k=4000:=by omega
    have a1:(k:Int)<(n:Int):=by omega
    have hd:decide ((k:Int)<4000)=false:=by simp;omega
    clear a2;go_wp2_with fail;go_ret;exact ⟨rfl,D.out _⟩
  have hd:decide ((k:Int)<(n:Int))=false:=by simp;omega
  go_wp2_with fail
  all_goals
   go_ret;exact ⟨rfl,D.out _⟩
end

section
open Go.RowKit
end

section
open Go.RowKit
set_option maxRecDepth 100000 in
set_option maxHeartbeats 1000000 in
theorem l1Below_all {w:World} {B:Nat} {a:Option Addr} {n h:Nat} {zs:List Int} {hi:Nat} (c:Cur w B a n h zs hi) (m:Int) (hm:1≤m∧m≤1000000) :
    Calls Tryz.prog 37 #[.pointer (some ⟨B,0,none⟩),.int .i64 m] w fun e w'=>∃ x:Int,e=.returned (.int .i64 x)∧(0≤x∧x<m)∧Cur w' B a n h zs hi∧Only B w w':=by
 by_cases h256:m≤256
 · exact l1Below_any c m ⟨hm.1,h256⟩
 obtain ⟨a1,a0⟩:=hm;have HC:Hid (Cur w B a n h zs hi):=c;have h0:¬ m≤0:=by omega
 clear c;go_enter Tryz.func37, Tryz.ntmps37;go_wp2_with fail;refine (l1Byte_any HC.out).mono ?_;rintro e w1 ⟨x,rfl,⟨X,V⟩,hc,ho⟩;have J:Hid (Cur w1 B a n h zs hi):=hc;have F:Hid (Only B w w1):=ho;clear hc ho;go_wp2_with fail;refine (l1Byte_any J.out).mono ?_;rintro e w2 ⟨y,rfl,⟨U,T⟩,hc,ho⟩;have I:Hid (Cur w2 B a n h zs hi):=hc;have E:Hid (Only B w w2):=F.out.trans ho;clear hc ho;go_wp2_with fail;refine (l1Byte_any I.out).mono ?_;rintro e w3 ⟨z,rfl,⟨O,N⟩,hc,ho⟩;have H:Hid (Cur w3 B a n h zs hi):=hc;have D:Hid (Only B w w3):=E.out.trans ho;clear hc ho;go_wp2_with fail;refine (l1Byte_any H.out).mono ?_;rintro e w4 ⟨u,rfl,⟨Z,Y⟩,hc,ho⟩;have G:Hid (Cur w4 B a n h zs hi):=hc;have j:Hid (Only B w w4):=D.out.trans ho;clear hc ho;have e1:IntKind.i64.wrap (x*16777216)=x*16777216:=wrap64_id (by omega);have e2:IntKind.i64.wrap (y*65536)=y*65536:=wrap64_id (by omega);have e3:IntKind.i64.wrap (z*256)=z*256:=wrap64_id (by omega);have e4:IntKind.i64.wrap (x*16777216+y*65536)=x*16777216+y*65536:=wrap64_id (by omega);have e5:IntKind.i64.wrap (x*16777216+y*65536+z*256)=x*16777216+y*65536+z*256:=wrap64_id (by omega);have e6:IntKind.i64.wrap (x*16777216+y*65536+z*256+u)=x*16777216+y*65536+z*256+u:=wrap64_id (by omega);have e7:0≤x*16777216+y*65536+z*256+u:=by omega
 go_wp2_with fail;go_ret;exact ⟨(x*16777216+y*65536+z*256+u) % m,rfl,⟨Int.emod_nonneg _ (by omega),Int.emod_lt_of_pos _ (by omega)⟩,G.out,j.out⟩
end

end Go.Proofs.YtocpeiaolofodaaGreat
