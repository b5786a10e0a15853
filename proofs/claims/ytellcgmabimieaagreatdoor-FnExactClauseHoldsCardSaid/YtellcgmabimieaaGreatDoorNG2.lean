/- Several texts in one: ConMem, WdMem, Conv, ClsMem, ConEq. -/
import Derived.Test.YtellcgmabimieaaGreatDoorNG1
import Derived.RangeFuncRecord
import Derived.Laws.BytesArg
import Derived.Deep.RegionWith
namespace Go.Proofs.YtellcgmabimieaaGreatDoor

section
open Go.RowKit
inductive CN where
 | mk (kind:Int) (name role:List Int) (kids:List CN)
def CN.kind:CN→Int | .mk k _ _ _=>k
def CN.name:CN→List Int | .mk _ n _ _=>n
def CN.role:CN→List Int | .mk _ _ r _=>r
def CN.kids:CN→List CN | .mk _ _ _ ks=>ks
def CN.zero:CN:=.mk 0 [] [] []
instance:Inhabited CN:=⟨CN.zero⟩
mutual
def CN.bulk:CN→Nat
 | .mk _ n r ks=>n.length+r.length+bulks ks
def bulks:List CN→Nat
 | []=>0
 | c :: cs=>1+c.bulk+bulks cs
end
theorem CN.bulk_eq (c:CN):c.bulk=c.name.length+c.role.length+bulks c.kids:=by
 cases c;rw [CN.bulk];rfl
theorem bulks_append (xs ys:List CN):bulks (xs++ys)=bulks xs+bulks ys:=by
 induction xs with
 | nil=>simp [bulks]
 | cons x xs ih=>simp only [List.cons_append,bulks,ih];omega
theorem take_succ_getD {α:Type} (l:List α) (d:α) (k:Nat) (h:k<l.length):l.take (k+1)=l.take k++[l.getD k d]:=by
 rw [List.take_succ_eq_append_getElem h];simp [List.getD,h]
theorem bulks_take_succ (cs:List CN) (k:Nat) (h:k<cs.length):bulks (cs.take (k+1))=bulks (cs.take k)+1+(cs.getD k CN.zero).bulk:=by
 rw [take_succ_getD cs CN.zero k h,bulks_append];simp only [bulks];omega
theorem bulks_take_le (cs:List CN) (k:Nat):bulks (cs.take k)≤bulks cs:=by
 have:=bulks_append (cs.take k) (cs.drop k);rw [List.take_append_drop] at this;omega
theorem length_le_bulks (cs:List CN):cs.length≤bulks cs:=by
 induction cs with
 | nil=>simp
 | cons c cs ih=>simp only [List.length_cons,bulks];omega
theorem getD_bulk_le (cs:List CN) (k:Nat) (h:k<cs.length):(cs.getD k CN.zero).bulk+1≤bulks cs:=by
 have:=bulks_take_succ cs k h;have:=bulks_take_le cs (k+1);omega
structure RdL (R:Value→CN→Prop) (lo hi:Nat) (w:World) (a:Option Addr) (n q:Nat) (cs:List CN):Prop where
 len:cs.length=n
 fits:n≤q∧q≤9223372036854775807
 cells:n=0∨∃ b u,a=some ⟨b,u,none⟩∧lo≤b∧b<hi∧∀ i,i<n→∃ v0 v1 v2 v3,
  w.cell? ⟨b,u+i*4,none⟩=some v0∧w.cell? ⟨b,u+i*4+1,none⟩=some v1∧w.cell? ⟨b,u+i*4+2,none⟩=some v2∧w.cell? ⟨b,u+i*4+3,none⟩=some v3 ∧
  R (.agg #[v0,v1,v2,v3]) (cs.getD i CN.zero)
def RdC (lo hi:Nat) (w:World):Nat→Value→CN→Prop
 | 0,_,_=>False
 | d+1,v,c=>∃ na nn nc ra rn rc ka kn kc,v=.agg #[.int .i64 c.kind,.slice na nn nc,.slice ra rn rc,.slice ka kn kc] ∧
     Rd lo hi w na nn nc c.name∧Rd lo hi w ra rn rc c.role∧RdL (RdC lo hi w d) lo hi w ka kn kc c.kids
theorem RdL.imp {R S:Value→CN→Prop} {lo hi lo' hi':Nat} {w w':World} {a:Option Addr} {n q:Nat} {cs:List CN} (h:RdL R lo hi w a n q cs)
    (A:∀ v c,R v c→S v c) (hs:Same lo hi w w') (h1:lo'≤lo) (h2:hi≤hi'):RdL S lo' hi' w' a n q cs:=by
 obtain ⟨hl,hm,hc⟩:=h;refine ⟨hl,hm,?_⟩;rcases hc with h0 | ⟨b,u,e,q1,q2,hc⟩
 · exact .inl h0
 refine .inr ⟨b,u,e,by omega,by omega,fun i hi=>?_⟩;obtain ⟨v0,v1,v2,v3,c0,c1,c2,c3,hr⟩:=hc i hi;exact ⟨v0,v1,v2,v3,(hs.cell (p:=⟨b,_,none⟩) q1 q2).trans c0,(hs.cell (p:=⟨b,_,none⟩) q1 q2).trans c1,(hs.cell (p:=⟨b,_,none⟩) q1 q2).trans c2,(hs.cell (p:=⟨b,_,none⟩) q1 q2).trans c3,A _ _ hr⟩
theorem RdC.same {lo hi:Nat} {w w':World} (hs:Same lo hi w w'):∀ {d:Nat} {v:Value} {c:CN},RdC lo hi w d v c→RdC lo hi w' d v c:=by
 intro d
 induction d with
 | zero=>intro v c h;exact h
 | succ d ih =>
  intro v c h;obtain ⟨na,nn,nc,ra,rn,rc,ka,kn,kc,hv,h1,h2,h3⟩:=h;exact ⟨na,nn,nc,ra,rn,rc,ka,kn,kc,hv,h1.same hs,h2.same hs,h3.imp (fun v c h=>ih h) hs (Nat.le_refl _) (Nat.le_refl _)⟩
theorem RdC.mono {lo hi lo' hi':Nat} {w:World} (q1:lo'≤lo) (q2:hi≤hi'):∀ {d:Nat} {v:Value} {c:CN},RdC lo hi w d v c→RdC lo' hi' w d v c:=by
 intro d
 induction d with
 | zero=>intro v c h;exact h
 | succ d ih =>
  intro v c h;obtain ⟨na,nn,nc,ra,rn,rc,ka,kn,kc,hv,h1,h2,h3⟩:=h;exact ⟨na,nn,nc,ra,rn,rc,ka,kn,kc,hv,h1.mono q1 q2,h2.mono q1 q2,h3.imp (fun v c h=>ih h) (Same.refl _ _ _) q1 q2⟩
theorem RdC.below {lo hi B:Nat} {w w':World} {d:Nat} {v:Value} {c:CN} (h:RdC lo hi w d v c) (hb:Below B w w') (hB:hi≤B):RdC lo hi w' d v c:=h.same (Same.of_below hb hB)
theorem RdL.same {lo hi d:Nat} {w w':World} {a:Option Addr} {n q:Nat} {cs:List CN} (h:RdL (RdC lo hi w d) lo hi w a n q cs) (hs:Same lo hi w w'):RdL (RdC lo hi w' d) lo hi w' a n q cs :=
 h.imp (fun _ _ h=>h.same hs) hs (Nat.le_refl _) (Nat.le_refl _)
theorem RdL.below {lo hi d B:Nat} {w w':World} {a:Option Addr} {n q:Nat} {cs:List CN} (h:RdL (RdC lo hi w d) lo hi w a n q cs) (hb:Below B w w') (hB:hi≤B):RdL (RdC lo hi w' d) lo hi w' a n q cs:=h.same (Same.of_below hb hB)
def Free (lo hi:Nat) (w:World):Prop:=∀ b,lo≤b→b<hi→∀ o,w.frozen? ⟨b,o,none⟩=false
theorem Free.same {lo hi:Nat} {w w':World} (h:Free lo hi w) (hs:Same lo hi w w'):Free lo hi w':=by
 intro b h1 h2 o;exact (World.frozen?_of_block (w:=w) (hs b h1 h2)).trans (h b h1 h2 o)
theorem Free.mono {lo hi lo' hi':Nat} {w:World} (h:Free lo hi w) (q1:lo≤lo') (q2:hi'≤hi):Free lo' hi' w:=fun b h1 h2 o=>h b (by omega) (by omega) o
theorem Free.join {lo z hi:Nat} {w:World} (h:Free lo z w) (k:Free z hi w):Free lo hi w:=by
 intro b h1 h2 o;by_cases e:b<z
 · exact h b h1 e o
 exact k b (by omega) h2 o
theorem Free.set {lo hi:Nat} {w:World} (h:Free lo hi w) (a:Addr) (v:Value):Free lo hi (w.setCell a v):=by
 intro b h1 h2 o;have:=h b h1 h2 o;simpa using this
theorem Free.one (w:World) (c:Array Value) (t:TypeId):Free w.heap.size (w.heap.size+1) (w.alloc (.cells c t)):=by
 intro b h1 h2 o;have e:b=w.heap.size:=by omega
 subst e
 have hb:(w.alloc (.cells c t)).heap[w.heap.size]?=some (.cells c t):=by
  show (w.heap.push _)[w.heap.size]?=_
  simp
 unfold World.frozen?;simp only [];rw [hb];simp
theorem Free.alloc {lo:Nat} {w:World} (h:Free lo w.heap.size w) (c:Array Value) (t:TypeId):Free lo (w.heap.size+1) (w.alloc (.cells c t)) :=
 (h.same (Same.of_below ((Below.refl w.heap.size w).alloc (Nat.le_refl _) _) (Nat.le_refl _))).join (Free.one w c t)
theorem Free.nil (w:World) (lo:Nat):Free lo lo w:=fun b h1 h2=>absurd h2 (by omega)
theorem Free.next {lo:Nat} {w w':World} (h:Free lo w.heap.size w) (hb:Below w.heap.size w w') (k:Free w.heap.size w'.heap.size w'):Free lo w'.heap.size w' :=
 (h.same (Same.of_below hb (Nat.le_refl _))).join k
end

section
open Go.RowKit
structure RdN {α:Type} (d:α) (R:Value→α→Prop) (lo hi:Nat) (w:World) (a:Option Addr) (n u:Nat) (xs:List α):Prop where
 len:xs.length=n
 fits:n≤u∧u≤9223372036854775807
 cells:n=0∨∃ b A,a=some ⟨b,A,none⟩∧lo≤b∧b<hi∧∀ i,i<n→∃ v,w.cell? ⟨b,A+i,none⟩=some v∧R v (xs.getD i d)
theorem RdN.imp {α:Type} {d:α} {R S:Value→α→Prop} {lo hi lo' hi':Nat} {w w':World} {a:Option Addr} {n u:Nat} {xs:List α} (h:RdN d R lo hi w a n u xs)
    (D:∀ v c,R v c→S v c) (hs:Same lo hi w w') (h1:lo'≤lo) (h2:hi≤hi'):RdN d S lo' hi' w' a n u xs:=by
 obtain ⟨hl,hm,hc⟩:=h;refine ⟨hl,hm,?_⟩;rcases hc with h0 | ⟨b,A,e,q1,q2,hc⟩
 · exact .inl h0
 refine .inr ⟨b,A,e,by omega,by omega,fun i hi=>?_⟩;obtain ⟨v,c0,hr⟩:=hc i hi;exact ⟨v,(hs.cell (p:=⟨b,_,none⟩) q1 q2).trans c0,D _ _ hr⟩
def RB (lo hi:Nat) (w:World) (a:Option Addr) (n u:Nat) (xs:List Bool):Prop:=RdN false (fun v b=>v=.bool b) lo hi w a n u xs
def RI (lo hi:Nat) (w:World) (a:Option Addr) (n u:Nat) (xs:List Int):Prop:=RdN 0 (fun v z=>v=.int .i64 z) lo hi w a n u xs
def SlB (lo hi:Nat) (w:World) (v:Value) (zs:List Int):Prop:=∃ a n c,v=.slice a n c∧Rd lo hi w a n c zs
def SlF (lo hi:Nat) (w:World) (v:Value) (zs:List Bool):Prop:=∃ a n c,v=.slice a n c∧RB lo hi w a n c zs
def RSS (lo hi:Nat) (w:World) (a:Option Addr) (n u:Nat) (xs:List (List Int)):Prop:=RdN [] (SlB lo hi w) lo hi w a n u xs
def RFF (lo hi:Nat) (w:World) (a:Option Addr) (n u:Nat) (xs:List (List Bool)):Prop:=RdN [] (SlF lo hi w) lo hi w a n u xs
theorem RB.same {lo hi:Nat} {w w':World} {a:Option Addr} {n u:Nat} {xs:List Bool} (h:RB lo hi w a n u xs) (hs:Same lo hi w w'):RB lo hi w' a n u xs:=RdN.imp h (fun _ _ q=>q) hs (Nat.le_refl _) (Nat.le_refl _)
theorem RI.same {lo hi:Nat} {w w':World} {a:Option Addr} {n u:Nat} {xs:List Int} (h:RI lo hi w a n u xs) (hs:Same lo hi w w'):RI lo hi w' a n u xs:=RdN.imp h (fun _ _ q=>q) hs (Nat.le_refl _) (Nat.le_refl _)
theorem RB.mono {lo hi lo' hi':Nat} {w:World} {a:Option Addr} {n u:Nat} {xs:List Bool} (h:RB lo hi w a n u xs) (h1:lo'≤lo) (h2:hi≤hi'):RB lo' hi' w a n u xs:=RdN.imp h (fun _ _ q=>q) (Same.refl _ _ _) h1 h2
theorem RI.mono {lo hi lo' hi':Nat} {w:World} {a:Option Addr} {n u:Nat} {xs:List Int} (h:RI lo hi w a n u xs) (h1:lo'≤lo) (h2:hi≤hi'):RI lo' hi' w a n u xs:=RdN.imp h (fun _ _ q=>q) (Same.refl _ _ _) h1 h2
theorem SlB.same {lo hi:Nat} {w w':World} {v:Value} {zs:List Int} (h:SlB lo hi w v zs) (hs:Same lo hi w w'):SlB lo hi w' v zs:=by obtain ⟨a,n,c,e,h⟩:=h;exact ⟨a,n,c,e,h.same hs⟩
theorem SlF.same {lo hi:Nat} {w w':World} {v:Value} {zs:List Bool} (h:SlF lo hi w v zs) (hs:Same lo hi w w'):SlF lo hi w' v zs:=by obtain ⟨a,n,c,e,h⟩:=h;exact ⟨a,n,c,e,h.same hs⟩
theorem SlB.mono {lo hi lo' hi':Nat} {w:World} {v:Value} {zs:List Int} (h:SlB lo hi w v zs) (h1:lo'≤lo) (h2:hi≤hi'):SlB lo' hi' w v zs:=by obtain ⟨a,n,c,e,h⟩:=h;exact ⟨a,n,c,e,h.mono h1 h2⟩
theorem SlF.mono {lo hi lo' hi':Nat} {w:World} {v:Value} {zs:List Bool} (h:SlF lo hi w v zs) (h1:lo'≤lo) (h2:hi≤hi'):SlF lo' hi' w v zs:=by obtain ⟨a,n,c,e,h⟩:=h;exact ⟨a,n,c,e,h.mono h1 h2⟩
theorem RSS.same {lo hi:Nat} {w w':World} {a:Option Addr} {n u:Nat} {xs:List (List Int)} (h:RSS lo hi w a n u xs) (hs:Same lo hi w w'):RSS lo hi w' a n u xs:=RdN.imp h (fun _ _ q=>q.same hs) hs (Nat.le_refl _) (Nat.le_refl _)
theorem RFF.same {lo hi:Nat} {w w':World} {a:Option Addr} {n u:Nat} {xs:List (List Bool)} (h:RFF lo hi w a n u xs) (hs:Same lo hi w w'):RFF lo hi w' a n u xs:=RdN.imp h (fun _ _ q=>q.same hs) hs (Nat.le_refl _) (Nat.le_refl _)
theorem RSS.mono {lo hi lo' hi':Nat} {w:World} {a:Option Addr} {n u:Nat} {xs:List (List Int)} (h:RSS lo hi w a n u xs) (h1:lo'≤lo) (h2:hi≤hi'):RSS lo' hi' w a n u xs:=RdN.imp h (fun _ _ q=>q.mono h1 h2) (Same.refl _ _ _) h1 h2
theorem RFF.mono {lo hi lo' hi':Nat} {w:World} {a:Option Addr} {n u:Nat} {xs:List (List Bool)} (h:RFF lo hi w a n u xs) (h1:lo'≤lo) (h2:hi≤hi'):RFF lo' hi' w a n u xs:=RdN.imp h (fun _ _ q=>q.mono h1 h2) (Same.refl _ _ _) h1 h2
theorem RI.below {lo hi B:Nat} {w w':World} {a:Option Addr} {n u:Nat} {xs:List Int} (h:RI lo hi w a n u xs) (hb:Below B w w') (hB:hi≤B):RI lo hi w' a n u xs:=h.same (Same.of_below hb hB)
theorem RSS.below {lo hi B:Nat} {w w':World} {a:Option Addr} {n u:Nat} {xs:List (List Int)} (h:RSS lo hi w a n u xs) (hb:Below B w w') (hB:hi≤B):RSS lo hi w' a n u xs:=h.same (Same.of_below hb hB)
theorem RFF.below {lo hi B:Nat} {w w':World} {a:Option Addr} {n u:Nat} {xs:List (List Bool)} (h:RFF lo hi w a n u xs) (hb:Below B w w') (hB:hi≤B):RFF lo hi w' a n u xs:=h.same (Same.of_below hb hB)
structure WD where
 n:Int
 names:List (List Int)
 sets:List (List Bool)
 roles:List (List Int)
 rels:List (List Bool)
 inds:List (List Int)
 at':List Int
structure RdW (lo hi:Nat) (w:World) (na:Option Addr) (nn nc:Nat) (sa:Option Addr) (sn sc:Nat) (ra:Option Addr) (rn rc:Nat) (la:Option Addr) (ln lc:Nat) (ia:Option Addr) (im ic:Nat) (ta:Option Addr) (tn tc:Nat) (x:WD):Prop where
 names:RSS lo hi w na nn nc x.names
 sets:RFF lo hi w sa sn sc x.sets
 roles:RSS lo hi w ra rn rc x.roles
 rels:RFF lo hi w la ln lc x.rels
 inds:RSS lo hi w ia im ic x.inds
 at':RI lo hi w ta tn tc x.at'
theorem RdW.below {lo hi B:Nat} {w w':World} {na:Option Addr} {nn nc:Nat} {sa:Option Addr} {sn sc:Nat} {ra:Option Addr} {rn rc:Nat} {la:Option Addr} {ln lc:Nat} {ia:Option Addr} {im ic:Nat} {ta:Option Addr} {tn tc:Nat} {x:WD}
    (h:RdW lo hi w na nn nc sa sn sc ra rn rc la ln lc ia im ic ta tn tc x) (hb:Below B w w') (hB:hi≤B):RdW lo hi w' na nn nc sa sn sc ra rn rc la ln lc ia im ic ta tn tc x :=
 ⟨h.names.below hb hB,h.sets.below hb hB,h.roles.below hb hB,h.rels.below hb hB,h.inds.below hb hB,h.at'.below hb hB⟩
def BoxW (t:Nat) (W:World) (p:Nat) (n:Int) (v1 v2 v3 v4 v5 v6:Value):Prop:=W.heap[p]?=some (.cells #[.int .i64 n,v1,v2,v3,v4,v5,v6] t (0,0))
theorem BoxW.new (t:Nat) (W:World) (n:Int) (v1 v2 v3 v4 v5 v6:Value):BoxW t (W.alloc (.cells #[.int .i64 n,v1,v2,v3,v4,v5,v6] t)) W.heap.size n v1 v2 v3 v4 v5 v6:=World.alloc_heap_new W _
theorem BoxW.below {t:Nat} {W W':World} {p B:Nat} {n:Int} {v1 v2 v3 v4 v5 v6:Value} (h:BoxW t W p n v1 v2 v3 v4 v5 v6) (hb:Below B W W') (hB:p<B):BoxW t W' p n v1 v2 v3 v4 v5 v6:=(hb.block p hB).trans h
theorem BoxW.lt {t:Nat} {W:World} {p:Nat} {n:Int} {v1 v2 v3 v4 v5 v6:Value} (h:BoxW t W p n v1 v2 v3 v4 v5 v6):p<W.heap.size:=(Array.getElem?_eq_some_iff.1 h).1
theorem BoxW.cells {t:Nat} {W:World} {p:Nat} {n:Int} {v1 v2 v3 v4 v5 v6:Value} (h:BoxW t W p n v1 v2 v3 v4 v5 v6) :
    W.cell? ⟨p,0,none⟩=some (.int .i64 n)∧W.cell? ⟨p,1,none⟩=some v1∧W.cell? ⟨p,2,none⟩=some v2∧W.cell? ⟨p,3,none⟩=some v3∧W.cell? ⟨p,4,none⟩=some v4∧W.cell? ⟨p,5,none⟩=some v5∧W.cell? ⟨p,6,none⟩=some v6:=by
 unfold BoxW at h;refine ⟨?_,?_,?_,?_,?_,?_,?_⟩ <;> simp [World.cell?,h]
theorem BoxW.frz {t:Nat} {W:World} {p:Nat} {n:Int} {v1 v2 v3 v4 v5 v6:Value} (h:BoxW t W p n v1 v2 v3 v4 v5 v6) (o:Nat):W.frozen? ⟨p,o,none⟩=false:=by
 unfold BoxW at h;simp [World.frozen?,h]
theorem BoxW.at {t:Nat} {W:World} {p:Nat} {n:Int} {v1 v2 v3 v4 v5 v6:Value} (h:BoxW t W p n v1 v2 v3 v4 v5 v6) (i:Nat) (v:Value):(W.setCell ⟨p,i,none⟩ v).heap[p]?=some (.cells (#[.int .i64 n,v1,v2,v3,v4,v5,v6].setIfInBounds i v) t (0,0)):=heap_setCell_same W p i _ _ v h
end

section
open Go.RowKit
theorem conv_any {a:Option Addr} {n o:Nat} {zs:List Int} {w:World} {lo hi:Nat} (h:Rd lo hi w a n o zs):(convert 89 9 (.slice a n o)).run Tryz.prog w=.ok (.string (strOfNums zs)) w:=by
 obtain ⟨hl,_,_,hc⟩:=h;rcases hc with h0 | ⟨b,q,rfl,u,hb,hc⟩
 · subst h0;have hz:zs=[]:=List.eq_nil_of_length_eq_zero hl;subst hz;rw [run_convert_bytes_string w 89 9 5 _ 0 o Tryz.underlying89 Tryz.underlying5 Tryz.underlying9];cases a <;> simp [Conv.bytesToString,loadCells]
   all_goals rfl
 exact run_convert_bytes_arg w 89 5 Tryz.underlying89 Tryz.underlying5 b q n o zs hl hc 9 Tryz.underlying9
end

section
open Go.RowKit
def CL.zero:CL:=⟨0,0,0,0,0,0,0,0,[],0,0⟩
def Cl11 (lo hi:Nat) (w:World) (b o:Nat) (x:CL):Prop:=∃ (ia:Option Addr) (im ic:Nat),w.cell? ⟨b,o,none⟩=some (.int .i64 x.kind)∧w.cell? ⟨b,o+1,none⟩=some (.int .i64 x.fn)∧w.cell? ⟨b,o+2,none⟩=some (.int .i64 x.role)∧w.cell? ⟨b,o+3,none⟩=some (.int .i64 x.above)∧w.cell? ⟨b,o+4,none⟩=some (.int .i64 x.xp)∧w.cell? ⟨b,o+5,none⟩=some (.int .i64 x.xn)∧w.cell? ⟨b,o+6,none⟩=some (.int .i64 x.yp)∧w.cell? ⟨b,o+7,none⟩=some (.int .i64 x.yn)∧w.cell? ⟨b,o+8,none⟩=some (.slice ia im ic)∧w.cell? ⟨b,o+9,none⟩=some (.int .i64 x.a)∧w.cell? ⟨b,o+10,none⟩=some (.int .i64 x.b)∧RP lo hi w ia im ic x.inds
structure RdG (lo hi:Nat) (w:World) (a:Option Addr) (n q:Nat) (xs:List CL):Prop where
 len:xs.length=n
 fits:n≤q∧q≤9223372036854775807
 cells:n=0∨∃ b u,a=some ⟨b,u,none⟩∧lo≤b∧b<hi∧∀ i,i<n→Cl11 lo hi w b (u+i*11) (xs.getD i CL.zero)
theorem Cl11.same {lo hi:Nat} {w w':World} {b o:Nat} {x:CL} (h:Cl11 lo hi w b o x) (hs:Same lo hi w w') (h1:lo≤b) (h2:b<hi):Cl11 lo hi w' b o x:=by
 obtain ⟨ia,im,ic,q0,q1,q2,q3,q4,q5,q6,q7,q8,q9,z,hr⟩:=h;exact ⟨ia,im,ic,(hs.cell (p:=⟨b,o,none⟩) h1 h2).trans q0,(hs.cell (p:=⟨b,o+1,none⟩) h1 h2).trans q1,(hs.cell (p:=⟨b,o+2,none⟩) h1 h2).trans q2,(hs.cell (p:=⟨b,o+3,none⟩) h1 h2).trans q3,(hs.cell (p:=⟨b,o+4,none⟩) h1 h2).trans q4,(hs.cell (p:=⟨b,o+5,none⟩) h1 h2).trans q5,(hs.cell (p:=⟨b,o+6,none⟩) h1 h2).trans q6,(hs.cell (p:=⟨b,o+7,none⟩) h1 h2).trans q7,(hs.cell (p:=⟨b,o+8,none⟩) h1 h2).trans q8,(hs.cell (p:=⟨b,o+9,none⟩) h1 h2).trans q9,(hs.cell (p:=⟨b,o+10,none⟩) h1 h2).trans z,hr.same hs⟩
theorem Cl11.mono {lo hi lo' hi':Nat} {w:World} {b o:Nat} {x:CL} (h:Cl11 lo hi w b o x) (h1:lo'≤lo) (h2:hi≤hi'):Cl11 lo' hi' w b o x:=by
 obtain ⟨ia,im,ic,q0,q1,q2,q3,q4,q5,q6,q7,q8,q9,z,hr⟩:=h;exact ⟨ia,im,ic,q0,q1,q2,q3,q4,q5,q6,q7,q8,q9,z,hr.mono h1 h2⟩
theorem RdG.same {lo hi:Nat} {w w':World} {a:Option Addr} {n q:Nat} {xs:List CL} (h:RdG lo hi w a n q xs) (hs:Same lo hi w w'):RdG lo hi w' a n q xs:=by
 obtain ⟨hl,hm,hc⟩:=h;refine ⟨hl,hm,?_⟩;rcases hc with h0 | ⟨b,u,e,h1,h2,hc⟩
 · exact .inl h0
 exact .inr ⟨b,u,e,h1,h2,fun i hi=>(hc i hi).same hs h1 h2⟩
theorem RdG.below {lo hi B:Nat} {w w':World} {a:Option Addr} {n q:Nat} {xs:List CL} (h:RdG lo hi w a n q xs) (hb:Below B w w') (hB:hi≤B):RdG lo hi w' a n q xs:=h.same (Same.of_below hb hB)
theorem RdG.mono {lo hi lo' hi':Nat} {w:World} {a:Option Addr} {n q:Nat} {xs:List CL} (h:RdG lo hi w a n q xs) (h1:lo'≤lo) (h2:hi≤hi'):RdG lo' hi' w a n q xs:=by
 obtain ⟨hl,hm,hc⟩:=h;refine ⟨hl,hm,?_⟩;rcases hc with h0 | ⟨b,u,e,q1,q2,hc⟩
 · exact .inl h0
 exact .inr ⟨b,u,e,by omega,by omega,fun i hi=>(hc i hi).mono h1 h2⟩
structure CS where
 atoms:List CN
 roles:List (List Int)
 who:List (List Int)
 l:List CL
structure RdS (lo hi:Nat) (w:World) (d:Nat) (aa:Option Addr) (an ac:Nat) (ra:Option Addr) (rn rc:Nat) (wa:Option Addr) (wn wc:Nat) (la:Option Addr) (ln lc:Nat) (s:CS):Prop where
 atoms:RdL (RdC lo hi w d) lo hi w aa an ac s.atoms
 roles:RSS lo hi w ra rn rc s.roles
 who:RSS lo hi w wa wn wc s.who
 l:RdG lo hi w la ln lc s.l
theorem RdS.same {lo hi:Nat} {w w':World} {d:Nat} {aa:Option Addr} {an ac:Nat} {ra:Option Addr} {rn rc:Nat} {wa:Option Addr} {wn wc:Nat} {la:Option Addr} {ln lc:Nat} {s:CS} (h:RdS lo hi w d aa an ac ra rn rc wa wn wc la ln lc s) (hs:Same lo hi w w'):RdS lo hi w' d aa an ac ra rn rc wa wn wc la ln lc s :=
 ⟨h.atoms.same hs,h.roles.same hs,h.who.same hs,h.l.same hs⟩
theorem RdS.below {lo hi B:Nat} {w w':World} {d:Nat} {aa:Option Addr} {an ac:Nat} {ra:Option Addr} {rn rc:Nat} {wa:Option Addr} {wn wc:Nat} {la:Option Addr} {ln lc:Nat} {s:CS} (h:RdS lo hi w d aa an ac ra rn rc wa wn wc la ln lc s) (hb:Below B w w') (hB:hi≤B):RdS lo hi w' d aa an ac ra rn rc wa wn wc la ln lc s:=h.same (Same.of_below hb hB)
end

section
open Go.RowKit
def EqC (d:Nat):Prop:=∀ (v v':Value) (c:CN) (d':Nat) (w:World) (lo hi lo' hi':Nat),RdC lo hi w d v c→RdC lo' hi' w d' v' c→hi≤w.heap.size→hi'≤w.heap.size →
 Calls Tryz.prog 84 #[v,v'] w fun e w'=>e=.returned (.bool true)∧Below w.heap.size w w'
def EqL (d:Nat):Prop:=∀ (a a':Option Addr) (n z cap':Nat) (cs:List CN) (d':Nat) (w:World) (lo hi lo' hi':Nat),RdL (RdC lo hi w d) lo hi w a n z cs→RdL (RdC lo' hi' w d') lo' hi' w a' n cap' cs→hi≤w.heap.size→hi'≤w.heap.size →
 Calls Tryz.prog 47 #[.slice a n z,.slice a' n cap'] w fun e w'=>e=.returned (.bool true)∧Below w.heap.size w w'
set_option maxHeartbeats 800000 in
theorem eqL_of {d:Nat} (H:EqC d):EqL d:=by
 intro a a' n z cap' cs d' w lo hi lo' hi' h h' hh q;have HR:Hid (RdL (RdC lo hi w d) lo hi w a n z cs):=h;have V:Hid (RdL (RdC lo' hi' w d') lo' hi' w a' n cap' cs):=h';obtain ⟨hl,⟨hm,hM⟩,T⟩:=h;obtain ⟨R,⟨a2,a6⟩,F⟩:=h';have a5:((n:Int) != (n:Int))=false:=by simp
 clear T F hl R;go_enter Tryz.func47, Tryz.ntmps47;go_wp2_with fail;go_loopw [5] (fun i wr=>∃ k:Nat,k≤n∧i=.int .i64 k∧Below w.heap.size w wr) (fun i _=>n - (intOf i).toNat)
 case atStart=>exact ⟨0,Nat.zero_le _,rfl,Below.refl _ _⟩
 case round =>
  obtain ⟨k,hk,rfl,o⟩:=hrel;have HB:Hid (Below w.heap.size w wr):=o;by_cases hlt:k<n
  · have h1:=HR.out.same (Same.of_below o hh);have h2:=V.out.same (Same.of_below o q);rcases h1.cells with h0 | ⟨b1,a1,e1,_,_,M⟩
    · omega
    rcases h2.cells with h0 | ⟨b2,a0,e2,_,_,L⟩
    · omega
    subst e1 e2;obtain ⟨v0,v1,v2,v3,c0,c1,c2,c3,hr⟩:=M k hlt;obtain ⟨x0,x1,x2,x3,q0,q1,q2,q3,u⟩:=L k hlt;have HK:Hid (RdC lo hi wr.drew d (.agg #[v0,v1,v2,v3]) (cs.getD k CN.zero)):=RdC.same (w:=wr) (w':=wr.drew) (fun _ _ _=>rfl) hr;have Y:Hid (RdC lo' hi' wr.drew d' (.agg #[x0,x1,x2,x3]) (cs.getD k CN.zero)):=RdC.same (w:=wr) (w':=wr.drew) (fun _ _ _=>rfl) u;have a4:(k:Int)<(n:Int):=by omega
    clear h1 h2 M L hr u o;go_wp2_with fail;go_region_with (go_at_call 84;refine (H _ _ (cs.getD k CN.zero) d' _ lo hi lo' hi' ?_ ?_ ?_ ?_).mono ?_;exact HK.out;exact Y.out;exact Nat.le_trans hh HB.out.size;exact Nat.le_trans q HB.out.size;rintro e w' ⟨rfl,U⟩)
    all_goals
     go_wp2_with fail;go_roundw
     case rel=>exact ⟨k+1,by omega,by go_num,HB.out.drew.trans (U.mono HB.out.size)⟩
     case measure=>simp [intOf];omega
  clear o;go_wp2_with fail;go_ret;exact ⟨rfl,HB.out⟩
set_option maxHeartbeats 800000 in
theorem eqC_of {d:Nat} (H:EqL d):EqC (d+1):=by
 intro v v' c d' w lo hi lo' hi' h h' hh q;cases d' with
 | zero=>exact h'.elim
 | succ d' =>
  obtain ⟨na,nn,nc,ra,rn,rc,ka,kn,kc,rfl,hn,hr,hk⟩:=h;obtain ⟨na',nn',nc',ra',rn',rc',ka',kn',kc',rfl,D,u,E⟩:=h';obtain ⟨k,J⟩:∃ k,k=c.kind:=⟨_,rfl⟩;rw [← J];have a3:(k != k)=false:=by simp
  have e1:nn'=nn:=by rw [← hn.len,← D.len]
  have e2:rn'=rn:=by rw [← hr.len,← u.len]
  have e3:kn'=kn:=by rw [← hk.len,← E.len]
  subst e1 e2 e3;have hb:Below w.heap.size w ((w.alloc (Obj.cells #[Value.int IntKind.i64 k,.slice na nn' nc,.slice ra rn' rc,.slice ka kn' kc] 104)).alloc (Obj.cells #[Value.int IntKind.i64 k,.slice na' nn' nc',.slice ra' rn' rc',.slice ka' kn' kc'] 104)):=((Below.refl _ _).alloc (Nat.le_refl _) _).alloc (by simp) _;obtain ⟨W,hW⟩:∃ W,W=((w.alloc (Obj.cells #[Value.int IntKind.i64 k,.slice na nn' nc,.slice ra rn' rc,.slice ka kn' kc] 104)).alloc (Obj.cells #[Value.int IntKind.i64 k,.slice na' nn' nc',.slice ra' rn' rc',.slice ka' kn' kc'] 104)):=⟨_,rfl⟩;rw [← hW] at hb;have HW:Hid (W=((w.alloc (Obj.cells #[Value.int IntKind.i64 k,.slice na nn' nc,.slice ra rn' rc,.slice ka kn' kc] 104)).alloc (Obj.cells #[Value.int IntKind.i64 k,.slice na' nn' nc',.slice ra' rn' rc',.slice ka' kn' kc'] 104))):=hW;have HN:Hid (Rd lo hi W na nn' nc c.name∧Rd lo' hi' W na' nn' nc' c.name):=⟨hn.below hb hh,D.below hb q⟩;have O:Hid (Rd lo hi W ra rn' rc c.role∧Rd lo' hi' W ra' rn' rc' c.role):=⟨hr.below hb hh,u.below hb q⟩;have HK:Hid (RdL (RdC lo hi W d) lo hi W ka kn' kc c.kids∧RdL (RdC lo' hi' W d') lo' hi' W ka' kn' kc' c.kids):=⟨hk.below hb hh,E.below hb q⟩;have A:Hid (Below w.heap.size w W):=hb;clear hn D hr u hk E hb J hW;go_enter Tryz.func84, Tryz.ntmps84;go_wp2_with fail;rw [← HW.out];refine (eqByteS_any na na' nn' nc nn' nc' c.name c.name W HN.out.1 HN.out.2).mono ?_;rintro e w1 ⟨rfl,n1,I⟩;rw [show decide (c.name=c.name)=true from by simp,I,HW.out];clear I;go_wp2_with fail;rw [← HW.out]
  refine (eqByteS_any ra ra' rn' rc rn' rc' c.role c.role _ (O.out.1.same (w':=W.drewN n1) (fun _ _ _=>rfl)) (O.out.2.same (w':=W.drewN n1) (fun _ _ _=>rfl))).mono ?_;rintro e w2 ⟨rfl,n2,G⟩;rw [show decide (c.role=c.role)=true from by simp,G,drew_add,HW.out];clear G;go_wp2_with fail;rw [← HW.out];refine (H ka ka' kn' kc kc' c.kids d' (W.drewN (n1+n2)) lo hi lo' hi' (RdL.same (w:=W) HK.out.1 (fun _ _ _=>rfl)) (RdL.same (w:=W) HK.out.2 (fun _ _ _=>rfl)) (Nat.le_trans hh A.out.size) (Nat.le_trans q A.out.size)).mono ?_;rintro e w3 ⟨rfl,N⟩;have Z:Hid (Below w.heap.size w w3):=(below_drewN A.out (n1+n2)).trans (N.mono A.out.size);clear N;go_wp2_with fail;go_ret;exact ⟨rfl,Z.out⟩
theorem eqC_any:∀ d,EqC d
 | 0=>fun _ _ _ _ _ _ _ _ _ h=>h.elim
 | d+1=>eqC_of (eqL_of (eqC_any d))
end

end Go.Proofs.YtellcgmabimieaaGreatDoor
