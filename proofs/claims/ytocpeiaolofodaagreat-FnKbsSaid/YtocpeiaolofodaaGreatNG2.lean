/- Several texts in one: WdMem, CmpB, Toks, TTSz, TTTo, Rounds, RegInv, DrawPick. -/
import Derived.Test.YtocpeiaolofodaaGreatNG1
import Derived.RangeFuncRecord
import Derived.Lib.BytesEntry
import Derived.Deep.RegionWith
import Derived.RangeFuncNested
import Derived.RangeFuncCalls
import Derived.OwnWalkIn
import Derived.Shelf.RegionOpen
import Derived.Laws.AppendOwn
import Derived.RegionTactic
import Derived.WalkKit
namespace Go.Proofs.YtocpeiaolofodaaGreat

section
open Go.RowKit
structure RdN {α:Type} (d:α) (R:Value→α→Prop) (lo hi:Nat) (w:World) (a:Option Addr) (n j:Nat) (xs:List α):Prop where
 len:xs.length=n
 fits:n≤j∧j≤9223372036854775807
 cells:n=0∨∃ b off,a=some ⟨b,off,none⟩∧lo≤b∧b<hi∧∀ i,i<n→∃ v,w.cell? ⟨b,off+i,none⟩=some v∧R v (xs.getD i d)
theorem RdN.imp {α:Type} {d:α} {R S:Value→α→Prop} {lo hi lo' A:Nat} {w w':World} {a:Option Addr} {n j:Nat} {xs:List α} (h:RdN d R lo hi w a n j xs)
    (D:∀ v c,R v c→S v c) (hs:Same lo hi w w') (h1:lo'≤lo) (h2:hi≤A):RdN d S lo' A w' a n j xs:=by
 obtain ⟨hl,hm,hc⟩:=h;refine ⟨hl,hm,?_⟩;rcases hc with h0 | ⟨b,off,e,q1,q2,hc⟩
 · exact .inl h0
 refine .inr ⟨b,off,e,by omega,by omega,fun i hi=>?_⟩;obtain ⟨v,c0,hr⟩:=hc i hi;exact ⟨v,(hs.cell (p:=⟨b,_,none⟩) q1 q2).trans c0,D _ _ hr⟩
def RB (lo hi:Nat) (w:World) (a:Option Addr) (n j:Nat) (xs:List Bool):Prop:=RdN false (fun v b=>v=.bool b) lo hi w a n j xs
def RI (lo hi:Nat) (w:World) (a:Option Addr) (n j:Nat) (xs:List Int):Prop:=RdN 0 (fun v z=>v=.int .i64 z) lo hi w a n j xs
def SlB (lo hi:Nat) (w:World) (v:Value) (zs:List Int):Prop:=∃ a n c,v=.slice a n c∧Rd lo hi w a n c zs
def SlF (lo hi:Nat) (w:World) (v:Value) (zs:List Bool):Prop:=∃ a n c,v=.slice a n c∧RB lo hi w a n c zs
def RSS (lo hi:Nat) (w:World) (a:Option Addr) (n j:Nat) (xs:List (List Int)):Prop:=RdN [] (SlB lo hi w) lo hi w a n j xs
def RFF (lo hi:Nat) (w:World) (a:Option Addr) (n j:Nat) (xs:List (List Bool)):Prop:=RdN [] (SlF lo hi w) lo hi w a n j xs
theorem RB.same {lo hi:Nat} {w w':World} {a:Option Addr} {n j:Nat} {xs:List Bool} (h:RB lo hi w a n j xs) (hs:Same lo hi w w'):RB lo hi w' a n j xs:=RdN.imp h (fun _ _ q=>q) hs (Nat.le_refl _) (Nat.le_refl _)
theorem RI.same {lo hi:Nat} {w w':World} {a:Option Addr} {n j:Nat} {xs:List Int} (h:RI lo hi w a n j xs) (hs:Same lo hi w w'):RI lo hi w' a n j xs:=RdN.imp h (fun _ _ q=>q) hs (Nat.le_refl _) (Nat.le_refl _)
theorem RB.mono {lo hi lo' A:Nat} {w:World} {a:Option Addr} {n j:Nat} {xs:List Bool} (h:RB lo hi w a n j xs) (h1:lo'≤lo) (h2:hi≤A):RB lo' A w a n j xs:=RdN.imp h (fun _ _ q=>q) (Same.refl _ _ _) h1 h2
theorem RI.mono {lo hi lo' A:Nat} {w:World} {a:Option Addr} {n j:Nat} {xs:List Int} (h:RI lo hi w a n j xs) (h1:lo'≤lo) (h2:hi≤A):RI lo' A w a n j xs:=RdN.imp h (fun _ _ q=>q) (Same.refl _ _ _) h1 h2
theorem SlB.same {lo hi:Nat} {w w':World} {v:Value} {zs:List Int} (h:SlB lo hi w v zs) (hs:Same lo hi w w'):SlB lo hi w' v zs:=by obtain ⟨a,n,c,e,h⟩:=h;exact ⟨a,n,c,e,h.same hs⟩
theorem SlF.same {lo hi:Nat} {w w':World} {v:Value} {zs:List Bool} (h:SlF lo hi w v zs) (hs:Same lo hi w w'):SlF lo hi w' v zs:=by obtain ⟨a,n,c,e,h⟩:=h;exact ⟨a,n,c,e,h.same hs⟩
theorem SlB.mono {lo hi lo' A:Nat} {w:World} {v:Value} {zs:List Int} (h:SlB lo hi w v zs) (h1:lo'≤lo) (h2:hi≤A):SlB lo' A w v zs:=by obtain ⟨a,n,c,e,h⟩:=h;exact ⟨a,n,c,e,h.mono h1 h2⟩
theorem SlF.mono {lo hi lo' A:Nat} {w:World} {v:Value} {zs:List Bool} (h:SlF lo hi w v zs) (h1:lo'≤lo) (h2:hi≤A):SlF lo' A w v zs:=by obtain ⟨a,n,c,e,h⟩:=h;exact ⟨a,n,c,e,h.mono h1 h2⟩
theorem RSS.same {lo hi:Nat} {w w':World} {a:Option Addr} {n j:Nat} {xs:List (List Int)} (h:RSS lo hi w a n j xs) (hs:Same lo hi w w'):RSS lo hi w' a n j xs:=RdN.imp h (fun _ _ q=>q.same hs) hs (Nat.le_refl _) (Nat.le_refl _)
theorem RFF.same {lo hi:Nat} {w w':World} {a:Option Addr} {n j:Nat} {xs:List (List Bool)} (h:RFF lo hi w a n j xs) (hs:Same lo hi w w'):RFF lo hi w' a n j xs:=RdN.imp h (fun _ _ q=>q.same hs) hs (Nat.le_refl _) (Nat.le_refl _)
theorem RSS.mono {lo hi lo' A:Nat} {w:World} {a:Option Addr} {n j:Nat} {xs:List (List Int)} (h:RSS lo hi w a n j xs) (h1:lo'≤lo) (h2:hi≤A):RSS lo' A w a n j xs:=RdN.imp h (fun _ _ q=>q.mono h1 h2) (Same.refl _ _ _) h1 h2
theorem RFF.mono {lo hi lo' A:Nat} {w:World} {a:Option Addr} {n j:Nat} {xs:List (List Bool)} (h:RFF lo hi w a n j xs) (h1:lo'≤lo) (h2:hi≤A):RFF lo' A w a n j xs:=RdN.imp h (fun _ _ q=>q.mono h1 h2) (Same.refl _ _ _) h1 h2
theorem RI.below {lo hi B:Nat} {w w':World} {a:Option Addr} {n j:Nat} {xs:List Int} (h:RI lo hi w a n j xs) (hb:Below B w w') (hB:hi≤B):RI lo hi w' a n j xs:=h.same (Same.of_below hb hB)
theorem RSS.below {lo hi B:Nat} {w w':World} {a:Option Addr} {n j:Nat} {xs:List (List Int)} (h:RSS lo hi w a n j xs) (hb:Below B w w') (hB:hi≤B):RSS lo hi w' a n j xs:=h.same (Same.of_below hb hB)
theorem RFF.below {lo hi B:Nat} {w w':World} {a:Option Addr} {n j:Nat} {xs:List (List Bool)} (h:RFF lo hi w a n j xs) (hb:Below B w w') (hB:hi≤B):RFF lo hi w' a n j xs:=h.same (Same.of_below hb hB)
structure WD where
 n:Int
 names:List (List Int)
 sets:List (List Bool)
 roles:List (List Int)
 rels:List (List Bool)
 inds:List (List Int)
 at':List Int
structure RdW (lo hi:Nat) (w:World) (na:Option Addr) (nn nc:Nat) (sa:Option Addr) (sn sc:Nat) (ra:Option Addr) (rn rc:Nat) (la:Option Addr) (ln lc:Nat) (ia:Option Addr) (im ic:Nat) (ta:Option Addr) (tn tc:Nat) (x:WD):Prop where
 names:RSS lo hi w na nn nc x.names
 sets:RFF lo hi w sa sn sc x.sets
 roles:RSS lo hi w ra rn rc x.roles
 rels:RFF lo hi w la ln lc x.rels
 inds:RSS lo hi w ia im ic x.inds
 at':RI lo hi w ta tn tc x.at'
theorem RdW.below {lo hi B:Nat} {w w':World} {na:Option Addr} {nn nc:Nat} {sa:Option Addr} {sn sc:Nat} {ra:Option Addr} {rn rc:Nat} {la:Option Addr} {ln lc:Nat} {ia:Option Addr} {im ic:Nat} {ta:Option Addr} {tn tc:Nat} {x:WD}
    (h:RdW lo hi w na nn nc sa sn sc ra rn rc la ln lc ia im ic ta tn tc x) (hb:Below B w w') (hB:hi≤B):RdW lo hi w' na nn nc sa sn sc ra rn rc la ln lc ia im ic ta tn tc x :=
 ⟨h.names.below hb hB,h.sets.below hb hB,h.roles.below hb hB,h.rels.below hb hB,h.inds.below hb hB,h.at'.below hb hB⟩
def BoxW (t:Nat) (W:World) (p:Nat) (n:Int) (v1 v2 v3 v4 v5 v6:Value):Prop:=W.heap[p]?=some (.cells #[.int .i64 n,v1,v2,v3,v4,v5,v6] t (0,0))
theorem BoxW.new (t:Nat) (W:World) (n:Int) (v1 v2 v3 v4 v5 v6:Value):BoxW t (W.alloc (.cells #[.int .i64 n,v1,v2,v3,v4,v5,v6] t)) W.heap.size n v1 v2 v3 v4 v5 v6:=World.alloc_heap_new W _
theorem BoxW.below {t:Nat} {W W':World} {p B:Nat} {n:Int} {v1 v2 v3 v4 v5 v6:Value} (h:BoxW t W p n v1 v2 v3 v4 v5 v6) (hb:Below B W W') (hB:p<B):BoxW t W' p n v1 v2 v3 v4 v5 v6:=(hb.block p hB).trans h
theorem BoxW.lt {t:Nat} {W:World} {p:Nat} {n:Int} {v1 v2 v3 v4 v5 v6:Value} (h:BoxW t W p n v1 v2 v3 v4 v5 v6):p<W.heap.size:=(Array.getElem?_eq_some_iff.1 h).1
theorem BoxW.cells {t:Nat} {W:World} {p:Nat} {n:Int} {v1 v2 v3 v4 v5 v6:Value} (h:BoxW t W p n v1 v2 v3 v4 v5 v6) :
    W.cell? ⟨p,0,none⟩=some (.int .i64 n)∧W.cell? ⟨p,1,none⟩=some v1∧W.cell? ⟨p,2,none⟩=some v2∧W.cell? ⟨p,3,none⟩=some v3∧W.cell? ⟨p,4,none⟩=some v4∧W.cell? ⟨p,5,none⟩=some v5∧W.cell? ⟨p,6,none⟩=some v6:=by
 unfold BoxW at h;refine ⟨?_,?_,?_,?_,?_,?_,?_⟩ <;> simp [World.cell?,h]
theorem BoxW.frz {t:Nat} {W:World} {p:Nat} {n:Int} {v1 v2 v3 v4 v5 v6:Value} (h:BoxW t W p n v1 v2 v3 v4 v5 v6) (o:Nat):W.frozen? ⟨p,o,none⟩=false:=by
 unfold BoxW at h;simp [World.frozen?,h]
theorem BoxW.at {t:Nat} {W:World} {p:Nat} {n:Int} {v1 v2 v3 v4 v5 v6:Value} (h:BoxW t W p n v1 v2 v3 v4 v5 v6) (i:Nat) (v:Value):(W.setCell ⟨p,i,none⟩ v).heap[p]?=some (.cells (#[.int .i64 n,v1,v2,v3,v4,v5,v6].setIfInBounds i v) t (0,0)):=heap_setCell_same W p i _ _ v h
end

section
open Go.RowKit
def cmpZ (xs ys:List Int):Int:=Lib.compareBytes (strOfNums xs).toList (strOfNums ys).toList
theorem less_cmp:∀ (a b:List UInt8),(if Op.bytesLess a b=true then (-1:Int) else if Op.bytesLess b a=true then 1 else 0)=Lib.compareBytes a b
 | [],[]=>by simp [Op.bytesLess,Lib.compareBytes]
 | [],b :: ys=>by simp [Op.bytesLess,Lib.compareBytes]
 | a :: xs,[]=>by simp [Op.bytesLess,Lib.compareBytes]
 | a :: xs,b :: ys=>by
  have ih:=less_cmp xs ys;rw [Lib.compareBytes,← ih];by_cases h1:a<b
  · simp [Op.bytesLess,h1]
  by_cases h2:b<a
  · have z:¬ a=b:=fun e=>by subst e;exact h1 h2
    simp [Op.bytesLess,h1,h2,z]
  have he:a=b:=UInt8.le_antisymm (UInt8.not_lt.1 h2) (UInt8.not_lt.1 h1);subst he;simp [Op.bytesLess]
theorem less_self:∀ a:List UInt8,Op.bytesLess a a=false
 | []=>rfl
 | a :: xs=>by simp [Op.bytesLess,less_self xs,UInt8.lt_irrefl]
theorem less_tri:∀ a b:List UInt8,Op.bytesLess a b=false→(a == b)=false→Op.bytesLess b a=true
 | [],[],_,h=>by simp at h
 | [],b :: ys,h,_=>by simp [Op.bytesLess] at h
 | a :: xs,[],_,_=>by simp [Op.bytesLess]
 | a :: xs,b :: ys,h1,h2=>by
  have ih:=less_tri xs ys;by_cases h3:a<b
  · simp [Op.bytesLess,h3] at h1
  by_cases h4:b<a
  · simp [Op.bytesLess,h4]
  have he:a=b:=UInt8.le_antisymm (UInt8.not_lt.1 h4) (UInt8.not_lt.1 h3);subst he;simp [Op.bytesLess] at h1 h2 ⊢;exact ih h1 (by simpa using h2)
set_option maxRecDepth 100000 in
set_option maxHeartbeats 1000000 in
theorem l2bytes_any {a a':Option Addr} {n j n' cap':Nat} {xs ys:List Int} {w:World} {lo hi lo' A:Nat} (h:Rd lo hi w a n j xs) (h':Rd lo' A w a' n' cap' ys) :
    Calls Tryz.prog 68 #[.slice a n j,.slice a' n' cap'] w fun e w'=>e=.returned (.int .i64 (cmpZ xs ys))∧w'=w:=by
 have hc:=conv_any h;have D:=conv_any h';have HZ:Hid (cmpZ xs ys=(if Op.bytesLess (strOfNums xs).toList (strOfNums ys).toList=true then (-1:Int) else if Op.bytesLess (strOfNums ys).toList (strOfNums xs).toList=true then 1 else 0)):=(less_cmp _ _).symm;obtain ⟨s,hs⟩:∃ s,s=strOfNums xs:=⟨_,rfl⟩;obtain ⟨t,ht⟩:∃ t,t=strOfNums ys:=⟨_,rfl⟩;rw [← hs] at hc HZ;rw [← ht] at D HZ;clear h h' hs ht;cases h1:Op.bytesLess s.toList t.toList
 · cases h2:(s.toList == t.toList)
   · have h3:=less_tri _ _ h1 h2;go_enter Tryz.func68, Tryz.ntmps68;go_wp2;go_ret;exact ⟨ri (by rw [HZ.out,h1,h3];rfl),rfl⟩
   have h4:s.toList=t.toList:=by simpa using h2
   have E:Hid (cmpZ xs ys=0):=by unfold Hid;rw [HZ.out,h4,less_self];rfl
   clear h4;go_enter Tryz.func68, Tryz.ntmps68;go_wp2;go_ret;exact ⟨ri E.out.symm,rfl⟩
 go_enter Tryz.func68, Tryz.ntmps68;go_wp2;go_ret;exact ⟨ri (by rw [HZ.out,h1];rfl),rfl⟩
end

section
open Go.RowKit
structure Tok where
 kind:Int
 place:Int
 text:List Int
def Tok.zero:Tok:=⟨0,0,[]⟩
structure RdT (lo hi:Nat) (w:World) (a:Option Addr) (n j:Nat) (ts:List Tok):Prop where
 len:ts.length=n
 fits:n≤j∧j≤9223372036854775807
 cells:n=0∨∃ b off,a=some ⟨b,off,none⟩∧lo≤b∧b<hi∧∀ i,i<n→∃ ta tn tc,
  w.cell? ⟨b,off+i*3,none⟩=some (.int .i64 (ts.getD i Tok.zero).kind)∧w.cell? ⟨b,off+i*3+1,none⟩=some (.int .i64 (ts.getD i Tok.zero).place) ∧
  w.cell? ⟨b,off+i*3+2,none⟩=some (.slice ta tn tc)∧Rd lo hi w ta tn tc (ts.getD i Tok.zero).text
theorem RdT.same {lo hi:Nat} {w w':World} {a:Option Addr} {n j:Nat} {ts:List Tok} (h:RdT lo hi w a n j ts) (hs:Same lo hi w w'):RdT lo hi w' a n j ts:=by
 obtain ⟨hl,hm,hc⟩:=h;refine ⟨hl,hm,?_⟩;rcases hc with h0 | ⟨b,off,e,h1,h2,hc⟩
 · exact .inl h0
 refine .inr ⟨b,off,e,h1,h2,fun i hi=>?_⟩;obtain ⟨ta,tn,tc,c1,c2,c3,c4⟩:=hc i hi;exact ⟨ta,tn,tc,(hs.cell (p:=⟨b,_,none⟩) h1 h2).trans c1,(hs.cell (p:=⟨b,_,none⟩) h1 h2).trans c2,(hs.cell (p:=⟨b,_,none⟩) h1 h2).trans c3,c4.same hs⟩
def leafT (b off:Nat) (tx:Nat→Nat × Nat × Nat) (n:Nat):List (Addr × IntKind) :=
 (List.range n).flatMap (fun i=>(⟨b,off+i*3,none⟩,.i64) :: (⟨b,off+i*3+1,none⟩,.i64) :: leafB (tx i).1 (tx i).2.1 (tx i).2.2)
theorem leafT_succ (b off:Nat) (tx:Nat→Nat × Nat × Nat) (n:Nat) :
    leafT b off tx (n+1)=leafT b off tx n++((⟨b,off+n*3,none⟩,.i64) :: (⟨b,off+n*3+1,none⟩,.i64) :: leafB (tx n).1 (tx n).2.1 (tx n).2.2):=by
 simp [leafT,List.range_succ]
def HeadT (w:World) (b off:Nat) (tx:Nat→Nat × Nat × Nat) (n:Nat):Prop :=
 ∀ i,i<n→∃ ta tc,w.cell? ⟨b,off+i*3+2,none⟩=some (.slice ta (tx i).2.2 tc)∧((tx i).2.2=0∨ta=some ⟨(tx i).1,(tx i).2.1,none⟩)∧(tx i).2.2≤1048576
theorem HeadT.marks {b off n:Nat} {tx:Nat→Nat × Nat × Nat} {L:List (Addr × IntKind)}:∀ {w:World},HeadT w b off tx n→LeafOk w L→∀ k,HeadT (marks w L k) b off tx n:=by
 induction L with
 | nil=>intro w h _ k;exact h
 | cons x L ih =>
  intro w h hL k;obtain ⟨a,kd⟩:=x;obtain ⟨⟨m,hm⟩,hf⟩:=hL (a,kd) (by simp);have z:=hL.set hm (kd.wrap k);refine ih (fun i hi=>?_) (fun x hx=>z x (by simp [hx])) (k+1);obtain ⟨ta,tc,hc,r⟩:=h i hi;refine ⟨ta,tc,?_,r⟩;rw [World.cell?_setCell_other _ _ _ _ (fun e=>by rw [e] at hm;rw [hm] at hc;simp at hc)];exact hc
end

section
open Go.RowKit
def sumT (ts:List Tok):Nat→Nat
 | 0=>0
 | k+1=>sumT ts k+(ts.getD k Tok.zero).text.length
theorem sumT_mono (ts:List Tok):∀ {k n:Nat},k≤n→sumT ts k≤sumT ts n:=by
 intro k n h
 induction h with
 | refl=>exact Nat.le_refl _
 | step _ ih=>simp only [sumT];omega
theorem sumT_ge (ts:List Tok) {i n:Nat} (h:i<n):(ts.getD i Tok.zero).text.length≤sumT ts n:=by
 have:=sumT_mono ts (show i+1≤n from h);simp only [sumT] at this;omega
end

section
open Go.RowKit
def cellT (ts:List Tok) (f:Nat→Nat) (k j:Nat):Value :=
 if j / 3<k then (if j % 3=0 then .int .i64 (ts.getD (j / 3) Tok.zero).kind else if j % 3=1 then .int .i64 (ts.getD (j / 3) Tok.zero).place else .slice (some ⟨f (j / 3),0,none⟩) (ts.getD (j / 3) Tok.zero).text.length (ts.getD (j / 3) Tok.zero).text.length)
 else (if j % 3=0 then .int .i64 0 else if j % 3=1 then .int .i64 0 else .slice none 0 0)
theorem cellT_new (ts:List Tok) (f:Nat→Nat) {k i:Nat} (h:i<k):cellT ts f k (i*3)=.int .i64 (ts.getD i Tok.zero).kind∧cellT ts f k (i*3+1)=.int .i64 (ts.getD i Tok.zero).place∧cellT ts f k (i*3+2)=.slice (some ⟨f i,0,none⟩) (ts.getD i Tok.zero).text.length (ts.getD i Tok.zero).text.length:=by
 have e0:i*3 / 3=i:=by omega
 have e1:(i*3+1) / 3=i:=by omega
 have e2:(i*3+2) / 3=i:=by omega
 have m0:i*3 % 3=0:=by omega
 have m1:(i*3+1) % 3=1:=by omega
 have m2:(i*3+2) % 3=2:=by omega
 refine ⟨?_,?_,?_⟩
 · simp [cellT,e0,h]
 · simp [cellT,e1,m1,h]
 simp [cellT,e2,m2,h]
structure MadeT (lo:Nat) (w:World) (g n:Nat) (ts:List Tok) (f:Nat→Nat):Prop where
 len:ts.length=n
 base:lo≤g
 row:w.rowIs g 115 (n*3) (cellT ts f n)
 txt:∀ i,i<n→lo≤f i∧Row w (f i) (ts.getD i Tok.zero).text.length (ts.getD i Tok.zero).text
 byte:∀ i j,0≤(ts.getD i Tok.zero).text.getD j 0∧(ts.getD i Tok.zero).text.getD j 0≤255
 small:n+sumT ts n≤1048576
def txM (ts:List Tok) (f:Nat→Nat) (i:Nat):Nat × Nat × Nat:=(f i,0,(ts.getD i Tok.zero).text.length)
theorem MadeT.rd {lo:Nat} {w:World} {g n:Nat} {ts:List Tok} {f:Nat→Nat} (h:MadeT lo w g n ts f):RdT lo w.heap.size w (some ⟨g,0,none⟩) n n ts:=by
 obtain ⟨h1,h2,h3,h4,h5,h6⟩:=h;refine ⟨h1,⟨Nat.le_refl _,by omega⟩,.inr ⟨g,0,rfl,h2,h3.lt,fun i hi=>?_⟩⟩;obtain ⟨c0,c1,c2⟩:=cellT_new ts f hi;simp only [Nat.zero_add];rw [h3.cell (show i*3<n*3 by omega),h3.cell (show i*3+1<n*3 by omega),h3.cell (show i*3+2<n*3 by omega),c0,c1,c2];exact ⟨_,_,_,rfl,rfl,rfl,(h4 i hi).2.rd rfl (h5 i) (by have:=sumT_ge ts hi;omega) (h4 i hi).1 (h4 i hi).2.lt⟩
theorem MadeT.below {lo B:Nat} {w w':World} {g n:Nat} {ts:List Tok} {f:Nat→Nat} (h:MadeT lo w g n ts f) (hb:Below B w w') (hB:w.heap.size≤B):MadeT lo w' g n ts f:=by
 obtain ⟨h1,h2,h3,h4,h5,h6⟩:=h;exact ⟨h1,h2,h3.of_block (hb.block g (Nat.lt_of_lt_of_le h3.lt hB)),fun i hi=>⟨(h4 i hi).1,(h4 i hi).2.below hb (Nat.lt_of_lt_of_le (h4 i hi).2.lt hB)⟩,h5,h6⟩
theorem mem_leafM {b off:Nat} {tx:Nat→Nat × Nat × Nat} {n:Nat} {x:Addr × IntKind} (h:x∈leafT b off tx n) :
    ∃ i,i<n∧(x=(⟨b,off+i*3,none⟩,.i64)∨x=(⟨b,off+i*3+1,none⟩,.i64)∨∃ j,j<(tx i).2.2∧x=(⟨(tx i).1,(tx i).2.1+j,none⟩,.u8)):=by
 simp only [leafT,List.mem_flatMap,List.mem_range,List.mem_cons,leafB,List.mem_map] at h;obtain ⟨i,hi,h⟩:=h;refine ⟨i,hi,?_⟩;rcases h with h | h | ⟨j,hj,h⟩
 · exact .inl h
 · exact .inr (.inl h)
 exact .inr (.inr ⟨j,hj,h.symm⟩)
theorem MadeT.leaf {lo:Nat} {w:World} {g n:Nat} {ts:List Tok} {f:Nat→Nat} (h:MadeT lo w g n ts f) :
    HeadT w g 0 (txM ts f) n∧LeafOk w (leafT g 0 (txM ts f) n)∧∀ x∈leafT g 0 (txM ts f) n,lo≤x.1.block∧x.1.block<w.heap.size:=by
 obtain ⟨h1,h2,h3,h4,h5,h6⟩:=h;refine ⟨fun i hi=>?_,fun x hx=>?_,fun x hx=>?_⟩
 · obtain ⟨c0,c1,c2⟩:=cellT_new ts f hi;refine ⟨some ⟨f i,0,none⟩,(ts.getD i Tok.zero).text.length,?_,.inr rfl,by have:=sumT_ge ts hi;show (ts.getD i Tok.zero).text.length≤_;omega⟩;rw [Nat.zero_add,h3.cell (show i*3+2<n*3 by omega),c2];rfl
 · obtain ⟨i,hi,e | e | ⟨j,hj,e⟩⟩:=mem_leafM hx
   · subst e;obtain ⟨c0,c1,c2⟩:=cellT_new ts f hi;simp only [Nat.zero_add];exact ⟨⟨_,by rw [h3.cell (show i*3<n*3 by omega),c0]⟩,h3.frozen _⟩
   · subst e;obtain ⟨c0,c1,c2⟩:=cellT_new ts f hi;simp only [Nat.zero_add];exact ⟨⟨_,by rw [h3.cell (show i*3+1<n*3 by omega),c1]⟩,h3.frozen _⟩
   subst e;simp only [txM,Nat.zero_add] at hj ⊢;exact ⟨⟨_,(h4 i hi).2.cell hj⟩,(h4 i hi).2.frozen _⟩
 obtain ⟨i,hi,e | e | ⟨j,hj,e⟩⟩:=mem_leafM hx
 · subst e;exact ⟨h2,h3.lt⟩
 · subst e;exact ⟨h2,h3.lt⟩
 subst e;exact ⟨(h4 i hi).1,(h4 i hi).2.lt⟩
theorem RdT.byte {lo hi:Nat} {w:World} {a:Option Addr} {n A:Nat} {ts:List Tok} (h:RdT lo hi w a n A ts):∀ i j,0≤(ts.getD i Tok.zero).text.getD j 0∧(ts.getD i Tok.zero).text.getD j 0≤255:=by
 intro i j;by_cases z:i<n
 · rcases h.cells with h0 | ⟨b,off,_,_,_,hc⟩
   · omega
   obtain ⟨_,_,_,_,_,_,c4⟩:=hc i z;exact c4.byte j
 have e:ts.getD i Tok.zero=Tok.zero:=by rw [List.getD,List.getElem?_eq_none (by rw [h.len];omega)];rfl
 rw [e];simp [Tok.zero]
end

section
open Go.RowKit
theorem uponIn_round_iff {F:Fence} {l n:Nat} {P:Program} {o:Oper} {a:Act} {next:Act→World→Prop} {Q:Exit→Act→World→Prop} {r:Result Next} :
    o.uponIn F n P a next Q r→o.uponIn (F.inRound l) n P a next Q r:=by
 intro h;cases r with
 | ok x w=>cases x <;> exact h
 | halt x w=>cases x <;> exact h
def plainOp (o:Oper):Bool:=match o.op with | .defer _=>false | _=>true
theorem plainOp_spec {o:Oper} (h:plainOp o=true):∀ c,o.op≠.defer c:=by
 intro c e;unfold plainOp at h;rw [e] at h;simp at h
theorem wpIn_op_round {F:Fence} {l n:Nat} {P:Program} {o:Oper} {a:Act} {w:World} {K:Act→World→Prop} {Q:Exit→Act→World→Prop} (z:F.round=none) (hp:plainOp o=true) (h:o.wpIn F n P a w K Q):o.wpIn (F.inRound l) n P a w K Q:=by
 unfold Oper.wpIn at *;refine ⟨h.1,uponIn_round_iff ?_⟩;have h2:=h.2;rw [z,Oper.semAt_none] at h2;rw [Fence.inRound_round,Oper.semAt_some l _ _ (plainOp_spec hp)];exact h2
theorem wpAnyIn_round {F:Fence} {l n:Nat} {P:Program} {md:Region.Mode} {j:Array Oper} {Q:Exit→Act→World→Prop} (z:F.round=none) (hp:∀ (i:Nat) (o:Oper),j[i]?=some o→plainOp o=true) :
    ∀ (fuel:Nat) (listed:Array Bool) (a:Act) (w:World),wpAnyIn F n P md j Q fuel listed a w→wpAnyIn (F.inRound l) n P md j Q fuel listed a w
 | 0,_,_,_,h=>h
 | fuel+1,listed,a,w,h=>by
  refine ⟨h.1,fun i hi=>?_⟩;have h2:=h.2 i hi;have h3:=wpOpIn_mono (K':=wpAnyIn (F.inRound l) n P md j Q fuel (listed.setIfInBounds i true)) (fun a w q=>wpAnyIn_round z hp fuel _ a w q) h2;unfold wpOpIn at *
  split
  · rename_i ho;simp only [ho] at h3;exact h3
  rename_i o ho
  simp only [ho] at h3
  split
  · rename_i hw;simp only [hw,if_true] at h3;exact wpIn_op_round z (hp i o ho) h3
  rename_i hw;simp only [hw] at h3;exact h3
theorem plain_all {j:Array Oper} (h:j.toList.all plainOp=true):∀ (i:Nat) (o:Oper),j[i]?=some o→plainOp o=true:=by
 intro i o ho;refine List.all_eq_true.1 h o ?_;have:=Array.getElem?_eq_some_iff.1 ho;obtain ⟨hi,e⟩:=this;rw [← e];simp
theorem region_round {l n:Nat} {P:Program} {id:Nat} {j:Array Oper} {Q:Exit→Act→World→Prop} {a:Act} {w:World} (hm:P.follows .mixedOrders=true) (hp:j.toList.all plainOp=true)
    (h:wpAnyIn Fence.wide n P .any j Q j.size (Array.replicate j.size false) a w.drew):(Code.region id j true).wpIn (Fence.wide.inRound l) n P Q a w :=
 wpIn_region_any hm (wpAnyIn_round rfl (plain_all hp) _ _ _ _ h)
theorem stepIn_append_own {F:Fence} {n:Nat} {P:Program} {j:Array Oper} {o:Oper} {a:Act} {w:World} {K:Act→World→Prop} {Q:Exit→Act→World→Prop} {E:Prop}
    (z:F.round=none) (hg:o.guard=none) (s x:Operand) (t:TypeId) (D:o.op=Op.call { callee:=Callee.builtin Builtin.append,args:=#[s,x],argTypes:=#[t,t] }) (ty:TypeId) (G:o.type=ty)
    (v:Value) (y:Value) (hs:a.eval s=v) (hx:a.eval x=y) (v':Value) (w':World) (A:(Builtin.append_ #[t,t] ty #[v,y]).run P w=.ok v' w') (hK:K (a.put o.dst v') w') :
    if Region.wanted o (yielded j a.tmps)=true then Oper.wpIn F n P o a w K Q else E:=by
 have hw:Region.wanted o (yielded j a.tmps)=true:=by simp [Region.wanted,hg]
 rw [if_pos hw];subst G;unfold Oper.wpIn;refine ⟨?_,?_⟩
 · simp [Oper.about,D,resolve,Target.leads,Sem.run_pure]
 rw [z,Oper.semAt_none];simp [execOp,D,resolve,invoke,builtin,hs,hx,A,Result.andThen];exact hK
end

section
open Go
open Go.RowKit
section
variable {P:Program} {md:Region.Mode} {j:Array Oper} {Q:Exit→Act→World→Prop}
def leftB (l:Array Bool):Nat:=l.toList.countP (fun b=>!b)
theorem countP_set {l:List Bool}:∀ {i:Nat},l[i]?=some false→(l.set i true).countP (fun b=>!b)+1=l.countP (fun b=>!b):=by
 induction l with
 | nil=>intro i h;simp at h
 | cons x xs ih =>
  intro i h;cases i with
  | zero =>
   simp only [List.getElem?_cons_zero,Option.some.injEq] at h;subst h;simp
  | succ i =>
   simp only [List.getElem?_cons_succ] at h;have:=ih h;rw [List.set_cons_succ,List.countP_cons,List.countP_cons];omega
theorem ready_false {l:Array Bool} {i:Nat} (h:i∈Region.ready md j l):l[i]?=some false∧i<j.size∧∃ o,j[i]?=some o∧(o.after.all fun e=>!Region.binds md e || l.getD e.on false)=true:=by
 unfold Region.ready at h;rw [List.mem_filter] at h;obtain ⟨h1,h2⟩:=h;rw [Bool.and_eq_true] at h2;obtain ⟨h3,h4⟩:=h2;refine ⟨?_,List.mem_range.1 h1,?_⟩
 · rw [Array.getD_eq_getD_getElem?] at h3;cases e:l[i]? with
   | none=>rw [e] at h3;simp at h3
   | some b=>rw [e] at h3;simp at h3;rw [h3]
 cases e:j[i]? with
 | none=>rw [e] at h4;simp at h4
 | some o=>rw [e] at h4;exact ⟨o,rfl,by simpa using h4⟩
theorem left_set {l:Array Bool} {i:Nat} (h:l[i]?=some false):leftB (l.setIfInBounds i true)+1=leftB l:=by
 unfold leftB;rw [Array.toList_setIfInBounds];exact countP_set (by simpa using h)
theorem wpAny_inv (I:Array Bool→Act→World→Prop)
    (D:∀ (l:Array Bool) (a:Act) (w:World) (i:Nat),I l a w→i∈Region.ready md j l→wpOp P j Q i (I (l.setIfInBounds i true)) a w)
    (z:∀ (l:Array Bool) (a:Act) (w:World),I l a w→Region.ready md j l=[]→Q .normal a w) :
    ∀ (fuel:Nat) (l:Array Bool) (a:Act) (w:World),leftB l≤fuel→I l a w→wpAny P md j Q fuel l a w:=by
 intro fuel
 induction fuel with
 | zero =>
  intro l a w hl hI
  have hr:Region.ready md j l=[]:=by
   cases e:Region.ready md j l with
   | nil=>rfl
   | cons i t =>
    have hi:i∈Region.ready md j l:=by rw [e];simp
    have:=left_set (ready_false hi).1;omega
  exact ⟨hr,z l a w hI hr⟩
 | succ fuel ih =>
  intro l a w hl hI;refine ⟨fun hr=>z l a w hI hr,fun i hi=>?_⟩;have E:=left_set (ready_false hi).1;exact wpOp_mono (fun a' w' h'=>ih _ a' w' (by omega) h') (D l a w i hI hi)
end
end

section
open Go.RowKit
set_option maxRecDepth 100000 in
theorem pickN_any {w:World} {B:Nat} {a:Option Addr} {n j:Nat} {zs:List Int} {hi:Nat} (c:Cur w B a n j zs hi) {g m:Nat} (hg:g≠B) (hm:1≤m∧m≤100) (P:Int→Prop) (hc:∀ i,i<m→∃ z,w.cell? ⟨g,i,none⟩=some (.int .i64 z)∧P z) :
    Calls Tryz.prog 64 #[.pointer (some ⟨B,0,none⟩),.slice (some ⟨g,0,none⟩) m m] w fun e w'=>∃ x:Int,e=.returned (.int .i64 x)∧P x∧Cur w' B a n j zs hi∧Only B w w':=by
 have HC:Hid (Cur w B a n j zs hi):=c;have F:Hid (∀ i,i<m→∃ z,w.cell? ⟨g,i,none⟩=some (.int .i64 z)∧P z):=hc
 have D:g<w.heap.size:=by
  obtain ⟨z,h,_⟩:=hc 0 (by omega);exact World.block_lt_of_cell? w _ h
 clear c hc;go_enter Tryz.func64, Tryz.ntmps64;go_wp2_with fail;refine (l1Below_any HC.out (m:Int) ⟨by omega,by omega⟩).mono ?_;rintro e w1 ⟨x,rfl,⟨A,H⟩,hc,ho⟩;obtain ⟨i,hi⟩:∃ i:Nat,x=(i:Int):=⟨x.toNat,by omega⟩;subst hi;obtain ⟨z,hz,hp⟩:=F.out i (by omega);have e0:w1.cell? ⟨g,i,none⟩=some (.int .i64 z):=(World.cell?_of_block (w:=w) (ho.other g D hg)).trans hz;have G:Hid (Cur w1 B a n j zs hi):=hc;have E:Hid (Only B w w1):=ho;have HP:Hid (P z):=hp;clear hc ho hz hp A;go_wp2_with fail;go_ret;exact ⟨_,rfl,HP.out,G.out,E.out⟩
end

end Go.Proofs.YtocpeiaolofodaaGreat
