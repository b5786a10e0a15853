/- Several texts in one: WdMem, WdLaw1, WdLaw2, WdLaw3, Words, Toks, Rounds, RegInv. -/
import Derived.Test.YtnmljalcndfjmaaGreatNG1
import Derived.RangeFuncRecord
import Derived.Deep.RegionWith
import Derived.Deep.DeepCutAuto
import Derived.WalkKit
import Derived.WalkSpells
import Derived.WalkLawsBesides
import Derived.RangeFuncNested
import Derived.RangeFuncCalls
import Derived.OwnWalkIn
import Derived.Shelf.RegionOpen
import Derived.Laws.AppendOwn
import Derived.RegionTactic
namespace Go.Proofs.YtnmljalcndfjmaaGreat

section
open Go.RowKit
structure RdN {α:Type} (d:α) (R:Value→α→Prop) (lo hi:Nat) (w:World) (a:Option Addr) (n y:Nat) (xs:List α):Prop where
 len:xs.length=n
 fits:n≤y∧y≤9223372036854775807
 cells:n=0∨∃ b off,a=some ⟨b,off,none⟩∧lo≤b∧b<hi∧∀ i,i<n→∃ v,w.cell? ⟨b,off+i,none⟩=some v∧R v (xs.getD i d)
theorem RdN.imp {α:Type} {d:α} {R S:Value→α→Prop} {lo hi lo' A:Nat} {w w':World} {a:Option Addr} {n y:Nat} {xs:List α} (h:RdN d R lo hi w a n y xs)
    (D:∀ v c,R v c→S v c) (hs:Same lo hi w w') (h1:lo'≤lo) (h2:hi≤A):RdN d S lo' A w' a n y xs:=by
 obtain ⟨hl,hm,hc⟩:=h;refine ⟨hl,hm,?_⟩;rcases hc with h0 | ⟨b,off,e,q1,q2,hc⟩
 · exact .inl h0
 refine .inr ⟨b,off,e,by omega,by omega,fun i hi=>?_⟩;obtain ⟨v,c0,hr⟩:=hc i hi;exact ⟨v,(hs.cell (p:=⟨b,_,none⟩) q1 q2).trans c0,D _ _ hr⟩
def RB (lo hi:Nat) (w:World) (a:Option Addr) (n y:Nat) (xs:List Bool):Prop:=RdN false (fun v b=>v=.bool b) lo hi w a n y xs
def RI (lo hi:Nat) (w:World) (a:Option Addr) (n y:Nat) (xs:List Int):Prop:=RdN 0 (fun v z=>v=.int .i64 z) lo hi w a n y xs
def SlB (lo hi:Nat) (w:World) (v:Value) (zs:List Int):Prop:=∃ a n c,v=.slice a n c∧Rd lo hi w a n c zs
def SlF (lo hi:Nat) (w:World) (v:Value) (zs:List Bool):Prop:=∃ a n c,v=.slice a n c∧RB lo hi w a n c zs
def RSS (lo hi:Nat) (w:World) (a:Option Addr) (n y:Nat) (xs:List (List Int)):Prop:=RdN [] (SlB lo hi w) lo hi w a n y xs
def RFF (lo hi:Nat) (w:World) (a:Option Addr) (n y:Nat) (xs:List (List Bool)):Prop:=RdN [] (SlF lo hi w) lo hi w a n y xs
theorem RB.same {lo hi:Nat} {w w':World} {a:Option Addr} {n y:Nat} {xs:List Bool} (h:RB lo hi w a n y xs) (hs:Same lo hi w w'):RB lo hi w' a n y xs:=RdN.imp h (fun _ _ q=>q) hs (Nat.le_refl _) (Nat.le_refl _)
theorem RI.same {lo hi:Nat} {w w':World} {a:Option Addr} {n y:Nat} {xs:List Int} (h:RI lo hi w a n y xs) (hs:Same lo hi w w'):RI lo hi w' a n y xs:=RdN.imp h (fun _ _ q=>q) hs (Nat.le_refl _) (Nat.le_refl _)
theorem RB.mono {lo hi lo' A:Nat} {w:World} {a:Option Addr} {n y:Nat} {xs:List Bool} (h:RB lo hi w a n y xs) (h1:lo'≤lo) (h2:hi≤A):RB lo' A w a n y xs:=RdN.imp h (fun _ _ q=>q) (Same.refl _ _ _) h1 h2
theorem RI.mono {lo hi lo' A:Nat} {w:World} {a:Option Addr} {n y:Nat} {xs:List Int} (h:RI lo hi w a n y xs) (h1:lo'≤lo) (h2:hi≤A):RI lo' A w a n y xs:=RdN.imp h (fun _ _ q=>q) (Same.refl _ _ _) h1 h2
theorem SlB.same {lo hi:Nat} {w w':World} {v:Value} {zs:List Int} (h:SlB lo hi w v zs) (hs:Same lo hi w w'):SlB lo hi w' v zs:=by obtain ⟨a,n,c,e,h⟩:=h;exact ⟨a,n,c,e,h.same hs⟩
theorem SlF.same {lo hi:Nat} {w w':World} {v:Value} {zs:List Bool} (h:SlF lo hi w v zs) (hs:Same lo hi w w'):SlF lo hi w' v zs:=by obtain ⟨a,n,c,e,h⟩:=h;exact ⟨a,n,c,e,h.same hs⟩
theorem SlB.mono {lo hi lo' A:Nat} {w:World} {v:Value} {zs:List Int} (h:SlB lo hi w v zs) (h1:lo'≤lo) (h2:hi≤A):SlB lo' A w v zs:=by obtain ⟨a,n,c,e,h⟩:=h;exact ⟨a,n,c,e,h.mono h1 h2⟩
theorem SlF.mono {lo hi lo' A:Nat} {w:World} {v:Value} {zs:List Bool} (h:SlF lo hi w v zs) (h1:lo'≤lo) (h2:hi≤A):SlF lo' A w v zs:=by obtain ⟨a,n,c,e,h⟩:=h;exact ⟨a,n,c,e,h.mono h1 h2⟩
theorem RSS.same {lo hi:Nat} {w w':World} {a:Option Addr} {n y:Nat} {xs:List (List Int)} (h:RSS lo hi w a n y xs) (hs:Same lo hi w w'):RSS lo hi w' a n y xs:=RdN.imp h (fun _ _ q=>q.same hs) hs (Nat.le_refl _) (Nat.le_refl _)
theorem RFF.same {lo hi:Nat} {w w':World} {a:Option Addr} {n y:Nat} {xs:List (List Bool)} (h:RFF lo hi w a n y xs) (hs:Same lo hi w w'):RFF lo hi w' a n y xs:=RdN.imp h (fun _ _ q=>q.same hs) hs (Nat.le_refl _) (Nat.le_refl _)
theorem RSS.mono {lo hi lo' A:Nat} {w:World} {a:Option Addr} {n y:Nat} {xs:List (List Int)} (h:RSS lo hi w a n y xs) (h1:lo'≤lo) (h2:hi≤A):RSS lo' A w a n y xs:=RdN.imp h (fun _ _ q=>q.mono h1 h2) (Same.refl _ _ _) h1 h2
theorem RFF.mono {lo hi lo' A:Nat} {w:World} {a:Option Addr} {n y:Nat} {xs:List (List Bool)} (h:RFF lo hi w a n y xs) (h1:lo'≤lo) (h2:hi≤A):RFF lo' A w a n y xs:=RdN.imp h (fun _ _ q=>q.mono h1 h2) (Same.refl _ _ _) h1 h2
theorem RI.below {lo hi B:Nat} {w w':World} {a:Option Addr} {n y:Nat} {xs:List Int} (h:RI lo hi w a n y xs) (hb:Below B w w') (hB:hi≤B):RI lo hi w' a n y xs:=h.same (Same.of_below hb hB)
theorem RSS.below {lo hi B:Nat} {w w':World} {a:Option Addr} {n y:Nat} {xs:List (List Int)} (h:RSS lo hi w a n y xs) (hb:Below B w w') (hB:hi≤B):RSS lo hi w' a n y xs:=h.same (Same.of_below hb hB)
theorem RFF.below {lo hi B:Nat} {w w':World} {a:Option Addr} {n y:Nat} {xs:List (List Bool)} (h:RFF lo hi w a n y xs) (hb:Below B w w') (hB:hi≤B):RFF lo hi w' a n y xs:=h.same (Same.of_below hb hB)
structure WD where
 n:Int
 names:List (List Int)
 sets:List (List Bool)
 roles:List (List Int)
 rels:List (List Bool)
 inds:List (List Int)
 at':List Int
structure RdW (lo hi:Nat) (w:World) (na:Option Addr) (nn nc:Nat) (sa:Option Addr) (sn sc:Nat) (ra:Option Addr) (rn rc:Nat) (la:Option Addr) (ln lc:Nat) (ia:Option Addr) (im ic:Nat) (ta:Option Addr) (tn tc:Nat) (x:WD):Prop where
 names:RSS lo hi w na nn nc x.names
 sets:RFF lo hi w sa sn sc x.sets
 roles:RSS lo hi w ra rn rc x.roles
 rels:RFF lo hi w la ln lc x.rels
 inds:RSS lo hi w ia im ic x.inds
 at':RI lo hi w ta tn tc x.at'
theorem RdW.below {lo hi B:Nat} {w w':World} {na:Option Addr} {nn nc:Nat} {sa:Option Addr} {sn sc:Nat} {ra:Option Addr} {rn rc:Nat} {la:Option Addr} {ln lc:Nat} {ia:Option Addr} {im ic:Nat} {ta:Option Addr} {tn tc:Nat} {x:WD}
    (h:RdW lo hi w na nn nc sa sn sc ra rn rc la ln lc ia im ic ta tn tc x) (hb:Below B w w') (hB:hi≤B):RdW lo hi w' na nn nc sa sn sc ra rn rc la ln lc ia im ic ta tn tc x :=
 ⟨h.names.below hb hB,h.sets.below hb hB,h.roles.below hb hB,h.rels.below hb hB,h.inds.below hb hB,h.at'.below hb hB⟩
def BoxW (t:Nat) (W:World) (p:Nat) (n:Int) (v1 v2 v3 v4 v5 v6:Value):Prop:=W.heap[p]?=some (.cells #[.int .i64 n,v1,v2,v3,v4,v5,v6] t (0,0))
theorem BoxW.new (t:Nat) (W:World) (n:Int) (v1 v2 v3 v4 v5 v6:Value):BoxW t (W.alloc (.cells #[.int .i64 n,v1,v2,v3,v4,v5,v6] t)) W.heap.size n v1 v2 v3 v4 v5 v6:=World.alloc_heap_new W _
theorem BoxW.below {t:Nat} {W W':World} {p B:Nat} {n:Int} {v1 v2 v3 v4 v5 v6:Value} (h:BoxW t W p n v1 v2 v3 v4 v5 v6) (hb:Below B W W') (hB:p<B):BoxW t W' p n v1 v2 v3 v4 v5 v6:=(hb.block p hB).trans h
theorem BoxW.lt {t:Nat} {W:World} {p:Nat} {n:Int} {v1 v2 v3 v4 v5 v6:Value} (h:BoxW t W p n v1 v2 v3 v4 v5 v6):p<W.heap.size:=(Array.getElem?_eq_some_iff.1 h).1
theorem BoxW.cells {t:Nat} {W:World} {p:Nat} {n:Int} {v1 v2 v3 v4 v5 v6:Value} (h:BoxW t W p n v1 v2 v3 v4 v5 v6) :
    W.cell? ⟨p,0,none⟩=some (.int .i64 n)∧W.cell? ⟨p,1,none⟩=some v1∧W.cell? ⟨p,2,none⟩=some v2∧W.cell? ⟨p,3,none⟩=some v3∧W.cell? ⟨p,4,none⟩=some v4∧W.cell? ⟨p,5,none⟩=some v5∧W.cell? ⟨p,6,none⟩=some v6:=by
 unfold BoxW at h;refine ⟨?_,?_,?_,?_,?_,?_,?_⟩ <;> simp [World.cell?,h]
theorem BoxW.frz {t:Nat} {W:World} {p:Nat} {n:Int} {v1 v2 v3 v4 v5 v6:Value} (h:BoxW t W p n v1 v2 v3 v4 v5 v6) (o:Nat):W.frozen? ⟨p,o,none⟩=false:=by
 unfold BoxW at h;simp [World.frozen?,h]
theorem BoxW.at {t:Nat} {W:World} {p:Nat} {n:Int} {v1 v2 v3 v4 v5 v6:Value} (h:BoxW t W p n v1 v2 v3 v4 v5 v6) (i:Nat) (v:Value):(W.setCell ⟨p,i,none⟩ v).heap[p]?=some (.cells (#[.int .i64 n,v1,v2,v3,v4,v5,v6].setIfInBounds i v) t (0,0)):=heap_setCell_same W p i _ _ v h
end

section
open Go.RowKit
end

section
open Go.RowKit
theorem Tryz.info4w:(Tryz.prog.info? 4).map (fun i=>(i.zero,i.size,i.bytes))=some (some (.bool false),1,1):=by kernel_rfl
end

section
open Go.RowKit
end

section
open Go.RowKit
def lowB (c:Int):Bool:=decide (97≤c) && decide (c≤122)
def upB (c:Int):Bool:=decide (65≤c) && decide (c≤90)
theorem isLower_any (c:Int) (w:World):Calls Tryz.prog 145 #[.int .u8 c] w fun e w'=>e=.returned (.bool (lowB c))∧w'=w:=by
 by_cases h:97≤c
 · go_enter Tryz.func145, Tryz.ntmps145;go_wp2;go_ret;exact ⟨by simp [lowB,h],rfl⟩
 have hd:decide (97≤c)=false:=by simpa using h
 go_enter Tryz.func145, Tryz.ntmps145;go_wp2;go_ret;exact ⟨by simp [lowB];omega,rfl⟩
theorem l1small_any (c:Int) (w:World):Calls Tryz.prog 56 #[.int .u8 c] w fun e w'=>e=.returned (.bool (lowB c))∧w'=w:=by
 by_cases h:97≤c
 · go_enter Tryz.func56, Tryz.ntmps56;go_wp2;go_ret;exact ⟨by simp [lowB,h],rfl⟩
 have hd:decide (97≤c)=false:=by simpa using h
 go_enter Tryz.func56, Tryz.ntmps56;go_wp2;go_ret;exact ⟨by simp [lowB];omega,rfl⟩
theorem isUpper_any (c:Int) (w:World):Calls Tryz.prog 122 #[.int .u8 c] w fun e w'=>e=.returned (.bool (upB c))∧w'=w:=by
 by_cases h:65≤c
 · go_enter Tryz.func122, Tryz.ntmps122;go_wp2;go_ret;exact ⟨by simp [upB,h],rfl⟩
 have hd:decide (65≤c)=false:=by simpa using h
 go_enter Tryz.func122, Tryz.ntmps122;go_wp2;go_ret;exact ⟨by simp [upB];omega,rfl⟩
theorem l1great_any (c:Int) (w:World):Calls Tryz.prog 132 #[.int .u8 c] w fun e w'=>e=.returned (.bool (upB c))∧w'=w:=by
 by_cases h:65≤c
 · go_enter Tryz.func132, Tryz.ntmps132;go_wp2;go_ret;exact ⟨by simp [upB,h],rfl⟩
 have hd:decide (65≤c)=false:=by simpa using h
 go_enter Tryz.func132, Tryz.ntmps132;go_wp2;go_ret;exact ⟨by simp [upB];omega,rfl⟩
def longB (n:Nat):Bool:=decide (1≤n) && decide (n≤6)
theorem nameLong_any (a:Option Addr) (n A:Nat) (w:World):Calls Tryz.prog 106 #[.slice a n A] w fun e w'=>e=.returned (.bool (longB n))∧w'=w:=by
 by_cases h:(1:Int)≤(n:Int)
 · have h':1≤n:=by omega
   go_enter Tryz.func106, Tryz.ntmps106;go_wp2;go_ret;exact ⟨by simp [longB,h'];omega,rfl⟩
 have hd:decide ((1:Int)≤(n:Int))=false:=by simpa using h
 go_enter Tryz.func106, Tryz.ntmps106;go_wp2;go_ret;exact ⟨by simp [longB];omega,rfl⟩
theorem all_take_succ (zs:List Int) (k:Nat) (h:k<zs.length):(zs.take (k+1)).all lowB=((zs.take k).all lowB && lowB (zs.getD k 0)):=by
 rw [List.take_succ_eq_append_getElem h,List.all_append];simp [List.getD,h]
theorem all_false_of (zs:List Int) (k:Nat) (h:k<zs.length) (hf:lowB (zs.getD k 0)=false):zs.all lowB=false:=by
 rw [List.all_eq_false];exact ⟨zs[k],List.getElem_mem h,by simpa [List.getD,h] using hf⟩
set_option maxHeartbeats 400000 in
theorem allLower_any (a:Option Addr) (n A:Nat) (zs:List Int) (w:World) {lo hi:Nat} (h:Rd lo hi w a n A zs) :
    Calls Tryz.prog 107 #[.slice a n A] w fun e w'=>e=.returned (.bool (zs.all lowB))∧w'=w:=by
 obtain ⟨hl,⟨hn,hm⟩,F,hc⟩:=h;rcases hc with h0 | ⟨b,off,rfl,N,hb,hc⟩
 · subst h0;have hz:zs=[]:=List.eq_nil_of_length_eq_zero hl;go_enter Tryz.func107, Tryz.ntmps107;go_wp2;refine wp_loop_rounds 1 ?_;rw [rounds_succ];go_wp2;go_ret;exact ⟨by simp [hz],rfl⟩
 go_enter Tryz.func107, Tryz.ntmps107;go_wp2;go_loop [7] (fun i=>∃ k:Nat,k≤n∧i=.int .i64 k∧(zs.take k).all lowB=true) (fun i=>n - (intOf i).toNat)
 case atStart=>exact ⟨0,Nat.zero_le _,rfl,by simp⟩
 case round =>
  obtain ⟨k,hk,rfl,D⟩:=hrel;have HA:Hid ((zs.take k).all lowB=true):=D;clear D;by_cases hlt:k<n
  · obtain ⟨c,HC⟩:∃ c,Hid (c=zs.getD k 0):=⟨_,rfl⟩;have R:w.cell? ⟨b,off+k,none⟩=some (.int .u8 c):=by rw [HC.out];exact hc k hlt
    clear hc F;cases y:lowB c
    · have hf:=all_false_of zs k (by omega) (by rw [← HC.out];exact y);have HF:Hid (zs.all lowB=false):=hf;clear hf;go_wp2_with (go_at_call 145;refine (isLower_any _ _).mono ?_;rintro e w' ⟨rfl,rfl⟩;rw [y]);go_ret;exact ⟨rb HF.out.symm,rfl⟩
    have hf:=all_take_succ zs k (by omega);rw [HA.out,← HC.out,y] at hf;have HF:Hid ((zs.take (k+1)).all lowB=true):=hf;clear hf;go_wp2_with (go_at_call 145;refine (isLower_any _ _).mono ?_;rintro e w' ⟨rfl,rfl⟩;rw [y]);go_round
    case rel=>exact ⟨k+1,by omega,by go_num,HF.out⟩
    case measure=>simp [intOf];omega
  have ht:zs.take k=zs:=List.take_of_length_le (by omega);have HF:Hid (zs.all lowB=true):=by rw [← ht];exact HA.out
  clear ht hc F;go_wp2;go_ret;exact ⟨rb HF.out.symm,rfl⟩
def upOk (zs:List Int):Bool:=longB zs.length && (upB (zs.getD 0 0) && (zs.drop 1).all lowB)
def lowOk (zs:List Int):Bool:=longB zs.length && zs.all lowB
set_option maxHeartbeats 400000 in
theorem implUpperOk_any (a:Option Addr) (n A:Nat) (zs:List Int) (w:World) {lo hi:Nat} (h:Rd lo hi w a n A zs) :
    Calls Tryz.prog 68 #[.slice a n A] w fun e w'=>e=.returned (.bool (upOk zs))∧w'=w:=by
 obtain ⟨hl,⟨hn,hm⟩,F,hc⟩:=h;cases q:longB n
 · have HF:Hid (upOk zs=false):=by simp [upOk,Hid,hl,q]
   clear F hc hl;go_enter Tryz.func68, Tryz.ntmps68;go_wp2_with (go_at_call 106;refine (nameLong_any _ _ _ _).mono ?_;rintro e w' ⟨rfl,rfl⟩;rw [q]);go_ret;exact ⟨rb HF.out.symm,rfl⟩
 have h1:1≤n∧n≤6:=by simpa [longB] using q
 rcases hc with h0 | ⟨b,off,rfl,N,hb,hc⟩
 · omega
 obtain ⟨c,HC⟩:∃ c,Hid (c=zs.getD 0 0):=⟨_,rfl⟩;have R:w.cell? ⟨b,off,none⟩=some (.int .u8 c):=by rw [HC.out];exact hc 0 (by omega)
 have hT:Hid (Rd lo hi w (some ⟨b,off+1,none⟩) (n - 1) (A - 1) (zs.drop 1)):=Rd.tail ⟨hl,⟨hn,hm⟩,F,.inr ⟨b,off,rfl,N,hb,hc⟩⟩ h1.1;have HU:Hid (upOk zs=(upB c && (zs.drop 1).all lowB)):=by unfold Hid upOk;rw [hl,q,HC.out];rfl
 have hE:Hid (n≤1→Rd lo hi w (some ⟨b,off,none⟩) (n - 1) 0 (zs.drop 1)):=by
  intro h;have e1:n - 1=0:=by omega
  have e2:zs.drop 1=[]:=by rw [List.drop_eq_nil_iff,hl];omega
  rw [e1,e2];exact Rd.none_of (by omega)
 clear F hc hl;obtain ⟨g1,g6⟩:=h1;cases I:upB c
 · have HF:Hid (upOk zs=false):=by unfold Hid;rw [HU.out,I];rfl
   go_enter Tryz.func68, Tryz.ntmps68;go_wp2_with (first | (go_at_call 106;refine (nameLong_any _ _ _ _).mono ?_;rintro e w' ⟨rfl,rfl⟩;rw [q]) | (go_at_call 122;refine (isUpper_any _ _).mono ?_;rintro e w' ⟨rfl,rfl⟩;rw [I]));go_ret;exact ⟨rb HF.out.symm,rfl⟩
 have HF:Hid (upOk zs=(zs.drop 1).all lowB):=by unfold Hid;rw [HU.out,I];rfl
 go_enter Tryz.func68, Tryz.ntmps68;go_wp2_with (first | (go_at_call 106;refine (nameLong_any _ _ _ _).mono ?_;rintro e w' ⟨rfl,rfl⟩;rw [q]) | (go_at_call 122;refine (isUpper_any _ _).mono ?_;rintro e w' ⟨rfl,rfl⟩;rw [I]))
 all_goals
  refine (allLower_any _ _ _ (zs.drop 1) _ (lo:=lo) (hi:=hi) (by first | exact hT.out | exact hE.out (by omega))).mono ?_;rintro e w'' ⟨rfl,rfl⟩;go_wp2;go_ret;exact ⟨rb (by rw [HF.out,List.drop_one]),rfl⟩
set_option maxHeartbeats 400000 in
theorem specUpperOk_any (a:Option Addr) (n A:Nat) (zs:List Int) (w:World) {lo hi:Nat} (h:Rd lo hi w a n A zs) :
    Calls Tryz.prog 84 #[.slice a n A] w fun e w'=>e=.returned (.bool (upOk zs))∧w'=w:=by
 obtain ⟨hl,⟨hn,hm⟩,F,hc⟩:=h;cases q:longB n
 · have HF:Hid (upOk zs=false):=by simp [upOk,Hid,hl,q]
   have h1:n<1∨6<n:=by simp [longB] at q;omega
   clear F hc hl;rcases h1 with h1 | h1
   · go_enter Tryz.func84, Tryz.ntmps84;go_wp2;go_ret;exact ⟨rb HF.out.symm,rfl⟩
   have hd:decide ((n:Int)<1)=false:=by simp;omega
   go_enter Tryz.func84, Tryz.ntmps84;go_wp2;go_ret;exact ⟨rb HF.out.symm,rfl⟩
 have h1:1≤n∧n≤6:=by simpa [longB] using q
 have hd:decide ((n:Int)<1)=false:=by simp;omega
 have T:decide ((6:Int)<(n:Int))=false:=by simp;omega
 rcases hc with h0 | ⟨b,off,rfl,N,hb,hc⟩
 · omega
 obtain ⟨c,HC⟩:∃ c,Hid (c=zs.getD 0 0):=⟨_,rfl⟩;have R:w.cell? ⟨b,off,none⟩=some (.int .u8 c):=by rw [HC.out];exact hc 0 (by omega)
 have HU:Hid (upOk zs=(upB c && (zs.drop 1).all lowB)):=by unfold Hid upOk;rw [hl,q,HC.out];rfl
 have E:Hid (∀ j,j+1<n→w.cell? ⟨b,off+(j+1),none⟩=some (.int .u8 ((zs.drop 1).getD j 0))):=by
  intro j hj;have:=hc (j+1) hj;simpa [List.getD] using this
 have HL:Hid ((zs.drop 1).length=n - 1):=by simp [Hid,hl]
 clear F hc hl;obtain ⟨g1,g6⟩:=h1;cases I:upB c
 · have HF:Hid (upOk zs=false):=by unfold Hid;rw [HU.out,I];rfl
   go_enter Tryz.func84, Tryz.ntmps84;go_wp2_with (go_at_call 132;refine (l1great_any _ _).mono ?_;rintro e w' ⟨rfl,rfl⟩;rw [I]);go_ret;exact ⟨rb HF.out.symm,rfl⟩
 have HF:Hid (upOk zs=(zs.drop 1).all lowB):=by unfold Hid;rw [HU.out,I];rfl
 obtain ⟨ys,HY⟩:∃ ys,Hid (ys=zs.drop 1):=⟨_,rfl⟩;rw [← HY.out] at HF HL E;go_enter Tryz.func84, Tryz.ntmps84;go_wp2_with (go_at_call 132;refine (l1great_any _ _).mono ?_;rintro e w1 ⟨rfl,hw⟩;subst hw;rw [I]);go_loop [3] (fun i=>∃ k:Nat,k+1≤n∧i=.int .i64 (k+1:Nat)∧(ys.take k).all lowB=true) (fun i=>n - (intOf i).toNat)
 case atStart=>exact ⟨0,by omega,rfl,by simp⟩
 case round =>
  obtain ⟨k,hk,rfl,D⟩:=hrel;have HA:Hid ((ys.take k).all lowB=true):=D;clear D;by_cases hlt:k+1<n
  · obtain ⟨c',J⟩:∃ c,Hid (c=ys.getD k 0):=⟨_,rfl⟩;have O:w1.cell? ⟨b,off+(k+1),none⟩=some (.int .u8 c'):=by rw [J.out];exact E.out k hlt
    cases y:lowB c'
    · have G:Hid (ys.all lowB=false):=all_false_of ys k (by rw [HL.out];omega) (by rw [← J.out];exact y);go_wp2_with (go_at_call 56;refine (l1small_any _ _).mono ?_;rintro e w' ⟨rfl,rfl⟩;rw [y]);go_ret;exact ⟨rb (HF.out.trans G.out).symm,rfl⟩
    have hf:=all_take_succ ys k (by rw [HL.out];omega);rw [HA.out,← J.out,y] at hf;have G:Hid ((ys.take (k+1)).all lowB=true):=hf;clear hf;go_wp2_with (go_at_call 56;refine (l1small_any _ _).mono ?_;rintro e w' ⟨rfl,rfl⟩;rw [y]);go_round
    case rel=>exact ⟨k+1,by omega,by go_num,G.out⟩
    case measure=>simp [intOf];omega
  have ht:ys.take k=ys:=List.take_of_length_le (by rw [HL.out];omega);have G:Hid (ys.all lowB=true):=by rw [← ht];exact HA.out
  clear ht;go_wp2;go_ret;exact ⟨rb (HF.out.trans G.out).symm,rfl⟩
set_option maxHeartbeats 400000 in
theorem implLowerOk_any (a:Option Addr) (n A:Nat) (zs:List Int) (w:World) {lo hi:Nat} (h:Rd lo hi w a n A zs) :
    Calls Tryz.prog 48 #[.slice a n A] w fun e w'=>e=.returned (.bool (lowOk zs))∧w'=w:=by
 have hl:=h.len;cases q:longB n
 · have HF:Hid (lowOk zs=false):=by simp [lowOk,Hid,hl,q]
   clear h hl;go_enter Tryz.func48, Tryz.ntmps48;go_wp2_with (go_at_call 106;refine (nameLong_any _ _ _ _).mono ?_;rintro e w' ⟨rfl,rfl⟩;rw [q]);go_ret;exact ⟨rb HF.out.symm,rfl⟩
 have HF:Hid (lowOk zs=zs.all lowB):=by simp [lowOk,Hid,hl,q]
 have H:Hid (Rd lo hi w a n A zs):=h;clear h hl;go_enter Tryz.func48, Tryz.ntmps48;go_wp2_with (first | (go_at_call 106;refine (nameLong_any _ _ _ _).mono ?_;rintro e w' ⟨rfl,rfl⟩;rw [q]) | (go_at_call 107;refine (allLower_any _ _ _ zs _ H.out).mono ?_;rintro e w' ⟨rfl,rfl⟩));go_ret;exact ⟨rb HF.out.symm,rfl⟩
set_option maxHeartbeats 400000 in
theorem specLowerOk_any (a:Option Addr) (n A:Nat) (ys:List Int) (w:World) {lo hi:Nat} (h:Rd lo hi w a n A ys) :
    Calls Tryz.prog 18 #[.slice a n A] w fun e w'=>e=.returned (.bool (lowOk ys))∧w'=w:=by
 obtain ⟨hl,⟨hn,hm⟩,F,hc⟩:=h;cases q:longB n
 · have HF:Hid (lowOk ys=false):=by simp [lowOk,Hid,hl,q]
   have h1:n<1∨6<n:=by simp [longB] at q;omega
   clear F hc hl;rcases h1 with h1 | h1
   · go_enter Tryz.func18, Tryz.ntmps18;go_wp2;go_ret;exact ⟨rb HF.out.symm,rfl⟩
   have hd:decide ((n:Int)<1)=false:=by simp;omega
   go_enter Tryz.func18, Tryz.ntmps18;go_wp2;go_ret;exact ⟨rb HF.out.symm,rfl⟩
 have h1:1≤n∧n≤6:=by simpa [longB] using q
 have hd:decide ((n:Int)<1)=false:=by simp;omega
 have T:decide ((6:Int)<(n:Int))=false:=by simp;omega
 rcases hc with h0 | ⟨b,off,rfl,N,hb,hc⟩
 · omega
 have HF:Hid (lowOk ys=ys.all lowB):=by simp [lowOk,Hid,hl,q]
 have E:Hid (∀ j,j<n→w.cell? ⟨b,off+j,none⟩=some (.int .u8 (ys.getD j 0))):=hc;have HL:Hid (ys.length=n):=hl;clear F hc hl;obtain ⟨g1,g6⟩:=h1;go_enter Tryz.func18, Tryz.ntmps18;go_wp2;go_loop [3] (fun i=>∃ k:Nat,k≤n∧i=.int .i64 k∧(ys.take k).all lowB=true) (fun i=>n - (intOf i).toNat)
 case atStart=>exact ⟨0,by omega,rfl,by simp⟩
 case round =>
  obtain ⟨k,hk,rfl,D⟩:=hrel;have HA:Hid ((ys.take k).all lowB=true):=D;clear D;by_cases hlt:k<n
  · obtain ⟨c',J⟩:∃ c,Hid (c=ys.getD k 0):=⟨_,rfl⟩;have O:w.cell? ⟨b,off+k,none⟩=some (.int .u8 c'):=by rw [J.out];exact E.out k hlt
    cases y:lowB c'
    · have G:Hid (ys.all lowB=false):=all_false_of ys k (by rw [HL.out];omega) (by rw [← J.out];exact y);go_wp2_with (go_at_call 56;refine (l1small_any _ _).mono ?_;rintro e w' ⟨rfl,rfl⟩;rw [y]);go_ret;exact ⟨rb (HF.out.trans G.out).symm,rfl⟩
    have hf:=all_take_succ ys k (by rw [HL.out];omega);rw [HA.out,← J.out,y] at hf;have G:Hid ((ys.take (k+1)).all lowB=true):=hf;clear hf;go_wp2_with (go_at_call 56;refine (l1small_any _ _).mono ?_;rintro e w' ⟨rfl,rfl⟩;rw [y]);go_round
    case rel=>exact ⟨k+1,by omega,by go_num,G.out⟩
    case measure=>simp [intOf];omega
  have ht:ys.take k=ys:=List.take_of_length_le (by rw [HL.out];omega);have G:Hid (ys.all lowB=true):=by rw [← ht];exact HA.out
  clear ht;go_wp2;go_ret;exact ⟨rb (HF.out.trans G.out).symm,rfl⟩
end

section
open Go.RowKit
structure Tok where
 kind:Int
 place:Int
 text:List Int
def Tok.zero:Tok:=⟨0,0,[]⟩
structure RdT (lo hi:Nat) (w:World) (a:Option Addr) (n q:Nat) (ts:List Tok):Prop where
 len:ts.length=n
 fits:n≤q∧q≤9223372036854775807
 cells:n=0∨∃ b off,a=some ⟨b,off,none⟩∧lo≤b∧b<hi∧∀ i,i<n→∃ ta tn tc,
  w.cell? ⟨b,off+i*3,none⟩=some (.int .i64 (ts.getD i Tok.zero).kind)∧w.cell? ⟨b,off+i*3+1,none⟩=some (.int .i64 (ts.getD i Tok.zero).place) ∧
  w.cell? ⟨b,off+i*3+2,none⟩=some (.slice ta tn tc)∧Rd lo hi w ta tn tc (ts.getD i Tok.zero).text
theorem RdT.same {lo hi:Nat} {w w':World} {a:Option Addr} {n q:Nat} {ts:List Tok} (h:RdT lo hi w a n q ts) (hs:Same lo hi w w'):RdT lo hi w' a n q ts:=by
 obtain ⟨hl,hm,hc⟩:=h;refine ⟨hl,hm,?_⟩;rcases hc with h0 | ⟨b,off,e,h1,h2,hc⟩
 · exact .inl h0
 refine .inr ⟨b,off,e,h1,h2,fun i hi=>?_⟩;obtain ⟨ta,tn,tc,c1,c2,c3,c4⟩:=hc i hi;exact ⟨ta,tn,tc,(hs.cell (p:=⟨b,_,none⟩) h1 h2).trans c1,(hs.cell (p:=⟨b,_,none⟩) h1 h2).trans c2,(hs.cell (p:=⟨b,_,none⟩) h1 h2).trans c3,c4.same hs⟩
def leafT (b off:Nat) (tx:Nat→Nat × Nat × Nat) (n:Nat):List (Addr × IntKind) :=
 (List.range n).flatMap (fun i=>(⟨b,off+i*3,none⟩,.i64) :: (⟨b,off+i*3+1,none⟩,.i64) :: leafB (tx i).1 (tx i).2.1 (tx i).2.2)
theorem leafT_succ (b off:Nat) (tx:Nat→Nat × Nat × Nat) (n:Nat) :
    leafT b off tx (n+1)=leafT b off tx n++((⟨b,off+n*3,none⟩,.i64) :: (⟨b,off+n*3+1,none⟩,.i64) :: leafB (tx n).1 (tx n).2.1 (tx n).2.2):=by
 simp [leafT,List.range_succ]
def HeadT (w:World) (b off:Nat) (tx:Nat→Nat × Nat × Nat) (n:Nat):Prop :=
 ∀ i,i<n→∃ ta tc,w.cell? ⟨b,off+i*3+2,none⟩=some (.slice ta (tx i).2.2 tc)∧((tx i).2.2=0∨ta=some ⟨(tx i).1,(tx i).2.1,none⟩)∧(tx i).2.2≤1048576
theorem HeadT.marks {b off n:Nat} {tx:Nat→Nat × Nat × Nat} {L:List (Addr × IntKind)}:∀ {w:World},HeadT w b off tx n→LeafOk w L→∀ k,HeadT (marks w L k) b off tx n:=by
 induction L with
 | nil=>intro w h _ k;exact h
 | cons x L ih =>
  intro w h hL k;obtain ⟨a,kd⟩:=x;obtain ⟨⟨m,hm⟩,hf⟩:=hL (a,kd) (by simp);have y:=hL.set hm (kd.wrap k);refine ih (fun i hi=>?_) (fun x hx=>y x (by simp [hx])) (k+1);obtain ⟨ta,tc,hc,r⟩:=h i hi;refine ⟨ta,tc,?_,r⟩;rw [World.cell?_setCell_other _ _ _ _ (fun e=>by rw [e] at hm;rw [hm] at hc;simp at hc)];exact hc
end

section
open Go.RowKit
end

section
open Go
open Go.RowKit
section
variable {P:Program} {md:Region.Mode} {q:Array Oper} {Q:Exit→Act→World→Prop}
def leftB (l:Array Bool):Nat:=l.toList.countP (fun b=>!b)
theorem countP_set {l:List Bool}:∀ {i:Nat},l[i]?=some false→(l.set i true).countP (fun b=>!b)+1=l.countP (fun b=>!b):=by
 induction l with
 | nil=>intro i h;simp at h
 | cons x xs ih =>
  intro i h;cases i with
  | zero =>
   simp only [List.getElem?_cons_zero,Option.some.injEq] at h;subst h;simp
  | succ i =>
   simp only [List.getElem?_cons_succ] at h;have:=ih h;rw [List.set_cons_succ,List.countP_cons,List.countP_cons];omega
theorem ready_false {l:Array Bool} {i:Nat} (h:i∈Region.ready md q l):l[i]?=some false∧i<q.size∧∃ o,q[i]?=some o∧(o.after.all fun e=>!Region.binds md e || l.getD e.on false)=true:=by
 unfold Region.ready at h;rw [List.mem_filter] at h;obtain ⟨h1,h2⟩:=h;rw [Bool.and_eq_true] at h2;obtain ⟨h3,h4⟩:=h2;refine ⟨?_,List.mem_range.1 h1,?_⟩
 · rw [Array.getD_eq_getD_getElem?] at h3;cases e:l[i]? with
   | none=>rw [e] at h3;simp at h3
   | some b=>rw [e] at h3;simp at h3;rw [h3]
 cases e:q[i]? with
 | none=>rw [e] at h4;simp at h4
 | some o=>rw [e] at h4;exact ⟨o,rfl,by simpa using h4⟩
theorem left_set {l:Array Bool} {i:Nat} (h:l[i]?=some false):leftB (l.setIfInBounds i true)+1=leftB l:=by
 unfold leftB;rw [Array.toList_setIfInBounds];exact countP_set (by simpa using h)
theorem wpAny_inv (I:Array Bool→Act→World→Prop)
    (D:∀ (l:Array Bool) (a:Act) (w:World) (i:Nat),I l a w→i∈Region.ready md q l→wpOp P q Q i (I (l.setIfInBounds i true)) a w)
    (y:∀ (l:Array Bool) (a:Act) (w:World),I l a w→Region.ready md q l=[]→Q .normal a w) :
    ∀ (fuel:Nat) (l:Array Bool) (a:Act) (w:World),leftB l≤fuel→I l a w→wpAny P md q Q fuel l a w:=by
 intro fuel
 induction fuel with
 | zero =>
  intro l a w hl hI
  have hr:Region.ready md q l=[]:=by
   cases e:Region.ready md q l with
   | nil=>rfl
   | cons i t =>
    have hi:i∈Region.ready md q l:=by rw [e];simp
    have:=left_set (ready_false hi).1;omega
  exact ⟨hr,y l a w hI hr⟩
 | succ fuel ih =>
  intro l a w hl hI;refine ⟨fun hr=>y l a w hI hr,fun i hi=>?_⟩;have E:=left_set (ready_false hi).1;exact wpOp_mono (fun a' w' h'=>ih _ a' w' (by omega) h') (D l a w i hI hi)
end
end

end Go.Proofs.YtnmljalcndfjmaaGreat
