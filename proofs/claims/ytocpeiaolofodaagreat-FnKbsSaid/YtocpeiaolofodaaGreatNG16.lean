/- Several texts in one: ConClone2, DrawTok, ReadMem, ConSpO, ConNnfS. -/
import Derived.Test.YtocpeiaolofodaaGreatAxSay
import Derived.Test.YtocpeiaolofodaaGreatNG7
import Derived.Deep.RegionHeld
import Derived.Deep.RegionLaw
import Derived.Deep.AppendLies
import Derived.Deep.DeepCutAuto
import Derived.Test.YtocpeiaolofodaaGreatNG1
import Derived.Lib.AppendStr
import Derived.Lib.ConvBytes
import Derived.Test.YtocpeiaolofodaaGreatNG5
import Derived.Test.YtocpeiaolofodaaGreatNG4
import Derived.Deep.RegionLawGrows
namespace Go.Proofs.YtocpeiaolofodaaGreat

section
open Go.RowKit
theorem Tryz.infoCon4:(Tryz.prog.info? 37).map (fun i=>(i.zero,i.size,i.bytes))=some (some (.agg #[.int .i64 0,.slice none 0 0,.slice none 0 0,.slice none 0 0]),4,80):=by kernel_rfl
theorem OwnB.isSlice {base:Nat} {w:World} {v:Value} {zs:List Int} (h:OwnB base w v zs):∃ a n c,v=.slice a n c:=by
 rcases h.2 with ⟨rfl,_⟩ | ⟨g,E,cur,rfl,_⟩
 · exact ⟨_,_,_,rfl⟩
 exact ⟨_,_,_,rfl⟩
theorem OwnB.mono {base base':Nat} {w:World} {v:Value} {zs:List Int} (h:OwnB base w v zs) (hb:base'≤base):OwnB base' w v zs:=by
 obtain ⟨h1,h2⟩:=h;refine ⟨h1,?_⟩;rcases h2 with h2 | ⟨g,E,cur,hv,hg,r⟩
 · exact .inl h2
 exact .inr ⟨g,E,cur,hv,by omega,r⟩
theorem BoxC.frz {W:World} {b:Nat} {v0 v1 v2 v3:Value} (h:BoxC W b v0 v1 v2 v3) (o:Nat):W.frozen? ⟨b,o,none⟩=false:=by
 unfold BoxC at h;simp [World.frozen?,h]
theorem S3.of {W W':World} {b:Nat} {v0 v1 v2:Value} (hk:W'.heap[b]?=W.heap[b]?) (h:W.cell? ⟨b,0,none⟩=some v0∧W.cell? ⟨b,1,none⟩=some v1∧W.cell? ⟨b,2,none⟩=some v2):W'.cell? ⟨b,0,none⟩=some v0∧W'.cell? ⟨b,1,none⟩=some v1∧W'.cell? ⟨b,2,none⟩=some v2:=by
 simp only [World.cell?,hk] at h ⊢;exact h
theorem S3.alloc {W:World} {b:Nat} {v0 v1 v2:Value} {o:Obj} (h:W.cell? ⟨b,0,none⟩=some v0∧W.cell? ⟨b,1,none⟩=some v1∧W.cell? ⟨b,2,none⟩=some v2) (hb:b<W.heap.size):(W.alloc o).cell? ⟨b,0,none⟩=some v0∧(W.alloc o).cell? ⟨b,1,none⟩=some v1∧(W.alloc o).cell? ⟨b,2,none⟩=some v2 :=
 S3.of (Below.heap_alloc _ _ _ hb) h
theorem S3.drew {W:World} {b:Nat} {v0 v1 v2:Value} (h:W.cell? ⟨b,0,none⟩=some v0∧W.cell? ⟨b,1,none⟩=some v1∧W.cell? ⟨b,2,none⟩=some v2):W.drew.cell? ⟨b,0,none⟩=some v0∧W.drew.cell? ⟨b,1,none⟩=some v1∧W.drew.cell? ⟨b,2,none⟩=some v2:=S3.of rfl h
theorem S4.of {W W':World} {b:Nat} {v0 v1 v2 v3:Value} (hk:W'.heap[b]?=W.heap[b]?) (h:W.cell? ⟨b,0,none⟩=some v0∧W.cell? ⟨b,1,none⟩=some v1∧W.cell? ⟨b,2,none⟩=some v2∧W.cell? ⟨b,3,none⟩=some v3):W'.cell? ⟨b,0,none⟩=some v0∧W'.cell? ⟨b,1,none⟩=some v1∧W'.cell? ⟨b,2,none⟩=some v2∧W'.cell? ⟨b,3,none⟩=some v3:=by
 simp only [World.cell?,hk] at h ⊢;exact h
theorem S4.drew {W:World} {b:Nat} {v0 v1 v2 v3:Value} (h:W.cell? ⟨b,0,none⟩=some v0∧W.cell? ⟨b,1,none⟩=some v1∧W.cell? ⟨b,2,none⟩=some v2∧W.cell? ⟨b,3,none⟩=some v3):W.drew.cell? ⟨b,0,none⟩=some v0∧W.drew.cell? ⟨b,1,none⟩=some v1∧W.drew.cell? ⟨b,2,none⟩=some v2∧W.drew.cell? ⟨b,3,none⟩=some v3:=S4.of rfl h
theorem new4 (w:World) (g:Nat) (x y z u:Value) (t:Nat) (hg:g=w.heap.size):∀ j v,[x,y,z,u][j]?=some v→(w.alloc (.cells #[x,y,z,u] t)).cell? ((⟨g,0,none⟩:Addr).add j)=some v:=by
 intro j v hu;subst hg;rw [Addr.add_lit]
 match j,hu with
 | 0,hu=>simp at hu;subst hu;simp
 | 1,hu=>simp at hu;subst hu;simp
 | 2,hu=>simp at hu;subst hu;simp
 | 3,hu=>simp at hu;subst hu;simp
theorem one4 (k:Int) (a1:Option Addr) (n1 c1:Nat) (a2:Option Addr) (n2 c2:Nat) (a3:Option Addr) (n3 c3:Nat):∀ u∈[Value.int .i64 k,.slice a1 n1 c1,.slice a2 n2 c2,.slice a3 n3 c3],u.oneCell'=true:=by
 intro u hu;simp at hu;rcases hu with rfl | rfl | rfl | rfl <;> rfl
theorem heap_set4 (W:World) {b o:Nat} (x0 x1 x2 x3:Value) (hb:b≠o):((((W.setCell ⟨o,0,none⟩ x0).setCell ⟨o,1,none⟩ x1).setCell ⟨o,2,none⟩ x2).setCell ⟨o,3,none⟩ x3).heap[b]?=W.heap[b]?:=by
 rw [Below.heap_setCell _ ⟨o,3,none⟩ _ b hb,Below.heap_setCell _ ⟨o,2,none⟩ _ b hb,Below.heap_setCell _ ⟨o,1,none⟩ _ b hb,Below.heap_setCell _ ⟨o,0,none⟩ _ b hb]
theorem S3.set4 {W:World} {b o:Nat} {v0 v1 v2 x0 x1 x2 x3:Value} (h:W.cell? ⟨b,0,none⟩=some v0∧W.cell? ⟨b,1,none⟩=some v1∧W.cell? ⟨b,2,none⟩=some v2) (hb:b<o) :
    ((((W.setCell ⟨o,0,none⟩ x0).setCell ⟨o,1,none⟩ x1).setCell ⟨o,2,none⟩ x2).setCell ⟨o,3,none⟩ x3).cell? ⟨b,0,none⟩=some v0∧((((W.setCell ⟨o,0,none⟩ x0).setCell ⟨o,1,none⟩ x1).setCell ⟨o,2,none⟩ x2).setCell ⟨o,3,none⟩ x3).cell? ⟨b,1,none⟩=some v1 ∧
     ((((W.setCell ⟨o,0,none⟩ x0).setCell ⟨o,1,none⟩ x1).setCell ⟨o,2,none⟩ x2).setCell ⟨o,3,none⟩ x3).cell? ⟨b,2,none⟩=some v2 :=
 S3.of (heap_set4 W x0 x1 x2 x3 (Nat.ne_of_lt hb)) h
structure Pre (B:Nat) (w0 W:World) (ov:Value) (k:Int) (name role:List Int) (ob B1:Nat) (nv rv:Value):Prop where
 ptr:ov=.pointer (some ⟨ob,0,none⟩)
 box:BoxC W ob (.int .i64 k) nv rv (.slice none 0 0)
 ge:B≤ob
 bel:Below B w0 W
 nam:OwnB B W nv name
 naml:∀ g,nv.ownBlock=some g→g<B1
 rol:OwnB B1 W rv role
 roll:∀ g,rv.ownBlock=some g→g<W.heap.size
 b1:B≤B1∧B1≤W.heap.size
theorem OwnB.keepB {base:Nat} {w w':World} {v:Value} {zs:List Int} (h:OwnB base w v zs) (hk:∀ g,v.ownBlock=some g→w'.heap[g]?=w.heap[g]?):OwnB base w' v zs:=by
 obtain ⟨h1,h2⟩:=h;refine ⟨h1,?_⟩;rcases h2 with h2 | ⟨g,E,cur,rfl,hg,hh,r⟩
 · exact .inl h2
 exact .inr ⟨g,E,cur,rfl,hg,by rw [hk g rfl];exact hh,r⟩
theorem OwnB.notBox {base:Nat} {w:World} {v:Value} {zs:List Int} {o:Nat} {v0 v1 v2 v3:Value} (h:OwnB base w v zs) (hb:BoxC w o v0 v1 v2 v3):∀ g,v.ownBlock=some g→g≠o:=by
 intro g hg e;rcases h.2 with ⟨rfl,_⟩ | ⟨g',E,cur,rfl,_,hh,_⟩
 · simp [Value.ownBlock] at hg
 simp only [Value.ownBlock,Option.some.injEq] at hg;subst hg;subst e;unfold BoxC at hb;rw [hb] at hh;simp at hh
theorem Pre.last {W0 w1 w2:World} {k:Int} {nv rv:Value} {name role:List Int} (h1:OwnB W0.heap.size w1 nv name) (b1:Below W0.heap.size W0 w1) (h2:OwnB w1.heap.size w2 rv role) (b2:Below w1.heap.size w1 w2) :
    Pre W0.heap.size W0 (w2.alloc (.cells #[.int .i64 k,nv,rv,.slice none 0 0] 37)) (.pointer (some ⟨w2.heap.size,0,none⟩)) k name role w2.heap.size w1.heap.size nv rv:=by
 have I:=b1.size;have Y:=b2.size;have b3:Below w2.heap.size w2 (w2.alloc (.cells #[.int .i64 k,nv,rv,.slice none 0 0] 37)):=(Below.refl _ _).alloc (Nat.le_refl _) _;refine ⟨rfl,BoxC.new w2 _ _ _ _,by omega,(b1.trans (b2.mono I)).trans (b3.mono (by omega)),(h1.below b2 (Nat.le_refl _)).below b3 (Nat.le_refl _),fun g hg=>(h1.lt g hg).2,h2.below b3 (Nat.le_refl _),fun g hg=>?_,I,?_⟩
 · have:=(h2.lt g hg).2;rw [World.size_alloc];omega
 rw [World.size_alloc];omega
theorem BoxC.set4 {W:World} {b:Nat} {v0 v1 v2 v3:Value} (h:BoxC W b v0 v1 v2 v3) (x0 x1 x2 x3:Value):BoxC ((((W.setCell ⟨b,0,none⟩ x0).setCell ⟨b,1,none⟩ x1).setCell ⟨b,2,none⟩ x2).setCell ⟨b,3,none⟩ x3) b x0 x1 x2 x3:=by
 unfold BoxC at h ⊢;have e0:=heap_setCell_same W b 0 _ _ x0 h;have e1:=heap_setCell_same _ b 1 _ _ x1 e0;have e2:=heap_setCell_same _ b 2 _ _ x2 e1;have e3:=heap_setCell_same _ b 3 _ _ x3 e2;rw [e3];rfl
theorem Pre.set {W0 w1 w2:World} {k:Int} {nv rv:Value} {name role:List Int} {ob:Nat} {z0 z1 z2 z3:Value} (h1:OwnB W0.heap.size w1 nv name) (b1:Below W0.heap.size W0 w1) (h2:OwnB w1.heap.size w2 rv role) (b2:Below w1.heap.size w1 w2) (hb:BoxC w2 ob z0 z1 z2 z3) (ho:W0.heap.size≤ob) :
    Pre W0.heap.size W0 ((((w2.setCell ⟨ob,0,none⟩ (.int .i64 k)).setCell ⟨ob,1,none⟩ nv).setCell ⟨ob,2,none⟩ rv).setCell ⟨ob,3,none⟩ (.slice none 0 0)) (.pointer (some ⟨ob,0,none⟩)) k name role ob w1.heap.size nv rv:=by
 have I:=b1.size;have Y:=b2.size;have Z:=h1.below b2 (Nat.le_refl _);have X:((((w2.setCell ⟨ob,0,none⟩ (.int .i64 k)).setCell ⟨ob,1,none⟩ nv).setCell ⟨ob,2,none⟩ rv).setCell ⟨ob,3,none⟩ (.slice none 0 0)).heap.size=w2.heap.size:=by simp
 refine ⟨rfl,hb.set4 _ _ _ _,ho,((((b1.trans (b2.mono I)).setCell ho _).setCell ho _).setCell ho _).setCell ho _,Z.keepB (fun g hg=>heap_set4 _ _ _ _ _ (Z.notBox hb g hg)),fun g hg=>(h1.lt g hg).2,h2.keepB (fun g hg=>heap_set4 _ _ _ _ _ (h2.notBox hb g hg)),fun g hg=>?_,I,?_⟩
 · rw [X];exact (h2.lt g hg).2
 rw [X];exact Y
structure Inv (W0:World) (BW B1 ob d:Nat) (k:Int) (nv rv:Value) (name role:List Int) (wr:World) (kv:Value) (cs:List CN) (Ls:List (List (Addr × IntKind))) (xs:List Value):Prop where
 row:RowK BW wr d kv cs Ls xs
 sep:SepK BW wr Ls
 box:BoxC wr ob (.int .i64 k) nv rv kv
 nam:OwnB W0.heap.size wr nv name
 rol:OwnB B1 wr rv role
 bel:Below W0.heap.size W0 wr
 sz:BW≤wr.heap.size
structure Stat (W0:World) (BW B1 ob:Nat) (nv rv:Value):Prop where
 o1:ob<BW
 o0:W0.heap.size≤ob
 nl:∀ g,nv.ownBlock=some g→g<B1
 rl:∀ g,rv.ownBlock=some g→g<BW
 b1:B1≤BW
 b0:W0.heap.size≤B1
theorem Inv.below {W0 wr w':World} {BW B1 ob d:Nat} {k:Int} {nv rv kv:Value} {name role:List Int} {cs:List CN} {Ls:List (List (Addr × IntKind))} {xs:List Value} (h:Inv W0 BW B1 ob d k nv rv name role wr kv cs Ls xs) (hb:Below wr.heap.size wr w') :
    Inv W0 BW B1 ob d k nv rv name role w' kv cs Ls xs:=by
 have hs:=hb.size;exact ⟨h.row.below hb,h.sep.below hb h.row.lt,h.box.below hb h.box.lt,h.nam.below hb (Nat.le_refl _),h.rol.below hb (Nat.le_refl _),h.bel.trans (hb.mono h.bel.size),Nat.le_trans h.sz hs⟩
theorem Inv.app {W0 W w6:World} {BW B1 ob d:Nat} {k:Int} {nv rv kv:Value} {name role:List Int} {cs:List CN} {Ls:List (List (Addr × IntKind))} {xs:List Value} (hS:Stat W0 BW B1 ob nv rv) (h:Inv W0 BW B1 ob d k nv rv name role W kv cs Ls xs)
    {c:CN} {L:List (Addr × IntKind)} {v0 v1 v2 v3:Value} {B g E n:Nat} (hc:OwnC B W d (.agg #[v0,v1,v2,v3]) c L) (hB:BW≤B) (a7:∀ x∈Ls.flatten,x.1.block<B) (a5:∀ g,kv.ownBlock=some g→g<B) (hn:n=cs.length+1)
    (N:w6.ownsRow BW 37 4 (.slice (some ⟨g,0,none⟩) n E) n (xs++[v0,v1,v2,v3])) (A:W.grownBy w6 kv.ownBlock) (a6:kv.ownBlock=some g∨g=W.heap.size) :
    BoxC w6 ob (.int .i64 k) nv rv kv∧Inv W0 BW B1 ob d k nv rv name role (w6.setCell ⟨ob,3,none⟩ (.slice (some ⟨g,0,none⟩) n E)) (.slice (some ⟨g,0,none⟩) n E) (cs++[c]) (Ls++[L]) (xs++[v0,v1,v2,v3]):=by
 subst hn;have a0:=h.row.row.lt;have H:∀ b,b<BW→kv.ownBlock≠some b:=fun b hb e=>by have:=a0 b e;omega
 have D:BoxC w6 ob (.int .i64 k) nv rv kv:=(A.block ob h.box.lt (fun e=>H ob hS.o1 e.symm)).trans h.box;have G:∀ x∈L,kv.ownBlock≠some x.1.block:=fun x hx e=>by have:=a5 _ e;have:=(hc.bl x hx).1;omega
 have O:RowK BW w6 d (.slice (some ⟨g,0,none⟩) (cs.length+1) E) (cs++[c]) (Ls++[L]) (xs++[v0,v1,v2,v3]) :=
  h.row.snoc hc.ow (fun x hx=>(hc.bl x hx).2) G N A (by
   rcases a6 with e | e
   · exact .inl (by rw [e];rfl)
   exact .inr (by rw [← e];rfl))
 have F:SepK BW w6 (Ls++[L]):=h.sep.snoc hc hB a7 h.row.lt A (by
     intro x hx;simp only [List.flatten_append,List.mem_append,List.flatten_cons,List.flatten_nil,List.append_nil] at hx;rcases hx with hx | hx
     · exact h.row.off x hx
     exact G x hx)
 have a9:=N.lt g rfl;have U:OwnB W0.heap.size w6 nv name:=h.nam.keepB (fun g' J=>A.block g' (h.nam.lt g' J).2 (fun e=>H g' (Nat.lt_of_lt_of_le (hS.nl g' J) hS.b1) e.symm));have T:OwnB B1 w6 rv role:=h.rol.keepB (fun g' J=>A.block g' (h.rol.lt g' J).2 (fun e=>H g' (hS.rl g' J) e.symm));have a8:=hS.o1;have a4:=hS.o0;have V:Below W0.heap.size W0 w6:=h.bel.grown A h.bel.size (fun x hx=>by have:=a0 x hx;have:=hS.b0;have:=hS.b1;omega);refine ⟨D,⟨O.set 3 _ (fun x hx=>by have:=F.ge x hx;omega) (fun e=>by simp only [Value.ownBlock,Option.some.injEq] at e;omega),F.set _ _,D.set3 _,U.setCon D _,T.setCon D _,V.setCell a4 _,?_⟩⟩;have:=h.sz;have:=A.size;simp;omega
theorem RowK.isSlice {base:Nat} {w:World} {d:Nat} {v:Value} {cs:List CN} {Ls:List (List (Addr × IntKind))} {xs:List Value} (h:RowK base w d v cs Ls xs):∃ a n c,v=.slice a n c:=by
 rcases h.row.2 with ⟨rfl,_⟩ | ⟨g,E,cur,rfl,_⟩
 · exact ⟨_,_,_,rfl⟩
 exact ⟨_,_,_,rfl⟩
theorem OwnC.same {base:Nat} {w w':World} {d:Nat} {v:Value} {c:CN} {L:List (Addr × IntKind)} (h:OwnC base w d v c L) (hk:∀ b,base≤b→b<w.heap.size→w'.heap[b]?=w.heap[b]?) (hs:w.heap.size≤w'.heap.size):OwnC base w' d v c L :=
 ⟨h.ow.keep (fun x hx=>hk _ (h.bl x hx).1 (h.bl x hx).2),h.nd,fun x hx=>(World.frozen?_of_block (w:=w) (hk _ (h.bl x hx).1 (h.bl x hx).2)).trans (h.fr x hx),fun x hx=>⟨(h.bl x hx).1,Nat.lt_of_lt_of_le (h.bl x hx).2 hs⟩⟩
end

section
open Go.RowKit
def numsOf (s:ByteArray):List Int:=s.data.toList.map (fun b=>(b.toNat:Int))
theorem strCells_nums (s:ByteArray):Lib.strCells s=(numsOf s).map (Value.int .u8):=by
 unfold Lib.strCells numsOf;rw [List.map_map];rfl
theorem numsOf_len (s:ByteArray):(numsOf s).length=s.size:=by unfold numsOf;rw [List.length_map,Array.length_toList];rfl
theorem numsOf_byte (s:ByteArray):∀ x∈numsOf s,0≤x∧x≤255:=by
 intro x hx;simp only [numsOf,List.mem_map] at hx;obtain ⟨b,_,rfl⟩:=hx;have:=b.toNat_lt;omega
theorem bytes_below (W:World) (e:TypeId) (s:ByteArray):Below W.heap.size W (Lib.bytesWorld W e s):=⟨rfl,rfl,rfl,by rw [Lib.bytesWorld_size];omega,fun k hk=>Lib.bytesWorld_at_old W e s k hk⟩
theorem getD_byte {zs:List Int} (h:∀ x∈zs,0≤x∧x≤255):∀ i,0≤zs.getD i 0∧zs.getD i 0≤255:=by
 intro i;by_cases hi:i<zs.length
 · have:=h _ (List.getElem_mem hi);simpa [List.getD,hi] using this
 simp [List.getD,List.getElem?_eq_none (Nat.le_of_not_lt hi)]
theorem ownB_strN {base:Nat} {W w2:World} {v v':Value} {xs:List Int} {s:ByteArray} (hO:OwnB base W v xs) (hb:base≤W.heap.size)
    (j:w2.ownsRow base 5 1 v' (xs.length+s.size) (xs.map (Value.int .u8)++Lib.strCells s)) (z:W.grownBy w2 v.ownBlock) :
    OwnB base w2 v' (xs++numsOf s)∧Keep5 base W w2:=by
 rw [strCells_nums,← numsOf_len] at j;exact ownB_app hO hb j z
theorem Cur.of {w w':World} {B:Nat} {a:Option Addr} {n D:Nat} {zs:List Int} {hi:Nat} (c:Cur w B a n D zs hi) (hb:Below (B+1) w w'):Cur w' B a n D zs hi:=by
 obtain ⟨⟨i,h,E,q⟩,c2,c3⟩:=c;exact ⟨⟨i,h,E,(hb.block B (Nat.lt_succ_self _)).trans q⟩,c2.below hb (by omega),c3⟩
theorem Cur.lt {w:World} {B:Nat} {a:Option Addr} {n D:Nat} {zs:List Int} {hi:Nat} (c:Cur w B a n D zs hi):B<w.heap.size:=by
 obtain ⟨⟨i,h,E,q⟩,c2,c3⟩:=c;exact q.lt
theorem Only.step {B:Nat} {w a b:World} (h:Only B w a) (hB:B<w.heap.size) (k:Below w.heap.size a b):Only B w b :=
 ⟨h.below.trans (k.mono (Nat.le_of_lt hB)),fun x h1 h2=>(k.block x h1).trans (h.other x h1 h2)⟩
theorem OwnB.only {base B:Nat} {w w':World} {v:Value} {xs:List Int} (h:OwnB base w v xs) (k:Only B w w') (hB:B<base):OwnB base w' v xs :=
 h.keepB (fun g hg=>k.other g (OwnB.lt h g hg).2 (by have:=(OwnB.lt h g hg).1;omega))
end

section
open Go.RowKit
structure Bt (pb B:Nat) (w w':World):Prop where
 os:w'.os=w.os
 tape:w'.tape=w.tape
 output:w'.output=w.output
 size:w.heap.size≤w'.heap.size
 block:∀ k,k<B→k≠pb→w'.heap[k]?=w.heap[k]?
theorem Bt.refl (pb B:Nat) (w:World):Bt pb B w w:=⟨rfl,rfl,rfl,Nat.le_refl _,fun _ _ _=>rfl⟩
theorem Bt.trans {pb B:Nat} {a b c:World} (h:Bt pb B a b) (k:Bt pb B b c):Bt pb B a c :=
 ⟨k.os.trans h.os,k.tape.trans h.tape,k.output.trans h.output,Nat.le_trans h.size k.size,fun i hi hn=>(k.block i hi hn).trans (h.block i hi hn)⟩
theorem Bt.mono {pb B B':Nat} {w w':World} (h:Bt pb B w w') (hB:B'≤B):Bt pb B' w w':=⟨h.os,h.tape,h.output,h.size,fun k hk hn=>h.block k (Nat.lt_of_lt_of_le hk hB) hn⟩
theorem Bt.drew {pb B:Nat} {a w:World} (h:Bt pb B a w):Bt pb B a w.drew:=⟨h.os,h.tape,h.output,h.size,h.block⟩
theorem Bt.of_below {pb B:Nat} {w w':World} (h:Below B w w'):Bt pb B w w':=⟨h.os,h.tape,h.output,h.size,fun k hk _=>h.block k hk⟩
theorem Bt.alloc {pb B:Nat} {a w:World} (h:Bt pb B a w) (hB:B≤w.heap.size) (o:Obj):Bt pb B a (w.alloc o):=h.trans (Bt.of_below ((Below.refl _ _).alloc hB o))
theorem Bt.set {pb B:Nat} {a w:World} (h:Bt pb B a w) {p:Addr} (hp:B≤p.block∨p.block=pb) (u:Value):Bt pb B a (w.setCell p u) :=
 h.trans ⟨rfl,rfl,rfl,by simp [World.setCell],fun k hk hn=>Below.heap_setCell _ _ _ _ (by omega)⟩
theorem Bt.grown {pb B:Nat} {a w w':World} {row:Option Nat} (h:Bt pb B a w) (hg:w.grownBy w' row) (hB:B≤w.heap.size) (hr:∀ k,row=some k→B≤k):Bt pb B a w' :=
 h.trans (Bt.of_below ((Below.refl _ _).grown hg hB hr))
theorem Bt.below {pb B B':Nat} {w w':World} (h:Bt pb B w w') (h1:B'≤B) (h2:B'≤pb):Below B' w w':=⟨h.os,h.tape,h.output,h.size,fun k hk=>h.block k (by omega) (by omega)⟩
structure TkM (base pb:Nat) (w:World) (g:Nat) (ts:List Tok) (gs:List (Nat × Nat)):Prop where
 glt:ts.length=0∨(base≤g∧g<pb)
 cell:∀ i,i<ts.length→w.cell? ⟨g,i*3,none⟩=some (.int .i64 (ts.getD i Tok.zero).kind)∧w.cell? ⟨g,i*3+1,none⟩=some (.int .i64 (ts.getD i Tok.zero).place)∧w.cell? ⟨g,i*3+2,none⟩=some (txv (ts.getD i Tok.zero) (gs.getD i (0,0)))
 txt:∀ i,i<ts.length→(ts.getD i Tok.zero).text≠[]→(base≤(gs.getD i (0,0)).1∧(gs.getD i (0,0)).1<pb)∧Row w (gs.getD i (0,0)).1 (gs.getD i (0,0)).2 (ts.getD i Tok.zero).text∧(gs.getD i (0,0)).2≤9223372036854775807
 byte:∀ i,i<ts.length→∀ j,0≤(ts.getD i Tok.zero).text.getD j 0∧(ts.getD i Tok.zero).text.getD j 0≤255
 dist:∀ i j,i<j→j<ts.length→(ts.getD i Tok.zero).text≠[]→(ts.getD j Tok.zero).text≠[]→(gs.getD i (0,0)).1≠(gs.getD j (0,0)).1
theorem TkM.keep {base pb:Nat} {w w':World} {g:Nat} {ts:List Tok} {gs:List (Nat × Nat)} (h:TkM base pb w g ts gs) (hb:∀ q,base≤q→q<pb→w'.heap[q]?=w.heap[q]?):TkM base pb w' g ts gs:=by
 obtain ⟨h1,h2,h3,h4,h5⟩:=h;refine ⟨h1,fun i hi=>?_,fun i hi ht=>⟨(h3 i hi ht).1,(h3 i hi ht).2.1.of_block (hb _ (h3 i hi ht).1.1 (h3 i hi ht).1.2),(h3 i hi ht).2.2⟩,h4,h5⟩;have hg:=hb g (by omega) (by omega);obtain ⟨c0,c1,c2⟩:=h2 i hi;exact ⟨(World.cell?_of_block (w:=w) hg).trans c0,(World.cell?_of_block (w:=w) hg).trans c1,(World.cell?_of_block (w:=w) hg).trans c2⟩
theorem TkM.below {base pb:Nat} {w w':World} {g:Nat} {ts:List Tok} {gs:List (Nat × Nat)} (h:TkM base pb w g ts gs) (hb:Below pb w w'):TkM base pb w' g ts gs:=h.keep (fun q _ hq=>hb.block q hq)
theorem TkM.bt {base pb B:Nat} {w w':World} {g:Nat} {ts:List Tok} {gs:List (Nat × Nat)} (h:TkM base pb w g ts gs) (hb:Bt pb B w w') (hB:pb≤B):TkM base pb w' g ts gs:=h.below (hb.below hB (Nat.le_refl _))
theorem OwnT.tkm {base pb:Nat} {w:World} {v:Value} {ts:List Tok} {gs:List (Nat × Nat)} (h:OwnT base w v ts gs) (D:w.heap.size≤pb) :
    ∃ a z g,v=.slice a ts.length z∧(ts.length=0∨a=some ⟨g,0,none⟩)∧ts.length≤z∧z≤9223372036854775807∧TkM base pb w g ts gs:=by
 obtain ⟨h1,h2,h3,h4,h5⟩:=h
 have ht:∀ i,i<ts.length→(ts.getD i Tok.zero).text≠[]→(base≤(gs.getD i (0,0)).1∧(gs.getD i (0,0)).1<pb)∧Row w (gs.getD i (0,0)).1 (gs.getD i (0,0)).2 (ts.getD i Tok.zero).text∧(gs.getD i (0,0)).2≤9223372036854775807:=fun i hi A =>
  ⟨⟨(h3 i hi A).1,Nat.lt_of_lt_of_le (h3 i hi A).2.1.lt D⟩,(h3 i hi A).2⟩
 rcases h2.2 with ⟨hv,h0⟩ | ⟨g,z,cur,hv,hg,hh,G,E,I,H⟩
 · exact ⟨none,0,0,by rw [hv,h0],.inl h0,by omega,by omega,.inl h0,fun i hi=>by omega,ht,h4,h5⟩
 subst hv;unfold maxLen at E;refine ⟨_,z,g,rfl,.inr rfl,G,E,.inr ⟨hg,Nat.lt_of_lt_of_le (Array.getElem?_eq_some_iff.1 hh).1 D⟩,fun i hi=>?_,ht,h4,h5⟩;obtain ⟨f0,f1,f2⟩:=flatT_get ts gs i h1 hi;rw [h2.cellAt (i*3) (by omega),h2.cellAt (i*3+1) (by omega),h2.cellAt (i*3+2) (by omega),f0,f1,f2];exact ⟨rfl,rfl,rfl⟩
theorem TkM.word {base pb:Nat} {w:World} {g:Nat} {ts:List Tok} {gs:List (Nat × Nat)} (h:TkM base pb w g ts gs) {i:Nat} (hi:i<ts.length) :
    ∃ a c,txv (ts.getD i Tok.zero) (gs.getD i (0,0))=.slice a (wordI ts i).length c∧OwB w a (wordI ts i).length c (wordI ts i) (gs.getD i (0,0)).1 0∧Rd 0 pb w a (wordI ts i).length c (wordI ts i) ∧
     (wordI ts i≠[]→∀ o,w.frozen? ⟨(gs.getD i (0,0)).1,o,none⟩=false):=by
 by_cases ht:(ts.getD i Tok.zero).text=[]
 · have hw:wordI ts i=[]:=ht;refine ⟨none,0,by rw [txv_nil _ ht,hw];rfl,?_,?_,fun hn=>absurd hw hn⟩
   · rw [hw];exact ⟨rfl,⟨by simp,by omega⟩,by simp,.inl rfl⟩
   rw [hw];exact Rd.none_of (by omega)
 obtain ⟨t1,t2,t3⟩:=h.txt i hi ht;have F:(wordI ts i).length≤(gs.getD i (0,0)).2:=by obtain ⟨c,_,_,h,_⟩:=t2;exact h
 refine ⟨_,_,txv_cons _ ht,⟨rfl,⟨F,t3⟩,h.byte i hi,.inr ⟨rfl,fun j hj=>?_⟩⟩,t2.rd rfl (h.byte i hi) t3 (Nat.zero_le _) t1.2,fun _ o=>t2.frozen o⟩;rw [Nat.zero_add];exact t2.cell hj
def BoxR (W:World) (b:Nat) (lv:Value) (en:Int):Prop:=W.heap[b]?=some (.cells #[lv,.int .i64 en] 85 (0,0))
theorem BoxR.cells {W:World} {b:Nat} {lv:Value} {en:Int} (h:BoxR W b lv en):W.cell? ⟨b,0,none⟩=some lv∧W.cell? ⟨b,1,none⟩=some (.int .i64 en):=by
 unfold BoxR at h;constructor <;> simp [World.cell?,h]
theorem BoxR.frz {W:World} {b:Nat} {lv:Value} {en:Int} (h:BoxR W b lv en) (o:Nat):W.frozen? ⟨b,o,none⟩=false:=by
 unfold BoxR at h;simp [World.frozen?,h]
theorem BoxR.lt {W:World} {b:Nat} {lv:Value} {en:Int} (h:BoxR W b lv en):b<W.heap.size:=(Array.getElem?_eq_some_iff.1 h).1
theorem BoxR.set0 {W:World} {b:Nat} {lv:Value} {en:Int} (h:BoxR W b lv en) (v:Value):BoxR (W.setCell ⟨b,0,none⟩ v) b v en:=by
 unfold BoxR;rw [heap_setCell_same W b 0 _ _ v h];rfl
theorem BoxR.of {W W':World} {b:Nat} {lv:Value} {en:Int} (h:BoxR W b lv en) (e:W'.heap[b]?=W.heap[b]?):BoxR W' b lv en:=e.trans h
theorem BoxR.new (W:World) (lv:Value) (en:Int):BoxR (W.alloc (.cells #[lv,.int .i64 en] 85)) W.heap.size lv en:=by
 show (W.heap.push _)[W.heap.size]?=_
 simp
def RdrAt (W:World) (pb g i:Nat) (ts:List Tok) (en:Int):Prop:=∃ a c,BoxR W pb (.slice a (ts.length - i) c) en∧(ts.length=i∨a=some ⟨g,i*3,none⟩)∧ts.length - i≤c∧c≤9223372036854775807
theorem RdrAt.of {W W':World} {pb g i:Nat} {ts:List Tok} {en:Int} (h:RdrAt W pb g i ts en) (e:W'.heap[pb]?=W.heap[pb]?):RdrAt W' pb g i ts en:=by
 obtain ⟨a,c,h1,h2⟩:=h;exact ⟨a,c,h1.of e,h2⟩
theorem RdrAt.lt {W:World} {pb g i:Nat} {ts:List Tok} {en:Int} (h:RdrAt W pb g i ts en):pb<W.heap.size:=by
 obtain ⟨a,c,h1,h2⟩:=h;exact h1.lt
theorem RdrAt.below {W W':World} {pb g i:Nat} {ts:List Tok} {en:Int} (h:RdrAt W pb g i ts en) (hb:Below W.heap.size W W'):RdrAt W' pb g i ts en:=h.of (hb.block _ h.lt)
end

section
open Go.RowKit
structure InvS (W0:World) (h0 BW ob d:Nat) (k:Int) (nv rv:Value) (name role:List Int) (bn on br A:Nat) (wr:World) (kv:Value) (cs:List CN) (Ls:List (List (Addr × IntKind))) (xs:List Value):Prop where
 row:RowK BW wr d kv cs Ls xs
 lay:∀ x∈Ls.flatten,x.1.block<h0∨BW≤x.1.block
 box:BoxC wr ob (.int .i64 k) nv rv kv
 nam:∃ a c,nv=.slice a name.length c∧OwB wr a name.length c name bn on
 rol:∃ a c,rv=.slice a role.length c∧OwB wr a role.length c role br A
 bel:Below W0.heap.size W0 wr
 sz:BW≤wr.heap.size
structure StatS (W0:World) (h0 BW ob:Nat) (name role:List Int) (bn br:Nat):Prop where
 o1:ob<BW
 o0:W0.heap.size≤ob
 h0:h0≤W0.heap.size
 n1:name.length=0∨(bn<BW∧bn≠ob)
 r1:role.length=0∨(br<BW∧br≠ob)
theorem OwB.keep' {w w':World} {a:Option Addr} {n D:Nat} {zs:List Int} {b off:Nat} (h:OwB w a n D zs b off) (hk:n=0∨w'.heap[b]?=w.heap[b]?):OwB w' a n D zs b off :=
 h.keep (fun x hx=>by
  obtain ⟨j,hj,rfl⟩:=mem_leafB.1 hx;rcases hk with e | e
  · omega
  exact e)
theorem OwB.blt {w:World} {a:Option Addr} {n D:Nat} {zs:List Int} {b off:Nat} (h:OwB w a n D zs b off):n=0∨b<w.heap.size:=by
 rcases h.cells with e | ⟨_,hc⟩
 · exact .inl e
 by_cases hn:n=0
 · exact .inl hn
 exact .inr (block_lt_of_cell (hc 0 (by omega)))
theorem InvS.below {W0 wr w':World} {h0 BW ob d:Nat} {k:Int} {nv rv kv:Value} {name role:List Int} {bn on br A:Nat} {cs:List CN} {Ls:List (List (Addr × IntKind))} {xs:List Value} (h:InvS W0 h0 BW ob d k nv rv name role bn on br A wr kv cs Ls xs) (hb:Below wr.heap.size wr w') :
    InvS W0 h0 BW ob d k nv rv name role bn on br A w' kv cs Ls xs:=by
 have hs:=hb.size;obtain ⟨na,nc,V,F⟩:=h.nam;obtain ⟨ra,rc,U,E⟩:=h.rol;refine ⟨h.row.below hb,h.lay,h.box.below hb h.box.lt,⟨na,nc,V,F.keep' ?_⟩,⟨ra,rc,U,E.keep' ?_⟩,h.bel.trans (hb.mono h.bel.size),Nat.le_trans h.sz hs⟩
 · rcases F.blt with e | e
   · exact .inl e
   exact .inr (hb.block _ e)
 rcases E.blt with e | e
 · exact .inl e
 exact .inr (hb.block _ e)
theorem InvS.app {W0 W w6:World} {h0 BW ob d:Nat} {k:Int} {nv rv kv:Value} {name role:List Int} {bn on br A:Nat} {cs:List CN} {Ls:List (List (Addr × IntKind))} {xs:List Value} (hS:StatS W0 h0 BW ob name role bn br) (h:InvS W0 h0 BW ob d k nv rv name role bn on br A W kv cs Ls xs)
    {c:CN} {L:List (Addr × IntKind)} {v0 v1 v2 v3:Value} {B g D n:Nat} (hc:OwC W d (.agg #[v0,v1,v2,v3]) c L) (hl:∀ x∈L,(x.1.block<h0∨B≤x.1.block)∧x.1.block<W.heap.size) (hB:BW≤B) (Z:∀ g,kv.ownBlock=some g→g<B) (hn:n=cs.length+1)
    (J:w6.ownsRow BW 37 4 (.slice (some ⟨g,0,none⟩) n D) n (xs++[v0,v1,v2,v3])) (z:W.grownBy w6 kv.ownBlock) (a0:kv.ownBlock=some g∨g=W.heap.size) :
    BoxC w6 ob (.int .i64 k) nv rv kv∧InvS W0 h0 BW ob d k nv rv name role bn on br A (w6.setCell ⟨ob,3,none⟩ (.slice (some ⟨g,0,none⟩) n D)) (.slice (some ⟨g,0,none⟩) n D) (cs++[c]) (Ls++[L]) (xs++[v0,v1,v2,v3]):=by
 subst hn;have X:=h.row.row.lt;have a1:=hS.o1;have Y:=hS.o0;have a2:=hS.h0;have I:∀ b,b<BW→kv.ownBlock≠some b:=fun b hb e=>by have:=X b e;omega
 have H:BoxC w6 ob (.int .i64 k) nv rv kv:=(z.block ob h.box.lt (fun e=>I ob hS.o1 e.symm)).trans h.box
 have O:∀ x∈L,kv.ownBlock≠some x.1.block:=fun x hx e=>by
  have h1:=Z _ e;have h2:=X _ e;have h3:=(hl x hx).1;omega
 have N:RowK BW w6 d (.slice (some ⟨g,0,none⟩) (cs.length+1) D) (cs++[c]) (Ls++[L]) (xs++[v0,v1,v2,v3]) :=
  h.row.snoc hc (fun x hx=>(hl x hx).2) O J z (by
   rcases a0 with e | e
   · exact .inl (by rw [e];rfl)
   exact .inr (by rw [← e];rfl))
 have G:∀ x∈(Ls++[L]).flatten,x.1.block<h0∨BW≤x.1.block:=by
  intro x hx;simp only [List.flatten_append,List.mem_append,List.flatten_cons,List.flatten_nil,List.append_nil] at hx;rcases hx with hx | hx
  · exact h.lay x hx
  have:=(hl x hx).1;omega
 have a3:=J.lt g rfl;obtain ⟨na,nc,V,F⟩:=h.nam;obtain ⟨ra,rc,U,E⟩:=h.rol;have T:Below W0.heap.size W0 w6:=h.bel.grown z h.bel.size (fun x hx=>by have:=X x hx;omega);refine ⟨H,⟨N.set 3 _ (fun x hx=>by have:=G x hx;omega) (fun e=>by simp only [Value.ownBlock,Option.some.injEq] at e;omega),G,H.set3 _,⟨na,nc,V,F.keep' ?_⟩,⟨ra,rc,U,E.keep' ?_⟩,T.setCell Y _,?_⟩⟩
 · rcases hS.n1 with e | ⟨e1,e2⟩
   · exact .inl e
   rcases F.blt with e | e
   · exact .inl e
   exact .inr ((Below.heap_setCell w6 ⟨ob,3,none⟩ _ bn e2).trans (z.block bn e (fun e'=>I bn e1 e'.symm)))
 · rcases hS.r1 with e | ⟨e1,e2⟩
   · exact .inl e
   rcases E.blt with e | e
   · exact .inl e
   exact .inr ((Below.heap_setCell w6 ⟨ob,3,none⟩ _ br e2).trans (z.block br e (fun e'=>I br e1 e'.symm)))
 have:=h.sz;have:=z.size;simp;omega
theorem InvS.done {W0 wr:World} {h0 BW ob d:Nat} {k:Int} {nv rv kv:Value} {name role:List Int} {bn on br A:Nat} {cs:List CN} {Ls:List (List (Addr × IntKind))} {xs:List Value} (h:InvS W0 h0 BW ob d k nv rv name role bn on br A wr kv cs Ls xs) (P:Nat→Prop)
    (hn:name.length=0∨P bn) (hr:role.length=0∨P br) (hk:∀ b,b<wr.heap.size→b<h0∨BW≤b→P b) :
    ∃ L,OwC wr (d+1) (.agg #[.int .i64 k,nv,rv,kv]) (.mk k name role cs) L∧∀ x∈L,P x.1.block∧x.1.block<wr.heap.size:=by
 obtain ⟨na,nc,rfl,F⟩:=h.nam;obtain ⟨ra,rc,rfl,E⟩:=h.rol;obtain ⟨ka,kc,bk,rfl,ok,fk⟩:=h.row.owL;refine ⟨_,⟨_,_,_,_,_,_,_,_,_,bn,on,br,A,bk,0,_,rfl,F,E,ok,rfl⟩,fun x hx=>?_⟩;simp only [List.mem_append] at hx;rcases hx with hx | hx | hx
 · obtain ⟨j,hj,rfl⟩:=mem_leafB.1 hx;have h1:=F.blt;rcases hn with e | e
   · omega
   exact ⟨e,by show bn<_;omega⟩
 · obtain ⟨j,hj,rfl⟩:=mem_leafB.1 hx;have h1:=E.blt;rcases hr with e | e
   · omega
   exact ⟨e,by show br<_;omega⟩
 rcases mem_leafK.1 hx with ⟨i,hi,rfl | hx⟩
 · rcases fk with e | ⟨_,q1,q2,_⟩
   · omega
   exact ⟨hk bk q2 (.inr q1),q2⟩
 have hx:=getD_mem_flatten hx;exact ⟨hk _ (h.row.lt x hx) (h.lay x hx),h.row.lt x hx⟩
end

section
open Go.RowKit
end

end Go.Proofs.YtocpeiaolofodaaGreat
