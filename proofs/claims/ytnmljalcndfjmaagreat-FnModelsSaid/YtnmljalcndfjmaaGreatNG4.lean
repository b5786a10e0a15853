/- Several texts in one: OwnB, ConTxt, TokMath, SpecTok, ConSay, OwnI. -/
import Derived.Test.YtnmljalcndfjmaaGreatNG2
import Derived.Laws.AppendOwn
import Derived.Test.YtnmljalcndfjmaaGreatNG3
import Derived.Lib.AppendStr
import Derived.Deep.DeepCutAuto
import Derived.Deep.RegionLaw
namespace Go.Proofs.YtnmljalcndfjmaaGreat

section
open Go.RowKit
theorem longB_of_up {zs:List Int} (h:upOk zs=true):1≤zs.length∧zs.length≤6:=by
 unfold upOk longB at h;simp only [Bool.and_eq_true,decide_eq_true_eq] at h;exact h.1
theorem longB_of_low {zs:List Int} (h:lowOk zs=true):1≤zs.length∧zs.length≤6:=by
 unfold lowOk longB at h;simp only [Bool.and_eq_true,decide_eq_true_eq] at h;exact h.1
def OwnB (base:Nat) (w:World) (v:Value) (zs:List Int):Prop:=w.ownsRow base 5 1 v zs.length (zs.map (Value.int .u8))
theorem OwnB.nil (base:Nat) (w:World):OwnB base w (.slice none 0 0) []:=World.ownsRow_nil _ _ _ _
theorem OwnB.below {base B:Nat} {w w':World} {v:Value} {zs:List Int} (h:OwnB base w v zs) (hb:Below B w w') (hB:w.heap.size≤B):OwnB base w' v zs:=by
 obtain ⟨h1,h2⟩:=h;refine ⟨h1,?_⟩;rcases h2 with h2 | ⟨g,y,cur,hv,hg,hh,r⟩
 · exact .inl h2
 exact .inr ⟨g,y,cur,hv,hg,by rw [hb.block g (Nat.lt_of_lt_of_le (Array.getElem?_eq_some_iff.1 hh).1 hB)];exact hh,r⟩
theorem OwnB.form {base:Nat} {w:World} {v:Value} {zs:List Int} (h:OwnB base w v zs) (R:∀ i,0≤zs.getD i 0∧zs.getD i 0≤255) :
    ∃ a c b,v=.slice a zs.length c∧Rd base w.heap.size w a zs.length c zs∧(zs.length=0∨a=some ⟨b,0,none⟩)∧LeafOk w (leafB b 0 zs.length)∧(zs.length=0∨(base≤b∧b<w.heap.size)):=by
 by_cases hz:zs.length=0
 · rcases h.2 with ⟨hv,_⟩ | ⟨g,y,cur,hv,_,_,_,E,_⟩
   · refine ⟨none,0,0,by rw [hv,hz],?_,.inl hz,?_,.inl hz⟩
     · rw [List.eq_nil_of_length_eq_zero hz];exact Rd.none_of (by omega)
     rw [hz];intro x hx;simp [leafB] at hx
   unfold maxLen at E;refine ⟨_,y,0,hv,?_,.inl hz,?_,.inl hz⟩
   · rw [List.eq_nil_of_length_eq_zero hz];exact Rd.none_of E
   rw [hz];intro x hx;simp [leafB] at hx
 obtain ⟨h1,h2⟩:=h;rcases h2 with ⟨_,h0⟩ | ⟨g,y,cur,hv,hg,hh,O,E,J,I⟩
 · exact absurd h0 hz
 simp only [Nat.mul_one] at J I;unfold maxLen at E
 have q:Row w g y zs:=by
  refine ⟨cur,hh,J,O,fun i hi=>?_⟩;have e:(cur.toList.take zs.length)[i]?=(zs.map (Value.int .u8))[i]?:=by rw [I]
  rw [List.getElem?_take,if_pos hi] at e;simp only [Array.getElem?_toList] at e;rw [e];simp [List.getD,hi]
 refine ⟨_,y,g,hv,q.rd rfl R E hg q.lt,.inr rfl,?_,.inr ⟨hg,q.lt⟩⟩;intro x hx;simp only [leafB,List.mem_map,List.mem_range] at hx;obtain ⟨j,hj,rfl⟩:=hx;simp only [Nat.zero_add];exact ⟨⟨_,q.cell hj⟩,q.frozen _⟩
theorem leafB_nodup (b off n:Nat):((leafB b off n).map (·.1)).Nodup:=by
 rw [List.nodup_iff_pairwise_ne,List.pairwise_iff_getElem];intro i j hi hj T;simp [leafB] <;> omega
theorem oneCB (zs:List Int):∀ u∈zs.map (Value.int .u8),u.oneCell'=true:=by
 intro u hu;simp only [List.mem_map] at hu;obtain ⟨x,_,rfl⟩:=hu;rfl
theorem rd_news {lo hi:Nat} {w:World} {b off n y:Nat} {zs:List Int} (h:Rd lo hi w (some ⟨b,off,none⟩) n y zs):∀ j u,(zs.map (Value.int .u8))[j]?=some u→w.cell? ((⟨b,off,none⟩:Addr).add j)=some u:=by
 intro j u hu;have hj:j<zs.length:=by simpa using (List.getElem?_eq_some_iff.1 hu).1
 rcases h.cells with h0 | ⟨b',off',e,_,_,hc⟩
 · have:=h.len;omega
 simp only [Option.some.injEq,Addr.mk.injEq,and_true] at e;obtain ⟨rfl,rfl⟩:=e;rw [Addr.add_lit,hc j (by have:=h.len;omega),← hu];simp [List.getD,hj]
def Keep5 (base:Nat) (w w':World):Prop:=Below base w w'∧∀ (b:Nat) (c:Array Value) (t:TypeId) (f:Nat × Nat),t≠5→w.heap[b]?=some (.cells c t f)→w'.heap[b]?=some (.cells c t f)
theorem Keep5.refl (base:Nat) (w:World):Keep5 base w w:=⟨Below.refl _ _,fun _ _ _ _ _ h=>h⟩
theorem Keep5.trans {base:Nat} {a b c:World} (h:Keep5 base a b) (k:Keep5 base b c):Keep5 base a c:=⟨h.1.trans k.1,fun x c t f h1 h2=>k.2 x c t f h1 (h.2 x c t f h1 h2)⟩
theorem Keep5.of_below {base:Nat} {w w':World} (h:Below w.heap.size w w') (hb:base≤w.heap.size):Keep5 base w w':=⟨h.mono hb,fun b _ _ _ _ h2=>(h.block b (Array.getElem?_eq_some_iff.1 h2).1).trans h2⟩
theorem Keep5.drew {base:Nat} {w w':World} (h:Keep5 base w w'):Keep5 base w w'.drew:=⟨h.1.drew,h.2⟩
theorem ownB_app {base:Nat} {W w2:World} {v v':Value} {xs ys:List Int} (hO:OwnB base W v xs) (hb:base≤W.heap.size)
    (G:w2.ownsRow base 5 1 v' (xs.length+ys.length) (xs.map (Value.int .u8)++ys.map (Value.int .u8))) (D:W.grownBy w2 v.ownBlock) :
    OwnB base w2 v' (xs++ys)∧Keep5 base W w2:=by
 refine ⟨by unfold OwnB;simpa using G,(Below.refl base W).grown D hb (fun x hx=>?_),fun b c t f ht hh=>?_⟩
 · rcases hO.2 with ⟨rfl,_⟩ | ⟨g1,H,cur,rfl,N,_⟩
   · simp [Value.ownBlock] at hx
   simp [Value.ownBlock] at hx;omega
 refine (D.block b (Array.getElem?_eq_some_iff.1 hh).1 (fun e=>?_)).trans hh;rcases hO.2 with ⟨rfl,_⟩ | ⟨g1,H,cur,rfl,N,F,_⟩
 · simp [Value.ownBlock] at e
 simp [Value.ownBlock] at e;subst e;rw [hh] at F;simp at F;exact ht F.2.1
end

section
open Go.RowKit
mutual
def wfC:CN→Bool
 | .mk k n r ks=>shapeB (.mk k n r ks) && wfL ks
def wfL:List CN→Bool
 | []=>true
 | c :: cs=>wfC c && wfL cs
end
theorem wfC_eq (c:CN):wfC c=(shapeB c && wfL c.kids):=by cases c;rw [wfC];rfl
theorem wfL_getD:∀ (cs:List CN) (j:Nat),j<cs.length→wfL cs=true→wfC (cs.getD j CN.zero)=true
 | [],_,h,_=>by simp at h
 | c :: cs,0,_,hw=>by rw [wfL,Bool.and_eq_true] at hw;exact hw.1
 | c :: cs,j+1,h,hw=>by
  rw [wfL,Bool.and_eq_true] at hw;have:=wfL_getD cs j (by simpa using h) hw.2;simpa [List.getD] using this
mutual
theorem wfC_of_parts:∀ (c:CN) (deep:Nat),(parts c deep).all okOne=true→wfC c=true
 | .mk k n r ks,deep,h=>by
  rw [parts,List.all_cons,Bool.and_eq_true] at h;rw [wfC,wfL_of_parts ks (deep+1) h.2,Bool.and_true];have:=h.1;unfold okOne at this;rw [Bool.and_eq_true] at this;exact this.2
theorem wfL_of_parts:∀ (cs:List CN) (deep:Nat),(partsL cs deep).all okOne=true→wfL cs=true
 | [],_,_=>by rw [wfL]
 | c :: cs,deep,h=>by
  rw [partsL,List.all_append,Bool.and_eq_true] at h;rw [wfL,wfC_of_parts c deep h.1,wfL_of_parts cs deep h.2];rfl
end
theorem wfC_of_ok {c:CN} (h:conOk c=true):wfC c=true:=by
 unfold conOk at h;rw [Bool.and_eq_true] at h;exact wfC_of_parts c 1 h.2
theorem kidN_in {k:Int} (h:0≤kidN k):0≤k∧k≤7:=by
 by_cases ho:k<0∨7<k
 · rw [kidN_out ho] at h;omega
 omega
theorem shape_facts {c:CN} (h:shapeB c=true):(0≤c.kind∧c.kind≤7)∧(c.kind=2→1≤c.name.length∧c.kids.length=0)∧(roleB c.kind=true→1≤c.role.length)∧(roleB c.kind=false→c.role=[]):=by
 unfold shapeB at h;simp only [Bool.and_eq_true,decide_eq_true_eq] at h;obtain ⟨h1,h2,h3⟩:=h;refine ⟨kidN_in (by omega),fun hk=>?_,fun hr=>?_,fun hr=>?_⟩
 · unfold nameFit at h1;rw [if_pos hk,Bool.and_eq_true] at h1;refine ⟨(longB_of_up h1.1).1,?_⟩;rw [hk] at h3;simp [kidN] at h3;rw [h3];rfl
 · unfold roleFit at h2;rw [if_pos hr] at h2;exact (longB_of_low h2).1
 unfold roleFit at h2;rw [if_neg (by rw [hr];simp)] at h2;exact List.eq_nil_of_length_eq_zero (by simpa using h2)
def wordB (k:Int):ByteArray:=if k=0 then ⟨#[84,111,112]⟩ else if k=1 then ⟨#[66,111,116]⟩ else if k=3 then ⟨#[78,111,116]⟩ else if k=4 then ⟨#[65,110,100]⟩ else if k=5 then ⟨#[79,114]⟩ else if k=6 then ⟨#[83,111,109,101]⟩ else if k=7 then ⟨#[65,108,108]⟩ else ⟨#[]⟩
set_option maxHeartbeats 400000 in
theorem l2words_any (w:World):Calls Tryz.prog 167 #[] w fun e w'=>e=.returned (.slice (some ⟨w.heap.size,0,none⟩) 8 8)∧(∀ i:Nat,i<8→w'.cell? ⟨w.heap.size,i,none⟩=some (.string (wordB i)))∧Below w.heap.size w w':=by
 go_enter Tryz.func167, Tryz.ntmps167;go_wp2;go_ret;refine ⟨rfl,fun i hi=>?_,(Below.refl _ _).alloc (Nat.le_refl _) _⟩
 match i,hi with
 | 0,_ | 1,_ | 2,_ | 3,_ | 4,_ | 5,_ | 6,_ | 7,_=>simp;rfl
end

section
def runLow (zs:List Int) (i:Nat):Nat:=((zs.drop i).takeWhile lowB).length
theorem runLow_le (zs:List Int) (i:Nat):runLow zs i≤zs.length - i:=by
 unfold runLow;have:=(List.takeWhile_sublist lowB (l:=zs.drop i)).length_le;simpa using this
theorem runLow_stop (zs:List Int) (i:Nat) (h:zs.length≤i∨lowB (zs.getD i 0)=false):runLow zs i=0:=by
 unfold runLow;by_cases hi:i<zs.length
 · have h':lowB (zs.getD i 0)=false:=by rcases h with h | h;omega;exact h
   rw [List.drop_eq_getElem_cons hi,List.takeWhile_cons];simp [List.getD,hi] at h';simp [h']
 rw [List.drop_eq_nil_of_le (by omega)];rfl
theorem runLow_go (zs:List Int) (i:Nat) (hi:i<zs.length) (h:lowB (zs.getD i 0)=true):runLow zs i=runLow zs (i+1)+1:=by
 unfold runLow;rw [List.drop_eq_getElem_cons hi,List.takeWhile_cons];simp [List.getD,hi] at h;simp [h]
def pend (zs:List Int) (i:Nat):Nat:=if zs.getD i 0=40∨zs.getD i 0=41 then i+1 else i+1+runLow zs (i+1)
def piece (zs:List Int) (i:Nat):List Int:=(zs.drop i).take (pend zs i - i)
theorem pend_gt (zs:List Int) (i:Nat):i<pend zs i:=by unfold pend;split <;> omega
theorem pend_le (zs:List Int) (i:Nat) (hi:i<zs.length):pend zs i≤zs.length:=by
 unfold pend;have:=runLow_le zs (i+1)
 split <;> omega
theorem piece_length (zs:List Int) (i:Nat) (hi:i<zs.length):(piece zs i).length=pend zs i - i:=by
 have:=pend_le zs i hi;simp [piece];omega
theorem piece_getD (zs:List Int) (i j:Nat) (hi:i<zs.length) (hj:j<pend zs i - i):(piece zs i).getD j 0=zs.getD (i+j) 0:=by
 have:=pend_le zs i hi;simp [piece,List.getD,hj]
def kindOf (p:List Int):Int:=if upOk p then 1 else if lowOk p then 2 else if p=[40] then 3 else if p=[41] then 4 else 0
def blankB (c:Int):Bool:=c == 32 || c == 10
def tokAt (zs:List Int) (i:Nat):Tok:=⟨kindOf (piece zs i),i,if kindOf (piece zs i)=1∨kindOf (piece zs i)=2 then piece zs i else []⟩
def toksFrom (zs:List Int):Nat→Nat→List Tok→List Tok × Int
 | 0,_,acc=>(acc,-1)
 | f+1,i,acc=>if i<zs.length then (if blankB (zs.getD i 0) then toksFrom zs f (i+1) acc else if kindOf (piece zs i)=0 then ([],(i:Int)) else toksFrom zs f (pend zs i) (acc++[tokAt zs i])) else (acc,-1)
def toks (zs:List Int):List Tok × Int:=if 1500<zs.length then ([],0) else toksFrom zs (zs.length+1) 0 []
theorem piece_open (zs:List Int) (i:Nat) (hi:i<zs.length) (h:zs.getD i 0=40):piece zs i=[40]∧pend zs i=i+1:=by
 have hp:pend zs i=i+1:=by unfold pend;rw [if_pos (.inl h)]
 refine ⟨?_,hp⟩;unfold piece;rw [hp,show i+1 - i=1 from by omega,List.drop_eq_getElem_cons hi];simp [List.getD,hi] at h;simp [h]
theorem piece_close (zs:List Int) (i:Nat) (hi:i<zs.length) (h:zs.getD i 0=41):piece zs i=[41]∧pend zs i=i+1:=by
 have hp:pend zs i=i+1:=by unfold pend;rw [if_pos (.inr h)]
 refine ⟨?_,hp⟩;unfold piece;rw [hp,show i+1 - i=1 from by omega,List.drop_eq_getElem_cons hi];simp [List.getD,hi] at h;simp [h]
theorem kind_open:kindOf [40]=3:=by decide
theorem kind_close:kindOf [41]=4:=by decide
def wordKind (c:Int):Int:=if upB c then 1 else 2
def wordOk (p:List Int):Bool:=upOk p || lowOk p
theorem kind_word (p:List Int) (h0:p.getD 0 0≠40) (h1:p.getD 0 0≠41):kindOf p=if wordOk p then wordKind (p.getD 0 0) else 0:=by
 unfold wordOk wordKind;have e0:p≠[40]:=fun e=>by rw [e] at h0;simp at h0
 have e1:p≠[41]:=fun e=>by rw [e] at h1;simp at h1
 unfold kindOf;by_cases hu:upOk p=true
 · have hb:upB (p.getD 0 0)=true:=by simp only [upOk,Bool.and_eq_true] at hu;exact hu.2.1
   rw [if_pos hu,hu,hb];rfl
 have q:upOk p=false:=by simpa using hu
 rw [if_neg hu];by_cases hl:lowOk p=true
 · have hb:upB (p.getD 0 0)=false:=by
    simp only [lowOk,longB,Bool.and_eq_true,decide_eq_true_eq] at hl;obtain ⟨⟨h1,_⟩,h2⟩:=hl
    have hm:=List.all_eq_true.1 h2 (p.getD 0 0) (by
     simp only [List.getD];rw [List.getElem?_eq_getElem (by omega)]
     simp)
    generalize p.getD 0 0=c at hm
    simp only [lowB,upB,Bool.and_eq_true,decide_eq_true_eq] at hm ⊢;simp;omega
   rw [if_pos hl,hl,hb,q];rfl
 have y:lowOk p=false:=by simpa using hl
 rw [if_neg hl,if_neg e0,if_neg e1];simp [q,y]
end

section
open Go.RowKit
set_option maxHeartbeats 400000 in
theorem l1one_open (a:Option Addr) (n D:Nat) (zs:List Int) (i:Nat) (w:World) {lo hi:Nat} (h:Rd lo hi w a n D zs) (ac:hi≤w.heap.size) (O:i<n) (hc:zs.getD i 0=40) :
    Calls Tryz.prog 155 #[.slice a n D,.int .i64 i] w fun e w'=>e=.returned (.tuple #[.agg #[.int .i64 3,.int .i64 i,.slice none 0 0],.int .i64 ((i:Int)+1),.bool true])∧Below w.heap.size w w':=by
 obtain ⟨hl,⟨hn,hm⟩,I,y⟩:=h;rcases y with h0 | ⟨b,off,rfl,ab,hb,y⟩
 · omega
 have a0:w.cell? ⟨b,off+i,none⟩=some (.int .u8 40):=by rw [← hc];exact y i O
 have Y:b<w.heap.size:=by omega
 clear y I hl hc;go_enter Tryz.func155, Tryz.ntmps155;go_wp2;exact bodyPost_ret (v:=.tuple #[.agg #[.int .i64 3,.int .i64 i,.slice none 0 0],.int .i64 ((i:Int)+1),.bool true]) (by simp [results, Tryz.results155,go_sem]) rfl ⟨rfl,((Below.refl _ _).alloc (Nat.le_refl _) _).alloc (by simp) _⟩
set_option maxHeartbeats 400000 in
theorem l1one_close (a:Option Addr) (n D:Nat) (zs:List Int) (i:Nat) (w:World) {lo hi:Nat} (h:Rd lo hi w a n D zs) (ac:hi≤w.heap.size) (O:i<n) (hc:zs.getD i 0=41) :
    Calls Tryz.prog 155 #[.slice a n D,.int .i64 i] w fun e w'=>e=.returned (.tuple #[.agg #[.int .i64 4,.int .i64 i,.slice none 0 0],.int .i64 ((i:Int)+1),.bool true])∧Below w.heap.size w w':=by
 obtain ⟨hl,⟨hn,hm⟩,I,y⟩:=h;rcases y with h0 | ⟨b,off,rfl,ab,hb,y⟩
 · omega
 have a0:w.cell? ⟨b,off+i,none⟩=some (.int .u8 41):=by rw [← hc];exact y i O
 have Y:b<w.heap.size:=by omega
 clear y I hl hc;go_enter Tryz.func155, Tryz.ntmps155;go_wp2;exact bodyPost_ret (v:=.tuple #[.agg #[.int .i64 4,.int .i64 i,.slice none 0 0],.int .i64 ((i:Int)+1),.bool true]) (by simp [results, Tryz.results155,go_sem]) rfl ⟨rfl,((Below.refl _ _).alloc (Nat.le_refl _) _).alloc (by simp) _⟩
theorem ownsRow_empty (w:World) (g base:Nat) (hg:g=w.heap.size) (hb:base≤g):(w.alloc (.cells #[] 5)).ownsRow base 5 1 (.slice (some ⟨g,0,none⟩) 0 0) 0 []:=by
 subst hg;exact World.ownsRow_lit w #[] 0 hb (by decide) rfl
theorem oneC (zs:List Int):∀ u∈zs.map (Value.int .u8),u.oneCell'=true:=by
 intro u hu;simp only [List.mem_map] at hu;obtain ⟨x,_,rfl⟩:=hu;rfl
theorem after_text {w w1:World} {i:Int} (A:(((w.alloc (Obj.cells #[Value.int IntKind.i64 0,Value.int IntKind.i64 0,Value.slice none 0 0] 176)).alloc (Obj.cells #[Value.int IntKind.i64 0,Value.int IntKind.i64 i,Value.slice none 0 0] 176)).alloc (Obj.cells #[] 5)).grownBy w1 (Value.slice (some ⟨w.heap.size+1+1,0,none⟩) 0 0).ownBlock) :
    w1.cell? ⟨w.heap.size,0,none⟩=some (.int .i64 0)∧w1.cell? ⟨w.heap.size,1,none⟩=some (.int .i64 0)∧w1.cell? ⟨w.heap.size,2,none⟩=some (.slice none 0 0) ∧
    w1.cell? ⟨w.heap.size+1,0,none⟩=some (.int .i64 0)∧w1.cell? ⟨w.heap.size+1,1,none⟩=some (.int .i64 i)∧w1.cell? ⟨w.heap.size+1,2,none⟩=some (.slice none 0 0) ∧
    (∀ o,w1.frozen? ⟨w.heap.size,o,none⟩=false)∧(∀ o,w1.frozen? ⟨w.heap.size+1,o,none⟩=false)∧Below w.heap.size w w1:=by
 have hB:=(Below.refl (w.heap.size+2) _).grown A (by simp) (fun k e=>by simp [Value.ownBlock] at e;omega)
 refine ⟨(hB.cell (p:=⟨w.heap.size,0,none⟩) (by simp)).trans (by go_simp),(hB.cell (p:=⟨w.heap.size,1,none⟩) (by simp)).trans (by go_simp),(hB.cell (p:=⟨w.heap.size,2,none⟩) (by simp)).trans (by go_simp),
  (hB.cell (p:=⟨w.heap.size+1,0,none⟩) (by simp)).trans (by go_simp),(hB.cell (p:=⟨w.heap.size+1,1,none⟩) (by simp)).trans (by go_simp),(hB.cell (p:=⟨w.heap.size+1,2,none⟩) (by simp)).trans (by go_simp),
  fun o=>(hB.frozen (p:=⟨w.heap.size,o,none⟩) (by simp)).trans (by go_simp),fun o=>(hB.frozen (p:=⟨w.heap.size+1,o,none⟩) (by simp)).trans (by go_simp),?_⟩
 exact ((((Below.refl _ _).alloc (Nat.le_refl _) _).alloc (by simp) _).alloc (by simp;omega) _).trans (hB.mono (by omega))
theorem row_of_owns {w:World} {base n:Nat} {v:Value} {zs:List Int} (h:w.ownsRow base 5 1 v n (zs.map (Value.int .u8))) (hn:0<n) :
    ∃ g c,v=.slice (some ⟨g,0,none⟩) n c∧base≤g∧Row w g c zs∧c≤9223372036854775807:=by
 obtain ⟨h1,h2⟩:=h;rcases h2 with ⟨_,h0⟩ | ⟨g,D,cur,hv,hg,hh,au,am,ae,ad⟩
 · omega
 simp only [List.length_map,Nat.mul_one] at h1 ae ad;refine ⟨g,D,hv,hg,⟨cur,hh,ae,by omega,fun i hi=>?_⟩,am⟩;have e:(cur.toList.take n)[i]?=(zs.map (Value.int .u8))[i]?:=by rw [ad]
 rw [List.getElem?_take,if_pos (by omega)] at e;simp only [Array.getElem?_toList] at e;rw [e];simp [List.getD,hi]
set_option maxHeartbeats 4000000 in
theorem l1one_word (a:Option Addr) (n D:Nat) (zs:List Int) (i:Nat) (w:World) {lo hi:Nat} (h:Rd lo hi w a n D zs) (ac:hi≤w.heap.size) (O:i<n) (hc:zs.getD i 0≠40) (a4:zs.getD i 0≠41) (aq:n≤1048576) :
    Calls Tryz.prog 155 #[.slice a n D,.int .i64 i] w fun e w'=>∃ g c,e=.returned (.tuple #[.agg #[.int .i64 (wordKind (zs.getD i 0)),.int .i64 i,.slice (some ⟨g,0,none⟩) (pend zs i - i) c],.int .i64 (pend zs i),.bool (wordOk (piece zs i))])∧Below w.heap.size w w'∧w.heap.size≤g∧Row w' g c (piece zs i)∧c≤9223372036854775807:=by
 obtain ⟨hl,⟨hn,hm⟩,I,y⟩:=h;rcases y with h0 | ⟨b,off,rfl,ab,hb,y⟩
 · omega
 obtain ⟨c0,R⟩:∃ c,c=zs.getD i 0:=⟨_,rfl⟩;have a0:w.cell? ⟨b,off+i,none⟩=some (.int .u8 c0):=by rw [R];exact y i O
 have Y:b<w.heap.size:=by omega
 have ay:(c0 == 40)=false:=by rw [R];simpa using hc
 have ax:(c0 == 41)=false:=by rw [R];simpa using a4
 have X:Hid (∀ j,j<n→w.cell? ⟨b,off+j,none⟩=some (.int .u8 (zs.getD j 0))):=y;have HC:Hid (c0=zs.getD i 0):=R;have HL:Hid (zs.length=n):=hl
 have HN:Hid (∀ W:World,Below w.heap.size w W→∀ j u,((piece zs i).map (Value.int .u8))[j]?=some u→W.cell? ((⟨b,off+i,none⟩:Addr).add j)=some u):=by
  intro W hW j u hu;have hj:j<(piece zs i).length:=by simpa using (List.getElem?_eq_some_iff.1 hu).1
  rw [Addr.add_lit,hW.cell (p:=⟨b,off+i+j,none⟩) Y,Nat.add_assoc,y (i+j) (by have:=pend_le zs i (by omega);rw [piece_length zs i (by omega)] at hj;omega)];rw [← piece_getD zs i j (by omega) (by rw [piece_length zs i (by omega)] at hj;exact hj),← hu];simp [List.getD,hj]
 have HP:Hid ((piece zs i).length=pend zs i - i):=piece_length zs i (by omega);have ao:Hid (pend zs i=i+1+runLow zs (i+1)):=by unfold Hid pend;rw [if_neg (fun h=>h.elim hc a4)]
 have a2:Hid (∀ j,0≤(piece zs i).getD j 0∧(piece zs i).getD j 0≤255):=by
  intro j;by_cases hj:j<pend zs i - i
  · rw [piece_getD zs i j (by omega) hj];exact I _
  rw [List.getD,List.getElem?_eq_none (by rw [piece_length zs i (by omega)];omega)];simp
 clear y I hl hc a4 R;obtain ⟨i0,al,aj,ai,ah⟩:=info_parts Tryz.info5;rw [← HC.out];go_enter Tryz.func155, Tryz.ntmps155;go_wp2;go_loop [8] (fun v=>∃ k:Nat,i+1≤k∧k≤n∧v=.int .i64 k∧runLow zs (i+1)=(k - (i+1))+runLow zs k) (fun v=>n - (intOf v).toNat)
 case atStart=>exact ⟨i+1,by omega,by omega,by go_num,by simp⟩
 case round =>
  obtain ⟨k,hk,ar,rfl,T⟩:=hrel;have HR:Hid (runLow zs (i+1)=(k - (i+1))+runLow zs k):=T;clear T;obtain ⟨c,a8⟩:∃ c,Hid (c=zs.getD k 0):=⟨_,rfl⟩;go_upto_region 9 with fail;go_cut [43] (fun s W=>s=.bool (decide (k<n) && lowB c)∧W=((w.alloc (Obj.cells #[Value.int IntKind.i64 0,Value.int IntKind.i64 0,Value.slice none 0 0] 176)).alloc (Obj.cells #[Value.int IntKind.i64 0,Value.int IntKind.i64 i,Value.slice none 0 0] 176)))
  case first =>
   by_cases Z:k<n
   · have ap:w.cell? ⟨b,off+k,none⟩=some (.int .u8 c):=by rw [a8.out];exact X.out k Z
     have N:decide ((k:Int)<(n:Int))=true:=by simp;omega
     go_wp2_with (go_at_call 56;refine (l1small_any _ _).mono ?_;rintro e w' ⟨rfl,rfl⟩);go_meet
     case rel=>exact ⟨by simp [Z],rfl⟩
   have N:decide ((k:Int)<(n:Int))=false:=by simp;omega
   go_wp2;go_meet
   case rel=>exact ⟨by simp [Z],rfl⟩
  case rest =>
   obtain ⟨rfl,rfl⟩:=hcut;cases hX:(decide (k<n) && lowB c)
   · have HE:Hid (runLow zs k=0):=by
      refine runLow_stop zs k ?_;rw [Bool.and_eq_false_iff] at hX;rcases hX with h | h
      · left;rw [HL.out];simpa using h
      right;rw [← a8.out];exact h
     have a7:Hid (pend zs i=k):=by have:=HR.out;have:=HE.out;have:=ao.out;unfold Hid;omega
     have J:(piece zs i).length=k - i:=by rw [HP.out,a7.out]
     go_upto_if 58 with (first | (at_builtin;refine wpList_append_own _ rfl (.tmp 46) (.tmp 50) 22 rfl (w.heap.size+2) 5 i0 (.int .u8 0) 1 1 Tryz.underlying22 al aj ai ah rfl (by decide) (.slice (some ⟨w.heap.size+1+1,0,none⟩) 0 0) 0 [] rfl (ownsRow_empty _ _ _ (by simp) (by omega)) ⟨b,off+i,none⟩ (k - i) (D - i) ((piece zs i).map (Value.int .u8)) rfl (by simp [J]) (HN.out _ ((((Below.refl _ _).alloc (Nat.le_refl _) _).alloc (by simp) _).alloc (by simp <;> omega) _)) (oneC _) (by unfold maxLen;omega) (by omega) (by simp) ?_;intro v' w1 F A a9;obtain ⟨g,cg,aa,hg,E,H⟩:=row_of_owns F (by omega);rw [Nat.zero_add] at aa;subst aa;obtain ⟨q0,q1,q2,r0,r1,r2,fq,fr,a5⟩:=after_text A;have an:=(a5.cell (p:=⟨b,off+i,none⟩) Y).trans a0;have a6:Hid (Below w.heap.size w w1):=a5;have G:Hid (Row w1 g cg (piece zs i)):=E;have av:b≠w.heap.size+1:=(by omega);have V:g≠w.heap.size:=(by omega);have U:g≠w.heap.size+1:=(by omega);clear F A a9 E a0 a5) | (go_at_call 132;refine (l1great_any _ _).mono ?_;rintro e w2 ⟨rfl,ak⟩;subst ak))
     go_cut [] (fun W=>W.cell? ⟨w.heap.size+1,0,none⟩=some (.int .i64 (wordKind c0))∧W.cell? ⟨w.heap.size+1,1,none⟩=some (.int .i64 i)∧W.cell? ⟨w.heap.size+1,2,none⟩=some (.slice (some ⟨g,0,none⟩) (k - i) cg)∧(∃ m0 m1,W.cell? ⟨w.heap.size,0,none⟩=some (.int .i64 m0)∧W.cell? ⟨w.heap.size,1,none⟩=some (.int .i64 m1))∧W.cell? ⟨w.heap.size,2,none⟩=some (.slice none 0 0)∧(∀ o,W.frozen? ⟨w.heap.size,o,none⟩=false)∧Row W g cg (piece zs i)∧Below w.heap.size w W)
     case first =>
      cases hup:upB c0
      · go_wp2;go_meet
        case rel =>
         have a3:wordKind c0=2:=by simp [wordKind,hup]
         rw [a3];refine ⟨by first | (go_simp;done) | exact World.cell?_setCell_same' _ _ _ (by rw [World.cell?_setCell_same' _ _ _ (by rw [World.cell?_setCell_other _ _ _ _ (by simp),r0];rfl)];rfl),by go_simp,by go_simp,⟨0,0,by go_simp,by go_simp⟩,by go_simp,fun o=>by go_simp,?_,?_⟩
         · simp only [row_set _ _ _ _ _ _ _ U];exact G.out
         simp only [below_set _ _ _ _ _ _ (Nat.le_succ w.heap.size)];exact a6.out
      go_wp2;go_meet
      case rel =>
       have a3:wordKind c0=1:=by simp [wordKind,hup]
       rw [a3];refine ⟨by first | (go_simp;done) | exact World.cell?_setCell_same' _ _ _ (by rw [World.cell?_setCell_same' _ _ _ (by rw [World.cell?_setCell_other _ _ _ _ (by simp),r0];rfl)];rfl),by go_simp,by go_simp,⟨0,0,by go_simp,by go_simp⟩,by go_simp,fun o=>by go_simp,?_,?_⟩
       · simp only [row_set _ _ _ _ _ _ _ U];exact G.out
       simp only [below_set _ _ _ _ _ _ (Nat.le_succ w.heap.size)];exact a6.out
     case rest =>
      obtain ⟨r0,r1,r2,⟨m0,m1,q0,q1⟩,q2,fq,E,hW⟩:=hcut;have q:Hid (Row wc g cg (piece zs i)):=E;have af:Hid (Below w.heap.size w wc):=hW;obtain ⟨kd,N⟩:∃ kd,kd=wordKind c0:=⟨_,rfl⟩;rw [← N] at r0;have ag:Hid (kd=wordKind c0):=N;clear E hW G a6 an N;cases hu:upOk (piece zs i)
      · go_wp2
        first | go_region_with (first | (go_at_call 84;refine (specUpperOk_any _ _ _ (piece zs i) _ (lo:=g) (hi:=g+1) ?_).mono ?_;exact Row.rd (by rw [row_drew];exact q.out) J a2.out H (Nat.le_refl _) (Nat.lt_succ_self _);rintro e w3 ⟨rfl,rfl⟩;rw [hu]) | (go_at_call 18;refine (specLowerOk_any _ _ _ (piece zs i) _ (lo:=g) (hi:=g+1) ?_).mono ?_;exact Row.rd (by rw [row_drew];exact q.out) J a2.out H (Nat.le_refl _) (Nat.lt_succ_self _);rintro e w3 ⟨rfl,rfl⟩)) | fail
        all_goals
         go_wp2;refine bodyPost_ret (v:=.tuple #[.agg #[.int .i64 kd,.int .i64 i,.slice (some ⟨g,0,none⟩) (k - i) cg],.int .i64 k,.bool (lowOk (piece zs i))]) (by simp [results, Tryz.results155,go_sem,q0,q1,q2]) rfl ⟨g,cg,?_,?_,by omega,?_,H⟩
         · rw [a7.out,ag.out];simp [wordOk,hu]
         · simp only [below_drewE,below_set _ _ _ _ _ _ (Nat.le_refl w.heap.size)];exact af.out
         simp only [row_drew,row_set _ _ _ _ _ _ _ V];exact q.out
      go_wp2
      first | go_region_with (first | (go_at_call 84;refine (specUpperOk_any _ _ _ (piece zs i) _ (lo:=g) (hi:=g+1) ?_).mono ?_;exact Row.rd (by rw [row_drew];exact q.out) J a2.out H (Nat.le_refl _) (Nat.lt_succ_self _);rintro e w3 ⟨rfl,rfl⟩;rw [hu]) | (go_at_call 18;refine (specLowerOk_any _ _ _ (piece zs i) _ (lo:=g) (hi:=g+1) ?_).mono ?_;exact Row.rd (by rw [row_drew];exact q.out) J a2.out H (Nat.le_refl _) (Nat.lt_succ_self _);rintro e w3 ⟨rfl,rfl⟩)) | fail
      all_goals
       go_wp2;refine bodyPost_ret (v:=.tuple #[.agg #[.int .i64 kd,.int .i64 i,.slice (some ⟨g,0,none⟩) (k - i) cg],.int .i64 k,.bool true]) (by simp [results, Tryz.results155,go_sem,q0,q1,q2]) rfl ⟨g,cg,?_,?_,by omega,?_,H⟩
       · rw [a7.out,ag.out];simp [wordOk,hu]
       · simp only [below_drewE,below_set _ _ _ _ _ _ (Nat.le_refl w.heap.size)];exact af.out
       simp only [row_drew,row_set _ _ _ _ _ _ _ V];exact q.out
   have a1:k<n∧lowB c=true:=by simpa using hX
   have HE:Hid (runLow zs k=runLow zs (k+1)+1):=runLow_go zs k (by rw [HL.out];exact a1.1) (by rw [← a8.out];exact a1.2);have Z:=a1.1;clear a1;go_wp2;go_round
   case rel=>exact ⟨k+1,by omega,by omega,by go_num,by have:=HR.out;have:=HE.out;omega⟩
   case measure=>simp [intOf];omega
end

section
open Go.RowKit
end

section
open Go.RowKit
def OwnI (base:Nat) (w:World) (v:Value) (zs:List Int):Prop:=w.ownsRow base 3 1 v zs.length (zs.map (Value.int .i64))
theorem OwnI.nil (base:Nat) (w:World):OwnI base w (.slice none 0 0) []:=World.ownsRow_nil _ _ _ _
theorem OwnI.below {base B:Nat} {w w':World} {v:Value} {zs:List Int} (h:OwnI base w v zs) (hb:Below B w w') (hB:w.heap.size≤B):OwnI base w' v zs:=by
 obtain ⟨h1,h2⟩:=h;refine ⟨h1,?_⟩;rcases h2 with h2 | ⟨g,y,cur,hv,hg,hh,r⟩
 · exact .inl h2
 exact .inr ⟨g,y,cur,hv,hg,by rw [hb.block g (Nat.lt_of_lt_of_le (Array.getElem?_eq_some_iff.1 hh).1 hB)];exact hh,r⟩
def leafI (b off n:Nat):List (Addr × IntKind):=(List.range n).map fun j=>(⟨b,off+j,none⟩,.i64)
theorem OwnI.form {base:Nat} {w:World} {v:Value} {zs:List Int} (h:OwnI base w v zs) :
    ∃ a c b,v=.slice a zs.length c∧RI base w.heap.size w a zs.length c zs∧(zs.length=0∨a=some ⟨b,0,none⟩)∧LeafOk w (leafI b 0 zs.length)∧(zs.length=0∨(base≤b∧b<w.heap.size)):=by
 by_cases hz:zs.length=0
 · rcases h.2 with ⟨hv,_⟩ | ⟨g,y,cur,hv,_,_,_,D,_⟩
   · refine ⟨none,0,0,by rw [hv,hz],⟨rfl,by omega,.inl hz⟩,.inl hz,?_,.inl hz⟩;rw [hz];intro x hx;simp [leafI] at hx
   unfold maxLen at D;refine ⟨_,y,0,hv,⟨rfl,by omega,.inl hz⟩,.inl hz,?_,.inl hz⟩;rw [hz];intro x hx;simp [leafI] at hx
 obtain ⟨h1,h2⟩:=h;rcases h2 with ⟨_,h0⟩ | ⟨g,y,cur,hv,hg,hh,H,D,G,F⟩
 · exact absurd h0 hz
 simp only [Nat.mul_one] at G F;unfold maxLen at D;have E:g<w.heap.size:=(Array.getElem?_eq_some_iff.1 hh).1
 have q:∀ i,i<zs.length→w.cell? ⟨g,i,none⟩=some (.int .i64 (zs.getD i 0)):=by
  intro i hi;have e:(cur.toList.take zs.length)[i]?=(zs.map (Value.int .i64))[i]?:=by rw [F]
  rw [List.getElem?_take,if_pos hi] at e;simp only [Array.getElem?_toList] at e;rw [show (zs.map (Value.int .i64))[i]?=some (.int .i64 (zs.getD i 0)) by simp [List.getD,hi]] at e;simp [World.cell?,hh,e]
 refine ⟨_,y,g,hv,⟨rfl,⟨H,D⟩,.inr ⟨g,0,rfl,hg,E,fun i hi=>⟨_,by rw [Nat.zero_add];exact q i hi,rfl⟩⟩⟩,.inr rfl,?_,.inr ⟨hg,E⟩⟩;intro x hx;simp only [leafI,List.mem_map,List.mem_range] at hx;obtain ⟨j,hj,rfl⟩:=hx;simp only [Nat.zero_add];exact ⟨⟨_,q j hj⟩,by simp [World.frozen?,hh]⟩
end

end Go.Proofs.YtnmljalcndfjmaaGreat
