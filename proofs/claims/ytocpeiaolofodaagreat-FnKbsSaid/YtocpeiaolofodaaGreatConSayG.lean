/- The model's text of a concept, with what it leaves alone: no other block is turned; the bytes lie where they lay, or in a new block. -/
import Derived.Test.YtocpeiaolofodaaGreatNG6
import Derived.Maps.AppendAt
import Derived.Deep.AppendLies
import Derived.Deep.RegionLaw
import Derived.Deep.DeepCutAuto
namespace Go.Proofs.YtocpeiaolofodaaGreat
open Go.RowKit
structure Keep6 (base:Nat) (w:World) (v:Value) (w':World) (v':Value):Prop where
 k5:Keep5 base w w'
 gr:∀ b,b<w.heap.size→v.ownBlock≠some b→w'.heap[b]?=w.heap[b]?
 at':v'.ownBlock=v.ownBlock∨∃ g,v'.ownBlock=some g∧w.heap.size≤g
theorem Keep6.trans {base:Nat} {a b c:World} {u v z:Value} (h:Keep6 base a u b v) (k:Keep6 base b v c z):Keep6 base a u c z:=by
 have hs:=h.k5.1.size;refine ⟨h.k5.trans k.k5,fun x hx aM=>(k.gr x (by omega) (fun e=>?_)).trans (h.gr x hx aM),?_⟩
 · rcases h.at' with q | ⟨g,q,hg⟩
   · rw [q] at e;exact aM e
   rw [q] at e;cases e;omega
 rcases k.at' with q | ⟨g,q,hg⟩
 · rcases h.at' with r | ⟨g,r,hg⟩
   · exact .inl (q.trans r)
   exact .inr ⟨g,q.trans r,hg⟩
 exact .inr ⟨g,q,by omega⟩
theorem Keep6.of_below {base:Nat} {w w':World} {v:Value} (h:Below w.heap.size w w') (hb:base≤w.heap.size):Keep6 base w v w' v:=⟨Keep5.of_below h hb,fun b aW _=>h.block b aW,.inl rfl⟩
theorem Keep6.refl (base:Nat) (w:World) (v:Value):Keep6 base w v w v:=⟨Keep5.refl _ _,fun _ _ _=>rfl,.inl rfl⟩
theorem Keep6.drew {base:Nat} {w w':World} {v v':Value} (h:Keep6 base w v w' v'):Keep6 base w v w'.drew v':=⟨h.k5.drew,h.gr,h.at'⟩
theorem BoxC.keep6 {W W':World} {base b:Nat} {u u' v0 v1 v2 v3:Value} (h:BoxC W b v0 v1 v2 v3) (hk:Keep6 base W u W' u'):BoxC W' b v0 v1 v2 v3:=h.keep5 hk.k5
theorem ownB_app6 {base:Nat} {W w2:World} {v v':Value} {xs ys:List Int} (hO:OwnB base W v xs) (hb:base≤W.heap.size)
    (G:w2.ownsRow base 5 1 v' (xs.length+ys.length) (xs.map (Value.int .u8)++ys.map (Value.int .u8))) (A:W.grownBy w2 v.ownBlock) (N:v'.ownBlock=v.ownBlock∨v'.ownBlock=some W.heap.size) :
    OwnB base w2 v' (xs++ys)∧Keep6 base W v w2 v':=by
 refine ⟨(ownB_app hO hb G A).1,(ownB_app hO hb G A).2,fun b aW aM=>A.block b aW (fun e=>aM e.symm),?_⟩;rcases N with e | e
 · exact .inl e
 exact .inr ⟨_,e,Nat.le_refl _⟩
theorem append_str_at {P:Program} (w:World) (base:Nat) (t u ty e:TypeId) (i:TypeInfo) (ht:P.underlying t=some (.slice e)) (hu:P.underlying u=some .string) (hi:P.info? e=some i) (hz:i.zero=some (.int .u8 0))
    (J:i.size=1) (a2:i.bytes=1) (v:Value) (n:Nat) (xs:List Value) (G:w.ownsRow base e 1 v n xs) (s:ByteArray) (ab:n+s.size≤maxLen) (I:n+s.size≤140737488355328) (F:base≤w.heap.size) :
    ∃ v' w',(Builtin.append_ #[t,u] ty #[v,.string s]).run P w=.ok v' w'∧w'.ownsRow base e 1 v' (n+s.size) (xs++Lib.strCells s)∧w.grownBy w' v.ownBlock∧(v'.ownBlock=v.ownBlock∨v'.ownBlock=some w.heap.size):=by
 obtain ⟨v',w',hr,h2,h3,h4⟩:=Lib.run_append_own_string (P:=P) w base t u ty e i ht hu hi hz J a2 v n xs G s ab I F;refine ⟨v',w',hr,h2,h3,?_⟩;have bs:n+s.size≤9223372036854775807:=by simp only [maxLen] at ab;omega
 have bN:xs.length=n:=by simpa using G.1
 rcases G.2 with ⟨rfl,rfl⟩ | ⟨g,b7,cur,rfl,cx,hg,cp,cu,aV,bL⟩
 · by_cases hm:s.size=0
   · rw [h4.2 ⟨rfl,hm⟩];exact .inl rfl
   have hq:=run_append_nil_string (P:=P) w t u ty e i (.int .u8 0) ht hu hi hz s (by omega) (by omega) (by rw [a2];omega);rw [hq] at hr;simp only [Result.ok.injEq] at hr;rw [← hr.1];exact .inr rfl
 by_cases hroom:n+s.size≤b7
 · have hq:=Lib.run_append_room_string (P:=P) w t u ty e i ht hu hi J g n b7 cur hg s hroom (by omega);rw [hq] at hr;simp only [Result.ok.injEq] at hr;rw [← hr.1];exact .inl rfl
 have aE:∀ j u,xs[j]?=some u→w.cell? ((⟨g,0,none⟩:Addr).add j)=some u:=G.cells (g:=g) rfl;have hq:=Lib.run_append_grow_string (P:=P) w t u ty e i (.int .u8 0) ht hu hi hz ⟨g,0,none⟩ n b7 xs (by rw [J];simpa using bN) aE s (by omega) (by omega) (by rw [a2];exact growslice_fits (by omega) (by omega));rw [hq] at hr;simp only [Result.ok.injEq] at hr;rw [← hr.1];exact .inr rfl
theorem wp_append_strAt {P:Program} {o:Oper} {a:Act} {w:World} {K:Act→World→Prop} {Q:Exit→Act→World→Prop}
    (sl x:Operand) (t u:TypeId) (ho:o.op=.call { callee:=.builtin .append,args:=#[sl,x],argTypes:=#[t,u] })
    (base:Nat) (e:TypeId) (i:TypeInfo) (ht:P.underlying t=some (.slice e)) (hu:P.underlying u=some .string) (hi:P.info? e=some i) (hz:i.zero=some (.int .u8 0))
    (J:i.size=1) (a2:i.bytes=1) (v:Value) (n:Nat) (xs:List Value) (hs:a.eval sl=v) (G:w.ownsRow base e 1 v n xs) (s:ByteArray) (hx:a.eval x=.string s)
    (ab:n+s.size≤maxLen) (I:n+s.size≤140737488355328) (F:base≤w.heap.size)
    (h:∀ v' w',w'.ownsRow base e 1 v' (n+s.size) (xs++Lib.strCells s)→w.grownBy w' v.ownBlock→(v'.ownBlock=v.ownBlock∨v'.ownBlock=some w.heap.size)→K (a.put o.dst v') w'):o.wp P a w K Q:=by
 obtain ⟨v',w',hr,h2,h3,h4⟩:=append_str_at (P:=P) w base t u o.type e i ht hu hi hz J a2 v n xs G s ab I F;unfold Oper.wp execOp;simp only [ho,resolve,invoke,builtin,Sem.run_bind,Sem.run_pure,Result.andThen_ok,List.map_toArray,List.map_cons,List.map_nil,hs,hx,hr];exact h v' w' h2 h3 h4
theorem step_append_strAt {P:Program} {au:Array Oper} {o:Oper} {a:Act} {w:World} {K:Act→World→Prop} {Q:Exit→Act→World→Prop} {E:Prop}
    (aU:o.guard=none) (sl x:Operand) (t u:TypeId) (ho:o.op=.call { callee:=.builtin .append,args:=#[sl,x],argTypes:=#[t,u] })
    (base:Nat) (e:TypeId) (i:TypeInfo) (ht:P.underlying t=some (.slice e)) (hu:P.underlying u=some .string) (hi:P.info? e=some i) (hz:i.zero=some (.int .u8 0))
    (J:i.size=1) (a2:i.bytes=1) (v:Value) (n:Nat) (xs:List Value) (hs:a.eval sl=v) (G:w.ownsRow base e 1 v n xs) (s:ByteArray) (hx:a.eval x=.string s)
    (ab:n+s.size≤maxLen) (I:n+s.size≤140737488355328) (F:base≤w.heap.size)
    (h:∀ v' w',w'.ownsRow base e 1 v' (n+s.size) (xs++Lib.strCells s)→w.grownBy w' v.ownBlock→(v'.ownBlock=v.ownBlock∨v'.ownBlock=some w.heap.size)→K (a.put o.dst v') w') :
    if Region.wanted o (yielded au a.tmps)=true then Oper.wp P o a w K Q else E:=by
 have hw:Region.wanted o (yielded au a.tmps)=true:=by simp [Region.wanted,aU]
 rw [if_pos hw];exact wp_append_strAt sl x t u ho base e i ht hu hi hz J a2 v n xs hs G s hx ab I F h
theorem list_append_strAt {P:Program} {au:Array Oper} {rest:List Oper} {o:Oper} {a:Act} {w:World} {Q:Exit→Act→World→Prop}
    (aU:o.guard=none) (sl x:Operand) (t u:TypeId) (ho:o.op=.call { callee:=.builtin .append,args:=#[sl,x],argTypes:=#[t,u] })
    (base:Nat) (e:TypeId) (i:TypeInfo) (ht:P.underlying t=some (.slice e)) (hu:P.underlying u=some .string) (hi:P.info? e=some i) (hz:i.zero=some (.int .u8 0))
    (J:i.size=1) (a2:i.bytes=1) (v:Value) (n:Nat) (xs:List Value) (hs:a.eval sl=v) (G:w.ownsRow base e 1 v n xs) (s:ByteArray) (hx:a.eval x=.string s)
    (ab:n+s.size≤maxLen) (I:n+s.size≤140737488355328) (F:base≤w.heap.size)
    (h:∀ v' w',w'.ownsRow base e 1 v' (n+s.size) (xs++Lib.strCells s)→w.grownBy w' v.ownBlock→(v'.ownBlock=v.ownBlock∨v'.ownBlock=some w.heap.size)→wpList P au Q rest (a.put o.dst v') w'):wpList P au Q (o :: rest) a w :=
 wpList_plain aU fun _ hK=>wp_append_strAt sl x t u ho base e i ht hu hi hz J a2 v n xs hs G s hx ab I F (fun v' w' h2 h3 h4=>hK _ _ (h v' w' h2 h3 h4))
theorem ownB_str6 {base:Nat} {W w2:World} {v v':Value} {xs:List Int} {k:Int} (hO:OwnB base W v xs) (hb:base≤W.heap.size)
    (G:w2.ownsRow base 5 1 v' (xs.length+(wordB k).size) (xs.map (Value.int .u8)++Lib.strCells (wordB k))) (A:W.grownBy w2 v.ownBlock) (N:v'.ownBlock=v.ownBlock∨v'.ownBlock=some W.heap.size) :
    OwnB base w2 v' (xs++wordOf k)∧Keep6 base W v w2 v':=by
 rw [wordB_size,wordB_cells] at G;exact ownB_app6 hO hb G A N
def SayG (f:Nat) (d:Nat):Prop:=∀ (v:Value) (c:CN) (bv:Value) (xs:List Int) (w:World) (base lo hi:Nat),RdC lo hi w d v c→hi≤base→base≤w.heap.size→wfC c=true→OwnB base w bv xs→xs.length+(textC c).length≤1073741824 →
 Calls Tryz.prog f #[bv,v] w fun e w'=>∃ bv',e=.returned bv'∧OwnB base w' bv' (xs++textC c)∧Keep6 base w bv w' bv'
set_option maxRecDepth 100000 in
set_option maxHeartbeats 4000000 in
theorem sayG_of {d:Nat} (H:SayG 79 d):SayG 79 (d+1):=by
 intro v c bv xs w base lo hi h aN F aL hO bc;obtain ⟨na,nn,nc,ra,rn,rc,ka,kn,kc,rfl,hn,hr,hk⟩:=h;rw [wfC_eq,Bool.and_eq_true] at aL;obtain ⟨⟨bU,bT⟩,V,a0,a1⟩:=shape_facts aL.1;have c4:Hid (wfL c.kids=true):=aL.2;have Y:=textC_eq c;have bH:Hid (c.kids.length=kn):=hk.len;have cq:=hk.fits;have co:=hn.fits;have cm:=hr.fits;have aq:=hn.len;have ap:=hr.len;obtain ⟨k,bz⟩:∃ k,k=c.kind:=⟨_,rfl⟩;rw [← bz] at bU bT V a0 a1 Y ⊢;rw [hk.len] at Y;obtain ⟨i0,ag,af,ae,ad⟩:=info_parts Tryz.info5;have az:Below w.heap.size w (w.alloc (.cells #[.int .i64 k,.slice na nn nc,.slice ra rn rc,.slice ka kn kc] 37)):=(Below.refl _ _).alloc (Nat.le_refl _) _;have bJ:Hid (Keep6 base w bv (w.alloc (.cells #[.int .i64 k,.slice na nn nc,.slice ra rn rc,.slice ka kn kc] 37)) bv):=Keep6.of_below az F;have aD:Hid (BoxC (w.alloc (.cells #[.int .i64 k,.slice na nn nc,.slice ra rn rc,.slice ka kn kc] 37)) w.heap.size (.int .i64 k) (.slice na nn nc) (.slice ra rn rc) (.slice ka kn kc)):=BoxC.new w _ _ _ _;have b9:Hid (OwnB base (w.alloc (.cells #[.int .i64 k,.slice na nn nc,.slice ra rn rc,.slice ka kn kc] 37)) bv xs):=hO.below az (Nat.le_refl _);have HN:Hid (Rd lo hi w na nn nc c.name):=hn;have HR:Hid (Rd lo hi w ra rn rc c.role):=hr;have c8:Hid (RdL (RdC lo hi w d) lo hi w ka kn kc c.kids):=hk;have aA:base≤(w.alloc (.cells #[.int .i64 k,.slice na nn nc,.slice ra rn rc,.slice ka kn kc] 37)).heap.size:=by simp;omega
 have a6:Hid (base≤(w.alloc (.cells #[.int .i64 k,.slice na nn nc,.slice ra rn rc,.slice ka kn kc] 37)).heap.size):=aA;clear hk aL hO bz aA;by_cases k2:k=2
 · subst k2;rw [if_pos rfl] at Y;have ac:Hid (textC c=c.name):=Y;obtain ⟨bR,_⟩:=V rfl;rw [aq] at bR;have bS:c.name.length=nn:=aq;rw [Y,aq] at bc;have b6:=hn.below az (Nat.le_trans aN F);rcases b6.cells with hz | ⟨b',off',bQ,_,_,_⟩
   · omega
   subst bQ;have T:Hid (∀ j u,(c.name.map (Value.int .u8))[j]?=some u→(w.alloc (.cells #[.int .i64 2,.slice (some ⟨b',off',none⟩) nn nc,.slice ra rn rc,.slice ka kn kc] 37)).cell? ((⟨b',off',none⟩:Addr).add j)=some u):=rd_news b6;have ax:(c.name.map (Value.int .u8)).length=nn*1:=by simp [aq]
   obtain ⟨ys,aa⟩:∃ ys,ys=c.name:=⟨_,rfl⟩;rw [← aa] at T ax aq ac;subst aq;clear b6 hn hr az V a0 a1 Y aa bS;go_enter Tryz.func79, Tryz.ntmps79;go_wp2_with (first | (at_builtin;refine wpList_append_own_at _ rfl (.tmp 9) (.tmp 11) 22 rfl base 5 i0 (.int .u8 0) 1 1 Tryz.underlying22 ag af ae ad rfl (by decide) bv xs.length (xs.map (Value.int .u8)) rfl b9.out ⟨b',off',none⟩ ys.length nc (ys.map (Value.int .u8)) rfl ax T.out (oneCB _) (by unfold maxLen;omega) (by omega) a6.out ?_;intro v' w2 D A O N;have HF:Hid (OwnB base w2 v' (xs++ys)∧Keep6 base _ bv w2 v'):=ownB_app6 b9.out a6.out D A N;clear D A O N));go_ret;exact ⟨_,rfl,by rw [ac.out];exact HF.out.1,bJ.out.trans HF.out.2⟩
 rw [if_neg k2] at Y;have cr:(k == 2)=false:=by simpa using k2
 have cl:=wordOf_len k;obtain ⟨kk,rfl⟩:∃ kk:Nat,k=(kk:Int):=⟨k.toNat,by omega⟩;have bd:kk<8:=by omega
 have ci:(kk:Int)<8:=by omega
 have bh:Hid (OwnB base (w.alloc (.cells #[.int .i64 (kk:Int),.slice na nn nc,.slice ra rn rc,.slice ka kn kc] 37)).drew bv xs):=b9.out.below (B:=(w.alloc (.cells #[.int .i64 (kk:Int),.slice na nn nc,.slice ra rn rc,.slice ka kn kc] 37)).heap.size) ((Below.refl _ _).drew) (Nat.le_refl _);have bn:Hid (Keep6 base w bv (w.alloc (.cells #[.int .i64 (kk:Int),.slice na nn nc,.slice ra rn rc,.slice ka kn kc] 37)).drew bv):=bJ.out.drew;have ck:xs.length+4≤1073741900:=by omega
 have bD:Hid ((wordB (kk:Int)).size≤4):=by unfold Hid;rw [wordB_size];exact wordOf_len _
 clear V hn hr az;go_enter Tryz.func79, Tryz.ntmps79;go_upto_region 3 with fail;go_cut [0] (fun v W=>OwnB base W v (xs++wordOf (kk:Int))∧Keep6 base w bv W v∧BoxC W w.heap.size (.int .i64 (kk:Int)) (.slice na nn nc) (.slice ra rn rc) (.slice ka kn kc))
 case first =>
  go_region_law (first
   | (refine step_append_strAt rfl (.tmp 13) (.tmp 18) 22 9 rfl base 5 i0 Tryz.underlying22 Tryz.underlying9 ag af ae ad bv xs.length (xs.map (Value.int .u8)) (by simp [Act.eval]) ar.out (wordB (kk:Int)) (by simp [Act.eval]) (by have:=bD.out;unfold maxLen;omega) (by have:=bD.out;omega) bF.out ?_;intro v' w2 D A N;have HF:Hid (OwnB base w2 v' (xs++wordOf (kk:Int))∧Keep6 base w1 bv w2 v'):=ownB_str6 ar.out bF.out D A N;clear D A N)
   | (go_simp;refine (l2words_any _).mono ?_;rintro e w1 ⟨rfl,aV,ay⟩;have ar:Hid (OwnB base w1 bv xs):=bh.out.below ay (Nat.le_refl _);have c9:Hid (Keep6 base w bv w1 bv):=bn.out.trans (Keep6.of_below ay a6.out);have X:Hid (BoxC w1 w.heap.size (.int .i64 (kk:Int)) (.slice na nn nc) (.slice ra rn rc) (.slice ka kn kc)):=aD.out.below (W:=(w.alloc (.cells #[.int .i64 (kk:Int),.slice na nn nc,.slice ra rn rc,.slice ka kn kc] 37)).drew) ay aD.out.lt;have bF:Hid (base≤w1.heap.size):=Nat.le_trans a6.out ay.size;have cv:w1.cell? ⟨w.heap.size+1,kk,none⟩=some (.string (wordB (kk:Int))):=(by have hq:=aV kk bd;rw [show (w.alloc (.cells #[.int .i64 (kk:Int),.slice na nn nc,.slice ra rn rc,.slice ka kn kc] 37)).drew.heap.size=w.heap.size+1 from World.size_alloc _ _] at hq;exact hq);obtain ⟨b0,b1,b2,b3⟩:=X.out.cells;clear aV ay))
  all_goals
   (try go_simp);go_wp2_with fail;go_meet
   case rel=>exact ⟨HF.out.1,c9.out.trans HF.out.2,X.out.keep6 HF.out.2⟩
 case rest =>
  obtain ⟨b5,aj,am⟩:=hcut;obtain ⟨b0,b1,b2,b3⟩:=am.cells;have an:Hid (Keep6 base w bv wc u0):=aj;have X:Hid (BoxC wc w.heap.size (.int .i64 (kk:Int)) (.slice na nn nc) (.slice ra rn rc) (.slice ka kn kc)):=am;have bu:base≤wc.heap.size:=Nat.le_trans F aj.k5.1.size;obtain ⟨x1,aK⟩:∃ x1,x1=xs++wordOf (kk:Int):=⟨_,rfl⟩;rw [← aK] at b5;have bC:Hid (x1=xs++wordOf (kk:Int)):=aK;have cg:x1.length≤xs.length+4:=by rw [aK,List.length_append];omega
  have ar:Hid (OwnB base wc u0 x1):=b5;clear b5 aj am aK;by_cases hkn:kn=0
  · subst hkn;rw [if_pos rfl] at Y;have ac:Hid (xs++textC c=x1):=by unfold Hid;rw [Y,bC.out]
    go_wp2_with fail;go_ret;exact ⟨_,rfl,by rw [ac.out];exact ar.out,an.out⟩
  rw [if_neg hkn] at Y;have ch:((kn:Int) == 0)=false:=by simp;omega
  have ac:Hid (xs++textC c=x1++[40]++roleT c.role++textJ 0 c.kids++[41]):=by unfold Hid;rw [Y,bC.out];simp
  have cy:x1.length+1+(roleT c.role).length+(textJ 0 c.kids).length+1≤1073741824:=by
   have:=congrArg List.length ac.out;simp only [List.length_append,List.length_cons,List.length_nil] at this;omega
  have U:Hid (Below wc.heap.size wc (wc.alloc (.cells #[.int .u8 40] 5))):=(Below.refl _ _).alloc (Nat.le_refl _) _;have a4:Hid (OwnB base (wc.alloc (.cells #[.int .u8 40] 5)) u0 x1):=ar.out.below U.out (Nat.le_refl _);have a3:Hid (base≤(wc.alloc (.cells #[.int .u8 40] 5)).heap.size):=Nat.le_trans bu U.out.size;go_upto_if 31 with (at_builtin;refine wpList_append_own_at _ rfl (.tmp 25) (.tmp 26) 22 rfl base 5 i0 (.int .u8 0) 1 1 Tryz.underlying22 ag af ae ad rfl (by decide) u0 x1.length (x1.map (Value.int .u8)) rfl a4.out ⟨wc.heap.size,0,none⟩ 1 1 ([40].map (Value.int .u8)) rfl rfl (new1 _ _ _ rfl) (oneCB _) (by unfold maxLen;omega) (by omega) a3.out ?_;intro v' w2 D A O N;have HF:Hid (OwnB base w2 v' (x1++[40])∧Keep6 base _ u0 w2 v'):=ownB_app6 a4.out a3.out D A N;clear D A O N;have Z:Hid (Keep6 base w bv w2 v'):=(an.out.trans (Keep6.of_below U.out bu)).trans HF.out.2;have a8:Hid (BoxC w2 w.heap.size (.int .i64 (kk:Int)) (.slice na nn nc) (.slice ra rn rc) (.slice ka kn kc)):=(X.out.below U.out X.out.lt).keep6 HF.out.2;clear b0 b1 b2 b3;obtain ⟨b0,b1,b2,b3⟩:=a8.out.cells)
  obtain ⟨x2,aJ⟩:∃ x2,x2=x1++[40]:=⟨_,rfl⟩;have bY:Hid (x2=x1++[40]):=aJ;have cf:x2.length=x1.length+1:=by rw [aJ];simp
  have aQ:Hid (OwnB base w2 v' x2):=by unfold Hid;rw [aJ];exact HF.out.1
  have aT:base≤w2.heap.size:=Nat.le_trans F Z.out.k5.1.size;clear HF aJ a4 a3 U ar an X;go_cut [0] (fun v W=>OwnB base W v (x2++roleT c.role)∧Keep6 base w bv W v∧BoxC W w.heap.size (.int .i64 (kk:Int)) (.slice na nn nc) (.slice ra rn rc) (.slice ka kn kc))
  case first =>
   by_cases hr0:rn=0
   · subst hr0;have aO:Hid (roleT c.role=[]):=by unfold Hid roleT;rw [if_pos (List.eq_nil_of_length_eq_zero ap)]
     go_wp2_with fail;go_meet
     case rel=>rw [aO.out,List.append_nil];exact ⟨aQ.out,Z.out,a8.out⟩
   have cn:(0:Int)<(rn:Int):=by omega
   have aX:=HR.out.below Z.out.k5.1 aN;rcases aX.cells with hz | ⟨b',off',bP,_,_,_⟩
   · omega
   subst bP;have aO:Hid (roleT c.role=c.role++[32]):=by unfold Hid roleT;rw [if_neg (fun e=>by rw [e] at ap;simp at ap;omega)]
   have T:Hid (∀ j u,(c.role.map (Value.int .u8))[j]?=some u→w2.cell? ((⟨b',off',none⟩:Addr).add j)=some u):=rd_news aX;have ax:(c.role.map (Value.int .u8)).length=rn*1:=by simp [ap]
   obtain ⟨ys,aa⟩:∃ ys,ys=c.role:=⟨_,rfl⟩;have bV:Hid (ys=c.role):=aa;have bM:ys.length=rn:=by rw [aa];exact ap
   have cj:x2.length+ys.length+2≤1073741824:=by
    have e1:=congrArg List.length aO.out;simp only [List.length_append,List.length_cons,List.length_nil] at e1;rw [aa];omega
   rw [← aa] at T ax;subst bM;clear aX aa ap;go_wp2_with (first | (at_builtin;refine wpList_append_own_at _ rfl (.tmp 32) (.tmp 34) 22 rfl base 5 i0 (.int .u8 0) 1 1 Tryz.underlying22 ag af ae ad rfl (by decide) v' x2.length (x2.map (Value.int .u8)) rfl aQ.out ⟨b',off',none⟩ ys.length rc (ys.map (Value.int .u8)) rfl ax T.out (oneCB _) (by unfold maxLen;omega) (by omega) aT ?_;intro v3 w3 D A O N;have aR:Hid (OwnB base w3 v3 (x2++ys)∧Keep6 base w2 v' w3 v3):=ownB_app6 aQ.out aT D A N;clear D A O N;obtain ⟨x3,aI⟩:∃ x3,x3=x2++ys:=⟨_,rfl⟩;have bX:Hid (x3=x2++ys):=aI;have ce:x3.length=x2.length+ys.length:=(by rw [aI];simp);have aS:base≤w3.heap.size:=Nat.le_trans aT aR.out.2.k5.1.size;have a9:Hid (Below w3.heap.size w3 (w3.alloc (.cells #[.int .u8 32] 5))):=(Below.refl _ _).alloc (Nat.le_refl _) _;have bG:Hid (OwnB base (w3.alloc (.cells #[.int .u8 32] 5)) v3 x3):=(by unfold Hid;rw [aI];exact aR.out.1.below a9.out (Nat.le_refl _));have bE:Hid (base≤(w3.alloc (.cells #[.int .u8 32] 5)).heap.size):=Nat.le_trans aS a9.out.size;clear aI) | (at_builtin;refine wpList_append_own_at _ rfl (.tmp 35) (.tmp 36) 22 rfl base 5 i0 (.int .u8 0) 1 1 Tryz.underlying22 ag af ae ad rfl (by decide) v3 x3.length (x3.map (Value.int .u8)) rfl bG.out ⟨w3.heap.size,0,none⟩ 1 1 ([32].map (Value.int .u8)) rfl rfl (new1 _ _ _ rfl) (oneCB _) (by unfold maxLen;omega) (by omega) bE.out ?_;intro v4 w4 D A O N;have bb:Hid (OwnB base w4 v4 (x3++[32])∧Keep6 base _ v3 w4 v4):=ownB_app6 bG.out bE.out D A N;clear D A O N));go_meet
   case rel =>
    rw [aO.out];refine ⟨?_,Z.out.trans (aR.out.2.trans ((Keep6.of_below a9.out aS).trans bb.out.2)),(a8.out.keep6 aR.out.2).keep6 ((Keep6.of_below a9.out aS).trans bb.out.2)⟩;have:=bb.out.1;rw [bX.out,bV.out,List.append_assoc] at this;exact this
  case rest =>
   obtain ⟨b4,aB,aC⟩:=hcut;have bk:Hid (Keep6 base w bv wc u0):=aB;have bq:Hid (BoxC wc w.heap.size (.int .i64 (kk:Int)) (.slice na nn nc) (.slice ra rn rc) (.slice ka kn kc)):=aC;obtain ⟨x5,aH⟩:∃ x5,x5=x2++roleT c.role:=⟨_,rfl⟩;rw [← aH] at b4;have cd:x5.length=x2.length+(roleT c.role).length:=by rw [aH];simp
   have bg:Hid (xs++textC c=x5++textJ 0 c.kids++[41]):=by unfold Hid;rw [ac.out,aH,bY.out]
   have c7:Hid (OwnB base wc u0 x5):=b4;clear b4 aB aC aH aQ Z a8 ac;go_wp2_with fail;go_loopw [0,5] (fun v i W=>∃ j:Nat,j≤kn∧i=.int .i64 j∧OwnB base W v (x5++textJ 0 (c.kids.take j))∧Keep6 base w bv W v∧BoxC W w.heap.size (.int .i64 (kk:Int)) (.slice na nn nc) (.slice ra rn rc) (.slice ka kn kc)) (fun _ i _=>kn - (intOf i).toNat)
   case atStart=>exact ⟨0,Nat.zero_le _,rfl,by simpa [textJ] using c7.out,bk.out,bq.out⟩
   case round =>
    obtain ⟨j,hj,rfl,aZ,ai,al⟩:=hrel;obtain ⟨c0,c1,c2,c3⟩:=al.cells;have a7:Hid (Keep6 base w bv wr u0):=ai;have ao:Hid (BoxC wr w.heap.size (.int .i64 (kk:Int)) (.slice na nn nc) (.slice ra rn rc) (.slice ka kn kc)):=al;have av:base≤wr.heap.size:=Nat.le_trans F ai.k5.1.size;obtain ⟨x6,aG⟩:∃ x6,x6=x5++textJ 0 (c.kids.take j):=⟨_,rfl⟩;rw [← aG] at aZ;have b8:Hid (x6=x5++textJ 0 (c.kids.take j)):=aG;have cc:x6.length≤x5.length+(textJ 0 c.kids).length:=by rw [aG,List.length_append];have:=textJ_take_le c.kids j;omega
    have aP:Hid (OwnB base wr u0 x6):=aZ;clear aZ ai al aG;by_cases hlt:j<kn
    · have bA:j<c.kids.length:=by rw [bH.out];exact hlt
      have ct:(j:Int)<(kn:Int):=by omega
      have hT:=textJ_take_succ c.kids j bA;have bf:=textJ_take_le c.kids (j+1);have HT:Hid (textJ 0 (c.kids.take (j+1))=textJ 0 (c.kids.take j)++gapT j++textC (c.kids.getD j CN.zero)):=hT
      have cb:x6.length+(gapT j).length+(textC (c.kids.getD j CN.zero)).length≤x5.length+(textJ 0 c.kids).length:=by
       have e1:=congrArg List.length hT;have e2:=congrArg List.length b8.out;simp only [List.length_append] at e1 e2;omega
      clear hT bf;go_upto_if 46 with fail
      go_cut [0] (fun v W=>OwnB base W v (x6++gapT j)∧Keep6 base w bv W v∧BoxC W w.heap.size (.int .i64 (kk:Int)) (.slice na nn nc) (.slice ra rn rc) (.slice ka kn kc))
      case first =>
       by_cases hj0:0<j
       · have U:Hid (Below wr.heap.size wr (wr.alloc (.cells #[.int .u8 32] 5))):=(Below.refl _ _).alloc (Nat.le_refl _) _;have a4:Hid (OwnB base (wr.alloc (.cells #[.int .u8 32] 5)) u0 x6):=aP.out.below U.out (Nat.le_refl _);have a3:Hid (base≤(wr.alloc (.cells #[.int .u8 32] 5)).heap.size):=Nat.le_trans av U.out.size;go_wp2_with (at_builtin;refine wpList_append_own_at _ rfl (.tmp 47) (.tmp 48) 22 rfl base 5 i0 (.int .u8 0) 1 1 Tryz.underlying22 ag af ae ad rfl (by decide) u0 x6.length (x6.map (Value.int .u8)) rfl a4.out ⟨wr.heap.size,0,none⟩ 1 1 ([32].map (Value.int .u8)) rfl rfl (new1 _ _ _ rfl) (oneCB _) (by unfold maxLen;omega) (by omega) a3.out ?_;intro v7 w7 D A O N;have ba:Hid (OwnB base w7 v7 (x6++[32])∧Keep6 base _ u0 w7 v7):=ownB_app6 a4.out a3.out D A N;clear D A O N);go_meet
         case rel=>rw [gapT_pos hj0];exact ⟨ba.out.1,a7.out.trans ((Keep6.of_below U.out av).trans ba.out.2),ao.out.keep6 ((Keep6.of_below U.out av).trans ba.out.2)⟩
       have be:j=0:=by omega
       subst be;go_wp2_with fail;go_meet
       case rel=>rw [gapT_zero,List.append_nil];exact ⟨aP.out,a7.out,ao.out⟩
      case rest =>
       obtain ⟨aY,a5,ak⟩:=hcut;clear c0 c1 c2 c3;obtain ⟨c0,c1,c2,c3⟩:=ak.cells;have bj:Hid (Keep6 base w bv wc u0):=a5;have bp:Hid (BoxC wc w.heap.size (.int .i64 (kk:Int)) (.slice na nn nc) (.slice ra rn rc) (.slice ka kn kc)):=ak;have bO:base≤wc.heap.size:=Nat.le_trans F a5.k5.1.size;obtain ⟨x7,aF⟩:∃ x7,x7=x6++gapT j:=⟨_,rfl⟩;rw [← aF] at aY;have ca:x7.length=x6.length+(gapT j).length:=by rw [aF];simp
       have bW:Hid (x7++textC (c.kids.getD j CN.zero)=x5++textJ 0 (c.kids.take (j+1))):=by unfold Hid;rw [HT.out,aF,b8.out];simp
       have c6:Hid (OwnB base wc u0 x7):=aY;have hR:=c8.out.below a5.k5.1 aN;rcases hR.cells with hz | ⟨b,off,e1,_,_,hc⟩
       · omega
       subst e1;obtain ⟨v0,v1,v2,v3,q0,q1,q2,q3,bx⟩:=hc j hlt;have bm:Hid (RdC lo hi wc d (.agg #[v0,v1,v2,v3]) (c.kids.getD j CN.zero)):=bx;have bZ:Hid (wfC (c.kids.getD j CN.zero)=true):=wfL_getD _ _ bA c4.out;clear aY a5 ak aF hR hc bx aP a7 ao;go_wp2_with fail;refine (H (.agg #[v0,v1,v2,v3]) (c.kids.getD j CN.zero) u0 x7 wc base lo hi bm.out aN bO bZ.out c6.out (by omega)).mono ?_;rintro e w8 ⟨v8,rfl,bB,ah⟩;have c5:Hid (OwnB base w8 v8 (x5++textJ 0 (c.kids.take (j+1)))):=by unfold Hid;rw [← bW.out];exact bB
       have bi:Hid (Keep6 base w bv w8 v8):=bj.out.trans ah;have bo:Hid (BoxC w8 w.heap.size (.int .i64 (kk:Int)) (.slice na nn nc) (.slice ra rn rc) (.slice (some ⟨b,off,none⟩) kn kc)):=bp.out.keep6 ah;clear bB ah;go_wp2_with fail;go_roundw
       case rel=>exact ⟨j+1,by omega,by go_num,c5.out,bi.out,bo.out⟩
       case measure=>simp [intOf];omega
    have HE:Hid (xs++textC c=x6++[41]):=by unfold Hid;rw [bg.out,b8.out,List.take_of_length_le (by rw [bH.out];omega)]
    have U:Hid (Below wr.heap.size wr (wr.alloc (.cells #[.int .u8 41] 5))):=(Below.refl _ _).alloc (Nat.le_refl _) _;have a4:Hid (OwnB base (wr.alloc (.cells #[.int .u8 41] 5)) u0 x6):=aP.out.below U.out (Nat.le_refl _);have a3:Hid (base≤(wr.alloc (.cells #[.int .u8 41] 5)).heap.size):=Nat.le_trans av U.out.size;go_wp2_with (at_builtin;refine wpList_append_own_at _ rfl (.tmp 57) (.tmp 58) 22 rfl base 5 i0 (.int .u8 0) 1 1 Tryz.underlying22 ag af ae ad rfl (by decide) u0 x6.length (x6.map (Value.int .u8)) rfl a4.out ⟨wr.heap.size,0,none⟩ 1 1 ([41].map (Value.int .u8)) rfl rfl (new1 _ _ _ rfl) (oneCB _) (by unfold maxLen;omega) (by omega) a3.out ?_;intro v9 w9 D A O N;have bK:Hid (OwnB base w9 v9 (x6++[41])∧Keep6 base _ u0 w9 v9):=ownB_app6 a4.out a3.out D A N;clear D A O N);go_ret;exact ⟨_,rfl,by rw [HE.out];exact bK.out.1,a7.out.trans ((Keep6.of_below U.out av).trans bK.out.2)⟩
theorem sayG_any:∀ d,SayG 79 d
 | 0=>fun _ _ _ _ _ _ _ _ h=>h.elim
 | d+1=>sayG_of (sayG_any d)
end Go.Proofs.YtocpeiaolofodaaGreat
