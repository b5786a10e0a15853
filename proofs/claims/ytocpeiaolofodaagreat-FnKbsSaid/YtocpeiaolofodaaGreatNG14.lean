/- Several texts in one: TokFin, TokBack, TokNil. -/
import Derived.Test.YtocpeiaolofodaaGreatImplTok4
import Derived.Test.YtocpeiaolofodaaGreatNG3
import Derived.Test.YtocpeiaolofodaaGreatNG1
namespace Go.Proofs.YtocpeiaolofodaaGreat

section
open Go.RowKit
theorem toksFrom_bound (zs:List Int):∀ (f i:Nat) (j:List Tok),i≤zs.length→j.length≤i→(∀ t∈j,t.text.length≤zs.length)→(toksFrom zs f i j).1.length≤zs.length∧∀ t∈(toksFrom zs f i j).1,t.text.length≤zs.length
 | 0,i,j,hi,hl,ht=>⟨by simp only [toksFrom];omega,ht⟩
 | f+1,i,j,hi,hl,ht=>by
  by_cases h:i<zs.length
  · cases hb:blankB (zs.getD i 0)
    · by_cases hk:kindOf (piece zs i)=0
      · rw [toksFrom_bad zs f i j h hb hk];exact ⟨by simp,fun t h=>by simp at h⟩
      rw [toksFrom_tok zs f i j h hb hk];refine toksFrom_bound zs f _ _ (pend_le zs i h) (by have:=pend_gt zs i;simp;omega) ?_;intro t h';rcases List.mem_append.1 h' with h' | h'
      · exact ht t h'
      simp at h';subst h';simp only [tokAt]
      split
      · rw [piece_length zs i h];have:=pend_le zs i h;omega
      simp
    rw [toksFrom_blank zs f i j h hb];exact toksFrom_bound zs f _ _ (by omega) (by omega) ht
  rw [toksFrom_stop zs _ i j (by omega)];exact ⟨by show j.length≤_;omega,ht⟩
theorem toks_bound (zs:List Int):(toks zs).1.length≤1500∧∀ i,((toks zs).1.getD i Tok.zero).text.length≤1500:=by
 have A:(toks zs).1.length≤1500∧∀ t∈(toks zs).1,t.text.length≤1500:=by
  unfold toks
  split
  · exact ⟨by simp,fun t h=>by simp at h⟩
  have:=toksFrom_bound zs (zs.length+1) 0 [] (by omega) (by simp) (fun t h=>by simp at h);exact ⟨by omega,fun t h=>by have:=this.2 t h;omega⟩
 refine ⟨A.1,fun i=>?_⟩;by_cases hi:i<(toks zs).1.length
 · have:=A.2 ((toks zs).1[i]) (List.getElem_mem hi);simpa [List.getD,hi] using this
 simp only [List.getD];rw [List.getElem?_eq_none (by omega)];simp [Tok.zero]
theorem implTok_at (b off n z:Nat) (zs:List Int) (ts:List Tok) (p:Int) (ht:toks zs=(ts,p)) (w:World) (h:Rd 0 w.heap.size w (some ⟨b,off,none⟩) n z zs) (hb:b<w.heap.size) :
    Calls Tryz.prog 49 #[.slice (some ⟨b,off,none⟩) n z] w fun e w'=>∃ a' cap' gs,e=.returned (.tuple #[.slice a' ts.length cap',.int .i64 p])∧OwnT w.heap.size w' (.slice a' ts.length cap') ts gs∧RdT w.heap.size w'.heap.size w' a' ts.length cap' ts∧Below w.heap.size w w':=by
 have A:Calls Tryz.prog 49 #[.slice (some ⟨b,off,none⟩) n z] w fun e w'=>∃ v gs,e=.returned (.tuple #[v,.int .i64 (toks zs).2])∧OwnT w.heap.size w' v (toks zs).1 gs∧Below w.heap.size w w':=by
  by_cases hbig:1500<n
  · exact implTokens_big _ n z zs w h hbig
  exact implTokens_small b off n z zs w h hb (by omega)
 refine A.mono fun e w' ⟨v,gs,he,hO,hb⟩=>?_
 rw [ht] at he hO;obtain ⟨a',cap',rfl,hr⟩:=hO.rd;exact ⟨a',cap',gs,he,hO,hr,hb⟩
theorem HeadT.same {w w':World} {b off n lo hi:Nat} {tx:Nat→Nat × Nat × Nat} (h:HeadT w b off tx n) (hs:Same lo hi w w') (h1:n=0∨lo≤b) (h2:n=0∨b<hi):HeadT w' b off tx n:=by
 intro i D;obtain ⟨ta,tc,hc,r⟩:=h i D;exact ⟨ta,tc,(hs.cell (p:=⟨b,_,none⟩) (by show lo≤b;omega) (by show b<hi;omega)).trans hc,r⟩
end

section
open Go.RowKit
theorem low_not_up {p:List Int} (h:lowOk p=true):upOk p=false:=by
 cases hu:upOk p
 · rfl
 exfalso
 have hb:upB (p.getD 0 0)=true:=by simp only [upOk,Bool.and_eq_true] at hu;exact hu.2.1
 simp only [lowOk,longB,Bool.and_eq_true,decide_eq_true_eq] at h;obtain ⟨⟨h1,_⟩,h2⟩:=h
 have hm:=List.all_eq_true.1 h2 (p.getD 0 0) (by
  simp only [List.getD];rw [List.getElem?_eq_getElem (by omega)]
  simp)
 generalize p.getD 0 0=c at hm hb
 simp only [lowB,upB,Bool.and_eq_true,decide_eq_true_eq] at hm hb;omega
theorem takeWhile_app {p:Int→Bool}:∀ (a b:List Int),a.all p=true→(b=[]∨∃ x r,b=x :: r∧p x=false)→(a++b).takeWhile p=a
 | [],b,_,h=>by
  rcases h with rfl | ⟨x,r,rfl,hx⟩
  · rfl
  simp [hx]
 | y :: a,b,ha,h=>by
  simp only [List.all_cons,Bool.and_eq_true] at ha;simp only [List.cons_append,List.takeWhile_cons,ha.1,if_true];rw [takeWhile_app a b ha.2 h]
end

section
open Go.RowKit Go.Shelf
attribute [local go_sem] Oper.semAt_some
set_option maxRecDepth 100000 in
set_option maxHeartbeats 600000 in
theorem implTokens_nil (b off:Nat) (a:Option Addr) (j:Nat) (zs:List Int) (w:World) (hz:zs.length=0) :
    Calls Tryz.prog 49 #[.slice a 0 j] w fun e w'=>∃ v gs,e=.returned (.tuple #[v,.int .i64 (toks zs).2])∧OwnT w.heap.size w' v (toks zs).1 gs∧Below w.heap.size w w':=by
 have HL:Hid (zs.length=0):=hz;have HT:Hid (toks zs=goToks zs (posFrom zs (0+1) 0) []):=by unfold Hid toks;rw [if_neg (by rw [hz];omega),hz,goToks_pos]
 clear hz;obtain ⟨i0,Y,X,V,U⟩:=info_parts Tryz.infoTok3;refine (callsIn_wide (n:=6)).1 ?_;refine callsIn_of_wp_marks Tryz.func49 rfl trivial ?_ rfl;simp only [Tryz.ntmps49,List.size_toArray,List.length_cons,List.length_nil,Nat.reduceAdd,Nat.reduceSub,Array.replicate_succ,Array.replicate_zero,List.push_toArray,List.append_toArray,List.nil_append,List.cons_append]
 gi_wp2
 refine wpIn_scope_wide ?_
 gi_wp2
 refine wpIn_label ?_
 gi_wp2_with (refine ⟨trivial,?_⟩;gi_at_call 72;refine (pieces_in _ _ _ _ _).mono ?_;rintro e w' ⟨rfl,rfl⟩)
 have bL:=Boxed.new w 79 (.slice none 0 0);have bB:=Boxed.new (w.alloc (.cells #[.slice none 0 0] 79)) 3 (.int .i64 (-1));have bS:=Boxed.new ((w.alloc (.cells #[.slice none 0 0] 79)).alloc (.cells #[.int .i64 (-1)] 3)) 22 (.slice a 0 j);rw [World.size_alloc] at bB;rw [World.size_alloc,World.size_alloc] at bS;have O:Below w.heap.size w (((w.alloc (.cells #[.slice none 0 0] 79)).alloc (.cells #[.int .i64 (-1)] 3)).alloc (.cells #[.slice a 0 j] 22)):=(((Below.refl _ w).alloc (Nat.le_refl _) _).alloc (by simp) _).alloc (by simp;omega) _
 refine wpIn_rangeFunc_ownG rfl (by omega) (gf:=98) (lb:=#[.pointer (some ⟨w.heap.size+1+1,0,none⟩)]) rfl trivial (enters_of Tryz.func98 (by kernel_rfl) rfl)
  (pieces_stops_nil 5 (w.heap.size+1+1) w.heap.size b off j a zs HL.out _ (by simp) (Boxed.cell bS)) KpT.trans
  (fun W l o o' hl hW hc hw=>⟨belowK_b (w:=w) (Nat.le_refl _) W l o o' (by simp at hl;omega) hW hc hw,World.putObj_heap_other (by simp at hl;omega)⟩) (Below.refl _ _) (fun _=>rfl)
  (InvI w.heap.size w zs (.slice a 0 j)) (InvX w.heap.size w zs) (InvI.own (by simp;omega)) (InvX.own (by simp;omega))
  ⟨.slice none 0 0,[],⟨(bL.alloc _).alloc _,bB.alloc _,bS,OwnT.nil _ _,fun _ h=>by simp at h,O⟩⟩
  (fun x=>{ tmps:=#[.slice a 0 j,undef,.slice none 0 0,.int .i64 0,.pointer (some ⟨w.heap.size,0,none⟩),.pointer (some ⟨w.heap.size+1,0,none⟩),.int .i64 (x.1:Nat),.slice (some ⟨b,off+x.1,none⟩) (pend zs x.1 - x.1) (j - x.1),undef,.slice a 0 j,.int .i64 0,.bool false,.slice a 0 j,.func (.func 98) #[] #[.pointer (some ⟨w.heap.size+1+1,0,none⟩)],.int .i64 (x.1:Nat),.slice (some ⟨b,off+x.1,none⟩) (pend zs x.1 - x.1) (j - x.1),undef,undef,undef,undef,undef,undef,undef,undef,undef,undef,undef,undef,undef,undef,undef,undef,undef,undef,undef,undef,undef,undef,undef,undef,undef,undef],defers:=[] }) ?assign ?body ?done ?stop
 case assign =>
  intro l x W K hK;unfold encP
  gi_wp2
  exact hK
 case body =>
  rintro l pre x W _ T;have h1:=x.2.1;have h2:=HL.out;omega
 case done =>
  rintro D ys W hD rfl ⟨v,gs,hI⟩ hK;have cL:=Boxed.cell hI.list;have cB:=Boxed.cell hI.bad
  gi_wp2
  refine wpIn_wide.2 ?_;go_quiet (fail)
  gi_wp2
  rw [Exit.noGoto_ret];have A:(W.drewN nq).heap[D]?=some (.deferred (some [])):=hK;refine ⟨by simp,.inl ⟨_,_,rfl,run_takeDeferred A,?_⟩⟩;have hE:toks zs=((posFrom zs (0+1) 0).map (fun x=>tokAt zs x.1),-1):=by rw [HT.out,goToks_good zs _ _ hI.good];simp
  have hO:OwnT w.heap.size (W.drewN nq) v ((posFrom zs (0+1) 0).map (fun x=>tokAt zs x.1)) gs:=hI.own.of_cells fun _ _ _ _ h=>h
  have H:∀ r,some D=some r→∃ o:Obj,(W.drewN nq).heap[r]?=some o∧o.isCells=false:=fun r e=>by cases e;exact ⟨_,A,rfl⟩
  have E:w.heap.size≤D:=by simp at hD;omega
  exact ⟨_,results_tmp2 rfl _ _ _,v,gs,by rw [hE];rfl,by rw [hE];exact hO.noncells (grownBy_putObj' _ D _) H,(below_drewN hI.bel nq).grown (grownBy_putObj' _ D _) (by have:=Boxed.lt hI.list;simp;omega) (fun k e=>by cases e;exact E)⟩
 case stop =>
  rintro D c pre W hD F ⟨rfl,G,pre',x,rfl,N,I,bL',bB'⟩ hK;have cL:=Boxed.cell bL';have cB:=Boxed.cell bB'
  gi_wp2
  refine wpIn_wide.2 ?_;go_quiet (fail)
  gi_wp2
  rw [Exit.noGoto_ret];have A:(W.drewN nq).heap[D]?=some (.deferred (some [])):=hK;refine ⟨by simp,.inl ⟨_,_,rfl,run_takeDeferred A,?_⟩⟩;obtain ⟨rest,z⟩:=F;have hE:toks zs=([],((x.1:Nat):Int)):=by rw [HT.out,← z,List.append_assoc,List.cons_append,List.nil_append];exact goToks_bad zs pre' x rest [] N I
  have E:w.heap.size≤D:=by simp at hD;omega
  exact ⟨_,results_tmp2 rfl _ _ _,.slice none 0 0,[],by rw [hE];rfl,by rw [hE];exact OwnT.nil _ _,(below_drewN G nq).grown (grownBy_putObj' _ D _) (by have:=Boxed.lt bL';simp;omega) (fun k e=>by cases e;exact E)⟩
theorem implTok_all (a:Option Addr) (n j:Nat) (zs:List Int) (w:World) {lo hi:Nat} (h:Rd lo hi w a n j zs) (J:hi≤w.heap.size) :
    Calls Tryz.prog 49 #[.slice a n j] w fun e w'=>∃ v gs,e=.returned (.tuple #[v,.int .i64 (toks zs).2])∧OwnT w.heap.size w' v (toks zs).1 gs∧Below w.heap.size w w':=by
 by_cases hn:n=0
 · subst hn;exact implTokens_nil 0 0 a j zs w h.len
 rcases h.cells with h0 | ⟨b,off,rfl,h1,h2,_⟩
 · exact absurd h0 hn
 have h':=h.mono (Nat.zero_le _) J;by_cases hbig:1500<n
 · exact implTokens_big _ n j zs w h' hbig
 exact implTokens_small b off n j zs w h' (by omega) (by omega)
end

end Go.Proofs.YtocpeiaolofodaaGreat
