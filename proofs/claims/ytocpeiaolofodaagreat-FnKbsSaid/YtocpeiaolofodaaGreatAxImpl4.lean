/- impl.AxiomOk: for every axiom that can be read it answers what 'axOk' says. -/
import Derived.Test.YtocpeiaolofodaaGreatNG12
namespace Go.Proofs.YtocpeiaolofodaaGreat
open Go.RowKit
set_option linter.unusedVariables false
section
variable {P:Program} {z:Array Oper} {Q:Exit→Act→World→Prop} {md:Region.Mode} {S:World→Prop} {i:Nat} {oi:Oper} {v:Value} {fuel:Nat} {listed:Array Bool} {a:Act} {w:World}
theorem takeH (hi:z[i]?=some oi) (hw:Region.wanted oi (yielded z a.tmps)=true) (hy:∀ w,S w→(execOp a.eval oi).run P w=.ok (.value v) w) (hS:S w)
    (h:wpAnyH P md z Q S fuel (listed.setIfInBounds i true) (a.put oi.dst v) w) (hs:Region.noSelect z=true:=by kernel_rfl) (hf:Region.free md z listed i=true:=by kernel_rfl) (hr:(Region.ready md z listed).contains i=true:=by kernel_rfl)
    (hQ:∀ c a w,Q (.panic c) (a.put oi.dst v) w→Q (.panic c) a w:=by exact fun _ _ _ h=>h):wpAnyH P md z Q S (fuel+1) listed a w :=
 wpAnyH_take hi hs hf hr hQ (Or.inl ⟨hw,hy⟩) hS h
theorem valH (hi:z[i]?=some oi) (h:wpAnyH P md z Q S fuel (listed.setIfInBounds i true) (a.put oi.dst v) w) (hS:S w:=by assumption) (hw:Region.wanted oi (yielded z a.tmps)=true:=by kernel_rfl)
    (hy:∀ w,(execOp a.eval oi).run P w=.ok (.value v) w:=by intro w;kernel_rfl) (hs:Region.noSelect z=true:=by kernel_rfl) (hf:Region.free md z listed i=true:=by kernel_rfl) (hr:(Region.ready md z listed).contains i=true:=by kernel_rfl)
    (hQ:∀ c a w,Q (.panic c) (a.put oi.dst v) w→Q (.panic c) a w:=by exact fun _ _ _ h=>h):wpAnyH P md z Q S (fuel+1) listed a w :=
 wpAnyH_take hi hs hf hr hQ (Or.inl ⟨hw,fun w _=>hy w⟩) hS h
theorem skipH (hi:z[i]?=some oi) (h:wpAnyH P md z Q S fuel (listed.setIfInBounds i true) (a.put oi.dst undef) w) (hS:S w:=by assumption) (hw:Region.wanted oi (yielded z a.tmps)=false:=by kernel_rfl)
    (hs:Region.noSelect z=true:=by kernel_rfl) (hf:Region.free md z listed i=true:=by kernel_rfl) (hr:(Region.ready md z listed).contains i=true:=by kernel_rfl)
    (hQ:∀ c a w,Q (.panic c) (a.put oi.dst undef) w→Q (.panic c) a w:=by exact fun _ _ _ h=>h):wpAnyH P md z Q S (fuel+1) listed a w :=
 wpAnyH_take hi hs hf hr hQ (Or.inr ⟨hw,rfl⟩) hS h
theorem passH (hi:z[i]?=some oi) (h:wpAnyH P md z Q S fuel (listed.setIfInBounds i true) (a.put oi.dst undef) w) (hS:S w:=by assumption) (hw:Region.wanted oi (yielded z a.tmps)=false:=by kernel_rfl)
    (hr:Region.ready md z listed=[i]:=by kernel_rfl):wpAnyH P md z Q S (fuel+1) listed a w :=
 wpAnyH_ready hr (by simp) (AllReadyH.cons hi (fun K hK=>by rw [if_neg (by rw [hw];simp)];exact hK.out _ _ hS (fun _=>h)) AllReadyH.nil)
end
set_option maxRecDepth 100000 in
set_option maxHeartbeats 40000000 in
theorem implAxiomOk_any {dp:Nat} {c0 c1 c2 c3 d0 d1 d2 d3:Value} {ra:Option Addr} {rn rc:Nat} {sa:Option Addr} {sn sc:Nat} {aa:Option Addr} {an ac:Nat} {ba:Option Addr} {bn bc:Nat} {x:AX} {w:World} {lo hi:Nat} (h:RdA lo hi w dp c0 c1 c2 c3 d0 d1 d2 d3 ra rn rc sa sn sc aa an ac ba bn bc x) (I:hi≤w.heap.size) (a0:x.c.bulk≤1048576) (Z:x.d.bulk≤1048576) (k:Int) (hk:k=x.kind):Calls Tryz.prog 12 #[.agg #[.int .i64 k,c0,c1,c2,c3,d0,d1,d2,d3,.slice ra rn rc,.slice sa sn sc,.slice aa an ac,.slice ba bn bc]] w fun e w'=>e=.returned (.bool (axOk x))∧Below w.heap.size w w':=by
 obtain ⟨s,hs⟩:∃ s,s=fieldsS k:=⟨_,rfl⟩;have a3:Hid (s=fieldsS k):=hs
 obtain ⟨b,a6,a5,HX,hq⟩:∃ b,(s.toList != [])=b∧(s.toList == [])=!b∧Hid (axOk x=(b && (fitC x.c (inS s 67) && (fitC x.d (inS s 68) && (fitL x.r (inS s 82) && (fitL x.s (inS s 83) && (fitL x.a (inS s 65) && fitL x.b (inS s 66))))))))∧(b=true→2≤s.toList.length):=by
  by_cases hkk:0≤k∧k≤5
  · have hl:2≤s.toList.length:=by rw [hs];exact fields_long hkk
    obtain ⟨eC,eD,eR,eS,eA,eB⟩:=has_fields hkk;refine ⟨true,(ne_nil hl).1,(ne_nil hl).2,?_,fun _=>hl⟩;unfold Hid axOk;rw [hs,eC,eD,eR,eS,eA,eB,← hk,decide_eq_true hkk]
  have h0:s=⟨#[]⟩:=by rw [hs];unfold fieldsS;rw [if_neg (by omega),if_neg (by omega),if_neg (by omega),if_neg (by omega)]
  refine ⟨false,by rw [h0,ByteArray.toList_eq];rfl,by rw [h0,ByteArray.toList_eq];rfl,?_,fun h=>by cases h⟩;unfold Hid axOk;rw [← hk,decide_eq_false hkk,Bool.false_and,Bool.false_and]
 have N:Hid (x.c.bulk≤1048576):=a0;have J:Hid (x.d.bulk≤1048576):=Z;clear hs hk a0 Z;obtain ⟨W0,F⟩:∃ W0,W0=(w.alloc (.cells #[.int .i64 k,c0,c1,c2,c3,d0,d1,d2,d3,.slice ra rn rc,.slice sa sn sc,.slice aa an ac,.slice ba bn bc] 39)).alloc (.cells #[.string s] 9):=⟨_,rfl⟩;have a2:Hid (W0=(w.alloc (.cells #[.int .i64 k,c0,c1,c2,c3,d0,d1,d2,d3,.slice ra rn rc,.slice sa sn sc,.slice aa an ac,.slice ba bn bc] 39)).alloc (.cells #[.string s] 9)):=F;have G:Below w.heap.size w W0:=by rw [F];exact ((Below.refl _ _).alloc (Nat.le_refl _) _).alloc (by simp) _
 have E:Hid (Below w.heap.size w W0):=G;have a1:W0.heap.size=w.heap.size+2:=by rw [F];simp
 have HV:Hid (Below W0.heap.size W0 W0.drew):=(Below.refl _ _).drew;have Y:BoxA 39 W0 w.heap.size k c0 c1 c2 c3 d0 d1 d2 d3 (.slice ra rn rc) (.slice sa sn sc) (.slice aa an ac) (.slice ba bn bc):=by rw [F];exact (BoxA.new _ w _ _ _ _ _ _ _ _ _ _ _ _ _).below ((Below.refl _ _).alloc (Nat.le_refl _) _) (by simp)
 have V:W0.heap[w.heap.size+1]?=some (.cells #[.string s] 9 (0,0)):=by
  rw [F];have:=World.alloc_heap_new (w.alloc (.cells #[.int .i64 k,c0,c1,c2,c3,d0,d1,d2,d3,.slice ra rn rc,.slice sa sn sc,.slice aa an ac,.slice ba bn bc] 39)) (.cells #[.string s] 9)
  rwa [World.size_alloc] at this
 have D:Hid (∀ W,Below W0.heap.size W0 W→W.cell? ⟨w.heap.size+1,0,none⟩=some (.string s)):=fun W hW=>by
  have e:=(hW.block (w.heap.size+1) (by omega)).trans V;simp [World.cell?,e]
 have j:Hid (∀ W,Below W0.heap.size W0 W→W.cell? ⟨w.heap.size,0,none⟩=some (.int .i64 k)∧W.cell? ⟨w.heap.size,1,none⟩=some (c0)∧W.cell? ⟨w.heap.size,2,none⟩=some (c1)∧W.cell? ⟨w.heap.size,3,none⟩=some (c2)∧W.cell? ⟨w.heap.size,4,none⟩=some (c3)∧W.cell? ⟨w.heap.size,5,none⟩=some (d0)∧W.cell? ⟨w.heap.size,6,none⟩=some (d1)∧W.cell? ⟨w.heap.size,7,none⟩=some (d2)∧W.cell? ⟨w.heap.size,8,none⟩=some (d3)∧W.cell? ⟨w.heap.size,9,none⟩=some (.slice ra rn rc)∧W.cell? ⟨w.heap.size,10,none⟩=some (.slice sa sn sc)∧W.cell? ⟨w.heap.size,11,none⟩=some (.slice aa an ac)∧W.cell? ⟨w.heap.size,12,none⟩=some (.slice ba bn bc)∧W.cell? ⟨w.heap.size+1,0,none⟩=some (.string s)):=fun W hW=>by
  obtain ⟨y0,y1,y2,y3,y4,y5,y6,y7,y8,y9,U,T,O⟩:=(Y.below hW (by omega)).cells;exact ⟨y0,y1,y2,y3,y4,y5,y6,y7,y8,y9,U,T,O,D.out W hW⟩
 obtain ⟨y0,y1,y2,y3,y4,y5,y6,y7,y8,y9,U,T,O,a4⟩:=j.out W0 (Below.refl _ _);have HR:Hid (∀ W,Below W0.heap.size W0 W→RdA lo hi W dp c0 c1 c2 c3 d0 d1 d2 d3 ra rn rc sa sn sc aa an ac ba bn bc x):=fun W hW=>(h.below G I).below hW (Nat.le_trans I G.size)
 have X:hi≤W0.heap.size:=Nat.le_trans I G.size;clear h G F Y V a1;go_enter Tryz.func12, Tryz.ntmps12;go_upto_region 3 with (go_at_call 31;refine (axiomFields_any k _).mono ?_;rintro e w' ⟨rfl,hw⟩;rw [hw,← a3.out];clear hw);rw [← a2.out];refine wp_region_held_drew (S:=(fun W=>W.cell? ⟨w.heap.size,0,none⟩=some (.int .i64 k)∧W.cell? ⟨w.heap.size,1,none⟩=some (c0)∧W.cell? ⟨w.heap.size,2,none⟩=some (c1)∧W.cell? ⟨w.heap.size,3,none⟩=some (c2)∧W.cell? ⟨w.heap.size,4,none⟩=some (c3)∧W.cell? ⟨w.heap.size,5,none⟩=some (d0)∧W.cell? ⟨w.heap.size,6,none⟩=some (d1)∧W.cell? ⟨w.heap.size,7,none⟩=some (d2)∧W.cell? ⟨w.heap.size,8,none⟩=some (d3)∧W.cell? ⟨w.heap.size,9,none⟩=some (.slice ra rn rc)∧W.cell? ⟨w.heap.size,10,none⟩=some (.slice sa sn sc)∧W.cell? ⟨w.heap.size,11,none⟩=some (.slice aa an ac)∧W.cell? ⟨w.heap.size,12,none⟩=some (.slice ba bn bc)∧W.cell? ⟨w.heap.size+1,0,none⟩=some (.string s))) (by kernel_rfl) ?_ (fun hHeld=>?_)
 · (try dsimp only)
   with_reducible exact j.out _ HV.out
 refine takeH (i:=0) (v:=?_) rfl (by kernel_rfl) ?_ (by assumption) ?_;rotate_left
 · intro w hSw;(try dsimp only at hSw);go_simp;(try with_reducible rfl)
 (try simp only [Act.put]);(try simp only [List.setIfInBounds_toArray]);(try simp only [List.set_cons_succ]);(try simp only [List.set_cons_zero]);refine takeH (i:=1) (v:=?_) rfl (by kernel_rfl) ?_ (by assumption) ?_;rotate_left
 · intro w hSw;(try dsimp only at hSw);go_simp;(try with_reducible rfl)
 (try simp only [Act.put]);(try simp only [List.setIfInBounds_toArray]);(try simp only [List.set_cons_succ]);(try simp only [List.set_cons_zero]);refine takeH (i:=2) (v:=?_) rfl (by kernel_rfl) ?_ (by assumption) ?_;rotate_left
 · intro w hSw;(try dsimp only at hSw);go_simp;(try with_reducible rfl)
 (try simp only [Act.put]);(try simp only [List.setIfInBounds_toArray]);(try simp only [List.set_cons_succ]);(try simp only [List.set_cons_zero]);cases b
 · clear hq;refine skipH (i:=3) rfl (skipH (i:=4) rfl (skipH (i:=5) rfl (passH (i:=6) rfl (passH (i:=7) rfl ?_))));(try simp only [Act.put]);(try simp only [List.setIfInBounds_toArray]);(try simp only [List.set_cons_succ]);(try simp only [List.set_cons_zero]);refine valH (i:=8) (v:=.bool false) rfl (valH (i:=9) (v:=.bool false) rfl ?_);(try simp only [Act.put]);(try simp only [List.setIfInBounds_toArray]);(try simp only [List.set_cons_succ]);(try simp only [List.set_cons_zero]);refine skipH (i:=10) rfl (skipH (i:=11) rfl (skipH (i:=12) rfl (passH (i:=13) rfl (passH (i:=14) rfl ?_))));(try simp only [Act.put]);(try simp only [List.setIfInBounds_toArray]);(try simp only [List.set_cons_succ]);(try simp only [List.set_cons_zero]);refine valH (i:=15) (v:=.bool false) rfl (valH (i:=16) (v:=.bool false) rfl ?_);(try simp only [Act.put]);(try simp only [List.setIfInBounds_toArray]);(try simp only [List.set_cons_succ]);(try simp only [List.set_cons_zero]);refine skipH (i:=17) rfl (skipH (i:=18) rfl (skipH (i:=19) rfl (passH (i:=20) rfl (passH (i:=21) rfl ?_))));(try simp only [Act.put]);(try simp only [List.setIfInBounds_toArray]);(try simp only [List.set_cons_succ]);(try simp only [List.set_cons_zero]);refine valH (i:=22) (v:=.bool false) rfl (valH (i:=23) (v:=.bool false) rfl ?_);(try simp only [Act.put]);(try simp only [List.setIfInBounds_toArray]);(try simp only [List.set_cons_succ]);(try simp only [List.set_cons_zero]);refine skipH (i:=24) rfl (skipH (i:=25) rfl (skipH (i:=26) rfl (passH (i:=27) rfl (passH (i:=28) rfl ?_))));(try simp only [Act.put]);(try simp only [List.setIfInBounds_toArray]);(try simp only [List.set_cons_succ]);(try simp only [List.set_cons_zero])
   refine valH (i:=29) (v:=.bool false) rfl (valH (i:=30) (v:=.bool false) rfl ?_);(try simp only [Act.put]);(try simp only [List.setIfInBounds_toArray]);(try simp only [List.set_cons_succ]);(try simp only [List.set_cons_zero]);refine skipH (i:=31) rfl (skipH (i:=32) rfl (skipH (i:=33) rfl (passH (i:=34) rfl (passH (i:=35) rfl ?_))));(try simp only [Act.put]);(try simp only [List.setIfInBounds_toArray]);(try simp only [List.set_cons_succ]);(try simp only [List.set_cons_zero]);refine valH (i:=36) (v:=.bool false) rfl (valH (i:=37) (v:=.bool false) rfl ?_);(try simp only [Act.put]);(try simp only [List.setIfInBounds_toArray]);(try simp only [List.set_cons_succ]);(try simp only [List.set_cons_zero]);refine skipH (i:=38) rfl (skipH (i:=39) rfl (skipH (i:=40) rfl (passH (i:=41) rfl (passH (i:=42) rfl ?_))));(try simp only [Act.put]);(try simp only [List.setIfInBounds_toArray]);(try simp only [List.set_cons_succ]);(try simp only [List.set_cons_zero]);refine wpAnyH_ready (rs:=[43]) (by kernel_rfl) (by simp) ?_;refine AllReadyH.cons rfl (fun K hK=>?_) AllReadyH.nil;go_simp;refine hK.out _ _ ?_ (fun hHeld=>?_)
   · (try dsimp only)
     with_reducible exact j.out _ HV.out
   clear hK K;refine wpAnyH_ready (rs:=[44]) (by kernel_rfl) (by simp) ?_;refine AllReadyH.cons rfl (fun K hK=>?_) AllReadyH.nil;go_simp;refine hK.out _ _ ?_ (fun hHeld=>?_)
   · (try dsimp only)
     with_reducible exact j.out _ HV.out
   clear hK K;refine wpAnyH_done (by kernel_rfl) ?_ _;go_wp2_with fail;go_ret;exact ⟨rb (by rw [HX.out];rfl),E.out.trans (HV.out.mono E.out.size)⟩
 have A:=hq rfl;clear hq;refine takeH (i:=3) (v:=?_) rfl (by kernel_rfl) ?_ (by assumption) ?_;rotate_left
 · intro w hSw;(try dsimp only at hSw);go_simp;(try with_reducible rfl)
 (try simp only [Act.put]);(try simp only [List.setIfInBounds_toArray]);(try simp only [List.set_cons_succ]);(try simp only [List.set_cons_zero]);refine takeH (i:=4) (v:=?_) rfl (by kernel_rfl) ?_ (by assumption) ?_;rotate_left
 · intro w hSw;(try dsimp only at hSw);go_simp;(try with_reducible rfl)
 (try simp only [Act.put]);(try simp only [List.setIfInBounds_toArray]);(try simp only [List.set_cons_succ]);(try simp only [List.set_cons_zero]);refine takeH (i:=5) (v:=?_) rfl (by kernel_rfl) ?_ (by assumption) ?_;rotate_left
 · intro w hSw;(try dsimp only at hSw);go_simp;(try with_reducible rfl)
 (try simp only [Act.put]);(try simp only [List.setIfInBounds_toArray]);(try simp only [List.set_cons_succ]);(try simp only [List.set_cons_zero]);refine wpAnyH_ready (rs:=[6]) (by kernel_rfl) (by simp) ?_;refine AllReadyH.cons rfl (fun K hK=>?_) AllReadyH.nil;go_simp;go_wp2_with (go_at_call 32;refine (hasAxC s (w.heap.size+1) _ (D.out _ HV.out) (one_ne A)).mono ?_;rintro e w' ⟨rfl,hw⟩;rw [hw];clear hw);refine hK.out _ _ ?_ (fun hHeld=>?_)
 · (try dsimp only)
   with_reducible exact j.out _ HV.out
 clear hK K;refine wpAnyH_ready (rs:=[7]) (by kernel_rfl) (by simp) ?_;refine AllReadyH.cons rfl (fun K hK=>?_) AllReadyH.nil;go_simp;go_wp2_with (go_at_call 34;refine (conFits_any _ (HR.out _ HV.out).c (Nat.le_trans X HV.out.size) N.out).mono ?_;rintro e V' ⟨rfl,hb⟩;have H:Hid (Below W0.heap.size W0 V'):=HV.out.trans (hb.mono HV.out.size);clear hb HV;have HV:=H;clear H);refine hK.out _ _ ?_ (fun hHeld=>?_)
 · (try dsimp only)
   with_reducible exact j.out _ HV.out
 clear hK K;refine takeH (i:=8) (v:=?_) rfl (by kernel_rfl) ?_ (by assumption) ?_;rotate_left
 · intro w hSw;(try dsimp only at hSw);go_simp;(try with_reducible rfl)
 (try simp only [Act.put]);(try simp only [List.setIfInBounds_toArray]);(try simp only [List.set_cons_succ]);(try simp only [List.set_cons_zero]);refine takeH (i:=9) (v:=?_) rfl (by kernel_rfl) ?_ (by assumption) ?_;rotate_left
 · intro w hSw;(try dsimp only at hSw);go_simp;(try with_reducible rfl)
 (try simp only [Act.put]);(try simp only [List.setIfInBounds_toArray]);(try simp only [List.set_cons_succ]);(try simp only [List.set_cons_zero]);cases hF0:fitC x.c (inS s 67)
 · clear A;refine skipH (i:=10) rfl (skipH (i:=11) rfl (skipH (i:=12) rfl (passH (i:=13) rfl (passH (i:=14) rfl ?_))));(try simp only [Act.put]);(try simp only [List.setIfInBounds_toArray]);(try simp only [List.set_cons_succ]);(try simp only [List.set_cons_zero]);refine valH (i:=15) (v:=.bool false) rfl (valH (i:=16) (v:=.bool false) rfl ?_);(try simp only [Act.put]);(try simp only [List.setIfInBounds_toArray]);(try simp only [List.set_cons_succ]);(try simp only [List.set_cons_zero]);refine skipH (i:=17) rfl (skipH (i:=18) rfl (skipH (i:=19) rfl (passH (i:=20) rfl (passH (i:=21) rfl ?_))));(try simp only [Act.put]);(try simp only [List.setIfInBounds_toArray]);(try simp only [List.set_cons_succ]);(try simp only [List.set_cons_zero]);refine valH (i:=22) (v:=.bool false) rfl (valH (i:=23) (v:=.bool false) rfl ?_);(try simp only [Act.put]);(try simp only [List.setIfInBounds_toArray]);(try simp only [List.set_cons_succ]);(try simp only [List.set_cons_zero]);refine skipH (i:=24) rfl (skipH (i:=25) rfl (skipH (i:=26) rfl (passH (i:=27) rfl (passH (i:=28) rfl ?_))));(try simp only [Act.put]);(try simp only [List.setIfInBounds_toArray]);(try simp only [List.set_cons_succ]);(try simp only [List.set_cons_zero]);refine valH (i:=29) (v:=.bool false) rfl (valH (i:=30) (v:=.bool false) rfl ?_);(try simp only [Act.put]);(try simp only [List.setIfInBounds_toArray]);(try simp only [List.set_cons_succ]);(try simp only [List.set_cons_zero]);refine skipH (i:=31) rfl (skipH (i:=32) rfl (skipH (i:=33) rfl (passH (i:=34) rfl (passH (i:=35) rfl ?_))));(try simp only [Act.put]);(try simp only [List.setIfInBounds_toArray]);(try simp only [List.set_cons_succ]);(try simp only [List.set_cons_zero])
   refine valH (i:=36) (v:=.bool false) rfl (valH (i:=37) (v:=.bool false) rfl ?_);(try simp only [Act.put]);(try simp only [List.setIfInBounds_toArray]);(try simp only [List.set_cons_succ]);(try simp only [List.set_cons_zero]);refine skipH (i:=38) rfl (skipH (i:=39) rfl (skipH (i:=40) rfl (passH (i:=41) rfl (passH (i:=42) rfl ?_))));(try simp only [Act.put]);(try simp only [List.setIfInBounds_toArray]);(try simp only [List.set_cons_succ]);(try simp only [List.set_cons_zero]);refine wpAnyH_ready (rs:=[43]) (by kernel_rfl) (by simp) ?_;refine AllReadyH.cons rfl (fun K hK=>?_) AllReadyH.nil;go_simp;refine hK.out _ _ ?_ (fun hHeld=>?_)
   · (try dsimp only)
     with_reducible exact j.out _ HV.out
   clear hK K;refine wpAnyH_ready (rs:=[44]) (by kernel_rfl) (by simp) ?_;refine AllReadyH.cons rfl (fun K hK=>?_) AllReadyH.nil;go_simp;refine hK.out _ _ ?_ (fun hHeld=>?_)
   · (try dsimp only)
     with_reducible exact j.out _ HV.out
   clear hK K;refine wpAnyH_done (by kernel_rfl) ?_ _;go_wp2_with fail;go_ret;exact ⟨rb (by rw [HX.out,hF0];rfl),E.out.trans (HV.out.mono E.out.size)⟩
 skip;refine takeH (i:=10) (v:=?_) rfl (by kernel_rfl) ?_ (by assumption) ?_;rotate_left
 · intro w hSw;(try dsimp only at hSw);go_simp;(try with_reducible rfl)
 (try simp only [Act.put]);(try simp only [List.setIfInBounds_toArray]);(try simp only [List.set_cons_succ]);(try simp only [List.set_cons_zero]);refine takeH (i:=11) (v:=?_) rfl (by kernel_rfl) ?_ (by assumption) ?_;rotate_left
 · intro w hSw;(try dsimp only at hSw);go_simp;(try with_reducible rfl)
 (try simp only [Act.put]);(try simp only [List.setIfInBounds_toArray]);(try simp only [List.set_cons_succ]);(try simp only [List.set_cons_zero]);refine takeH (i:=12) (v:=?_) rfl (by kernel_rfl) ?_ (by assumption) ?_;rotate_left
 · intro w hSw;(try dsimp only at hSw);go_simp;(try with_reducible rfl)
 (try simp only [Act.put]);(try simp only [List.setIfInBounds_toArray]);(try simp only [List.set_cons_succ]);(try simp only [List.set_cons_zero]);refine wpAnyH_ready (rs:=[13]) (by kernel_rfl) (by simp) ?_;refine AllReadyH.cons rfl (fun K hK=>?_) AllReadyH.nil;go_simp;go_wp2_with (go_at_call 32;refine (hasAxD s (w.heap.size+1) _ (D.out _ HV.out) (one_ne A)).mono ?_;rintro e w' ⟨rfl,hw⟩;rw [hw];clear hw);refine hK.out _ _ ?_ (fun hHeld=>?_)
 · (try dsimp only)
   with_reducible exact j.out _ HV.out
 clear hK K;refine wpAnyH_ready (rs:=[14]) (by kernel_rfl) (by simp) ?_;refine AllReadyH.cons rfl (fun K hK=>?_) AllReadyH.nil;go_simp;go_wp2_with (go_at_call 34;refine (conFits_any _ (HR.out _ HV.out).d (Nat.le_trans X HV.out.size) J.out).mono ?_;rintro e V' ⟨rfl,hb⟩;have H:Hid (Below W0.heap.size W0 V'):=HV.out.trans (hb.mono HV.out.size);clear hb HV;have HV:=H;clear H);refine hK.out _ _ ?_ (fun hHeld=>?_)
 · (try dsimp only)
   with_reducible exact j.out _ HV.out
 clear hK K;refine takeH (i:=15) (v:=?_) rfl (by kernel_rfl) ?_ (by assumption) ?_;rotate_left
 · intro w hSw;(try dsimp only at hSw);go_simp;(try with_reducible rfl)
 (try simp only [Act.put]);(try simp only [List.setIfInBounds_toArray]);(try simp only [List.set_cons_succ]);(try simp only [List.set_cons_zero]);refine takeH (i:=16) (v:=?_) rfl (by kernel_rfl) ?_ (by assumption) ?_;rotate_left
 · intro w hSw;(try dsimp only at hSw);go_simp;(try with_reducible rfl)
 (try simp only [Act.put]);(try simp only [List.setIfInBounds_toArray]);(try simp only [List.set_cons_succ]);(try simp only [List.set_cons_zero]);cases hF1:fitC x.d (inS s 68)
 · clear A;refine skipH (i:=17) rfl (skipH (i:=18) rfl (skipH (i:=19) rfl (passH (i:=20) rfl (passH (i:=21) rfl ?_))));(try simp only [Act.put]);(try simp only [List.setIfInBounds_toArray]);(try simp only [List.set_cons_succ]);(try simp only [List.set_cons_zero]);refine valH (i:=22) (v:=.bool false) rfl (valH (i:=23) (v:=.bool false) rfl ?_);(try simp only [Act.put]);(try simp only [List.setIfInBounds_toArray]);(try simp only [List.set_cons_succ]);(try simp only [List.set_cons_zero]);refine skipH (i:=24) rfl (skipH (i:=25) rfl (skipH (i:=26) rfl (passH (i:=27) rfl (passH (i:=28) rfl ?_))));(try simp only [Act.put]);(try simp only [List.setIfInBounds_toArray]);(try simp only [List.set_cons_succ]);(try simp only [List.set_cons_zero]);refine valH (i:=29) (v:=.bool false) rfl (valH (i:=30) (v:=.bool false) rfl ?_);(try simp only [Act.put]);(try simp only [List.setIfInBounds_toArray]);(try simp only [List.set_cons_succ]);(try simp only [List.set_cons_zero]);refine skipH (i:=31) rfl (skipH (i:=32) rfl (skipH (i:=33) rfl (passH (i:=34) rfl (passH (i:=35) rfl ?_))));(try simp only [Act.put]);(try simp only [List.setIfInBounds_toArray]);(try simp only [List.set_cons_succ]);(try simp only [List.set_cons_zero]);refine valH (i:=36) (v:=.bool false) rfl (valH (i:=37) (v:=.bool false) rfl ?_);(try simp only [Act.put]);(try simp only [List.setIfInBounds_toArray]);(try simp only [List.set_cons_succ]);(try simp only [List.set_cons_zero]);refine skipH (i:=38) rfl (skipH (i:=39) rfl (skipH (i:=40) rfl (passH (i:=41) rfl (passH (i:=42) rfl ?_))));(try simp only [Act.put]);(try simp only [List.setIfInBounds_toArray]);(try simp only [List.set_cons_succ]);(try simp only [List.set_cons_zero])
   refine wpAnyH_ready (rs:=[43]) (by kernel_rfl) (by simp) ?_;refine AllReadyH.cons rfl (fun K hK=>?_) AllReadyH.nil;go_simp;refine hK.out _ _ ?_ (fun hHeld=>?_)
   · (try dsimp only)
     with_reducible exact j.out _ HV.out
   clear hK K;refine wpAnyH_ready (rs:=[44]) (by kernel_rfl) (by simp) ?_;refine AllReadyH.cons rfl (fun K hK=>?_) AllReadyH.nil;go_simp;refine hK.out _ _ ?_ (fun hHeld=>?_)
   · (try dsimp only)
     with_reducible exact j.out _ HV.out
   clear hK K;refine wpAnyH_done (by kernel_rfl) ?_ _;go_wp2_with fail;go_ret;exact ⟨rb (by rw [HX.out,hF0,hF1];rfl),E.out.trans (HV.out.mono E.out.size)⟩
 skip;refine takeH (i:=17) (v:=?_) rfl (by kernel_rfl) ?_ (by assumption) ?_;rotate_left
 · intro w hSw;(try dsimp only at hSw);go_simp;(try with_reducible rfl)
 (try simp only [Act.put]);(try simp only [List.setIfInBounds_toArray]);(try simp only [List.set_cons_succ]);(try simp only [List.set_cons_zero]);refine takeH (i:=18) (v:=?_) rfl (by kernel_rfl) ?_ (by assumption) ?_;rotate_left
 · intro w hSw;(try dsimp only at hSw);go_simp;(try with_reducible rfl)
 (try simp only [Act.put]);(try simp only [List.setIfInBounds_toArray]);(try simp only [List.set_cons_succ]);(try simp only [List.set_cons_zero]);refine takeH (i:=19) (v:=?_) rfl (by kernel_rfl) ?_ (by assumption) ?_;rotate_left
 · intro w hSw;(try dsimp only at hSw);go_simp;(try with_reducible rfl)
 (try simp only [Act.put]);(try simp only [List.setIfInBounds_toArray]);(try simp only [List.set_cons_succ]);(try simp only [List.set_cons_zero]);refine wpAnyH_ready (rs:=[20]) (by kernel_rfl) (by simp) ?_;refine AllReadyH.cons rfl (fun K hK=>?_) AllReadyH.nil;go_simp;go_wp2_with (go_at_call 32;refine (hasAxR s (w.heap.size+1) _ (D.out _ HV.out) (one_ne A)).mono ?_;rintro e w' ⟨rfl,hw⟩;rw [hw];clear hw);refine hK.out _ _ ?_ (fun hHeld=>?_)
 · (try dsimp only)
   with_reducible exact j.out _ HV.out
 clear hK K;refine wpAnyH_ready (rs:=[21]) (by kernel_rfl) (by simp) ?_;refine AllReadyH.cons rfl (fun K hK=>?_) AllReadyH.nil;go_simp;go_wp2_with (go_at_call 35;refine (lowerFits_any ra rn rc x.r _ _ (HR.out _ HV.out).r).mono ?_;rintro e w' ⟨rfl,hw⟩;rw [hw];clear hw);refine hK.out _ _ ?_ (fun hHeld=>?_)
 · (try dsimp only)
   with_reducible exact j.out _ HV.out
 clear hK K;refine takeH (i:=22) (v:=?_) rfl (by kernel_rfl) ?_ (by assumption) ?_;rotate_left
 · intro w hSw;(try dsimp only at hSw);go_simp;(try with_reducible rfl)
 (try simp only [Act.put]);(try simp only [List.setIfInBounds_toArray]);(try simp only [List.set_cons_succ]);(try simp only [List.set_cons_zero]);refine takeH (i:=23) (v:=?_) rfl (by kernel_rfl) ?_ (by assumption) ?_;rotate_left
 · intro w hSw;(try dsimp only at hSw);go_simp;(try with_reducible rfl)
 (try simp only [Act.put]);(try simp only [List.setIfInBounds_toArray]);(try simp only [List.set_cons_succ]);(try simp only [List.set_cons_zero]);cases hF2:fitL x.r (inS s 82)
 · clear A;refine skipH (i:=24) rfl (skipH (i:=25) rfl (skipH (i:=26) rfl (passH (i:=27) rfl (passH (i:=28) rfl ?_))));(try simp only [Act.put]);(try simp only [List.setIfInBounds_toArray]);(try simp only [List.set_cons_succ]);(try simp only [List.set_cons_zero]);refine valH (i:=29) (v:=.bool false) rfl (valH (i:=30) (v:=.bool false) rfl ?_);(try simp only [Act.put]);(try simp only [List.setIfInBounds_toArray]);(try simp only [List.set_cons_succ]);(try simp only [List.set_cons_zero]);refine skipH (i:=31) rfl (skipH (i:=32) rfl (skipH (i:=33) rfl (passH (i:=34) rfl (passH (i:=35) rfl ?_))));(try simp only [Act.put]);(try simp only [List.setIfInBounds_toArray]);(try simp only [List.set_cons_succ]);(try simp only [List.set_cons_zero]);refine valH (i:=36) (v:=.bool false) rfl (valH (i:=37) (v:=.bool false) rfl ?_);(try simp only [Act.put]);(try simp only [List.setIfInBounds_toArray]);(try simp only [List.set_cons_succ]);(try simp only [List.set_cons_zero]);refine skipH (i:=38) rfl (skipH (i:=39) rfl (skipH (i:=40) rfl (passH (i:=41) rfl (passH (i:=42) rfl ?_))));(try simp only [Act.put]);(try simp only [List.setIfInBounds_toArray]);(try simp only [List.set_cons_succ]);(try simp only [List.set_cons_zero]);refine wpAnyH_ready (rs:=[43]) (by kernel_rfl) (by simp) ?_;refine AllReadyH.cons rfl (fun K hK=>?_) AllReadyH.nil;go_simp;refine hK.out _ _ ?_ (fun hHeld=>?_)
   · (try dsimp only)
     with_reducible exact j.out _ HV.out
   clear hK K;refine wpAnyH_ready (rs:=[44]) (by kernel_rfl) (by simp) ?_;refine AllReadyH.cons rfl (fun K hK=>?_) AllReadyH.nil;go_simp;refine hK.out _ _ ?_ (fun hHeld=>?_)
   · (try dsimp only)
     with_reducible exact j.out _ HV.out
   clear hK K;refine wpAnyH_done (by kernel_rfl) ?_ _;go_wp2_with fail;go_ret;exact ⟨rb (by rw [HX.out,hF0,hF1,hF2];rfl),E.out.trans (HV.out.mono E.out.size)⟩
 skip;refine takeH (i:=24) (v:=?_) rfl (by kernel_rfl) ?_ (by assumption) ?_;rotate_left
 · intro w hSw;(try dsimp only at hSw);go_simp;(try with_reducible rfl)
 (try simp only [Act.put]);(try simp only [List.setIfInBounds_toArray]);(try simp only [List.set_cons_succ]);(try simp only [List.set_cons_zero]);refine takeH (i:=25) (v:=?_) rfl (by kernel_rfl) ?_ (by assumption) ?_;rotate_left
 · intro w hSw;(try dsimp only at hSw);go_simp;(try with_reducible rfl)
 (try simp only [Act.put]);(try simp only [List.setIfInBounds_toArray]);(try simp only [List.set_cons_succ]);(try simp only [List.set_cons_zero]);refine takeH (i:=26) (v:=?_) rfl (by kernel_rfl) ?_ (by assumption) ?_;rotate_left
 · intro w hSw;(try dsimp only at hSw);go_simp;(try with_reducible rfl)
 (try simp only [Act.put]);(try simp only [List.setIfInBounds_toArray]);(try simp only [List.set_cons_succ]);(try simp only [List.set_cons_zero]);refine wpAnyH_ready (rs:=[27]) (by kernel_rfl) (by simp) ?_;refine AllReadyH.cons rfl (fun K hK=>?_) AllReadyH.nil;go_simp;go_wp2_with (go_at_call 32;refine (hasAxS s (w.heap.size+1) _ (D.out _ HV.out) (one_ne A)).mono ?_;rintro e w' ⟨rfl,hw⟩;rw [hw];clear hw);refine hK.out _ _ ?_ (fun hHeld=>?_)
 · (try dsimp only)
   with_reducible exact j.out _ HV.out
 clear hK K;refine wpAnyH_ready (rs:=[28]) (by kernel_rfl) (by simp) ?_;refine AllReadyH.cons rfl (fun K hK=>?_) AllReadyH.nil;go_simp;go_wp2_with (go_at_call 35;refine (lowerFits_any sa sn sc x.s _ _ (HR.out _ HV.out).s).mono ?_;rintro e w' ⟨rfl,hw⟩;rw [hw];clear hw);refine hK.out _ _ ?_ (fun hHeld=>?_)
 · (try dsimp only)
   with_reducible exact j.out _ HV.out
 clear hK K;refine takeH (i:=29) (v:=?_) rfl (by kernel_rfl) ?_ (by assumption) ?_;rotate_left
 · intro w hSw;(try dsimp only at hSw);go_simp;(try with_reducible rfl)
 (try simp only [Act.put]);(try simp only [List.setIfInBounds_toArray]);(try simp only [List.set_cons_succ]);(try simp only [List.set_cons_zero]);refine takeH (i:=30) (v:=?_) rfl (by kernel_rfl) ?_ (by assumption) ?_;rotate_left
 · intro w hSw;(try dsimp only at hSw);go_simp;(try with_reducible rfl)
 (try simp only [Act.put]);(try simp only [List.setIfInBounds_toArray]);(try simp only [List.set_cons_succ]);(try simp only [List.set_cons_zero]);cases hF3:fitL x.s (inS s 83)
 · clear A;refine skipH (i:=31) rfl (skipH (i:=32) rfl (skipH (i:=33) rfl (passH (i:=34) rfl (passH (i:=35) rfl ?_))));(try simp only [Act.put]);(try simp only [List.setIfInBounds_toArray]);(try simp only [List.set_cons_succ]);(try simp only [List.set_cons_zero]);refine valH (i:=36) (v:=.bool false) rfl (valH (i:=37) (v:=.bool false) rfl ?_);(try simp only [Act.put]);(try simp only [List.setIfInBounds_toArray]);(try simp only [List.set_cons_succ]);(try simp only [List.set_cons_zero]);refine skipH (i:=38) rfl (skipH (i:=39) rfl (skipH (i:=40) rfl (passH (i:=41) rfl (passH (i:=42) rfl ?_))));(try simp only [Act.put]);(try simp only [List.setIfInBounds_toArray]);(try simp only [List.set_cons_succ]);(try simp only [List.set_cons_zero]);refine wpAnyH_ready (rs:=[43]) (by kernel_rfl) (by simp) ?_;refine AllReadyH.cons rfl (fun K hK=>?_) AllReadyH.nil;go_simp;refine hK.out _ _ ?_ (fun hHeld=>?_)
   · (try dsimp only)
     with_reducible exact j.out _ HV.out
   clear hK K;refine wpAnyH_ready (rs:=[44]) (by kernel_rfl) (by simp) ?_;refine AllReadyH.cons rfl (fun K hK=>?_) AllReadyH.nil;go_simp;refine hK.out _ _ ?_ (fun hHeld=>?_)
   · (try dsimp only)
     with_reducible exact j.out _ HV.out
   clear hK K;refine wpAnyH_done (by kernel_rfl) ?_ _;go_wp2_with fail;go_ret;exact ⟨rb (by rw [HX.out,hF0,hF1,hF2,hF3];rfl),E.out.trans (HV.out.mono E.out.size)⟩
 skip;refine takeH (i:=31) (v:=?_) rfl (by kernel_rfl) ?_ (by assumption) ?_;rotate_left
 · intro w hSw;(try dsimp only at hSw);go_simp;(try with_reducible rfl)
 (try simp only [Act.put]);(try simp only [List.setIfInBounds_toArray]);(try simp only [List.set_cons_succ]);(try simp only [List.set_cons_zero]);refine takeH (i:=32) (v:=?_) rfl (by kernel_rfl) ?_ (by assumption) ?_;rotate_left
 · intro w hSw;(try dsimp only at hSw);go_simp;(try with_reducible rfl)
 (try simp only [Act.put]);(try simp only [List.setIfInBounds_toArray]);(try simp only [List.set_cons_succ]);(try simp only [List.set_cons_zero]);refine takeH (i:=33) (v:=?_) rfl (by kernel_rfl) ?_ (by assumption) ?_;rotate_left
 · intro w hSw;(try dsimp only at hSw);go_simp;(try with_reducible rfl)
 (try simp only [Act.put]);(try simp only [List.setIfInBounds_toArray]);(try simp only [List.set_cons_succ]);(try simp only [List.set_cons_zero]);refine wpAnyH_ready (rs:=[34]) (by kernel_rfl) (by simp) ?_;refine AllReadyH.cons rfl (fun K hK=>?_) AllReadyH.nil;go_simp;go_wp2_with (go_at_call 32;refine (hasAxA s (w.heap.size+1) _ (D.out _ HV.out) (one_ne A)).mono ?_;rintro e w' ⟨rfl,hw⟩;rw [hw];clear hw);refine hK.out _ _ ?_ (fun hHeld=>?_)
 · (try dsimp only)
   with_reducible exact j.out _ HV.out
 clear hK K;refine wpAnyH_ready (rs:=[35]) (by kernel_rfl) (by simp) ?_;refine AllReadyH.cons rfl (fun K hK=>?_) AllReadyH.nil;go_simp;go_wp2_with (go_at_call 35;refine (lowerFits_any aa an ac x.a _ _ (HR.out _ HV.out).a).mono ?_;rintro e w' ⟨rfl,hw⟩;rw [hw];clear hw);refine hK.out _ _ ?_ (fun hHeld=>?_)
 · (try dsimp only)
   with_reducible exact j.out _ HV.out
 clear hK K;refine takeH (i:=36) (v:=?_) rfl (by kernel_rfl) ?_ (by assumption) ?_;rotate_left
 · intro w hSw;(try dsimp only at hSw);go_simp;(try with_reducible rfl)
 (try simp only [Act.put]);(try simp only [List.setIfInBounds_toArray]);(try simp only [List.set_cons_succ]);(try simp only [List.set_cons_zero]);refine takeH (i:=37) (v:=?_) rfl (by kernel_rfl) ?_ (by assumption) ?_;rotate_left
 · intro w hSw;(try dsimp only at hSw);go_simp;(try with_reducible rfl)
 (try simp only [Act.put]);(try simp only [List.setIfInBounds_toArray]);(try simp only [List.set_cons_succ]);(try simp only [List.set_cons_zero]);cases hF4:fitL x.a (inS s 65)
 · clear A;refine skipH (i:=38) rfl (skipH (i:=39) rfl (skipH (i:=40) rfl (passH (i:=41) rfl (passH (i:=42) rfl ?_))));(try simp only [Act.put]);(try simp only [List.setIfInBounds_toArray]);(try simp only [List.set_cons_succ]);(try simp only [List.set_cons_zero]);refine wpAnyH_ready (rs:=[43]) (by kernel_rfl) (by simp) ?_;refine AllReadyH.cons rfl (fun K hK=>?_) AllReadyH.nil;go_simp;refine hK.out _ _ ?_ (fun hHeld=>?_)
   · (try dsimp only)
     with_reducible exact j.out _ HV.out
   clear hK K;refine wpAnyH_ready (rs:=[44]) (by kernel_rfl) (by simp) ?_;refine AllReadyH.cons rfl (fun K hK=>?_) AllReadyH.nil;go_simp;refine hK.out _ _ ?_ (fun hHeld=>?_)
   · (try dsimp only)
     with_reducible exact j.out _ HV.out
   clear hK K;refine wpAnyH_done (by kernel_rfl) ?_ _;go_wp2_with fail;go_ret;exact ⟨rb (by rw [HX.out,hF0,hF1,hF2,hF3,hF4];rfl),E.out.trans (HV.out.mono E.out.size)⟩
 skip;refine takeH (i:=38) (v:=?_) rfl (by kernel_rfl) ?_ (by assumption) ?_;rotate_left
 · intro w hSw;(try dsimp only at hSw);go_simp;(try with_reducible rfl)
 (try simp only [Act.put]);(try simp only [List.setIfInBounds_toArray]);(try simp only [List.set_cons_succ]);(try simp only [List.set_cons_zero]);refine takeH (i:=39) (v:=?_) rfl (by kernel_rfl) ?_ (by assumption) ?_;rotate_left
 · intro w hSw;(try dsimp only at hSw);go_simp;(try with_reducible rfl)
 (try simp only [Act.put]);(try simp only [List.setIfInBounds_toArray]);(try simp only [List.set_cons_succ]);(try simp only [List.set_cons_zero]);refine takeH (i:=40) (v:=?_) rfl (by kernel_rfl) ?_ (by assumption) ?_;rotate_left
 · intro w hSw;(try dsimp only at hSw);go_simp;(try with_reducible rfl)
 (try simp only [Act.put]);(try simp only [List.setIfInBounds_toArray]);(try simp only [List.set_cons_succ]);(try simp only [List.set_cons_zero]);refine wpAnyH_ready (rs:=[41]) (by kernel_rfl) (by simp) ?_;refine AllReadyH.cons rfl (fun K hK=>?_) AllReadyH.nil;go_simp;go_wp2_with (go_at_call 32;refine (hasAxB s (w.heap.size+1) _ (D.out _ HV.out) (one_ne A)).mono ?_;rintro e w' ⟨rfl,hw⟩;rw [hw];clear hw);refine hK.out _ _ ?_ (fun hHeld=>?_)
 · (try dsimp only)
   with_reducible exact j.out _ HV.out
 clear hK K;refine wpAnyH_ready (rs:=[42]) (by kernel_rfl) (by simp) ?_;refine AllReadyH.cons rfl (fun K hK=>?_) AllReadyH.nil;go_simp;go_wp2_with (go_at_call 35;refine (lowerFits_any ba bn bc x.b _ _ (HR.out _ HV.out).b).mono ?_;rintro e w' ⟨rfl,hw⟩;rw [hw];clear hw);refine hK.out _ _ ?_ (fun hHeld=>?_)
 · (try dsimp only)
   with_reducible exact j.out _ HV.out
 clear hK K;refine wpAnyH_ready (rs:=[43]) (by kernel_rfl) (by simp) ?_;refine AllReadyH.cons rfl (fun K hK=>?_) AllReadyH.nil;go_simp;refine hK.out _ _ ?_ (fun hHeld=>?_)
 · (try dsimp only)
   with_reducible exact j.out _ HV.out
 clear hK K;refine wpAnyH_ready (rs:=[44]) (by kernel_rfl) (by simp) ?_;refine AllReadyH.cons rfl (fun K hK=>?_) AllReadyH.nil;go_simp;refine hK.out _ _ ?_ (fun hHeld=>?_)
 · (try dsimp only)
   with_reducible exact j.out _ HV.out
 clear hK K;refine wpAnyH_done (by kernel_rfl) ?_ _;go_wp2_with fail;go_ret;exact ⟨rb (by rw [HX.out,hF0,hF1,hF2,hF3,hF4];rfl),E.out.trans (HV.out.mono E.out.size)⟩
end Go.Proofs.YtocpeiaolofodaaGreat
