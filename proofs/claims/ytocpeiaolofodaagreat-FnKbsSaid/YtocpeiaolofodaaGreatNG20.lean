/- Several texts in one: ReadI6, KrI2. -/
import Derived.Test.YtocpeiaolofodaaGreatReadI5
import Derived.Defers
import Derived.Recover
import Derived.Test.YtocpeiaolofodaaGreatKrO
namespace Go.Proofs.YtocpeiaolofodaaGreat

section
open Go.RowKit
def BoxI (W:World) (b:Nat) (z:Int):Prop:=W.heap[b]?=some (.cells #[.int .i64 z] 3 (0,0))
theorem BoxI.cell {W:World} {b:Nat} {z:Int} (h:BoxI W b z):W.cell? ⟨b,0,none⟩=some (.int .i64 z):=by
 unfold BoxI at h;simp [World.cell?,h]
theorem BoxI.frz {W:World} {b:Nat} {z:Int} (h:BoxI W b z) (o:Nat):W.frozen? ⟨b,o,none⟩=false:=by
 unfold BoxI at h;simp [World.frozen?,h]
theorem BoxI.lt {W:World} {b:Nat} {z:Int} (h:BoxI W b z):b<W.heap.size:=(Array.getElem?_eq_some_iff.1 h).1
theorem BoxI.set {W:World} {b:Nat} {z:Int} (h:BoxI W b z) (y:Int):BoxI (W.setCell ⟨b,0,none⟩ (.int .i64 y)) b y:=by
 unfold BoxI;rw [heap_setCell_same W b 0 _ _ _ h];rfl
theorem BoxI.of {W W':World} {b:Nat} {z:Int} (h:BoxI W b z) (e:W'.heap[b]?=W.heap[b]?):BoxI W' b z:=e.trans h
theorem BoxI.new (W:World) (z:Int):BoxI (W.alloc (.cells #[.int .i64 z] 3)) W.heap.size z:=by
 show (W.heap.push _)[W.heap.size]?=_
 simp
theorem assert_yes (p:Int) (w:World):(Instr.typeAssert (.iface 82 (.int .i64 p)) 20 82 true).run Tryz.prog w=.ok (.tuple #[.int .i64 p,.bool true]) w:=by kernel_rfl
theorem assert_no (w:World):(Instr.typeAssert .nilIface 20 82 true).run Tryz.prog w=.ok (.tuple #[.int .i64 0,.bool false]) w:=by kernel_rfl
theorem caught_mem {vb bb:Nat} (F:vb<bb) {v0 v1 v2 v3:Value} {z:Int} {w:World} (hv:BoxC w vb v0 v1 v2 v3) (hb:BoxI w bb z) (x0 x1 x2 x3:Value) (p:Int) (o:Obj) :
    Below vb w ((((((w.setCell ⟨vb,0,none⟩ x0).setCell ⟨vb,1,none⟩ x1).setCell ⟨vb,2,none⟩ x2).setCell ⟨vb,3,none⟩ x3).setCell ⟨bb,0,none⟩ (.int .i64 p)).alloc o) ∧
     BoxC ((((((w.setCell ⟨vb,0,none⟩ x0).setCell ⟨vb,1,none⟩ x1).setCell ⟨vb,2,none⟩ x2).setCell ⟨vb,3,none⟩ x3).setCell ⟨bb,0,none⟩ (.int .i64 p)).alloc o) vb x0 x1 x2 x3 ∧
     BoxI ((((((w.setCell ⟨vb,0,none⟩ x0).setCell ⟨vb,1,none⟩ x1).setCell ⟨vb,2,none⟩ x2).setCell ⟨vb,3,none⟩ x3).setCell ⟨bb,0,none⟩ (.int .i64 p)).alloc o) bb p:=by
 have a4:=hv.lt;have a6:=hb.lt;have h1:=hv.set4 x0 x1 x2 x3;have h2:BoxC (((((w.setCell ⟨vb,0,none⟩ x0).setCell ⟨vb,1,none⟩ x1).setCell ⟨vb,2,none⟩ x2).setCell ⟨vb,3,none⟩ x3).setCell ⟨bb,0,none⟩ (.int .i64 p)) vb x0 x1 x2 x3:=h1.other _ (by omega);have h3:BoxI ((((w.setCell ⟨vb,0,none⟩ x0).setCell ⟨vb,1,none⟩ x1).setCell ⟨vb,2,none⟩ x2).setCell ⟨vb,3,none⟩ x3) bb z:=hb.of (heap_set4 _ _ _ _ _ (by omega));have h4:=h3.set p;refine ⟨?_,(Below.heap_alloc _ _ _ h2.lt).trans h2,h4.of (Below.heap_alloc _ _ _ h4.lt)⟩;exact ((((((Below.refl vb w).setCell (Nat.le_refl _) _).setCell (Nat.le_refl _) _).setCell (Nat.le_refl _) _).setCell (Nat.le_refl _) _).setCell (Nat.le_of_lt F) _).alloc (by simp;omega) _
set_option maxRecDepth 100000 in
set_option maxHeartbeats 1000000 in
theorem catch_gaveUp (vb bb:Nat) (F:vb<bb) (v0 v1 v2 v3:Value) (z p:Int) (older:List PanicEntry) (w:World) (hv:BoxC w vb v0 v1 v2 v3) (hb:BoxI w bb z) :
    CallsD Tryz.prog 80 #[.pointer (some ⟨vb,0,none⟩),.pointer (some ⟨bb,0,none⟩)] (.panicking ({ v:=.iface 82 (.int .i64 p),recovered:=false } :: older)) w fun e u' w' =>
     e=.returned (.tuple #[])∧u'=.panicking ({ v:=.iface 82 (.int .i64 p),recovered:=true } :: older)∧Below vb w w'∧BoxC w' vb (.int .i64 0) (.slice none 0 0) (.slice none 0 0) (.slice none 0 0)∧BoxI w' bb p:=by
 have ha:=assert_yes p;refine callsD_of_wpS Tryz.func80 rfl fun c₀ cs hu=>?_
 apply wpS_seq;apply wpS_region;simp [wpOpsS,go_sem,recoverD,hu, Tryz.ntmps80,Exit.thenS,ha];obtain ⟨c0,c1,c2,c3⟩:=hv.cells;have f0:=hv.frz 0;have f1:=hv.frz 1;have f2:=hv.frz 2;have f3:=hv.frz 3;have b0:=hb.cell;have bf:=hb.frz 0;have a4:=hv.lt;have a6:=hb.lt;refine wpS_of_wp ?_;simp only [Array.replicate_succ,Array.replicate_zero,List.push_toArray,List.append_toArray,List.nil_append,List.cons_append,List.setIfInBounds_toArray,List.set_cons_zero,List.set_cons_succ];go_wp2;have HF:=caught_mem F hv hb (.int .i64 0) (.slice none 0 0) (.slice none 0 0) (.slice none 0 0) p (.cells #[.int .i64 0,.slice none 0 0,.slice none 0 0,.slice none 0 0] 37);simp only [bodyPostS,results, Tryz.results80];simp;exact HF
set_option maxRecDepth 100000 in
set_option maxHeartbeats 1000000 in
theorem catch_none (vb bb:Nat) (w:World) :
    CallsD Tryz.prog 80 #[.pointer (some ⟨vb,0,none⟩),.pointer (some ⟨bb,0,none⟩)] .returning w fun e u' w'=>e=.returned (.tuple #[])∧u'=.returning∧w'=w:=by
 have ha:=assert_no;refine callsD_of_wpS Tryz.func80 rfl fun c₀ cs hu=>?_
 apply wpS_seq;apply wpS_region;simp [wpOpsS,go_sem,recoverD,hu, Tryz.ntmps80,Exit.thenS,ha];refine wpS_of_wp ?_;simp only [Array.replicate_succ,Array.replicate_zero,List.push_toArray,List.append_toArray,List.nil_append,List.cons_append,List.setIfInBounds_toArray,List.set_cons_zero,List.set_cons_succ];go_wp2;cases c₀;simp only [bodyPostS,results, Tryz.results80];simp_all
theorem read1_any (base pb g:Nat) (ts:List Tok) (gs:List (Nat × Nat)) (en:Int) (w:World) (hR:RdrAt w pb g 0 ts en) (hT:TkM base pb w g ts gs) :
    Calls Tryz.prog 55 #[.pointer (some ⟨pb,0,none⟩)] w (RP ts gs en g pb 0 w 6 (conR ts en 6 0)):=by
 have a5:=hR.lt;have X:Below w.heap.size w (w.alloc (.cells #[.int .i64 0,.slice none 0 0,.slice none 0 0,.slice none 0 0] 37)):=(Below.refl _ _).alloc (Nat.le_refl _) _;have Y:Hid (Below w.heap.size w (w.alloc (.cells #[.int .i64 0,.slice none 0 0,.slice none 0 0,.slice none 0 0] 37))):=X;have a2:Hid (BoxC (w.alloc (.cells #[.int .i64 0,.slice none 0 0,.slice none 0 0,.slice none 0 0] 37)) w.heap.size (.int .i64 0) (.slice none 0 0) (.slice none 0 0) (.slice none 0 0)):=BoxC.new w _ _ _ _;have a9:Hid (RdrAt (w.alloc (.cells #[.int .i64 0,.slice none 0 0,.slice none 0 0,.slice none 0 0] 37)) pb g 0 ts en):=hR.below X;have a3:Hid (TkM base pb (w.alloc (.cells #[.int .i64 0,.slice none 0 0,.slice none 0 0,.slice none 0 0] 37)) g ts gs):=hT.below (X.mono (Nat.le_of_lt a5));clear X hR hT;go_enter Tryz.func55, Tryz.ntmps55;go_wp2_with fail;refine (readC_any 6 1 (by omega) (by omega) base pb g 0 ts gs en _ a9.out a3.out (Nat.zero_le _)).mono ?_;rintro e w1 hP;cases A:conR ts en 6 0 with
 | bad p =>
  rw [A] at hP;obtain ⟨D,he⟩:=hP;subst he;have a0:Hid (Bt pb w.heap.size w w1):=(Bt.of_below Y.out).trans (D.mono Y.out.size);simp only [gaveUp];clear D;go_wp2;exact ⟨rfl,RP.fell a0.out rfl rfl⟩
 | ok c j =>
  rw [A] at hP;obtain ⟨D,v,L,he,hO,a1⟩:=hP;subst he;obtain ⟨O,J,N,I,G,H,V,T,U,rfl⟩:=hO.ow.agg;obtain ⟨zk,Z⟩:∃ zk,zk=c.kind:=⟨_,rfl⟩;rw [← Z] at hO;rw [← Z];have a0:Hid (Bt pb w.heap.size w w1):=(Bt.of_below Y.out).trans (D.mono Y.out.size);have E:Hid (BoxC w1 w.heap.size (.int .i64 0) (.slice none 0 0) (.slice none 0 0) (.slice none 0 0)):=(D.block _ a2.out.lt (by omega)).trans a2.out;rw [World.size_alloc] at hO;have HO:Hid (OwnR ts gs 0 j (w.heap.size+1) w1 6 (.agg #[.int .i64 zk,.slice O J N,.slice I G H,.slice V T U]) c L):=hO;have a8:Hid (RdrAt w1 pb g j ts en):=a1;obtain ⟨z0,z1,z2,z3⟩:=E.out.cells;have ad:=E.out.frz 0;have ac:=E.out.frz 1;have ab:=E.out.frz 2;have aa:=E.out.frz 3;clear D hO a1 Z;go_wp2;obtain ⟨s0,s1,s2,s3⟩:=(E.out.set4 (.int .i64 zk) (.slice O J N) (.slice I G H) (.slice V T U)).cells;refine bodyPost_ret (v:=.agg #[.int .i64 zk,.slice O J N,.slice I G H,.slice V T U]) (by simp [results, Tryz.results55,go_sem,s0,s1,s2,s3]) rfl ?_;have F:=HO.out.us.ne a3.out (o:=w.heap.size) (by omega) (Nat.lt_succ_self _);have a7:=(OwnR.to HO.out (w':=((((w1.setCell ⟨w.heap.size,0,none⟩ (.int .i64 zk)).setCell ⟨w.heap.size,1,none⟩ (.slice O J N)).setCell ⟨w.heap.size,2,none⟩ (.slice I G H)).setCell ⟨w.heap.size,3,none⟩ (.slice V T U))) (fun x hx=>heap_set4 _ _ _ _ _ (F x hx)) (by simp)).low (Nat.le_succ _)
  exact RP.good ((((a0.out.set (.inl (Nat.le_refl _)) _).set (.inl (Nat.le_refl _)) _).set (.inl (Nat.le_refl _)) _).set (.inl (Nat.le_refl _)) _) A a7 (a8.out.of (heap_set4 _ _ _ _ _ (by omega)))
end

section
open Go.RowKit
set_option linter.unusedVariables false
def FldP (pb g:Nat) (ts:List Tok) (gs:List (Nat × Nat)) (en:Int) (w0:World) (i0 p s:Nat) (k:Int) (w:World) (r:ResX) (e:Ending) (w':World):Prop :=
 match r with
 | .bad q=>e=gaveUp q∧Bt pb w0.heap.size w0 w'
 | .ok x' j'=>e=.returned (.tuple #[])∧(w.heap.size≤w'.heap.size∧∀ b,b<w.heap.size→b≠pb→b≠p→w'.heap[b]?=w.heap[b]?)∧∃ V' Ls',StX pb g ts gs en w0 i0 p s k w' V' x' Ls' j'
set_option maxRecDepth 100000 in
set_option maxHeartbeats 2000000 in
theorem field_C {base pb g:Nat} {ts:List Tok} {gs:List (Nat × Nat)} {en:Int} {w0:World} {i0 p s:Nat} {k:Int} {w:World} {V:XV} {x:AX} {Ls:Nat→List (Addr × IntKind)} {j:Nat} (hS:SsX base pb g ts gs w0 p s) (h:StX pb g ts gs en w0 i0 p s k w V x Ls j) (E:i0≤j) (hj:j≤ts.length) :
    Calls Tryz.prog 77 #[.pointer (some ⟨pb,0,none⟩),.pointer (some ⟨p,0,none⟩),.int .i32 67] w (FldP pb g ts gs en w0 i0 p s k w (fieldR ts en 67 x j)):=by
 have HS:Hid (SsX base pb g ts gs w0 p s):=hS;have HX:Hid (StX pb g ts gs en w0 i0 p s k w V x Ls j):=h;have J:p<w.heap.size:=h.box.lt;have N:p≠pb:=by have:=hS.plt;have:=hS.p0;omega
 clear h hS;go_enter Tryz.func77, Tryz.ntmps77;go_wp2_with fail;refine (readC_any 6 1 (by omega) (by omega) base pb g j ts gs en _ HX.out.rdr (HX.out.tk HS.out) hj).mono ?_;rintro e w1 hP;cases D:conR ts en 6 j with
 | bad q =>
  rw [D] at hP;obtain ⟨z,he⟩:=hP;subst he
  have HF:Hid (FldP pb g ts gs en w0 i0 p s k w (fieldR ts en 67 x j) (gaveUp q) w1):=by
   have e1:fieldR ts en 67 x j=.bad q:=by simp [fieldR,D]
   unfold Hid;rw [e1];exact ⟨rfl,HX.out.bt.trans (z.mono HX.out.bt.size)⟩
  clear z;unfold gaveUp at HF ⊢;go_wp2;exact ⟨rfl,HF.out⟩
 | ok c j' =>
  rw [D] at hP;obtain ⟨z,v,L,he,hO,F⟩:=hP;subst he;obtain ⟨a7,a5,a6,a4,a2,a3,aa,a8,a9,rfl⟩:=hO.ow.agg;obtain ⟨zk,a1⟩:∃ zk,zk=c.kind:=⟨_,rfl⟩;rw [← a1] at hO ⊢;have ab:=(conR_end ts en 6 j c j' D).1;have hF:=HX.out.setC HS.out E (Nat.le_of_lt ab) z hO F
  have HF:Hid (FldP pb g ts gs en w0 i0 p s k w (fieldR ts en 67 x j) (.returned (.tuple #[])) ((((w1.setCell ⟨p,1,none⟩ (.int .i64 zk)).setCell ⟨p,2,none⟩ (.slice a7 a5 a6)).setCell ⟨p,3,none⟩ (.slice a4 a2 a3)).setCell ⟨p,4,none⟩ (.slice aa a8 a9))):=by
   have e1:fieldR ts en 67 x j=.ok { x with c:=c } j':=by simp [fieldR,D]
   unfold Hid;rw [e1];exact ⟨rfl,⟨by simpa using z.size,fun b h1 h2 h3=>by rw [Below.heap_setCell _ _ _ _ (by exact h3),Below.heap_setCell _ _ _ _ (by exact h3),Below.heap_setCell _ _ _ _ (by exact h3),Below.heap_setCell _ _ _ _ (by exact h3)];exact z.block b h1 h2⟩,_,_,hF⟩
  have A:BoxX w1 p k V:=HX.out.box.of (z.block _ J N);obtain ⟨z0,z1,z2,z3,z4,z5,z6,z7,z8,z9,a0,Z,Y⟩:=A.cells;have f1:=A.frz 1;have f2:=A.frz 2;have f3:=A.frz 3;have f4:=A.frz 4;clear hF z hO F A a1;go_wp2;refine bodyPost_end (results_none rfl _ _ _) rfl ?_;exact HF.out
set_option maxRecDepth 100000 in
set_option maxHeartbeats 2000000 in
theorem field_D {base pb g:Nat} {ts:List Tok} {gs:List (Nat × Nat)} {en:Int} {w0:World} {i0 p s:Nat} {k:Int} {w:World} {V:XV} {x:AX} {Ls:Nat→List (Addr × IntKind)} {j:Nat} (hS:SsX base pb g ts gs w0 p s) (h:StX pb g ts gs en w0 i0 p s k w V x Ls j) (E:i0≤j) (hj:j≤ts.length) :
    Calls Tryz.prog 77 #[.pointer (some ⟨pb,0,none⟩),.pointer (some ⟨p,0,none⟩),.int .i32 68] w (FldP pb g ts gs en w0 i0 p s k w (fieldR ts en 68 x j)):=by
 have HS:Hid (SsX base pb g ts gs w0 p s):=hS;have HX:Hid (StX pb g ts gs en w0 i0 p s k w V x Ls j):=h;have J:p<w.heap.size:=h.box.lt;have N:p≠pb:=by have:=hS.plt;have:=hS.p0;omega
 clear h hS;go_enter Tryz.func77, Tryz.ntmps77;go_wp2_with fail;refine (readC_any 6 1 (by omega) (by omega) base pb g j ts gs en _ HX.out.rdr (HX.out.tk HS.out) hj).mono ?_;rintro e w1 hP;cases D:conR ts en 6 j with
 | bad q =>
  rw [D] at hP;obtain ⟨z,he⟩:=hP;subst he
  have HF:Hid (FldP pb g ts gs en w0 i0 p s k w (fieldR ts en 68 x j) (gaveUp q) w1):=by
   have e1:fieldR ts en 68 x j=.bad q:=by simp [fieldR,D]
   unfold Hid;rw [e1];exact ⟨rfl,HX.out.bt.trans (z.mono HX.out.bt.size)⟩
  clear z;unfold gaveUp at HF ⊢;go_wp2;exact ⟨rfl,HF.out⟩
 | ok c j' =>
  rw [D] at hP;obtain ⟨z,v,L,he,hO,F⟩:=hP;subst he;obtain ⟨a7,a5,a6,a4,a2,a3,aa,a8,a9,rfl⟩:=hO.ow.agg;obtain ⟨zk,a1⟩:∃ zk,zk=c.kind:=⟨_,rfl⟩;rw [← a1] at hO ⊢;have ab:=(conR_end ts en 6 j c j' D).1;have hF:=HX.out.setD HS.out E (Nat.le_of_lt ab) z hO F
  have HF:Hid (FldP pb g ts gs en w0 i0 p s k w (fieldR ts en 68 x j) (.returned (.tuple #[])) ((((w1.setCell ⟨p,5,none⟩ (.int .i64 zk)).setCell ⟨p,6,none⟩ (.slice a7 a5 a6)).setCell ⟨p,7,none⟩ (.slice a4 a2 a3)).setCell ⟨p,8,none⟩ (.slice aa a8 a9))):=by
   have e1:fieldR ts en 68 x j=.ok { x with d:=c } j':=by simp [fieldR,D]
   unfold Hid;rw [e1];exact ⟨rfl,⟨by simpa using z.size,fun b h1 h2 h3=>by rw [Below.heap_setCell _ _ _ _ (by exact h3),Below.heap_setCell _ _ _ _ (by exact h3),Below.heap_setCell _ _ _ _ (by exact h3),Below.heap_setCell _ _ _ _ (by exact h3)];exact z.block b h1 h2⟩,_,_,hF⟩
  have A:BoxX w1 p k V:=HX.out.box.of (z.block _ J N);obtain ⟨z0,z1,z2,z3,z4,z5,z6,z7,z8,z9,a0,Z,Y⟩:=A.cells;have f5:=A.frz 5;have f6:=A.frz 6;have f7:=A.frz 7;have f8:=A.frz 8;clear hF z hO F A a1;go_wp2;refine bodyPost_end (results_none rfl _ _ _) rfl ?_;exact HF.out
set_option maxRecDepth 100000 in
set_option maxHeartbeats 2000000 in
theorem field_R {base pb g:Nat} {ts:List Tok} {gs:List (Nat × Nat)} {en:Int} {w0:World} {i0 p s:Nat} {k:Int} {w:World} {V:XV} {x:AX} {Ls:Nat→List (Addr × IntKind)} {j:Nat} (hS:SsX base pb g ts gs w0 p s) (h:StX pb g ts gs en w0 i0 p s k w V x Ls j) (E:i0≤j) (hj:j≤ts.length) :
    Calls Tryz.prog 77 #[.pointer (some ⟨pb,0,none⟩),.pointer (some ⟨p,0,none⟩),.int .i32 82] w (FldP pb g ts gs en w0 i0 p s k w (fieldR ts en 82 x j)):=by
 have HS:Hid (SsX base pb g ts gs w0 p s):=hS;have HX:Hid (StX pb g ts gs en w0 i0 p s k w V x Ls j):=h;have J:p<w.heap.size:=h.box.lt;have N:p≠pb:=by have:=hS.plt;have:=hS.p0;omega
 clear h hS;go_enter Tryz.func77, Tryz.ntmps77;cases hk:isI ts 2 j
 · have G:Hid (fieldR ts en 82 x j=.bad (hereI ts en j)):=by simp [Hid,fieldR,hk]
   go_wp2_with fail;refine (take_bad base pb g j ts gs en 2 _ HX.out.rdr (HX.out.tk HS.out) hj hk).mono ?_;rintro e w1 ⟨rfl,z⟩
   have HF:Hid (FldP pb g ts gs en w0 i0 p s k w (fieldR ts en 82 x j) (gaveUp (hereI ts en j)) w1):=by
    unfold Hid;rw [G.out];exact ⟨rfl,HX.out.bt.trans (Bt.of_below (z.mono HX.out.bt.size))⟩
   clear z;unfold gaveUp at HF ⊢;go_wp2;exact ⟨rfl,HF.out⟩
 have G:Hid (fieldR ts en 82 x j=.ok (putB x 82 (wordI ts j)) (j+1)):=by simp [Hid,fieldR,hk]
 go_wp2_with fail;refine (take_ok base pb g j ts gs en 2 _ HX.out.rdr (HX.out.tk HS.out) hk).mono ?_;rintro e w1 ⟨rfl,F,z⟩;obtain ⟨ta,tc,L,hx,hO,O,U,H⟩:=tok_ows ((HX.out.tk HS.out).bt z (by have:=HS.out.plt;have:=HX.out.bt.size;omega)) (isI_lt hk) w.heap.size;obtain ⟨tn,I⟩:∃ tn,tn=(wordI ts j).length:=⟨_,rfl⟩;rw [← I] at hx hO;rw [hx];have hF:=HX.out.setR HS.out E z hO O U (H.mono (Nat.le_refl _) (Nat.le_refl _) (Nat.le_refl _) z.size) F
 have HF:Hid (FldP pb g ts gs en w0 i0 p s k w (fieldR ts en 82 x j) (.returned (.tuple #[])) (w1.setCell ⟨p,9,none⟩ (.slice ta tn tc))):=by
  unfold Hid;rw [G.out];exact ⟨rfl,⟨by simpa using z.size,fun b h1 h2 h3=>by rw [Below.heap_setCell _ _ _ _ (by exact h3)];exact z.block b h1 h2⟩,_,_,hF⟩
 have A:BoxX w1 p k V:=HX.out.box.of (z.block _ J N);obtain ⟨z0,z1,z2,z3,z4,z5,z6,z7,z8,z9,a0,Z,Y⟩:=A.cells;have f9:=A.frz 9;obtain ⟨hi,T⟩:∃ q,q=hereI ts en j:=⟨_,rfl⟩;rw [← T];have X:(Instr.field 115 (.agg #[.int .i64 2,.int .i64 hi,.slice ta tn tc]) 2).run Tryz.prog w1=.ok (.slice ta tn tc) w1:=by kernel_rfl
 clear hF z hO F A I hx O U H T;go_wp2;refine bodyPost_end (results_none rfl _ _ _) rfl ?_;exact HF.out
set_option maxRecDepth 100000 in
set_option maxHeartbeats 2000000 in
theorem field_S {base pb g:Nat} {ts:List Tok} {gs:List (Nat × Nat)} {en:Int} {w0:World} {i0 p s:Nat} {k:Int} {w:World} {V:XV} {x:AX} {Ls:Nat→List (Addr × IntKind)} {j:Nat} (hS:SsX base pb g ts gs w0 p s) (h:StX pb g ts gs en w0 i0 p s k w V x Ls j) (E:i0≤j) (hj:j≤ts.length) :
    Calls Tryz.prog 77 #[.pointer (some ⟨pb,0,none⟩),.pointer (some ⟨p,0,none⟩),.int .i32 83] w (FldP pb g ts gs en w0 i0 p s k w (fieldR ts en 83 x j)):=by
 have HS:Hid (SsX base pb g ts gs w0 p s):=hS;have HX:Hid (StX pb g ts gs en w0 i0 p s k w V x Ls j):=h;have J:p<w.heap.size:=h.box.lt;have N:p≠pb:=by have:=hS.plt;have:=hS.p0;omega
 clear h hS;go_enter Tryz.func77, Tryz.ntmps77;cases hk:isI ts 2 j
 · have G:Hid (fieldR ts en 83 x j=.bad (hereI ts en j)):=by simp [Hid,fieldR,hk]
   go_wp2_with fail;refine (take_bad base pb g j ts gs en 2 _ HX.out.rdr (HX.out.tk HS.out) hj hk).mono ?_;rintro e w1 ⟨rfl,z⟩
   have HF:Hid (FldP pb g ts gs en w0 i0 p s k w (fieldR ts en 83 x j) (gaveUp (hereI ts en j)) w1):=by
    unfold Hid;rw [G.out];exact ⟨rfl,HX.out.bt.trans (Bt.of_below (z.mono HX.out.bt.size))⟩
   clear z;unfold gaveUp at HF ⊢;go_wp2;exact ⟨rfl,HF.out⟩
 have G:Hid (fieldR ts en 83 x j=.ok (putB x 83 (wordI ts j)) (j+1)):=by simp [Hid,fieldR,hk]
 go_wp2_with fail;refine (take_ok base pb g j ts gs en 2 _ HX.out.rdr (HX.out.tk HS.out) hk).mono ?_;rintro e w1 ⟨rfl,F,z⟩;obtain ⟨ta,tc,L,hx,hO,O,U,H⟩:=tok_ows ((HX.out.tk HS.out).bt z (by have:=HS.out.plt;have:=HX.out.bt.size;omega)) (isI_lt hk) w.heap.size;obtain ⟨tn,I⟩:∃ tn,tn=(wordI ts j).length:=⟨_,rfl⟩;rw [← I] at hx hO;rw [hx];have hF:=HX.out.setS HS.out E z hO O U (H.mono (Nat.le_refl _) (Nat.le_refl _) (Nat.le_refl _) z.size) F
 have HF:Hid (FldP pb g ts gs en w0 i0 p s k w (fieldR ts en 83 x j) (.returned (.tuple #[])) (w1.setCell ⟨p,10,none⟩ (.slice ta tn tc))):=by
  unfold Hid;rw [G.out];exact ⟨rfl,⟨by simpa using z.size,fun b h1 h2 h3=>by rw [Below.heap_setCell _ _ _ _ (by exact h3)];exact z.block b h1 h2⟩,_,_,hF⟩
 have A:BoxX w1 p k V:=HX.out.box.of (z.block _ J N);obtain ⟨z0,z1,z2,z3,z4,z5,z6,z7,z8,z9,a0,Z,Y⟩:=A.cells;have ae:=A.frz 10;obtain ⟨hi,T⟩:∃ q,q=hereI ts en j:=⟨_,rfl⟩;rw [← T];have X:(Instr.field 115 (.agg #[.int .i64 2,.int .i64 hi,.slice ta tn tc]) 2).run Tryz.prog w1=.ok (.slice ta tn tc) w1:=by kernel_rfl
 clear hF z hO F A I hx O U H T;go_wp2;refine bodyPost_end (results_none rfl _ _ _) rfl ?_;exact HF.out
set_option maxRecDepth 100000 in
set_option maxHeartbeats 2000000 in
theorem field_A {base pb g:Nat} {ts:List Tok} {gs:List (Nat × Nat)} {en:Int} {w0:World} {i0 p s:Nat} {k:Int} {w:World} {V:XV} {x:AX} {Ls:Nat→List (Addr × IntKind)} {j:Nat} (hS:SsX base pb g ts gs w0 p s) (h:StX pb g ts gs en w0 i0 p s k w V x Ls j) (E:i0≤j) (hj:j≤ts.length) :
    Calls Tryz.prog 77 #[.pointer (some ⟨pb,0,none⟩),.pointer (some ⟨p,0,none⟩),.int .i32 65] w (FldP pb g ts gs en w0 i0 p s k w (fieldR ts en 65 x j)):=by
 have HS:Hid (SsX base pb g ts gs w0 p s):=hS;have HX:Hid (StX pb g ts gs en w0 i0 p s k w V x Ls j):=h;have J:p<w.heap.size:=h.box.lt;have N:p≠pb:=by have:=hS.plt;have:=hS.p0;omega
 clear h hS;go_enter Tryz.func77, Tryz.ntmps77;cases hk:isI ts 2 j
 · have G:Hid (fieldR ts en 65 x j=.bad (hereI ts en j)):=by simp [Hid,fieldR,hk]
   go_wp2_with fail;refine (take_bad base pb g j ts gs en 2 _ HX.out.rdr (HX.out.tk HS.out) hj hk).mono ?_;rintro e w1 ⟨rfl,z⟩
   have HF:Hid (FldP pb g ts gs en w0 i0 p s k w (fieldR ts en 65 x j) (gaveUp (hereI ts en j)) w1):=by
    unfold Hid;rw [G.out];exact ⟨rfl,HX.out.bt.trans (Bt.of_below (z.mono HX.out.bt.size))⟩
   clear z;unfold gaveUp at HF ⊢;go_wp2;exact ⟨rfl,HF.out⟩
 have G:Hid (fieldR ts en 65 x j=.ok (putB x 65 (wordI ts j)) (j+1)):=by simp [Hid,fieldR,hk]
 go_wp2_with fail;refine (take_ok base pb g j ts gs en 2 _ HX.out.rdr (HX.out.tk HS.out) hk).mono ?_;rintro e w1 ⟨rfl,F,z⟩;obtain ⟨ta,tc,L,hx,hO,O,U,H⟩:=tok_ows ((HX.out.tk HS.out).bt z (by have:=HS.out.plt;have:=HX.out.bt.size;omega)) (isI_lt hk) w.heap.size;obtain ⟨tn,I⟩:∃ tn,tn=(wordI ts j).length:=⟨_,rfl⟩;rw [← I] at hx hO;rw [hx];have hF:=HX.out.setA HS.out E z hO O U (H.mono (Nat.le_refl _) (Nat.le_refl _) (Nat.le_refl _) z.size) F
 have HF:Hid (FldP pb g ts gs en w0 i0 p s k w (fieldR ts en 65 x j) (.returned (.tuple #[])) (w1.setCell ⟨p,11,none⟩ (.slice ta tn tc))):=by
  unfold Hid;rw [G.out];exact ⟨rfl,⟨by simpa using z.size,fun b h1 h2 h3=>by rw [Below.heap_setCell _ _ _ _ (by exact h3)];exact z.block b h1 h2⟩,_,_,hF⟩
 have A:BoxX w1 p k V:=HX.out.box.of (z.block _ J N);obtain ⟨z0,z1,z2,z3,z4,z5,z6,z7,z8,z9,a0,Z,Y⟩:=A.cells;have ad:=A.frz 11;obtain ⟨hi,T⟩:∃ q,q=hereI ts en j:=⟨_,rfl⟩;rw [← T];have X:(Instr.field 115 (.agg #[.int .i64 2,.int .i64 hi,.slice ta tn tc]) 2).run Tryz.prog w1=.ok (.slice ta tn tc) w1:=by kernel_rfl
 clear hF z hO F A I hx O U H T;go_wp2;refine bodyPost_end (results_none rfl _ _ _) rfl ?_;exact HF.out
set_option maxRecDepth 100000 in
set_option maxHeartbeats 2000000 in
theorem field_B {base pb g:Nat} {ts:List Tok} {gs:List (Nat × Nat)} {en:Int} {w0:World} {i0 p s:Nat} {k:Int} {w:World} {V:XV} {x:AX} {Ls:Nat→List (Addr × IntKind)} {j:Nat} (hS:SsX base pb g ts gs w0 p s) (h:StX pb g ts gs en w0 i0 p s k w V x Ls j) (E:i0≤j) (hj:j≤ts.length) :
    Calls Tryz.prog 77 #[.pointer (some ⟨pb,0,none⟩),.pointer (some ⟨p,0,none⟩),.int .i32 66] w (FldP pb g ts gs en w0 i0 p s k w (fieldR ts en 66 x j)):=by
 have HS:Hid (SsX base pb g ts gs w0 p s):=hS;have HX:Hid (StX pb g ts gs en w0 i0 p s k w V x Ls j):=h;have J:p<w.heap.size:=h.box.lt;have N:p≠pb:=by have:=hS.plt;have:=hS.p0;omega
 clear h hS;go_enter Tryz.func77, Tryz.ntmps77;cases hk:isI ts 2 j
 · have G:Hid (fieldR ts en 66 x j=.bad (hereI ts en j)):=by simp [Hid,fieldR,hk]
   go_wp2_with fail;refine (take_bad base pb g j ts gs en 2 _ HX.out.rdr (HX.out.tk HS.out) hj hk).mono ?_;rintro e w1 ⟨rfl,z⟩
   have HF:Hid (FldP pb g ts gs en w0 i0 p s k w (fieldR ts en 66 x j) (gaveUp (hereI ts en j)) w1):=by
    unfold Hid;rw [G.out];exact ⟨rfl,HX.out.bt.trans (Bt.of_below (z.mono HX.out.bt.size))⟩
   clear z;unfold gaveUp at HF ⊢;go_wp2;exact ⟨rfl,HF.out⟩
 have G:Hid (fieldR ts en 66 x j=.ok (putB x 66 (wordI ts j)) (j+1)):=by simp [Hid,fieldR,hk]
 go_wp2_with fail;refine (take_ok base pb g j ts gs en 2 _ HX.out.rdr (HX.out.tk HS.out) hk).mono ?_;rintro e w1 ⟨rfl,F,z⟩;obtain ⟨ta,tc,L,hx,hO,O,U,H⟩:=tok_ows ((HX.out.tk HS.out).bt z (by have:=HS.out.plt;have:=HX.out.bt.size;omega)) (isI_lt hk) w.heap.size;obtain ⟨tn,I⟩:∃ tn,tn=(wordI ts j).length:=⟨_,rfl⟩;rw [← I] at hx hO;rw [hx];have hF:=HX.out.setB HS.out E z hO O U (H.mono (Nat.le_refl _) (Nat.le_refl _) (Nat.le_refl _) z.size) F
 have HF:Hid (FldP pb g ts gs en w0 i0 p s k w (fieldR ts en 66 x j) (.returned (.tuple #[])) (w1.setCell ⟨p,12,none⟩ (.slice ta tn tc))):=by
  unfold Hid;rw [G.out];exact ⟨rfl,⟨by simpa using z.size,fun b h1 h2 h3=>by rw [Below.heap_setCell _ _ _ _ (by exact h3)];exact z.block b h1 h2⟩,_,_,hF⟩
 have A:BoxX w1 p k V:=HX.out.box.of (z.block _ J N);obtain ⟨z0,z1,z2,z3,z4,z5,z6,z7,z8,z9,a0,Z,Y⟩:=A.cells;have ac:=A.frz 12;obtain ⟨hi,T⟩:∃ q,q=hereI ts en j:=⟨_,rfl⟩;rw [← T];have X:(Instr.field 115 (.agg #[.int .i64 2,.int .i64 hi,.slice ta tn tc]) 2).run Tryz.prog w1=.ok (.slice ta tn tc) w1:=by kernel_rfl
 clear hF z hO F A I hx O U H T;go_wp2;refine bodyPost_end (results_none rfl _ _ _) rfl ?_;exact HF.out
theorem field_any {base pb g:Nat} {ts:List Tok} {gs:List (Nat × Nat)} {en:Int} {w0:World} {i0 p s:Nat} {k:Int} {w:World} {V:XV} {x:AX} {Ls:Nat→List (Addr × IntKind)} {j:Nat} (f:Nat) (hf:f=67∨f=68∨f=82∨f=83∨f=65∨f=66) (hS:SsX base pb g ts gs w0 p s) (h:StX pb g ts gs en w0 i0 p s k w V x Ls j) (E:i0≤j) (hj:j≤ts.length) :
    Calls Tryz.prog 77 #[.pointer (some ⟨pb,0,none⟩),.pointer (some ⟨p,0,none⟩),.int .i32 (f:Nat)] w (FldP pb g ts gs en w0 i0 p s k w (fieldR ts en f x j)):=by
 rcases hf with rfl | rfl | rfl | rfl | rfl | rfl
 · exact field_C hS h E hj
 · exact field_D hS h E hj
 · exact field_R hS h E hj
 · exact field_S hS h E hj
 · exact field_A hS h E hj
 exact field_B hS h E hj
end

end Go.Proofs.YtocpeiaolofodaaGreat
