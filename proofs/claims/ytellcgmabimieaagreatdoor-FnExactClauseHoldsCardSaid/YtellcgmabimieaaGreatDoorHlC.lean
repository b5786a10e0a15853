/- spec.ClauseHolds: a contract. -/
import Derived.Test.YtellcgmabimieaaGreatDoorHlSa
import Derived.Test.YtellcgmabimieaaGreatDoorClsS3
import Derived.Test.YtellcgmabimieaaGreatDoorNG15
import Derived.Test.YtellcgmabimieaaGreatDoorNG18
namespace Go.Proofs.YtellcgmabimieaaGreatDoor
open Go.RowKit
set_option linter.unusedVariables false
set_option linter.unusedSimpArgs false
set_option maxRecDepth 100000 in
set_option maxHeartbeats 8000000 in
theorem specClauseHolds_any {na:Option Addr} {nn nc:Nat} {sa:Option Addr} {sn sc:Nat} {ra:Option Addr} {rn rc:Nat} {la:Option Addr} {ln lc:Nat} {ia:Option Addr} {im ic:Nat} {ta:Option Addr} {tn tc:Nat} {x:WD} {d:Nat} {xa:Option Addr} {xn xc:Nat} {oa:Option Addr} {on oc:Nat} {ua:Option Addr} {un uc:Nat} {ka:Option Addr} {kn kc:Nat} {s:CS} {k f r u p q p' q':Int} {ya:Option Addr} {yn yc:Nat} {a b:Int} {xs:List (Int × Int)} {fa:Option Addr} {fn fc:Nat} {ls:List (List Bool)} {w:World} {lo hi lo' hi' al T ak R:Nat} {nx:Int} (h:RdW lo hi w na nn nc sa sn sc ra rn rc la ln lc ia im ic ta tn tc x) (hn:x.n=nx) (hs:RdS lo' hi' w d xa xn xc oa on oc ua un uc ka kn kc s) (E:bulks s.atoms≤1048576) (hp:RP ak R w ya yn yc xs) (hf:RFF al T w fa fn fc ls) (an:hi≤w.heap.size) (N:hi'≤w.heap.size) (M:T≤w.heap.size) (J:R≤w.heap.size) :
    Calls Tryz.prog 8 #[.agg #[.int .i64 nx,.slice na nn nc,.slice sa sn sc,.slice ra rn rc,.slice la ln lc,.slice ia im ic,.slice ta tn tc],.agg #[.slice xa xn xc,.slice oa on oc,.slice ua un uc,.slice ka kn kc],.agg #[.int .i64 k,.int .i64 f,.int .i64 r,.int .i64 u,.int .i64 p,.int .i64 q,.int .i64 p',.int .i64 q',.slice ya yn yc,.int .i64 a,.int .i64 b],.slice fa fn fc] w fun e w'=>e=.returned (.bool (clHolds x s ⟨k,f,r,u,p,q,p',q',xs,a,b⟩ ls))∧Below w.heap.size w w':=by
 obtain ⟨W,hW⟩:∃ W,W=(((w.alloc (.cells #[.int .i64 nx,.slice na nn nc,.slice sa sn sc,.slice ra rn rc,.slice la ln lc,.slice ia im ic,.slice ta tn tc] 41)).alloc (.cells #[.slice xa xn xc,.slice oa on oc,.slice ua un uc,.slice ka kn kc] 46)).alloc (.cells #[.int .i64 k,.int .i64 f,.int .i64 r,.int .i64 u,.int .i64 p,.int .i64 q,.int .i64 p',.int .i64 q',.slice ya yn yc,.int .i64 a,.int .i64 b] 51)):=⟨_,rfl⟩;have HW:Hid (W=(((w.alloc (.cells #[.int .i64 nx,.slice na nn nc,.slice sa sn sc,.slice ra rn rc,.slice la ln lc,.slice ia im ic,.slice ta tn tc] 41)).alloc (.cells #[.slice xa xn xc,.slice oa on oc,.slice ua un uc,.slice ka kn kc] 46)).alloc (.cells #[.int .i64 k,.int .i64 f,.int .i64 r,.int .i64 u,.int .i64 p,.int .i64 q,.int .i64 p',.int .i64 q',.slice ya yn yc,.int .i64 a,.int .i64 b] 51))):=hW;have F:Below w.heap.size w W:=by rw [hW];exact (((Below.refl _ _).alloc (Nat.le_refl _) _).alloc (by simp) _).alloc (by simp;omega) _
 have aJ:W.heap.size=w.heap.size+3:=by rw [hW];simp
 have ao:BoxW 41 W w.heap.size nx (.slice na nn nc) (.slice sa sn sc) (.slice ra rn rc) (.slice la ln lc) (.slice ia im ic) (.slice ta tn tc):=by rw [hW];exact ((BoxW.new _ w _ _ _ _ _ _ _).below ((Below.refl _ _).alloc (Nat.le_refl _) _) (by simp)).below ((Below.refl _ _).alloc (Nat.le_refl _) _) (by simp;omega)
 have ap:Blk W (w.heap.size+1) 46 (.slice xa xn xc) (.slice oa on oc) (.slice ua un uc) (.slice ka kn kc):=by
  have e:Blk ((w.alloc (.cells #[.int .i64 nx,.slice na nn nc,.slice sa sn sc,.slice ra rn rc,.slice la ln lc,.slice ia im ic,.slice ta tn tc] 41)).alloc (.cells #[.slice xa xn xc,.slice oa on oc,.slice ua un uc,.slice ka kn kc] 46)) (w.alloc (.cells #[.int .i64 nx,.slice na nn nc,.slice sa sn sc,.slice ra rn rc,.slice la ln lc,.slice ia im ic,.slice ta tn tc] 41)).heap.size 46 (.slice xa xn xc) (.slice oa on oc) (.slice ua un uc) (.slice ka kn kc):=Blk.alloc_new _ _ _ _ _ _ _ rfl;rw [World.size_alloc] at e;rw [hW];exact e.alloc _
 have aq:BoxK 51 W (w.heap.size+2) k f r u p q p' q' (.slice ya yn yc) a b:=by
  have e:=BoxK.new 51 ((w.alloc (.cells #[.int .i64 nx,.slice na nn nc,.slice sa sn sc,.slice ra rn rc,.slice la ln lc,.slice ia im ic,.slice ta tn tc] 41)).alloc (.cells #[.slice xa xn xc,.slice oa on oc,.slice ua un uc,.slice ka kn kc] 46)) k f r u p q p' q' (.slice ya yn yc) a b;rw [World.size_alloc,World.size_alloc] at e;rw [hW];exact e
 have aP:Hid (∀ V,Below W.heap.size W V→BoxW 41 V w.heap.size nx (.slice na nn nc) (.slice sa sn sc) (.slice ra rn rc) (.slice la ln lc) (.slice ia im ic) (.slice ta tn tc)∧Blk V (w.heap.size+1) 46 (.slice xa xn xc) (.slice oa on oc) (.slice ua un uc) (.slice ka kn kc)∧BoxK 51 V (w.heap.size+2) k f r u p q p' q' (.slice ya yn yc) a b):=fun V hV=>⟨ao.below hV (by omega),ap.below hV (by omega),aq.below hV (by omega)⟩
 have z:Hid (∀ {V:World},Below W.heap.size W V→Below w.heap.size w V):=fun {V} hV=>F.trans (hV.mono F.size)
 have U:Hid (∀ V,Below W.heap.size W V→RdW lo hi V na nn nc sa sn sc ra rn rc la ln lc ia im ic ta tn tc x∧hi≤V.heap.size):=fun V hV=>⟨(h.below F an).below hV (by omega),by have:=hV.size;omega⟩
 have Y:Hid (∀ V,Below W.heap.size W V→RdS lo' hi' V d xa xn xc oa on oc ua un uc ka kn kc s∧hi'≤V.heap.size):=fun V hV=>⟨(hs.below F N).below hV (by omega),by have:=hV.size;omega⟩
 have a7:Hid (∀ V,Below W.heap.size W V→RFF al T V fa fn fc ls∧T≤V.heap.size):=fun V hV=>⟨(hf.below F M).below hV (by omega),by have:=hV.size;omega⟩
 have Z:Hid (∀ V,Below W.heap.size W V→RP ak R V ya yn yc xs∧R≤V.heap.size):=fun V hV=>⟨(hp.below F J).below hV (by omega),by have:=hV.size;omega⟩
 have A:Hid (s.atoms.length=xn∧s.roles.length=on∧ls.length=fn):=⟨hs.atoms.len,hs.roles.len,hf.len⟩;have a8:Hid (x.n=nx):=hn;have aS:Hid (bulks s.atoms≤1048576):=E
 have o:Hid (∀ V,Below W.heap.size W V→V.cell? ⟨w.heap.size,0,none⟩=some (.int .i64 nx)∧V.cell? ⟨w.heap.size,1,none⟩=some (.slice na nn nc)∧V.cell? ⟨w.heap.size,2,none⟩=some (.slice sa sn sc)∧V.cell? ⟨w.heap.size,3,none⟩=some (.slice ra rn rc)∧V.cell? ⟨w.heap.size,4,none⟩=some (.slice la ln lc)∧V.cell? ⟨w.heap.size,5,none⟩=some (.slice ia im ic)∧V.cell? ⟨w.heap.size,6,none⟩=some (.slice ta tn tc)∧V.cell? ⟨w.heap.size+1,0,none⟩=some (.slice xa xn xc)∧V.cell? ⟨w.heap.size+1,1,none⟩=some (.slice oa on oc)∧V.cell? ⟨w.heap.size+1,2,none⟩=some (.slice ua un uc)∧V.cell? ⟨w.heap.size+1,3,none⟩=some (.slice ka kn kc)∧V.cell? ⟨w.heap.size+2,0,none⟩=some (.int .i64 k)∧V.cell? ⟨w.heap.size+2,1,none⟩=some (.int .i64 f)∧V.cell? ⟨w.heap.size+2,2,none⟩=some (.int .i64 r)∧V.cell? ⟨w.heap.size+2,3,none⟩=some (.int .i64 u)∧V.cell? ⟨w.heap.size+2,4,none⟩=some (.int .i64 p)∧V.cell? ⟨w.heap.size+2,5,none⟩=some (.int .i64 q)∧V.cell? ⟨w.heap.size+2,6,none⟩=some (.int .i64 p')∧V.cell? ⟨w.heap.size+2,7,none⟩=some (.int .i64 q')∧V.cell? ⟨w.heap.size+2,8,none⟩=some (.slice ya yn yc)∧V.cell? ⟨w.heap.size+2,9,none⟩=some (.int .i64 a)∧V.cell? ⟨w.heap.size+2,10,none⟩=some (.int .i64 b)):=fun V hV=>by
  obtain ⟨q1,q2,q3⟩:=aP.out V hV;obtain ⟨g0,g1,g2,g3,g4,g5,g6⟩:=q1.cells;obtain ⟨s0,s1,s2,s3,_⟩:=q2.cells;obtain ⟨y0,y1,y2,y3,y4,y5,y6,y7,y8,y9,aG⟩:=q3.cells;exact ⟨g0,g1,g2,g3,g4,g5,g6,s0,s1,s2,s3,y0,y1,y2,y3,y4,y5,y6,y7,y8,y9,aG⟩
 obtain ⟨a0,a1,a2,a3,a4,a5,a6,s0,s1,s2,s3,k0,k1,k2,k3,k4,k5,k6,k7,k8,k9,D⟩:=o.out W (Below.refl _ _);have H0:Hid (Below W.heap.size W W):=Below.refl _ _;have aT:=hf.fits;have aF:=hs.atoms.fits;clear h hs hp hf an N M J F ao ap aq hW aJ hn E;go_enter Tryz.func8, Tryz.ntmps8;go_upto_region 1 with fail;rw [← HW.out];go_wp2_with fail;refine (specWorldOk_any (U.out _ H0.out).1 a8.out (U.out _ H0.out).2).mono ?_;rintro e w1 ⟨rfl,ay⟩;obtain ⟨v1,ac⟩:∃ v,v=worldB x:=⟨_,rfl⟩;rw [← ac];have V1:Hid (worldB x=v1):=ac.symm;have H1:Hid (Below W.heap.size W w1):=H0.out.trans (ay.mono H0.out.size);clear ay ac a0 a1 a2 a3 a4 a5 a6 s0 s1 s2 s3 k0 k1 k2 k3 k4 k5 k6 k7 k8 k9 D;obtain ⟨a0,a1,a2,a3,a4,a5,a6,s0,s1,s2,s3,k0,k1,k2,k3,k4,k5,k6,k7,k8,k9,D⟩:=o.out _ H1.out;cases v1 with
 | false =>
  have HE:Hid (clHolds x s ⟨k,f,r,u,p,q,p',q',xs,a,b⟩ ls=false):=by unfold Hid clHolds;rw [V1.out];rfl
  go_wp2_with fail;go_ret;exact ⟨rb HE.out.symm,z.out H1.out⟩
 | true =>
  go_wp2_with fail;refine (specClsOk_any (Y.out _ H1.out).1 (Y.out _ H1.out).2 aS.out).mono ?_;rintro e w2 ⟨rfl,ax⟩;obtain ⟨v2,ab⟩:∃ v,v=clsB s:=⟨_,rfl⟩;rw [← ab];have V2:Hid (clsB s=v2):=ab.symm;have H2:Hid (Below W.heap.size W w2):=H1.out.trans (ax.mono H1.out.size);clear ax ab a0 a1 a2 a3 a4 a5 a6 s0 s1 s2 s3 k0 k1 k2 k3 k4 k5 k6 k7 k8 k9 D;obtain ⟨a0,a1,a2,a3,a4,a5,a6,s0,s1,s2,s3,k0,k1,k2,k3,k4,k5,k6,k7,k8,k9,D⟩:=o.out _ H2.out;cases v2 with
  | false =>
   have HE:Hid (clHolds x s ⟨k,f,r,u,p,q,p',q',xs,a,b⟩ ls=false):=by unfold Hid clHolds;rw [V2.out];simp
   go_wp2_with fail;go_ret;exact ⟨rb HE.out.symm,z.out H2.out⟩
  | true =>
   go_wp2_with fail;refine (specClauseOk_any (Z.out _ H2.out).1 (Z.out _ H2.out).2).mono ?_;rintro e w3 ⟨rfl,av⟩;obtain ⟨v3,aa⟩:∃ v,v=clauseB k f r u p q p' q' xs a b:=⟨_,rfl⟩;rw [← aa];have V3:Hid (clauseB k f r u p q p' q' xs a b=v3):=aa.symm;have H3:Hid (Below W.heap.size W w3):=H2.out.trans (av.mono H2.out.size);clear av aa a0 a1 a2 a3 a4 a5 a6 s0 s1 s2 s3 k0 k1 k2 k3 k4 k5 k6 k7 k8 k9 D;obtain ⟨a0,a1,a2,a3,a4,a5,a6,s0,s1,s2,s3,k0,k1,k2,k3,k4,k5,k6,k7,k8,k9,D⟩:=o.out _ H3.out;cases v3 with
   | false =>
    have HE:Hid (clHolds x s ⟨k,f,r,u,p,q,p',q',xs,a,b⟩ ls=false):=by unfold Hid clHolds;have h3:okK ⟨k,f,r,u,p,q,p',q',xs,a,b⟩=false:=V3.out;unfold fitK;rw [h3];simp
    go_wp2_with fail;go_ret;exact ⟨rb HE.out.symm,z.out H3.out⟩
   | true =>
    have aj:xn≤24:=by have h2:=V2.out;unfold clsB headB at h2;simp only [Bool.and_eq_true,decide_eq_true_eq] at h2;rw [A.out.1] at h2;exact h2.1.1
    go_wp2_with fail;refine (l6names_any (Z.out _ H3.out).1 (Z.out _ H3.out).2 aj).mono ?_;rintro e w4 ⟨rfl,au⟩;obtain ⟨v4,a9⟩:∃ v,v=nameB xn on ⟨k,f,r,u,p,q,p',q',xs,a,b⟩:=⟨_,rfl⟩;rw [← a9];have V4:Hid (nameB xn on ⟨k,f,r,u,p,q,p',q',xs,a,b⟩=v4):=a9.symm;have H4:Hid (Below W.heap.size W w4):=H3.out.trans (au.mono H3.out.size);clear au a9 a0 a1 a2 a3 a4 a5 a6 s0 s1 s2 s3 k0 k1 k2 k3 k4 k5 k6 k7 k8 k9 D;obtain ⟨a0,a1,a2,a3,a4,a5,a6,s0,s1,s2,s3,k0,k1,k2,k3,k4,k5,k6,k7,k8,k9,D⟩:=o.out _ H4.out;cases v4 with
    | false =>
     have HE:Hid (clHolds x s ⟨k,f,r,u,p,q,p',q',xs,a,b⟩ ls=false):=by unfold Hid clHolds;unfold fitK;rw [A.out.1,A.out.2.1,V4.out];simp
     go_wp2_with fail;go_ret;exact ⟨rb HE.out.symm,z.out H4.out⟩
    | true =>
     by_cases hfa:fn=xn
     · have aM:((fn:Int) == (xn:Int))=true:=by simp [hfa]
       have aL:((fn:Int) != (xn:Int))=false:=by simp [hfa]
       have I:Hid (fn=xn):=hfa;clear hfa;go_wp2_with fail;go_loopw [9] (fun i wr=>∃ j:Nat,j≤fn∧i=.int .i64 j∧(∀ m,m<j→((ls.getD m []).length:Int)=nx)∧Below W.heap.size W wr) (fun i _=>fn - (intOf i).toNat)
       case atStart=>exact ⟨0,Nat.zero_le _,rfl,fun m hm=>absurd hm (by omega),H4.out⟩
       case round =>
        obtain ⟨j,hj,rfl,O,G⟩:=hrel;have ai:Hid (∀ m,m<j→((ls.getD m []).length:Int)=nx):=O;have HB:Hid (Below W.heap.size W wr):=G;clear a0 a1 a2 a3 a4 a5 a6 s0 s1 s2 s3 k0 k1 k2 k3 k4 k5 k6 k7 k8 k9 D;obtain ⟨a0,a1,a2,a3,a4,a5,a6,s0,s1,s2,s3,k0,k1,k2,k3,k4,k5,k6,k7,k8,k9,D⟩:=o.out wr G;clear O G;by_cases hlt:j<fn
        · have aK:(j:Int)<(fn:Int):=by omega
          rcases (a7.out _ HB.out).1.cells with hz | ⟨bl,ol,el,_,aU,ag⟩
          · omega
          subst el;obtain ⟨vl,aO,ea,en,ec,rfl,ad⟩:=ag j hlt;have af:=ad.len;have aB:Hid ((ls.getD j []).length=en):=af;have aE:Hid (Below W.heap.size W wr.drew):=HB.out.drew;have aD:Hid (∀ V,Below wr.heap.size wr V→V.cell? ⟨bl,ol+j,none⟩=some (.slice ea en ec)):=fun V hV=>(hV.cell (p:=⟨bl,ol+j,none⟩) (show bl<wr.heap.size by have:=(a7.out _ HB.out).2;omega)).trans aO
          have aC:Hid (Below wr.heap.size wr wr.drew):=(Below.refl _ _).drew;by_cases hen:(en:Int)=nx
          · have HN:Hid (∀ m,m<j+1→((ls.getD m []).length:Int)=nx):=fun m hm=>by
             by_cases e':m=j
             · subst e';rw [aB.out];exact hen
             exact ai.out m (by omega)
            have ae:((en:Int) != nx)=false:=by simp [hen]
            clear ad ag af;go_upto_region 6 with fail;refine wp_region_held_drew (S:=(fun V=>V.cell? ⟨w.heap.size,0,none⟩=some (.int .i64 nx)∧V.cell? ⟨bl,ol+j,none⟩=some (.slice ea en ec))) (by kernel_rfl) (⟨(o.out _ aE.out).1,aD.out _ aC.out⟩) (fun hHeld=>?_)
            (refine wpAnyH_take (i:=0) (v:=?_) rfl (by kernel_rfl) (by kernel_rfl) (by kernel_rfl) (fun _ _ _ h=>h) (Or.inl ⟨by rfl,?hy0⟩) (by assumption) ?_;case hy0=>((intro w hSw);(try dsimp only at hSw);(try go_simp);(try with_reducible rfl)));(try simp only [List.getElem_toArray,List.getElem_cons_zero,Act.put,List.setIfInBounds_toArray,List.set_cons_zero])
            (refine wpAnyH_take (i:=1) (v:=?_) rfl (by kernel_rfl) (by kernel_rfl) (by kernel_rfl) (fun _ _ _ h=>h) (Or.inl ⟨by rfl,?hy1⟩) (by assumption) ?_;case hy1=>((intro w hSw);(try dsimp only at hSw);(try go_simp);(try with_reducible rfl)));(try simp only [List.getElem_toArray,List.getElem_cons_succ,List.getElem_cons_zero,Act.put,List.setIfInBounds_toArray,List.set_cons_zero,List.set_cons_succ])
            (refine wpAnyH_take (i:=2) (v:=?_) rfl (by kernel_rfl) (by kernel_rfl) (by kernel_rfl) (fun _ _ _ h=>h) (Or.inl ⟨by rfl,?hy2⟩) (by assumption) ?_;case hy2=>((intro w hSw);(try dsimp only at hSw);(try go_simp);(try with_reducible rfl)));(try simp only [List.getElem_toArray,List.getElem_cons_succ,List.getElem_cons_zero,Act.put,List.setIfInBounds_toArray,List.set_cons_zero,List.set_cons_succ])
            (refine wpAnyH_take (i:=3) (v:=?_) rfl (by kernel_rfl) (by kernel_rfl) (by kernel_rfl) (fun _ _ _ h=>h) (Or.inl ⟨by rfl,?hy3⟩) (by assumption) ?_;case hy3=>((intro w hSw);(try dsimp only at hSw);(try go_simp);(try with_reducible rfl)));(try simp only [List.getElem_toArray,List.getElem_cons_succ,List.getElem_cons_zero,Act.put,List.setIfInBounds_toArray,List.set_cons_zero,List.set_cons_succ])
            (refine wpAnyH_take (i:=4) (v:=?_) rfl (by kernel_rfl) (by kernel_rfl) (by kernel_rfl) (fun _ _ _ h=>h) (Or.inl ⟨by rfl,?hy4⟩) (by assumption) ?_;case hy4=>((intro w hSw);(try dsimp only at hSw);(try go_simp);(try with_reducible rfl)));(try simp only [List.getElem_toArray,List.getElem_cons_succ,List.getElem_cons_zero,Act.put,List.setIfInBounds_toArray,List.set_cons_zero,List.set_cons_succ])
            (refine wpAnyH_take (i:=5) (v:=?_) rfl (by kernel_rfl) (by kernel_rfl) (by kernel_rfl) (fun _ _ _ h=>h) (Or.inl ⟨by rfl,?hy5⟩) (by assumption) ?_;case hy5=>((intro w hSw);(try dsimp only at hSw);(try go_simp);(try with_reducible rfl)));(try simp only [List.getElem_toArray,List.getElem_cons_succ,List.getElem_cons_zero,Act.put,List.setIfInBounds_toArray,List.set_cons_zero,List.set_cons_succ])
            (refine wpAnyH_take (i:=6) (v:=?_) rfl (by kernel_rfl) (by kernel_rfl) (by kernel_rfl) (fun _ _ _ h=>h) (Or.inl ⟨by rfl,?hy6⟩) (by assumption) ?_;case hy6=>((intro w hSw);(try dsimp only at hSw);(try go_simp);(try with_reducible rfl)));(try simp only [List.getElem_toArray,List.getElem_cons_succ,List.getElem_cons_zero,Act.put,List.setIfInBounds_toArray,List.set_cons_zero,List.set_cons_succ])
            (refine wpAnyH_take (i:=7) (v:=(.bool false)) rfl (by kernel_rfl) (by kernel_rfl) (by kernel_rfl) (fun _ _ _ h=>h) (Or.inl ⟨by rfl,?hy7⟩) (by assumption) ?_;case hy7=>((intro w hSw);(try dsimp only at hSw);(try go_simp);(try simp [ae])));(try simp only [List.getElem_toArray,List.getElem_cons_succ,List.getElem_cons_zero,Act.put,List.setIfInBounds_toArray,List.set_cons_zero,List.set_cons_succ])
            refine wpAnyH_done (by kernel_rfl) ?_ _
            all_goals
             go_wp2_with fail;go_roundw
             case rel=>exact ⟨j+1,by omega,by go_num,HN.out,HB.out.drew⟩
             case measure=>simp [intOf];omega
          have HE:Hid (clHolds x s ⟨k,f,r,u,p,q,p',q',xs,a,b⟩ ls=false):=by
           have hh:flagsB ls x.n=false:=by
            rw [Bool.eq_false_iff];intro hq;have h1:=flags_long hq (i:=j) (by rw [A.out.2.2];exact hlt);rw [aB.out,a8.out] at h1;exact hen h1
           unfold Hid clHolds;rw [hh];simp
          have ae:((en:Int) != nx)=true:=by simp [hen]
          clear ad ag af;go_upto_region 6 with fail;refine wp_region_held_drew (S:=(fun V=>V.cell? ⟨w.heap.size,0,none⟩=some (.int .i64 nx)∧V.cell? ⟨bl,ol+j,none⟩=some (.slice ea en ec))) (by kernel_rfl) (⟨(o.out _ aE.out).1,aD.out _ aC.out⟩) (fun hHeld=>?_)
          (refine wpAnyH_take (i:=0) (v:=?_) rfl (by kernel_rfl) (by kernel_rfl) (by kernel_rfl) (fun _ _ _ h=>h) (Or.inl ⟨by rfl,?hy0⟩) (by assumption) ?_;case hy0=>((intro w hSw);(try dsimp only at hSw);(try go_simp);(try with_reducible rfl)));(try simp only [List.getElem_toArray,List.getElem_cons_zero,Act.put,List.setIfInBounds_toArray,List.set_cons_zero])
          (refine wpAnyH_take (i:=1) (v:=?_) rfl (by kernel_rfl) (by kernel_rfl) (by kernel_rfl) (fun _ _ _ h=>h) (Or.inl ⟨by rfl,?hy1⟩) (by assumption) ?_;case hy1=>((intro w hSw);(try dsimp only at hSw);(try go_simp);(try with_reducible rfl)));(try simp only [List.getElem_toArray,List.getElem_cons_succ,List.getElem_cons_zero,Act.put,List.setIfInBounds_toArray,List.set_cons_zero,List.set_cons_succ])
          (refine wpAnyH_take (i:=2) (v:=?_) rfl (by kernel_rfl) (by kernel_rfl) (by kernel_rfl) (fun _ _ _ h=>h) (Or.inl ⟨by rfl,?hy2⟩) (by assumption) ?_;case hy2=>((intro w hSw);(try dsimp only at hSw);(try go_simp);(try with_reducible rfl)));(try simp only [List.getElem_toArray,List.getElem_cons_succ,List.getElem_cons_zero,Act.put,List.setIfInBounds_toArray,List.set_cons_zero,List.set_cons_succ])
          (refine wpAnyH_take (i:=3) (v:=?_) rfl (by kernel_rfl) (by kernel_rfl) (by kernel_rfl) (fun _ _ _ h=>h) (Or.inl ⟨by rfl,?hy3⟩) (by assumption) ?_;case hy3=>((intro w hSw);(try dsimp only at hSw);(try go_simp);(try with_reducible rfl)));(try simp only [List.getElem_toArray,List.getElem_cons_succ,List.getElem_cons_zero,Act.put,List.setIfInBounds_toArray,List.set_cons_zero,List.set_cons_succ])
          (refine wpAnyH_take (i:=4) (v:=?_) rfl (by kernel_rfl) (by kernel_rfl) (by kernel_rfl) (fun _ _ _ h=>h) (Or.inl ⟨by rfl,?hy4⟩) (by assumption) ?_;case hy4=>((intro w hSw);(try dsimp only at hSw);(try go_simp);(try with_reducible rfl)));(try simp only [List.getElem_toArray,List.getElem_cons_succ,List.getElem_cons_zero,Act.put,List.setIfInBounds_toArray,List.set_cons_zero,List.set_cons_succ])
          (refine wpAnyH_take (i:=5) (v:=?_) rfl (by kernel_rfl) (by kernel_rfl) (by kernel_rfl) (fun _ _ _ h=>h) (Or.inl ⟨by rfl,?hy5⟩) (by assumption) ?_;case hy5=>((intro w hSw);(try dsimp only at hSw);(try go_simp);(try with_reducible rfl)));(try simp only [List.getElem_toArray,List.getElem_cons_succ,List.getElem_cons_zero,Act.put,List.setIfInBounds_toArray,List.set_cons_zero,List.set_cons_succ])
          (refine wpAnyH_take (i:=6) (v:=?_) rfl (by kernel_rfl) (by kernel_rfl) (by kernel_rfl) (fun _ _ _ h=>h) (Or.inl ⟨by rfl,?hy6⟩) (by assumption) ?_;case hy6=>((intro w hSw);(try dsimp only at hSw);(try go_simp);(try with_reducible rfl)));(try simp only [List.getElem_toArray,List.getElem_cons_succ,List.getElem_cons_zero,Act.put,List.setIfInBounds_toArray,List.set_cons_zero,List.set_cons_succ])
          (refine wpAnyH_take (i:=7) (v:=(.bool true)) rfl (by kernel_rfl) (by kernel_rfl) (by kernel_rfl) (fun _ _ _ h=>h) (Or.inl ⟨by rfl,?hy7⟩) (by assumption) ?_;case hy7=>((intro w hSw);(try dsimp only at hSw);(try go_simp);(try simp [ae])));(try simp only [List.getElem_toArray,List.getElem_cons_succ,List.getElem_cons_zero,Act.put,List.setIfInBounds_toArray,List.set_cons_zero,List.set_cons_succ])
          refine wpAnyH_done (by kernel_rfl) ?_ _
          all_goals
           go_wp2_with fail;go_ret;exact ⟨rb HE.out.symm,z.out HB.out.drew⟩
        have aK:¬ ((j:Int)<(fn:Int)):=by omega
        obtain ⟨⟨aI,aH⟩,_⟩:(1≤x.n∧x.n≤128)∧True:=⟨((worldB_iff x).1 V1.out).1.1,trivial⟩;obtain ⟨L,ah⟩:=Int.eq_ofNat_of_zero_le (show 0≤x.n by omega);have az:Hid (x.n=(L:Int)):=ah;have am:nx=(L:Int):=by rw [← a8.out,ah]
        have aN:L≤128:=by omega
        have aQ:Hid (∀ i,i<fn→(ls.getD i []).length=L):=fun i hi=>by
         have h1:=ai.out i (by omega);rw [am] at h1;omega
        have aA:Hid (fitK fn on ⟨k,f,r,u,p,q,p',q',xs,a,b⟩=true):=by
         unfold Hid fitK;have h3:okK ⟨k,f,r,u,p,q,p',q',xs,a,b⟩=true:=V3.out;rw [h3,I.out,V4.out];rfl
        have HE:Hid (clHolds x s ⟨k,f,r,u,p,q,p',q',xs,a,b⟩ ls=holdsK x s.roles ls fn L k r u p.toNat q.toNat p'.toNat q'.toNat):=by
         have hh:flagsB ls x.n=true:=by
          unfold flagsB;rw [List.all_eq_true];intro i hi;rw [A.out.2.2] at hi;rw [a8.out];simpa using ai.out i (by have:=List.mem_range.1 hi;omega)
         have h3:fitK s.atoms.length s.roles.length ⟨k,f,r,u,p,q,p',q',xs,a,b⟩=true:=by rw [A.out.1,A.out.2.1,← I.out];exact aA.out
         unfold Hid;rw [clHolds_yes V1.out V2.out h3 (by rw [A.out.1,A.out.2.2,I.out]) hh]
         show holdsK x s.roles ls s.atoms.length x.n.toNat k r u p.toNat q.toNat p'.toNat q'.toNat=_
         rw [A.out.1,← I.out,az.out,Int.toNat_natCast]
        clear aI aH ah;subst am
        have aR:Hid (Calls Tryz.prog 28 #[.agg #[.int .i64 (L:Nat),.slice na nn nc,.slice sa sn sc,.slice ra rn rc,.slice la ln lc,.slice ia im ic,.slice ta tn tc],.agg #[.slice xa xn xc,.slice oa on oc,.slice ua un uc,.slice ka kn kc],.agg #[.int .i64 k,.int .i64 f,.int .i64 r,.int .i64 u,.int .i64 p,.int .i64 q,.int .i64 p',.int .i64 q',.slice ya yn yc,.int .i64 a,.int .i64 b],.slice fa fn fc] wr fun e w'=>e=.returned (.bool (clHolds x s ⟨k,f,r,u,p,q,p',q',xs,a,b⟩ ls))∧Below wr.heap.size wr w'):=by
         unfold Hid;rw [HE.out];exact l6holds_any (ya:=ya) (yn:=yn) (yc:=yc) V1.out az.out aN (U.out _ HB.out).1 (Y.out _ HB.out).1 (a7.out _ HB.out).1 (U.out _ HB.out).2 (Y.out _ HB.out).2 (a7.out _ HB.out).2 aQ.out (by have:=I.out;omega) aA.out
        clear HE;go_wp2_with fail;refine aR.out.mono ?_;rintro e w5 ⟨rfl,ar⟩;have H5:Hid (Below W.heap.size W w5):=HB.out.trans (ar.mono HB.out.size);clear ar;go_wp2_with fail;go_ret;exact ⟨rfl,z.out H5.out⟩
     have HE:Hid (clHolds x s ⟨k,f,r,u,p,q,p',q',xs,a,b⟩ ls=false):=by
      unfold Hid clHolds;have hd:decide (ls.length=s.atoms.length)=false:=decide_eq_false (by rw [A.out.1,A.out.2.2];exact hfa);rw [hd];simp
     have aM:((fn:Int) == (xn:Int))=false:=by simp;omega
     have aL:((fn:Int) != (xn:Int))=true:=by simp;omega
     go_wp2_with fail;go_ret;exact ⟨rb HE.out.symm,z.out H4.out⟩
end Go.Proofs.YtellcgmabimieaaGreatDoor
