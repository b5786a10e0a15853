/- spec.l2same: for two concepts that are as their kinds ask it tells whether they are the same. -/
import Derived.Test.YtellcgmabimieaaGreatDoorConSay
import Derived.Test.YtellcgmabimieaaGreatDoorConInj
import Derived.Test.YtellcgmabimieaaGreatDoorNG12
import Derived.Test.YtellcgmabimieaaGreatDoorConTo
import Derived.Deep.RegionHeld
namespace Go.Proofs.YtellcgmabimieaaGreatDoor
open Go.RowKit
theorem textJ_bytes {cs:List CN} (h:∀ c∈cs,∀ x∈textC c,0≤x∧x≤255):∀ (i:Nat),∀ x∈textJ i cs,0≤x∧x≤255:=by
 induction cs with
 | nil=>intro i x hx;simp [textJ] at hx
 | cons c cs ih =>
  intro i x hx;simp only [textJ,List.mem_append] at hx;rcases hx with (hx | hx) | hx
  · unfold gapT at hx;split at hx <;> simp at hx;omega
  · exact h c (by simp) x hx
  exact ih (fun c hc=>h c (by simp [hc])) _ x hx
theorem Rd.memB {lo hi:Nat} {w:World} {a:Option Addr} {n D:Nat} {zs:List Int} (h:Rd lo hi w a n D zs):∀ x∈zs,0≤x∧x≤255:=by
 intro x hx;obtain ⟨j,hj,rfl⟩:=List.mem_iff_getElem.1 hx;have:=h.byte j
 rwa [List.getD,List.getElem?_eq_getElem hj] at this
theorem textC_bytes {lo hi:Nat} {w:World}:∀ {d:Nat} {v:Value} {c:CN},RdC lo hi w d v c→∀ x∈textC c,0≤x∧x≤255:=by
 intro d
 induction d with
 | zero=>intro v c h;exact h.elim
 | succ d ih =>
  intro v c h x hx;obtain ⟨na,nn,nc,ra,rn,rc,ka,kn,kc,_,h1,h2,h3⟩:=h
  have G:∀ c'∈c.kids,∀ x∈textC c',0≤x∧x≤255:=by
   intro c' aa;obtain ⟨j,hj,rfl⟩:=List.mem_iff_getElem.1 aa;rcases h3.cells with h0 | ⟨b,aj,_,_,_,hc⟩
   · have:=h3.len;omega
   obtain ⟨v0,v1,v2,v3,_,_,_,_,hr⟩:=hc j (by have:=h3.len;omega);rw [List.getD,List.getElem?_eq_getElem hj] at hr;exact ih hr
  rw [textC_eq] at hx
  split at hx
  · exact h1.memB x hx
  split at hx
  · exact wordOf_byte _ x hx
  simp only [List.mem_append,List.mem_singleton] at hx;rcases hx with (((hx | hx) | hx) | hx) | hx
  · exact wordOf_byte _ x hx
  · omega
  · unfold roleT at hx
    split at hx
    · simp at hx
    simp only [List.mem_append,List.mem_singleton] at hx;rcases hx with hx | hx
    · exact h2.memB x hx
    omega
  · exact textJ_bytes G _ x hx
  omega
theorem getD_bytes {zs:List Int} (h:∀ x∈zs,0≤x∧x≤255):∀ i,0≤zs.getD i 0∧zs.getD i 0≤255:=by
 intro i;by_cases hi:i<zs.length
 · have:=h _ (List.getElem_mem hi);simpa [List.getD,hi] using this
 rw [List.getD,List.getElem?_eq_none (by omega)];simp
theorem sayW_any:∀ d,SayC 88 d
 | 0=>fun _ _ _ _ _ _ _ _ h=>h.elim
 | d+1=>sayC_of (sayW_any d)
theorem sayW_nil {d:Nat} {v:Value} {c:CN} {w:World} {lo hi:Nat} (h:RdC lo hi w d v c) (a9:hi≤w.heap.size) (al:c.bulk≤1048576) (a7:wfC c=true) :
    Calls Tryz.prog 88 #[.slice none 0 0,v] w fun e w'=>∃ a n D,e=.returned (.slice a n D)∧(∃ lo hi,Rd lo hi w' a n D (textC c)∧hi≤w'.heap.size)∧Below w.heap.size w w':=by
 have ak:=textC_len c;refine (sayW_any d v c (.slice none 0 0) [] w w.heap.size lo hi h a9 (Nat.le_refl _) a7 (OwnB.nil _ _) (by simp;omega)).mono ?_;rintro e w2 ⟨v2,rfl,ab,ac⟩;have hO:OwnB w.heap.size w2 v2 (textC c):=by simpa using ab
 obtain ⟨a,D,_,rfl,hr,_,_,_⟩:=hO.form (getD_bytes (textC_bytes h));exact ⟨a,_,D,rfl,⟨_,_,hr,Nat.le_refl _⟩,ac.1⟩
set_option maxRecDepth 100000 in
set_option maxHeartbeats 4000000 in
theorem l2same_any {dA dB:Nat} {vA vB:Value} {a b:CN} {w:World} {loA N loB M:Nat} (hA:RdC loA N w dA vA a) (hB:RdC loB M w dB vB b) (V:N≤w.heap.size) (U:M≤w.heap.size) (a1:a.bulk≤1048576) (a0:b.bulk≤1048576) (L:wfC a=true) (J:wfC b=true) :
    Calls Tryz.prog 56 #[vA,vB] w fun e w'=>e=.returned (.bool (sameC a b))∧Below w.heap.size w w':=by
 have af:Hid (RdC loA N w dA vA a):=hA;have ae:Hid (RdC loB M w dB vB b):=hB;obtain ⟨kA,naA,nnA,ncA,raA,rnA,rcA,kaA,knA,kcA,rfl⟩:=hA.shape;obtain ⟨kB,naB,nnB,ncB,raB,rnB,rcB,kaB,knB,kcB,rfl⟩:=hB.shape;have a6:Hid ((∀ i,0≤(textC a).getD i 0∧(textC a).getD i 0≤255)∧(∀ i,0≤(textC b).getD i 0∧(textC b).getD i 0≤255)):=⟨getD_bytes (textC_bytes hA),getD_bytes (textC_bytes hB)⟩;obtain ⟨W0,A⟩:∃ W0,W0=(w.alloc (.cells #[.int .i64 kA,.slice naA nnA ncA,.slice raA rnA rcA,.slice kaA knA kcA] 104)).alloc (.cells #[.int .i64 kB,.slice naB nnB ncB,.slice raB rnB rcB,.slice kaB knB kcB] 104):=⟨_,rfl⟩;have ad:Hid (W0=(w.alloc (.cells #[.int .i64 kA,.slice naA nnA ncA,.slice raA rnA rcA,.slice kaA knA kcA] 104)).alloc (.cells #[.int .i64 kB,.slice naB nnB ncB,.slice raB rnB rcB,.slice kaB knB kcB] 104)):=A;have a3:Below w.heap.size w W0:=by rw [A];exact ((Below.refl _ _).alloc (Nat.le_refl _) _).alloc (by simp) _
 have u:Hid (Below w.heap.size w W0):=a3;have a8:W0.heap.size=w.heap.size+2:=by rw [A];simp
 have Z:BoxC W0 w.heap.size (.int .i64 kA) (.slice naA nnA ncA) (.slice raA rnA rcA) (.slice kaA knA kcA):=by rw [A];exact (BoxC.new w _ _ _ _).below ((Below.refl _ _).alloc (Nat.le_refl _) _) (by simp)
 have Y:BoxC W0 (w.heap.size+1) (.int .i64 kB) (.slice naB nnB ncB) (.slice raB rnB rcB) (.slice kaB knB kcB):=by
  rw [A];have:=BoxC.new (w.alloc (.cells #[.int .i64 kA,.slice naA nnA ncA,.slice raA rnA rcA,.slice kaA knA kcA] 104)) (.int .i64 kB) (.slice naB nnB ncB) (.slice raB rnB rcB) (.slice kaB knB kcB)
  rwa [World.size_alloc] at this
 have F:∀ W,Below W0.heap.size W0 W→W.cell? ⟨w.heap.size,0,none⟩=some (.int .i64 kA)∧W.cell? ⟨w.heap.size,1,none⟩=some (.slice naA nnA ncA)∧W.cell? ⟨w.heap.size,2,none⟩=some (.slice raA rnA rcA)∧W.cell? ⟨w.heap.size,3,none⟩=some (.slice kaA knA kcA)∧W.cell? ⟨w.heap.size+1,0,none⟩=some (.int .i64 kB)∧W.cell? ⟨w.heap.size+1,1,none⟩=some (.slice naB nnB ncB)∧W.cell? ⟨w.heap.size+1,2,none⟩=some (.slice raB rnB rcB)∧W.cell? ⟨w.heap.size+1,3,none⟩=some (.slice kaB knB kcB):=fun W hW=>by
  obtain ⟨x0,x1,x2,x3⟩:=(Z.below hW (by omega)).cells;obtain ⟨y0,y1,y2,y3⟩:=(Y.below hW (by omega)).cells;exact ⟨x0,x1,x2,x3,y0,y1,y2,y3⟩
 have z:Hid (∀ W,Below W0.heap.size W0 W→W.cell? ⟨w.heap.size,0,none⟩=some (.int .i64 kA)∧W.cell? ⟨w.heap.size,1,none⟩=some (.slice naA nnA ncA)∧W.cell? ⟨w.heap.size,2,none⟩=some (.slice raA rnA rcA)∧W.cell? ⟨w.heap.size,3,none⟩=some (.slice kaA knA kcA)∧W.cell? ⟨w.heap.size+1,0,none⟩=some (.int .i64 kB)∧W.cell? ⟨w.heap.size+1,1,none⟩=some (.slice naB nnB ncB)∧W.cell? ⟨w.heap.size+1,2,none⟩=some (.slice raB rnB rcB)∧W.cell? ⟨w.heap.size+1,3,none⟩=some (.slice kaB knB kcB)):=F;have o:Hid (Below W0.heap.size W0 W0.drew):=(Below.refl _ _).drew;have I:Hid (a.bulk≤1048576∧b.bulk≤1048576∧wfC a=true∧wfC b=true):=⟨a1,a0,L,J⟩;obtain ⟨s,hs⟩:∃ s,s=strOfNums (textC a):=⟨_,rfl⟩;obtain ⟨t,ht⟩:∃ t,t=strOfNums (textC b):=⟨_,rfl⟩;obtain ⟨r,hr⟩:∃ r,r=sameC a b:=⟨_,rfl⟩;rw [← hr]
 have hE:(s.toList == t.toList)=r:=by
  rw [hs,ht,hr,str_inj a6.out.1 a6.out.2];by_cases e:textC a=textC b
  · rw [textC_inj L J e];simp [(sameC_iff b b).2 rfl]
  rw [decide_eq_false e];cases q:sameC a b
  · rfl
  exact absurd (by rw [(sameC_iff a b).1 q]) e
 have Hs:Hid (s=strOfNums (textC a)):=hs;have Ht:Hid (t=strOfNums (textC b)):=ht;clear hA hB a1 a0 L J A a3 Z Y F hs ht hr a8;go_enter Tryz.func56, Tryz.ntmps56;go_upto_region 1 with fail;rw [← ad.out]
 first | go_region_held (fun W=>W.cell? ⟨w.heap.size,0,none⟩=some (.int .i64 kA)∧W.cell? ⟨w.heap.size,1,none⟩=some (.slice naA nnA ncA)∧W.cell? ⟨w.heap.size,2,none⟩=some (.slice raA rnA rcA)∧W.cell? ⟨w.heap.size,3,none⟩=some (.slice kaA knA kcA)∧W.cell? ⟨w.heap.size+1,0,none⟩=some (.int .i64 kB)∧W.cell? ⟨w.heap.size+1,1,none⟩=some (.slice naB nnB ncB)∧W.cell? ⟨w.heap.size+1,2,none⟩=some (.slice raB rnB rcB)∧W.cell? ⟨w.heap.size+1,3,none⟩=some (.slice kaB knB kcB)) (first | with_reducible exact z.out _ a4.out | with_reducible exact z.out _ E.out | with_reducible exact z.out _ o.out) (first
  | (go_at_call_of 88 kA;refine (sayW_nil (af.out.below (u.out.trans (o.out.mono u.out.size)) V) (Nat.le_trans V (u.out.trans (o.out.mono u.out.size)).size) I.out.1 I.out.2.2.1).mono ?_;rintro e w3 ⟨aA,lA,cA,rfl,T,a2⟩;have E:Hid (Below W0.heap.size W0 w3):=o.out.trans (a2.mono o.out.size);have a5:Hid (∃ lo hi,Rd lo hi w3 aA lA cA (textC a)∧hi≤w3.heap.size):=T;have ai:(convert 89 9 (.slice aA lA cA)).run Tryz.prog w3=.ok (.string s) w3:=(by obtain ⟨lo,hi,hr,_⟩:=a5.out;rw [Hs.out];exact conv_any hr);clear a2 T)
  | (go_at_call_of 88 kB;refine (sayW_nil (ae.out.below (u.out.trans (E.out.mono u.out.size)) U) (Nat.le_trans U (u.out.trans (E.out.mono u.out.size)).size) I.out.2.1 I.out.2.2.2).mono ?_;rintro e w4 ⟨aB,lB,cB,rfl,R,O⟩;have a4:Hid (Below W0.heap.size W0 w4):=E.out.trans (O.mono E.out.size);have ah:(convert 89 9 (.slice aA lA cA)).run Tryz.prog w4=.ok (.string s) w4:=(by obtain ⟨lo,hi,hr,hh⟩:=a5.out;rw [Hs.out];exact conv_any (hr.below O hh));have ag:(convert 89 9 (.slice aB lB cB)).run Tryz.prog w4=.ok (.string t) w4:=(by obtain ⟨lo,hi,hr,_⟩:=R;rw [Ht.out];exact conv_any hr);clear O R)) | fail
 all_goals
  go_wp2_with fail;go_ret;exact ⟨by first | rfl | exact rb hE,u.out.trans (a4.out.mono u.out.size)⟩
end Go.Proofs.YtellcgmabimieaaGreatDoor
