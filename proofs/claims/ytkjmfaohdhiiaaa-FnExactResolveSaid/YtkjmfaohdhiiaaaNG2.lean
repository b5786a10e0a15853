/- Several texts in one: GrFn, ClOk, GrImpl, ClMark, ClOpen. -/
import Derived.Test.YtkjmfaohdhiiaaaNG1
import Derived.Deep.DeepCutAuto
import Derived.Lib.Small
import Derived.Lib.Walk
import Derived.Deep.Slices
namespace Go.Proofs.Ytkjmfaohdhiiaaa

section
open Go.RowKit
set_option maxHeartbeats 1000000 in
theorem l5part_any (p n:Int) (w:World) :
    Calls Try.prog 46 #[.agg #[.int .i64 p,.int .i64 n]] w fun e w'=>e=.returned (.bool (partB p n))∧Below w.heap.size w w':=by
 have d:Hid (Below w.heap.size w (w.alloc (.cells #[.int .i64 p,.int .i64 n] 29))):=(Below.refl _ _).alloc (Nat.le_refl _) _;go_enter Try.func46, Try.ntmps46;go_wp2
 all_goals
  go_ret;refine ⟨rb ?_,d.out⟩;clear d;rw [Bool.eq_iff_iff,partB_iff];simp;omega
theorem toPart_any (p n:Int) (w:World) :
    Calls Try.prog 24 #[.agg #[.int .i64 p,.int .i64 n]] w fun e w'=>e=.returned (.agg #[.int .i64 p,.int .i64 n])∧Below w.heap.size w w':=by
 have d:Hid (Below w.heap.size w (((w.alloc (.cells #[.int .i64 p,.int .i64 n] 23)).alloc (.cells #[.int .i64 p,.int .i64 n] 29)).alloc (.cells #[.int .i64 p,.int .i64 n] 29))) :=
  (((Below.refl _ _).alloc (Nat.le_refl _) _).alloc (by simp) _).alloc (by simp;omega) _
 go_enter Try.func24, Try.ntmps24;go_wp2;refine bodyPost_ret (v:=.agg #[.int .i64 p,.int .i64 n]) (by simp [results, Try.results24,go_sem]) rfl ⟨rfl,d.out⟩
def litV (r:Int × Bool × Bool):Value:=.tuple #[.int .i64 r.1,.bool r.2.1,.bool r.2.2]
set_option maxHeartbeats 1000000 in
theorem l5greatest_any (p n:Nat) (hp:p<16777216) (hn:n<16777216) (w:World) :
    Calls Try.prog 64 #[.agg #[.int .i64 p,.int .i64 n]] w fun e w'=>e=.returned (litV (grF p n 24))∧Below w.heap.size w w':=by
 obtain ⟨W,hW⟩:∃ W,W=w.alloc (.cells #[.int .i64 p,.int .i64 n] 29):=⟨_,rfl⟩;have HW:Hid (W=w.alloc (.cells #[.int .i64 p,.int .i64 n] 29)):=hW;have d:Hid (Below w.heap.size w W):=by rw [hW];exact (Below.refl _ _).alloc (Nat.le_refl _) _
 have h:BoxP 29 W w.heap.size p n:=by rw [hW];exact BoxP.new _ w _ _
 obtain ⟨z0,z1⟩:=h.cells;have HP:Hid (p<16777216∧n<16777216):=⟨hp,hn⟩;clear hW h;go_enter Try.func64, Try.ntmps64;go_upto_region 1 with fail;rw [← HW.out];go_wp2_with fail;go_loop [5] (fun i=>∃ k:Nat,k≤24∧i=.int .i64 ((k:Int) - 1)∧grF p n 24=grF p n k) (fun i=>(intOf i+1).toNat)
 case atStart=>exact ⟨24,by omega,rfl,rfl⟩
 case round =>
  obtain ⟨k,hk,rfl,hg⟩:=hrel;have HG:Hid (grF p n 24=grF p n k):=hg;clear hg;cases k with
  | zero =>
   go_wp2_with fail;refine bodyPost_ret (v:=.tuple #[.int .i64 0,.bool false,.bool false]) (by simp [results, Try.results64,go_sem]) rfl ⟨by rw [HG.out];rfl,d.out⟩
  | succ i =>
   have e1:(((i+1:Nat):Int) - 1)=(i:Int):=by omega
   rw [e1];have b1:=bit_at n i HP.out.2;have b2:=bit_at p i HP.out.1;by_cases h1:n.testBit i=true
   · have HR:Hid (grF p n 24=((i:Int),true,true)):=by unfold Hid;rw [HG.out,grF,if_pos h1]
     rw [h1] at b1;clear h1 b2 hp hn;go_wp2_with fail;refine bodyPost_ret (v:=.tuple #[.int .i64 i,.bool true,.bool true]) (by simp [results, Try.results64,go_sem]) rfl ⟨by rw [HR.out];rfl,d.out⟩
   have f1:n.testBit i=false:=by simpa using h1
   rw [f1] at b1;by_cases h2:p.testBit i=true
   · have HR:Hid (grF p n 24=((i:Int),false,true)):=by unfold Hid;rw [HG.out,grF,if_neg h1,if_pos h2]
     rw [h2] at b2;clear h1 h2 f1 hp hn;go_wp2_with fail;refine bodyPost_ret (v:=.tuple #[.int .i64 i,.bool false,.bool true]) (by simp [results, Try.results64,go_sem]) rfl ⟨by rw [HR.out];rfl,d.out⟩
   have f2:p.testBit i=false:=by simpa using h2
   have HR:Hid (grF p n 24=grF p n i):=by unfold Hid;rw [HG.out,grF,if_neg h1,if_neg h2]
   rw [f2] at b2;clear h1 h2 f1 f2 hp hn;go_wp2_with fail;go_round
   case rel=>exact ⟨i,by omega,rfl,HR.out⟩
   case measure=>simp [intOf]
def greatest (p n:Int):Int × Bool × Bool:=if partB p n=true then grF p.toNat n.toNat 24 else (0,false,false)
end

section
open Go.RowKit
def hasF (k:Int):Bool:=decide (k=1) || decide (k=2)
def hasR (k:Int):Bool:=decide (k=2) || (decide (k=3) || (decide (k=4) || decide (k=6)))
def hasU (k:Int):Bool:=decide (k=4)
def hasX (k:Int):Bool:=decide (k=0) || (decide (k=1) || (decide (k=2) || decide (k=3)))
def hasY (k:Int):Bool:=decide (k=1) || decide (k=3)
def hasI (k:Int):Bool:=decide (k=5)
def hasP (k:Int):Bool:=decide (k=6)
def numB (n d:Int) (wanted:Bool):Bool:=if wanted=true then decide (0≤n∧n<d) else decide (n=0)
def parB (p n:Int) (wanted:Bool):Bool:=if wanted=true then partB p n else noneB p n
def indB (xs:List (Int × Int)) (wanted:Bool):Bool:=if wanted=true then decide (xs.length=4) && xs.all (fun p=>partB p.1 p.2) else decide (xs.length=0)
def clauseB (k f r u xp xn yp yn:Int) (xs:List (Int × Int)) (a b:Int):Bool :=
 decide (0≤k∧k≤6) && (numB f 12 (hasF k) && (numB r 3 (hasR k) && (numB u 3 (hasU k) && (numB a 4 (hasP k) && (numB b 4 (hasP k) && (parB xp xn (hasX k) && (parB yp yn (hasY k) && (indB xs (hasI k) && (!(decide (k=1)) || !(noneB yp yn))))))))))
theorem none_part {p n:Int} (h:partB p n=false):noneB p n=false:=by
 rw [Bool.eq_false_iff] at h ⊢;intro q;apply h;rw [noneB_iff] at q;rw [partB_iff];omega
theorem parB_none {p n:Int} {c:Bool} (h:partB p n=false):parB p n c=false:=by
 unfold parB
 split
 · exact h
 exact none_part h
theorem l5none_any (p n:Int) (w:World) :
    Calls Try.prog 47 #[.agg #[.int .i64 p,.int .i64 n]] w fun e w'=>e=.returned (.bool (noneB p n))∧Below w.heap.size w w':=by
 go_enter Try.func47, Try.ntmps47;go_wp2
 all_goals
  go_ret;refine ⟨rb ?_,(Below.refl _ _).alloc (Nat.le_refl _) _⟩;rw [Bool.eq_iff_iff,noneB_iff];simp_all
end

section
open Go.RowKit
set_option maxHeartbeats 4000000 in
set_option maxRecDepth 100000 in
theorem len64_any (x:Int) (w:World) (h0:0≤x) (h1:x<16777216) :
    Calls Try.prog 90 #[.int .u64 x] w fun e w'=>e=.returned (.int .i64 (Lib.bitLen x.toNat))∧w'=w:=by
 rcases (by omega:x≤255∨(256≤x∧x≤65535)∨65536≤x) with h | h | h
 · have HE:Hid (Lib.len8 x=(Lib.bitLen x.toNat:Int)):=Lib.len8_of x h0 h;have HL:Hid (Lib.bitLen x.toNat≤8):=Lib.bitLen_le8' x h0 h;go_enter Try.func90, Try.ntmps90;go_wp2
   all_goals (go_ret;refine ⟨ri ?_,rfl⟩)
   rw [HE.out];have:=HL.out;unfold wrap64;omega
 · have a0:0≤x / 256:=by omega
   have a1:x / 256≤255:=by omega
   have HE:Hid (Lib.len8 (x / 256)=(Lib.bitLen (x / 256).toNat:Int)):=Lib.len8_of _ a0 a1
   have HL:Hid (Lib.bitLen (x / 256).toNat≤8∧Lib.bitLen x.toNat=8+Lib.bitLen (x / 256).toNat):=by
    refine ⟨Lib.bitLen_le8' _ a0 a1,?_⟩;rw [Lib.bitLen_shift8 x.toNat (by omega) (by omega),show (x / 256).toNat=x.toNat / 256 from by omega]
   obtain ⟨h,h'⟩:=h;go_enter Try.func90, Try.ntmps90;go_wp2
   all_goals (go_ret;refine ⟨ri ?_,rfl⟩)
   rw [HE.out];have:=HL.out;unfold wrap64;omega
 have a0:0≤x / 65536:=by omega
 have a1:x / 65536≤255:=by omega
 have HE:Hid (Lib.len8 (x / 65536)=(Lib.bitLen (x / 65536).toNat:Int)):=Lib.len8_of _ a0 a1
 have HL:Hid (Lib.bitLen (x / 65536).toNat≤8∧Lib.bitLen x.toNat=16+Lib.bitLen (x / 65536).toNat):=by
  refine ⟨Lib.bitLen_le8' _ a0 a1,?_⟩;rw [Lib.bitLen_shift16 x.toNat (by omega) (by omega),show (x / 65536).toNat=x.toNat / 65536 from by omega]
 go_enter Try.func90, Try.ntmps90;go_wp2
 all_goals (go_ret;refine ⟨ri ?_,rfl⟩)
 rw [HE.out];have:=HL.out;unfold wrap64;omega
theorem len_any (x:Int) (w:World) (h0:0≤x) (h1:x<16777216) :
    Calls Try.prog 66 #[.int .u64 x] w fun e w'=>e=.returned (.int .i64 (Lib.bitLen x.toNat))∧w'=w:=by
 go_enter Try.func66, Try.ntmps66;go_wp2_with (go_at_call 90;refine (len64_any x _ h0 h1).mono ?_;rintro e w' ⟨rfl,rfl⟩);go_ret;exact ⟨rfl,rfl⟩
theorem atomsOk_any (m:Int) (w:World):Calls Try.prog 88 #[.int .i64 m] w fun e w'=>e=.returned (.bool (maskB m))∧w'=w:=by
 go_enter Try.func88, Try.ntmps88;go_wp2
 all_goals
  go_ret;refine ⟨rb ?_,rfl⟩;rw [Bool.eq_iff_iff,maskB_iff];simp;omega
theorem partOk_any (p n:Int) (w:World) :
    Calls Try.prog 65 #[.agg #[.int .i64 p,.int .i64 n]] w fun e w'=>e=.returned (.bool (partB p n))∧Below w.heap.size w w':=by
 obtain ⟨W,hW⟩:∃ W,W=w.alloc (.cells #[.int .i64 p,.int .i64 n] 29):=⟨_,rfl⟩;have HW:Hid (W=w.alloc (.cells #[.int .i64 p,.int .i64 n] 29)):=hW;have o:Hid (Below w.heap.size w W):=by rw [hW];exact (Below.refl _ _).alloc (Nat.le_refl _) _
 have d:BoxP 29 W w.heap.size p n:=by rw [hW];exact BoxP.new _ w _ _
 obtain ⟨z0,z1⟩:=d.cells;have HD:Hid (partB p n=(maskB p && maskB n)):=rfl;clear hW d;go_enter Try.func65, Try.ntmps65;go_upto_region 1 with fail;rw [← HW.out];go_wp2_with fail;refine (atomsOk_any p W).mono ?_;rintro e w' ⟨rfl,hw⟩;rw [hw];clear hw;obtain ⟨u,hu⟩:∃ u,u=maskB p:=⟨_,rfl⟩;rw [← hu];have HU:Hid (u=maskB p):=hu;clear hu;cases u with
 | true =>
  go_wp2_with fail;refine (atomsOk_any n W).mono ?_;rintro e w' ⟨rfl,hw⟩;rw [hw];clear hw;go_wp2_with fail;go_ret;exact ⟨rb (by rw [HD.out,← HU.out];simp),o.out⟩
 | false =>
  go_wp2_with fail;go_ret;exact ⟨rb (by rw [HD.out,← HU.out];simp),o.out⟩
set_option maxHeartbeats 1000000 in
set_option maxRecDepth 100000 in
theorem implGreatest_any (p n:Int) (w:World) :
    Calls Try.prog 25 #[.agg #[.int .i64 p,.int .i64 n]] w fun e w'=>e=.returned (litV (greatest p n))∧Below w.heap.size w w':=by
 obtain ⟨W,hW⟩:∃ W,W=w.alloc (.cells #[.int .i64 p,.int .i64 n] 29):=⟨_,rfl⟩;have HW:Hid (W=w.alloc (.cells #[.int .i64 p,.int .i64 n] 29)):=hW;have J:Below w.heap.size w W:=by rw [hW];exact (Below.refl _ _).alloc (Nat.le_refl _) _
 have o:Hid (Below w.heap.size w W):=J;have L:w.heap.size<W.heap.size:=by rw [hW];simp
 have d:BoxP 29 W w.heap.size p n:=by rw [hW];exact BoxP.new _ w _ _
 have HX:Hid (BoxP 29 W w.heap.size p n):=d;obtain ⟨z0,z1⟩:=d.cells;have F:∀ V:World,(Instr.build 29 #[]).run Try.prog V=.ok (.agg #[.int .i64 0,.int .i64 0]) V:=fun V=>run_build V _ _ _ (by kernel_rfl)
 clear hW d J;go_enter Try.func25, Try.ntmps25;go_upto_region 1 with fail;rw [← HW.out];go_wp2_with fail;refine (partOk_any p n W).mono ?_;rintro e w1 ⟨rfl,D⟩;have H1:Hid (Below w.heap.size w w1):=o.out.trans (D.mono o.out.size);have G:=HX.out.below D L;clear z0 z1;obtain ⟨z0,z1⟩:=G.cells;clear G D;by_cases h:partB p n=true
 · have HR:Hid (greatest p n=grF p.toNat n.toNat 24):=if_pos h;have hq:=partB_iff.1 h;rw [h];clear h;by_cases h0:p=0∧n=0
   · obtain ⟨rfl,rfl⟩:=h0;have t:Hid (greatest 0 0=(0,false,false)):=by unfold Hid;rw [HR.out];exact grF_none
     clear hq HR;go_wp2_with fail;refine bodyPost_ret (v:=.tuple #[.int .i64 0,.bool false,.bool false]) (by simp [results, Try.results25,go_sem]) rfl ⟨by rw [t.out];rfl,H1.out⟩
   have HF:Hid (∃ m l:Nat,bits .or .i64 p n=(m:Int)∧m<16777216∧Lib.bitLen m=l+1∧l<24∧(bits .and .i64 (n / 2 ^ l) 1 == 1)=n.toNat.testBit l∧greatest p n=((l:Int),n.toNat.testBit l,true)):=by
    obtain ⟨a,rfl⟩:∃ a:Nat,p=(a:Int):=⟨p.toNat,by omega⟩;obtain ⟨c,rfl⟩:∃ c:Nat,n=(c:Int):=⟨n.toNat,by omega⟩;have ha:a<16777216:=by omega
    have hc:c<16777216:=by omega
    have hx:a ||| c<2 ^ 24:=Nat.or_lt_two_pow (by omega) (by omega)
    have H:a ||| c≠0:=by
     intro h;have q1:a≤a ||| c:=Nat.left_le_or
     have q2:c≤a ||| c:=Nat.right_le_or
     omega
    obtain ⟨l,e1,hl,q1,q2⟩:=bitLen_pos (a ||| c) H (by omega);refine ⟨a ||| c,l,bits_or_nat a c ha hc,by omega,e1,hl,bit_at c l hc,?_⟩;rw [HR.out,Int.toNat_natCast,Int.toNat_natCast,grF_all a c ha hc H,e1];simp
   obtain ⟨m,l,N,hm,r,hl,E,z⟩:=HF.out;obtain ⟨tb,I⟩:∃ tb,tb=n.toNat.testBit l:=⟨_,rfl⟩;rw [← I] at E z;have t:Hid (greatest p n=((l:Int),tb,true)):=z;have s:Hid (Lib.bitLen m=l+1):=r
   have A:(p == 0)=false∨(p == 0)=true∧(n == 0)=false:=by
    by_cases q:p=0
    · right;refine ⟨by simp [q],?_⟩;simp;intro h;exact h0 ⟨q,h⟩
    left;simpa using q
   clear HR HF r I z hq h0;rcases A with A | ⟨A,M⟩
   · go_upto_region 3 with fail;go_wp2_with fail;refine (len_any (m:Int) w1 (by omega) (by omega)).mono ?_;rintro e w' ⟨rfl,hw⟩;rw [hw,Int.toNat_natCast,s.out];clear hw;go_wp2_with fail;go_region
     all_goals
      go_wp2_with fail;refine bodyPost_ret (v:=.tuple #[.int .i64 l,.bool tb,.bool true]) (by simp [results, Try.results25,go_sem]) rfl ⟨by rw [t.out];rfl,H1.out.drew⟩
   go_upto_region 3 with fail;go_wp2_with fail;refine (len_any (m:Int) w1 (by omega) (by omega)).mono ?_;rintro e w' ⟨rfl,hw⟩;rw [hw,Int.toNat_natCast,s.out];clear hw;go_wp2_with fail;go_region
   all_goals
    go_wp2_with fail;refine bodyPost_ret (v:=.tuple #[.int .i64 l,.bool tb,.bool true]) (by simp [results, Try.results25,go_sem]) rfl ⟨by rw [t.out];rfl,H1.out.drew⟩
 have HR:Hid (greatest p n=(0,false,false)):=if_neg h;have hf:partB p n=false:=by simpa using h
 rw [hf];clear h hf;go_wp2_with fail;refine bodyPost_ret (v:=.tuple #[.int .i64 0,.bool false,.bool false]) (by simp [results, Try.results25,go_sem]) rfl ⟨by rw [HR.out];rfl,H1.out⟩
end

section
open Go.RowKit
set_option linter.unusedVariables false
structure MarkR (lo hi:Nat) (w w':World):Prop where
 os:w'.os=w.os
 tape:w'.tape=w.tape
 output:w'.output=w.output
 size:w.heap.size≤w'.heap.size
 out:∀ b,b<w.heap.size→(b<lo∨hi≤b)→w'.heap[b]?=w.heap[b]?
 int:∀ (p:Addr) (kd:IntKind) (m:Int),w.cell? p=some (.int kd m)→∃ m',w'.cell? p=some (.int kd m')
 frz:∀ p:Addr,p.block<w.heap.size→w'.frozen? p=w.frozen? p
theorem MarkR.refl (lo hi:Nat) (w:World):MarkR lo hi w w:=⟨rfl,rfl,rfl,Nat.le_refl _,fun _ _ _=>rfl,fun _ _ m h=>⟨m,h⟩,fun _ _=>rfl⟩
theorem MarkR.trans {lo hi:Nat} {a b c:World} (h:MarkR lo hi a b) (k:MarkR lo hi b c):MarkR lo hi a c:=by
 refine ⟨k.os.trans h.os,k.tape.trans h.tape,k.output.trans h.output,Nat.le_trans h.size k.size,fun x h1 h2=>(k.out x (Nat.lt_of_lt_of_le h1 h.size) h2).trans (h.out x h1 h2),fun p kd m hp=>?_,fun p hp=>(k.frz p (Nat.lt_of_lt_of_le hp h.size)).trans (h.frz p hp)⟩;obtain ⟨m1,h1⟩:=h.int p kd m hp;exact k.int p kd m1 h1
theorem MarkR.set {lo hi:Nat} {w:World} {a:Addr} {kd:IntKind} {m:Int} (h:w.cell? a=some (.int kd m)) (h1:lo≤a.block) (h2:a.block<hi) (m':Int):MarkR lo hi w (w.setCell a (.int kd m')):=by
 have hb:=(Below.refl a.block w).setCell (p:=a) (Nat.le_refl _) (.int kd m');refine ⟨hb.os,hb.tape,hb.output,hb.size,fun b _ hb'=>Below.heap_setCell w a _ b (by omega),fun p kd' q hp=>?_,fun p _=>by simp⟩;by_cases e:a=p
 · subst e;rw [h] at hp;cases hp;exact ⟨m',World.cell?_setCell_same _ _ _ h⟩
 exact ⟨q,by rw [World.cell?_setCell_other _ _ _ _ e];exact hp⟩
theorem MarkR.of_below {lo hi:Nat} {w w':World} (h:Below w.heap.size w w'):MarkR lo hi w w':=⟨h.os,h.tape,h.output,h.size,fun b hb _=>h.block b hb,fun p kd m hp=>⟨m,(h.cell (block_lt_of_cell hp)).trans hp⟩,fun p hp=>World.frozen?_of_block (h.block _ hp)⟩
set_option maxRecDepth 100000 in
set_option maxHeartbeats 1000000 in
theorem markPartS_any {a:Option Addr} {n d:Nat} {xs:List (Int × Int)} (k:Int) {w:World} {lo hi:Nat} (h:RP lo hi w a n d xs) (hF:∀ b off,a=some ⟨b,off,none⟩→∀ o,w.frozen? ⟨b,o,none⟩=false) (L:hi≤w.heap.size) (hn:n≤1048576) (hk:0≤k∧k≤1073741824) :
    Calls Try.prog 70 #[.slice a n d,.int .i64 k] w fun e w'=>e=.returned (.int .i64 (k+((2*n:Nat):Int)))∧MarkR lo hi w w':=by
 obtain ⟨I,H⟩:=hk;have E:=h.fits;have HR:Hid (RP lo hi w a n d xs):=h;have HF:Hid (∀ b off,a=some ⟨b,off,none⟩→∀ o,w.frozen? ⟨b,o,none⟩=false):=hF;clear h hF;go_enter Try.func70, Try.ntmps70;go_wp2;go_loopw [1,5] (fun q i wr=>∃ j:Nat,j≤n∧i=.int .i64 j∧q=.int .i64 (k+((2*j:Nat):Int))∧MarkR lo hi w wr) (fun _ i _=>n - (intOf i).toNat)
 case atStart=>exact ⟨0,Nat.zero_le _,rfl,by simp,MarkR.refl _ _ _⟩
 case round =>
  obtain ⟨j,hj,rfl,rfl,hm⟩:=hrel;have HM:Hid (MarkR lo hi w wr):=hm;by_cases hlt:j<n
  · have J:(j:Int)<(n:Int):=by omega
    rcases HR.out.cells with h0 | ⟨b,off,rfl,h1,h2,hc⟩
    · omega
    obtain ⟨d0,d1⟩:=hc j hlt;obtain ⟨y,c0⟩:=hm.int _ _ _ d0;obtain ⟨y',c1⟩:=hm.int _ _ _ d1;have f0:wr.frozen? ⟨b,off+j*2,none⟩=false:=(hm.frz ⟨b,_,none⟩ (show b<w.heap.size by omega)).trans (HF.out b off rfl _);have f1:wr.frozen? ⟨b,off+j*2+1,none⟩=false:=(hm.frz ⟨b,_,none⟩ (show b<w.heap.size by omega)).trans (HF.out b off rfl _);obtain ⟨z,hz⟩:∃ z,z=k+((2*j:Nat):Int):=⟨_,rfl⟩;have s:=MarkR.set (lo:=lo) (hi:=hi) c0 h1 h2 z;have u:(wr.setCell ⟨b,off+j*2,none⟩ (.int .i64 z)).cell? ⟨b,off+j*2+1,none⟩=some (.int .i64 y'):=(World.cell?_setCell_other wr ⟨b,off+j*2,none⟩ ⟨b,off+j*2+1,none⟩ (.int .i64 z) (fun e=>by simp at e)).trans c1;have r:=MarkR.set (lo:=lo) (hi:=hi) u h1 h2 (z+1);have D:Hid (MarkR lo hi w ((wr.setCell ⟨b,off+j*2,none⟩ (.int .i64 z)).setCell ⟨b,off+j*2+1,none⟩ (.int .i64 (z+1)))):=HM.out.trans (s.trans r);have G:IntKind.i64.wrap (z+1)=z+1:=wrap64_id (by omega);have F:IntKind.i64.wrap (z+1+1)=z+1+1:=wrap64_id (by omega);have HZ:Hid (z+1+1=k+((2*(j+1):Nat):Int)):=by unfold Hid;omega
    rw [← hz];clear hm hc s r u hz d0 d1;go_wp2_with fail;go_roundw
    case rel=>exact ⟨j+1,by omega,by go_num,by rw [← HZ.out],D.out⟩
    case measure=>simp [intOf];omega
  have t:j=n:=by omega
  have HE:Hid (j=n):=t;clear hm t;go_wp2_with fail;go_ret;exact ⟨ri (by rw [HE.out]),HM.out⟩
end

section
open Go.RowKit Go.Deep Go.ChangeShapes Go.WideShapes
set_option maxRecDepth 100000 in
theorem open_part {H:Type} {enc:TypeId × Value→H} {w:World} {fuel:Nat} {cs:List Value} {y:DataW H × List MemPlace} (h:DataW.trod enc Try.prog w 0 (fun _=>true) true fuel 23 cs=some y) :
    ∃ p n,cs=[.int .i64 p,.int .i64 n]:=by
 have c2:Try.prog.cellsOf 23=2:=by kernel_rfl
 have ci:Try.prog.cellsOf 3=1:=by kernel_rfl
 obtain ⟨y0,y1,m,_,hl,t0,t1⟩:=trod_struct2 Try.underlying23 h;rw [c2] at hl
 match cs,hl with
 | [a0,a1],_ =>
  simp only [ci,List.drop_zero,List.drop_succ_cons,List.take_succ_cons,List.take_zero] at t0 t1;obtain ⟨p,hp,_,_⟩:=DataW.trod_int Try.underlying3 t0;obtain ⟨n,hn,_,_⟩:=DataW.trod_int Try.underlying3 t1;simp only [List.cons.injEq,and_true] at hp hn;exact ⟨p,n,by rw [hp,hn]⟩
set_option maxRecDepth 100000 in
theorem open_parts {H:Type} {enc:TypeId × Value→H} {w:World} {fuel:Nat} {v:Value} {x:DataW H × List MemPlace} (h:DataW.trod enc Try.prog w 0 (fun _=>true) true fuel 24 [v]=some x) :
    ∃ a len E xs,v=.slice a len E∧RP 0 w.heap.size w a len E xs:=by
 have c2:Try.prog.cellsOf 23=2:=by kernel_rfl
 rcases open_slice Try.underlying24 h with ⟨o,_⟩ | ⟨ad,len,E,m,n,D,Pl,o,_,hl,hm,G,_,hx⟩
 · simp at o;exact ⟨none,0,0,[],o,⟨rfl,by omega,.inl rfl⟩⟩
 simp at o;simp only [if_true] at G;subst G;rw [c2] at hx
 have J:∀ i,i<len→∃ t:Int × Int,w.cell? (ad.add (i*2))=some (.int .i64 t.1)∧w.cell? ((ad.add (i*2)).add 1)=some (.int .i64 t.2):=by
  intro i hi;obtain ⟨cs,h1,h2⟩:=hx i (by omega);obtain ⟨_,s,e⟩:=World.cells?_some h1;obtain ⟨p,q,hc⟩:=open_part h2;subst hc;have e0:=e 0 (by omega);have e1:=e 1 (by omega);rw [show (ad.add (i*2)).add 0=ad.add (i*2) from by simp [Addr.add]] at e0;exact ⟨(p,q),e0,e1⟩
 obtain ⟨T,hT⟩:=choose_lt J;refine ⟨some ad,len,m,(List.range len).map T,o,⟨by simp,⟨hl,by unfold maxLen at hm;exact hm⟩,?_⟩⟩;by_cases h0:len=0
 · exact .inl h0
 obtain ⟨b,off,spot⟩:=ad;obtain ⟨q0,_⟩:=hT 0 (by omega);have z:spot=none:=by simpa [Addr.add] using World.cell?_spot q0
 subst z;have F:b<w.heap.size:=by simpa [Addr.add] using block_lt_of_cell q0
 refine .inr ⟨b,off,rfl,Nat.zero_le _,F,fun i hi=>?_⟩;obtain ⟨e0,e1⟩:=hT i hi;have eT:((List.range len).map T).getD i (0,0)=T i:=by simp [List.getD,hi]
 rw [eT];simp only [Addr.add_lit] at e0 e1;exact ⟨e0,e1⟩
theorem trod_nine {H:Type} {enc:TypeId × Value→H} {P:Program} {w:World} {base:Nat} {spare:Nat→Bool} {d:Bool} {t:TypeId} {f0 f1 f2 f3 f4 f5 f6 f7 f8:Field} {fuel:Nat} {cs:List Value} {x:DataW H × List MemPlace} (ht:P.underlying t=some (.struct #[f0,f1,f2,f3,f4,f5,f6,f7,f8])) (h:DataW.trod enc P w base spare d fuel t cs=some x) :
    ∃ y0 y1 y2 y3 y4 y5 y6 y7 y8 n,fuel=n+1∧cs.length=P.cellsOf t∧DataW.trod enc P w base spare d n f0.type ((cs.drop f0.offset).take (P.cellsOf f0.type))=some y0∧DataW.trod enc P w base spare d n f1.type ((cs.drop f1.offset).take (P.cellsOf f1.type))=some y1∧DataW.trod enc P w base spare d n f2.type ((cs.drop f2.offset).take (P.cellsOf f2.type))=some y2∧DataW.trod enc P w base spare d n f3.type ((cs.drop f3.offset).take (P.cellsOf f3.type))=some y3∧DataW.trod enc P w base spare d n f4.type ((cs.drop f4.offset).take (P.cellsOf f4.type))=some y4∧DataW.trod enc P w base spare d n f5.type ((cs.drop f5.offset).take (P.cellsOf f5.type))=some y5∧DataW.trod enc P w base spare d n f6.type ((cs.drop f6.offset).take (P.cellsOf f6.type))=some y6∧DataW.trod enc P w base spare d n f7.type ((cs.drop f7.offset).take (P.cellsOf f7.type))=some y7∧DataW.trod enc P w base spare d n f8.type ((cs.drop f8.offset).take (P.cellsOf f8.type))=some y8:=by
 obtain ⟨xs,n,hn,_,hl,s,hf⟩:=DataW.trod_struct ht h
 match xs,s with
 | [y0,y1,y2,y3,y4,y5,y6,y7,y8],_=>exact ⟨y0,y1,y2,y3,y4,y5,y6,y7,y8,n,hn,hl,by simpa using hf 0 f0 rfl,by simpa using hf 1 f1 rfl,by simpa using hf 2 f2 rfl,by simpa using hf 3 f3 rfl,by simpa using hf 4 f4 rfl,by simpa using hf 5 f5 rfl,by simpa using hf 6 f6 rfl,by simpa using hf 7 f7 rfl,by simpa using hf 8 f8 rfl⟩
set_option maxRecDepth 100000 in
theorem open_clause {H:Type} {enc:TypeId × Value→H} {w:World} {fuel:Nat} {cs:List Value} {y:DataW H × List MemPlace} (h:DataW.trod enc Try.prog w 0 (fun _=>true) true fuel 26 cs=some y) :
    ∃ (x:CL) (ia:Option Addr) (im ic:Nat),cs=[.int .i64 x.kind,.int .i64 x.fn,.int .i64 x.role,.int .i64 x.above,.int .i64 x.xp,.int .i64 x.xn,.int .i64 x.yp,.int .i64 x.yn,.slice ia im ic,.int .i64 x.a,.int .i64 x.b]∧RP 0 w.heap.size w ia im ic x.inds:=by
 have V:Try.prog.cellsOf 26=11:=by kernel_rfl
 have c2:Try.prog.cellsOf 23=2:=by kernel_rfl
 have ci:Try.prog.cellsOf 3=1:=by kernel_rfl
 have U:Try.prog.cellsOf 24=1:=by kernel_rfl
 obtain ⟨y0,y1,y2,y3,y4,y5,y6,y7,y8,m,_,hl,t0,t1,t2,t3,t4,t5,t6,t7,t8⟩:=trod_nine Try.underlying26 h;rw [V] at hl
 match cs,hl with
 | [a0,a1,a2,a3,a4,a5,a6,a7,a8,a9,a10],_ =>
  simp only [ci,c2,U,List.drop_zero,List.drop_succ_cons,List.take_succ_cons,List.take_zero] at t0 t1 t2 t3 t4 t5 t6 t7 t8;obtain ⟨k,hk,_,_⟩:=DataW.trod_int Try.underlying3 t0;obtain ⟨f,I,_,_⟩:=DataW.trod_int Try.underlying3 t1;obtain ⟨r,hr,_,_⟩:=DataW.trod_int Try.underlying3 t2;obtain ⟨u,hu,_,_⟩:=DataW.trod_int Try.underlying3 t3;obtain ⟨xp,xn,hx⟩:=open_part t4;obtain ⟨yp,yn,hy⟩:=open_part t5;obtain ⟨ia,im,ic,xs,hs,R⟩:=open_parts t6;obtain ⟨a,ha,_,_⟩:=DataW.trod_int Try.underlying3 t7;obtain ⟨b,hb,_,_⟩:=DataW.trod_int Try.underlying3 t8;simp only [List.cons.injEq,and_true] at hk I hr hu hx hy ha hb;obtain ⟨O,N⟩:=hx;obtain ⟨M,L⟩:=hy;subst hk I hr hu O N M L hs ha hb;exact ⟨⟨k,f,r,u,xp,xn,yp,yn,xs,a,b⟩,ia,im,ic,rfl,R⟩
end

end Go.Proofs.Ytkjmfaohdhiiaaa
