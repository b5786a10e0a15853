/- Several texts in one: AxSpec, ConSay, ConSame, ConOwn, ConClone, NnfMath. -/
import Derived.Test.YtocpeiaolofodaaGreatNG6
import Derived.Test.YtocpeiaolofodaaGreatNG1
import Derived.Deep.DeepCutAuto
import Derived.Deep.RegionLaw
import Derived.Test.YtocpeiaolofodaaGreatNG4
import Derived.Deep.RegionWith
import Derived.Test.YtocpeiaolofodaaGreatNG3
import Derived.Maps.AppendAt
namespace Go.Proofs.YtocpeiaolofodaaGreat

section
open Go.RowKit
theorem zeroB_of {c:CN} {k:Int} {nn rn kn:Nat} (hk:k=c.kind) (h1:c.name.length=nn) (h2:c.role.length=rn) (h3:c.kids.length=kn):zeroB c=(decide (k=0) && (decide (nn=0) && (decide (rn=0) && decide (kn=0)))):=by
 unfold zeroB;rw [← hk,h1,h2,h3]
set_option maxRecDepth 100000 in
set_option maxHeartbeats 1000000 in
theorem l3zero_any {d:Nat} {v:Value} {c:CN} {w:World} {lo hi:Nat} (h:RdC lo hi w d v c) :
    Calls Tryz.prog 42 #[v] w fun e w'=>e=.returned (.bool (zeroB c))∧Below w.heap.size w w':=by
 cases d with
 | zero=>exact h.elim
 | succ d =>
  obtain ⟨na,nn,nc,ra,rn,rc,ka,kn,kc,rfl,hn,hr,j⟩:=h;obtain ⟨k,hk⟩:∃ k,k=c.kind:=⟨_,rfl⟩;rw [← hk];have HZ:Hid (zeroB c=(decide (k=0) && (decide (nn=0) && (decide (rn=0) && decide (kn=0))))):=zeroB_of hk hn.len hr.len j.len;have HB:Hid (Below w.heap.size w (w.alloc (.cells #[.int .i64 k,.slice na nn nc,.slice ra rn rc,.slice ka kn kc] 37))):=(Below.refl _ _).alloc (Nat.le_refl _) _;clear hk hn hr j;by_cases h0:k=0
  · have b0:(k == 0)=true:=by simpa using h0
    by_cases h1:nn=0
    · have b1:((nn:Int) == 0)=true:=by simp;omega
      by_cases h2:rn=0
      · have b2:((rn:Int) == 0)=true:=by simp;omega
        by_cases h3:kn=0
        · have b3:((kn:Int) == 0)=true:=by simp;omega
          have HE:Hid (zeroB c=true):=by unfold Hid;rw [HZ.out];simp [h0,h1,h2,h3]
          clear h0 h1 h2 h3;go_enter Tryz.func42, Tryz.ntmps42;go_wp2_with fail;go_ret;exact ⟨rb HE.out.symm,HB.out⟩
        have b3:((kn:Int) == 0)=false:=by simp;omega
        have HE:Hid (zeroB c=false):=by unfold Hid;rw [HZ.out];simp [h3]
        clear h0 h1 h2 h3;go_enter Tryz.func42, Tryz.ntmps42;go_wp2_with fail;go_ret;exact ⟨rb HE.out.symm,HB.out⟩
      have b2:((rn:Int) == 0)=false:=by simp;omega
      have HE:Hid (zeroB c=false):=by unfold Hid;rw [HZ.out];simp [h2]
      clear h0 h1 h2;go_enter Tryz.func42, Tryz.ntmps42;go_wp2_with fail;go_ret;exact ⟨rb HE.out.symm,HB.out⟩
    have b1:((nn:Int) == 0)=false:=by simp;omega
    have HE:Hid (zeroB c=false):=by unfold Hid;rw [HZ.out];simp [h1]
    clear h0 h1;go_enter Tryz.func42, Tryz.ntmps42;go_wp2_with fail;go_ret;exact ⟨rb HE.out.symm,HB.out⟩
  have b0:(k == 0)=false:=by simpa using h0
  have HE:Hid (zeroB c=false):=by unfold Hid;rw [HZ.out];simp [h0]
  clear h0;go_enter Tryz.func42, Tryz.ntmps42;go_wp2_with fail;go_ret;exact ⟨rb HE.out.symm,HB.out⟩
end

section
open Go.RowKit
def SayC (f:Nat) (d:Nat):Prop:=∀ (v:Value) (c:CN) (bv:Value) (xs:List Int) (w:World) (base lo hi:Nat),RdC lo hi w d v c→hi≤base→base≤w.heap.size→wfC c=true→OwnB base w bv xs→xs.length+(textC c).length≤1073741824 →
 Calls Tryz.prog f #[bv,v] w fun e w'=>∃ bv',e=.returned bv'∧OwnB base w' bv' (xs++textC c)∧Keep5 base w w'
end

section
open Go.RowKit
theorem str_inj {xs ys:List Int} (hx:∀ i,0≤xs.getD i 0∧xs.getD i 0≤255) (hy:∀ i,0≤ys.getD i 0∧ys.getD i 0≤255):((strOfNums xs).toList == (strOfNums ys).toList)=decide (xs=ys):=by
 have e:∀ zs:List Int,(strOfNums zs).toList=zs.map (fun n=>UInt8.ofNat n.toNat):=fun zs=>by rw [ByteArray.toList_eq];rfl
 rw [e,e];by_cases h:xs=ys
 · subst h;simp
 rw [decide_eq_false h];cases hb:(xs.map (fun n:Int=>UInt8.ofNat n.toNat) == ys.map (fun n:Int=>UInt8.ofNat n.toNat))
 · rfl
 refine absurd ?_ h;have j:=eq_of_beq hb;have hl:xs.length=ys.length:=by have:=congrArg List.length j;simpa using this
 refine List.ext_getElem hl (fun i h1 h2=>?_);have hi:=congrArg (fun l=>l[i]?) j;simp only [List.getElem?_map,List.getElem?_eq_getElem h1,List.getElem?_eq_getElem h2,Option.map_some,Option.some.injEq] at hi;have a1:=hx i;have a2:=hy i;simp only [List.getD,List.getElem?_eq_getElem h1,List.getElem?_eq_getElem h2,Option.getD_some] at a1 a2;have z:=congrArg UInt8.toNat hi;simp only [UInt8.toNat_ofNat'] at z;omega
end

section
open Go.RowKit
structure OwB (w:World) (a:Option Addr) (n z:Nat) (zs:List Int) (b off:Nat):Prop where
 len:zs.length=n
 fits:n≤z∧z≤9223372036854775807
 byte:∀ i,0≤zs.getD i 0∧zs.getD i 0≤255
 cells:n=0∨(a=some ⟨b,off,none⟩∧∀ i,i<n→w.cell? ⟨b,off+i,none⟩=some (.int .u8 (zs.getD i 0)))
def leafK (b off:Nat) (Ls:Nat→List (Addr × IntKind)) (n:Nat):List (Addr × IntKind):=(List.range n).flatMap (fun i=>(⟨b,off+i*4,none⟩,.i64) :: Ls i)
theorem leafK_succ (b off:Nat) (Ls:Nat→List (Addr × IntKind)) (n:Nat):leafK b off Ls (n+1)=leafK b off Ls n++((⟨b,off+n*4,none⟩,.i64) :: Ls n):=by simp [leafK,List.range_succ]
theorem mem_leafK {b off:Nat} {Ls:Nat→List (Addr × IntKind)} {n:Nat} {x:Addr × IntKind}:x∈leafK b off Ls n ↔ ∃ i,i<n∧(x=(⟨b,off+i*4,none⟩,.i64)∨x∈Ls i):=by
 simp only [leafK,List.mem_flatMap,List.mem_range,List.mem_cons]
theorem mem_leafB {b off n:Nat} {x:Addr × IntKind}:x∈leafB b off n ↔ ∃ j,j<n∧x=(⟨b,off+j,none⟩,.u8):=by
 simp only [leafB,List.mem_map,List.mem_range];exact ⟨fun ⟨j,h,e⟩=>⟨j,h,e.symm⟩,fun ⟨j,h,e⟩=>⟨j,h,e.symm⟩⟩
structure OwL (R:Value→CN→List (Addr × IntKind)→Prop) (w:World) (a:Option Addr) (n z:Nat) (cs:List CN) (b off:Nat) (Ls:Nat→List (Addr × IntKind)):Prop where
 len:cs.length=n
 fits:n≤z∧z≤9223372036854775807
 cells:n=0∨(a=some ⟨b,off,none⟩∧∀ i,i<n→∃ v0 v1 v2 v3,
  w.cell? ⟨b,off+i*4,none⟩=some v0∧w.cell? ⟨b,off+i*4+1,none⟩=some v1∧w.cell? ⟨b,off+i*4+2,none⟩=some v2∧w.cell? ⟨b,off+i*4+3,none⟩=some v3 ∧
  R (.agg #[v0,v1,v2,v3]) (cs.getD i CN.zero) (Ls i))
def OwC (w:World):Nat→Value→CN→List (Addr × IntKind)→Prop
 | 0,_,_,_=>False
 | d+1,v,c,L=>∃ na nn nc ra rn rc ka kn kc bn on br or bk ok Ls,v=.agg #[.int .i64 c.kind,.slice na nn nc,.slice ra rn rc,.slice ka kn kc] ∧
     OwB w na nn nc c.name bn on∧OwB w ra rn rc c.role br or∧OwL (OwC w d) w ka kn kc c.kids bk ok Ls∧L=leafB bn on nn++(leafB br or rn++leafK bk ok Ls kn)
theorem OwB.keep {w w':World} {a:Option Addr} {n z:Nat} {zs:List Int} {b off:Nat} (h:OwB w a n z zs b off) (hk:∀ x∈leafB b off n,w'.heap[x.1.block]?=w.heap[x.1.block]?):OwB w' a n z zs b off:=by
 obtain ⟨h1,h2,h3,h4⟩:=h;refine ⟨h1,h2,h3,?_⟩;rcases h4 with h4 | ⟨e,h4⟩
 · exact .inl h4
 refine .inr ⟨e,fun i hi=>?_⟩;rw [World.cell?_of_block (w:=w) (hk (⟨b,off+i,none⟩,.u8) (mem_leafB.2 ⟨i,hi,rfl⟩))];exact h4 i hi
theorem OwC.keep {w w':World}:∀ {d:Nat} {v:Value} {c:CN} {L:List (Addr × IntKind)},OwC w d v c L→(∀ x∈L,w'.heap[x.1.block]?=w.heap[x.1.block]?)→OwC w' d v c L:=by
 intro d
 induction d with
 | zero=>intro v c L h _;exact h
 | succ d ih =>
  intro v c L h hk;obtain ⟨na,nn,nc,ra,rn,rc,ka,kn,kc,bn,on,br,or,bk,ok,Ls,hv,h1,h2,h3,rfl⟩:=h;refine ⟨na,nn,nc,ra,rn,rc,ka,kn,kc,bn,on,br,or,bk,ok,Ls,hv,h1.keep (fun x hx=>hk x (by simp [hx])),h2.keep (fun x hx=>hk x (by simp [hx])),?_,rfl⟩;obtain ⟨g1,g2,g3⟩:=h3;refine ⟨g1,g2,?_⟩;rcases g3 with g3 | ⟨e,g3⟩
  · exact .inl g3
  refine .inr ⟨e,fun i hi=>?_⟩;obtain ⟨v0,v1,v2,v3,c0,c1,c2,c3,hr⟩:=g3 i hi;have hb:w'.heap[bk]?=w.heap[bk]?:=hk (⟨bk,ok+i*4,none⟩,.i64) (by simp only [List.mem_append];exact .inr (.inr (mem_leafK.2 ⟨i,hi,.inl rfl⟩)));refine ⟨v0,v1,v2,v3,?_,?_,?_,?_,ih hr (fun x hx=>hk x (by simp only [List.mem_append];exact .inr (.inr (mem_leafK.2 ⟨i,hi,.inr hx⟩))))⟩
  · rw [World.cell?_of_block (w:=w) (by exact hb)];exact c0
  · rw [World.cell?_of_block (w:=w) (by exact hb)];exact c1
  · rw [World.cell?_of_block (w:=w) (by exact hb)];exact c2
  rw [World.cell?_of_block (w:=w) (by exact hb)];exact c3
theorem OwC.below {w w':World} {B d:Nat} {v:Value} {c:CN} {L:List (Addr × IntKind)} (h:OwC w d v c L) (hb:Below B w w') (hB:∀ x∈L,x.1.block<B):OwC w' d v c L :=
 h.keep (fun x hx=>hb.block _ (hB x hx))
theorem OwB.rd {w:World} {a:Option Addr} {n z:Nat} {zs:List Int} {b off lo hi:Nat} (h:OwB w a n z zs b off) (hk:∀ x∈leafB b off n,lo≤x.1.block∧x.1.block<hi):Rd lo hi w a n z zs:=by
 obtain ⟨h1,h2,h3,h4⟩:=h;refine ⟨h1,h2,h3,?_⟩;rcases h4 with h4 | ⟨e,h4⟩
 · exact .inl h4
 by_cases hn:n=0
 · exact .inl hn
 have:=hk (⟨b,off+0,none⟩,.u8) (mem_leafB.2 ⟨0,by omega,rfl⟩);exact .inr ⟨b,off,e,this.1,this.2,h4⟩
theorem OwC.rd {w:World} {lo hi:Nat}:∀ {d:Nat} {v:Value} {c:CN} {L:List (Addr × IntKind)},OwC w d v c L→(∀ x∈L,lo≤x.1.block∧x.1.block<hi)→RdC lo hi w d v c:=by
 intro d
 induction d with
 | zero=>intro v c L h _;exact h
 | succ d ih =>
  intro v c L h hk;obtain ⟨na,nn,nc,ra,rn,rc,ka,kn,kc,bn,on,br,or,bk,ok,Ls,hv,h1,h2,h3,rfl⟩:=h;refine ⟨na,nn,nc,ra,rn,rc,ka,kn,kc,hv,h1.rd (fun x hx=>hk x (by simp [hx])),h2.rd (fun x hx=>hk x (by simp [hx])),?_⟩;obtain ⟨g1,g2,g3⟩:=h3;refine ⟨g1,g2,?_⟩;rcases g3 with g3 | ⟨e,g3⟩
  · exact .inl g3
  by_cases hn:kn=0
  · exact .inl hn
  have hb:=hk (⟨bk,ok+0*4,none⟩,.i64) (by simp only [List.mem_append];exact .inr (.inr (mem_leafK.2 ⟨0,by omega,.inl rfl⟩)));refine .inr ⟨bk,ok,e,hb.1,hb.2,fun i hi=>?_⟩;obtain ⟨v0,v1,v2,v3,c0,c1,c2,c3,hr⟩:=g3 i hi;exact ⟨v0,v1,v2,v3,c0,c1,c2,c3,ih hr (fun x hx=>hk x (by simp only [List.mem_append];exact .inr (.inr (mem_leafK.2 ⟨i,hi,.inr hx⟩))))⟩
theorem Rd.ow {lo hi:Nat} {w:World} {a:Option Addr} {n z:Nat} {zs:List Int} (h:Rd lo hi w a n z zs):∃ b off,OwB w a n z zs b off∧∀ x∈leafB b off n,lo≤x.1.block∧x.1.block<hi:=by
 obtain ⟨h1,h2,h3,h4⟩:=h;rcases h4 with h4 | ⟨b,off,e,q1,q2,h4⟩
 · refine ⟨0,0,⟨h1,h2,h3,.inl h4⟩,fun x hx=>?_⟩;obtain ⟨j,hj,_⟩:=mem_leafB.1 hx;omega
 refine ⟨b,off,⟨h1,h2,h3,.inr ⟨e,h4⟩⟩,fun x hx=>?_⟩;obtain ⟨j,hj,rfl⟩:=mem_leafB.1 hx;exact ⟨q1,q2⟩
theorem RdC.ow {lo hi:Nat} {w:World}:∀ {d:Nat} {v:Value} {c:CN},RdC lo hi w d v c→∃ L,OwC w d v c L∧∀ x∈L,lo≤x.1.block∧x.1.block<hi:=by
 intro d
 induction d with
 | zero=>intro v c h;exact h.elim
 | succ d ih =>
  intro v c h;obtain ⟨na,nn,nc,ra,rn,rc,ka,kn,kc,hv,h1,h2,h3⟩:=h;obtain ⟨bn,on,h1,q1⟩:=h1.ow;obtain ⟨br,or,h2,q2⟩:=h2.ow;obtain ⟨g1,g2,g3⟩:=h3;rcases g3 with g3 | ⟨bk,ok,e,r1,r2,g3⟩
  · refine ⟨_,⟨na,nn,nc,ra,rn,rc,ka,kn,kc,bn,on,br,or,0,0,fun _=>[],hv,h1,h2,⟨g1,g2,.inl g3⟩,rfl⟩,fun x hx=>?_⟩;simp only [List.mem_append] at hx;rcases hx with hx | hx | hx
    · exact q1 x hx
    · exact q2 x hx
    obtain ⟨i,hi,_⟩:=mem_leafK.1 hx;omega
  have J:∀ i,∃ Li:List (Addr × IntKind),i<kn→∃ v0 v1 v2 v3,w.cell? ⟨bk,ok+i*4,none⟩=some v0∧w.cell? ⟨bk,ok+i*4+1,none⟩=some v1∧w.cell? ⟨bk,ok+i*4+2,none⟩=some v2∧w.cell? ⟨bk,ok+i*4+3,none⟩=some v3 ∧
      OwC w d (.agg #[v0,v1,v2,v3]) (c.kids.getD i CN.zero) Li∧∀ x∈Li,lo≤x.1.block∧x.1.block<hi:=by
   intro i;by_cases H:i<kn
   · obtain ⟨v0,v1,v2,v3,c0,c1,c2,c3,hr⟩:=g3 i H;obtain ⟨Li,hr,hb⟩:=ih hr;exact ⟨Li,fun _=>⟨v0,v1,v2,v3,c0,c1,c2,c3,hr,hb⟩⟩
   exact ⟨[],fun h=>absurd h H⟩
  obtain ⟨Ls,X⟩:=Classical.axiomOfChoice J;refine ⟨_,⟨na,nn,nc,ra,rn,rc,ka,kn,kc,bn,on,br,or,bk,ok,Ls,hv,h1,h2,⟨g1,g2,.inr ⟨e,fun i H=>?_⟩⟩,rfl⟩,fun x hx=>?_⟩
  · obtain ⟨v0,v1,v2,v3,c0,c1,c2,c3,hr,_⟩:=X i H;exact ⟨v0,v1,v2,v3,c0,c1,c2,c3,hr⟩
  simp only [List.mem_append] at hx;rcases hx with hx | hx | hx
  · exact q1 x hx
  · exact q2 x hx
  obtain ⟨i,H,hx⟩:=mem_leafK.1 hx;rcases hx with rfl | hx
  · exact ⟨r1,r2⟩
  obtain ⟨v0,v1,v2,v3,_,_,_,_,_,hb⟩:=X i H;exact hb x hx
theorem OwC.lift {w:World}:∀ {d d':Nat} {v:Value} {c:CN} {L:List (Addr × IntKind)},OwC w d v c L→d≤d'→OwC w d' v c L:=by
 intro d
 induction d with
 | zero=>intro d' v c L h _;exact h.elim
 | succ d ih =>
  intro d' v c L h hd;obtain ⟨e,rfl⟩:∃ e,d'=e+1:=⟨d' - 1,by omega⟩;obtain ⟨na,nn,nc,ra,rn,rc,ka,kn,kc,bn,on,br,or,bk,ok,Ls,hv,h1,h2,⟨g1,g2,g3⟩,rfl⟩:=h;refine ⟨na,nn,nc,ra,rn,rc,ka,kn,kc,bn,on,br,or,bk,ok,Ls,hv,h1,h2,⟨g1,g2,?_⟩,rfl⟩;rcases g3 with g3 | ⟨e',g3⟩
  · exact .inl g3
  refine .inr ⟨e',fun i hi=>?_⟩;obtain ⟨v0,v1,v2,v3,c0,c1,c2,c3,hr⟩:=g3 i hi;exact ⟨v0,v1,v2,v3,c0,c1,c2,c3,ih hr (by omega)⟩
theorem OwC.form {w:World} {d:Nat} {v0 v1 v2 v3:Value} {c:CN} {L:List (Addr × IntKind)} (h:OwC w d (.agg #[v0,v1,v2,v3]) c L):v0=.int .i64 c.kind∧(∃ na nn nc,v1=.slice na nn nc)∧(∃ na nn nc,v2=.slice na nn nc)∧∃ na nn nc,v3=.slice na nn nc:=by
 cases d with
 | zero=>exact h.elim
 | succ d =>
  obtain ⟨na,nn,nc,ra,rn,rc,ka,kn,kc,bn,on,br,or,bk,ok,Ls,hv,_⟩:=h;simp only [Value.agg.injEq,Array.mk.injEq,List.cons.injEq,and_true] at hv;exact ⟨hv.1,⟨_,_,_,hv.2.1⟩,⟨_,_,_,hv.2.2.1⟩,⟨_,_,_,hv.2.2.2⟩⟩
theorem OwC.agg {w:World} {d:Nat} {v:Value} {c:CN} {L:List (Addr × IntKind)} (h:OwC w d v c L):∃ na nn nc ra rn rc ka kn kc,v=.agg #[.int .i64 c.kind,.slice na nn nc,.slice ra rn rc,.slice ka kn kc]:=by
 cases d with
 | zero=>exact h.elim
 | succ d =>
  obtain ⟨na,nn,nc,ra,rn,rc,ka,kn,kc,bn,on,br,or,bk,ok,Ls,hv,_⟩:=h;exact ⟨na,nn,nc,ra,rn,rc,ka,kn,kc,hv⟩
theorem OwC.leaf {w:World}:∀ {d:Nat} {v:Value} {c:CN} {L:List (Addr × IntKind)},OwC w d v c L→∀ x∈L,∃ n,w.cell? x.1=some (.int x.2 n):=by
 intro d
 induction d with
 | zero=>intro v c L h;exact h.elim
 | succ d ih =>
  intro v c L h x hx;obtain ⟨na,nn,nc,ra,rn,rc,ka,kn,kc,bn,on,br,or,bk,ok,Ls,hv,h1,h2,⟨g1,g2,g3⟩,rfl⟩:=h;simp only [List.mem_append] at hx;rcases hx with hx | hx | hx
  · obtain ⟨j,hj,rfl⟩:=mem_leafB.1 hx;rcases h1.cells with h | ⟨_,h⟩
    · omega
    exact ⟨_,h j hj⟩
  · obtain ⟨j,hj,rfl⟩:=mem_leafB.1 hx;rcases h2.cells with h | ⟨_,h⟩
    · omega
    exact ⟨_,h j hj⟩
  obtain ⟨i,hi,hx⟩:=mem_leafK.1 hx;rcases g3 with g3 | ⟨_,g3⟩
  · omega
  obtain ⟨v0,v1,v2,v3,c0,c1,c2,c3,hr⟩:=g3 i hi;rcases hx with rfl | hx
  · have:=hr.form.1;subst this;exact ⟨_,c0⟩
  exact ih hr x hx
theorem OwC.bulk {w:World}:∀ {d:Nat} {v:Value} {c:CN} {L:List (Addr × IntKind)},OwC w d v c L→L.length=c.bulk:=by
 intro d
 induction d with
 | zero=>intro v c L h;exact h.elim
 | succ d ih =>
  intro v c L h;obtain ⟨na,nn,nc,ra,rn,rc,ka,kn,kc,bn,on,br,or,bk,ok,Ls,hv,h1,h2,⟨g1,g2,g3⟩,rfl⟩:=h;rw [CN.bulk_eq,h1.len,h2.len];simp only [List.length_append,leafB_length]
  have J:∀ j,j≤kn→(leafK bk ok Ls j).length=bulks (c.kids.take j):=by
   intro j
   induction j with
   | zero=>intro _;simp [leafK,bulks]
   | succ j Y =>
    intro hj;rw [leafK_succ,List.length_append,Y (by omega),bulks_take_succ _ _ (by omega)];rcases g3 with g3 | ⟨_,g3⟩
    · omega
    obtain ⟨v0,v1,v2,v3,c0,c1,c2,c3,hr⟩:=g3 j (by omega);rw [List.length_cons,ih hr];omega
  have:=J kn (Nat.le_refl _);rw [List.take_of_length_le (by omega)] at this;omega
structure OwnC (base:Nat) (w:World) (d:Nat) (v:Value) (c:CN) (L:List (Addr × IntKind)):Prop where
 ow:OwC w d v c L
 nd:(L.map (·.1)).Nodup
 fr:∀ x∈L,w.frozen? x.1=false
 bl:∀ x∈L,base≤x.1.block∧x.1.block<w.heap.size
theorem OwnC.below {base:Nat} {w w':World} {d:Nat} {v:Value} {c:CN} {L:List (Addr × IntKind)} (h:OwnC base w d v c L) (hb:Below w.heap.size w w'):OwnC base w' d v c L :=
 ⟨h.ow.below hb (fun x hx=>(h.bl x hx).2),h.nd,fun x hx=>(World.frozen?_of_block (w:=w) (hb.block _ (h.bl x hx).2)).trans (h.fr x hx),fun x hx=>⟨(h.bl x hx).1,Nat.lt_of_lt_of_le (h.bl x hx).2 hb.size⟩⟩
theorem OwnC.lift {base:Nat} {w:World} {d d':Nat} {v:Value} {c:CN} {L:List (Addr × IntKind)} (h:OwnC base w d v c L) (hd:d≤d'):OwnC base w d' v c L:=⟨h.ow.lift hd,h.nd,h.fr,h.bl⟩
theorem OwnC.mono {base base':Nat} {w:World} {d:Nat} {v:Value} {c:CN} {L:List (Addr × IntKind)} (h:OwnC base w d v c L) (hb:base'≤base):OwnC base' w d v c L:=⟨h.ow,h.nd,h.fr,fun x hx=>⟨Nat.le_trans hb (h.bl x hx).1,(h.bl x hx).2⟩⟩
theorem OwnC.rd {base:Nat} {w:World} {d:Nat} {v:Value} {c:CN} {L:List (Addr × IntKind)} (h:OwnC base w d v c L):RdC base w.heap.size w d v c:=h.ow.rd h.bl
structure RowK (base:Nat) (w:World) (d:Nat) (v:Value) (cs:List CN) (Ls:List (List (Addr × IntKind))) (xs:List Value):Prop where
 len:Ls.length=cs.length
 row:w.ownsRow base 37 4 v cs.length xs
 kid:∀ i,i<cs.length→∃ v0 v1 v2 v3,xs[i*4]?=some v0∧xs[i*4+1]?=some v1∧xs[i*4+2]?=some v2∧xs[i*4+3]?=some v3∧OwC w d (.agg #[v0,v1,v2,v3]) (cs.getD i CN.zero) (Ls.getD i [])
 lt:∀ x∈Ls.flatten,x.1.block<w.heap.size
 off:∀ x∈Ls.flatten,v.ownBlock≠some x.1.block
structure SepK (base:Nat) (w:World) (Ls:List (List (Addr × IntKind))):Prop where
 nd:(Ls.flatten.map (·.1)).Nodup
 fr:∀ x∈Ls.flatten,w.frozen? x.1=false
 ge:∀ x∈Ls.flatten,base≤x.1.block
theorem RowK.nil (base:Nat) (w:World) (d:Nat):RowK base w d (.slice none 0 0) [] [] [] :=
 ⟨rfl,World.ownsRow_nil _ _ _ _,fun i hi=>by simp at hi,fun x hx=>by simp at hx,fun x hx=>by simp at hx⟩
theorem SepK.nil (base:Nat) (w:World):SepK base w []:=⟨by simp,fun x hx=>by simp at hx,fun x hx=>by simp at hx⟩
theorem getD_mem_flatten {α:Type} {Ls:List (List α)} {i:Nat} {x:α} (h:x∈Ls.getD i []):x∈Ls.flatten:=by
 by_cases hi:i<Ls.length
 · rw [List.mem_flatten];refine ⟨Ls[i],List.getElem_mem hi,?_⟩;simpa [List.getD,hi] using h
 simp [List.getD,List.getElem?_eq_none (Nat.le_of_not_lt hi)] at h
theorem ownsRow_keep {w w':World} {base e size n:Nat} {v:Value} {xs:List Value} (h:w.ownsRow base e size v n xs) (hs:∀ g,g<w.heap.size→w'.heap[g]?=w.heap[g]?):w'.ownsRow base e size v n xs:=by
 obtain ⟨h1,h2⟩:=h;refine ⟨h1,?_⟩;rcases h2 with h2 | ⟨g,z,cur,hv,hg,hh,r⟩
 · exact .inl h2
 exact .inr ⟨g,z,cur,hv,hg,by rw [hs g (Array.getElem?_eq_some_iff.1 hh).1];exact hh,r⟩
theorem RowK.below {base:Nat} {w w':World} {d:Nat} {v:Value} {cs:List CN} {Ls:List (List (Addr × IntKind))} {xs:List Value} (h:RowK base w d v cs Ls xs) (hb:Below w.heap.size w w'):RowK base w' d v cs Ls xs:=by
 obtain ⟨h1,h2,h3,h4,h5⟩:=h;refine ⟨h1,ownsRow_keep h2 (fun g hg=>hb.block g hg),fun i hi=>?_,fun x hx=>Nat.lt_of_lt_of_le (h4 x hx) hb.size,h5⟩;obtain ⟨v0,v1,v2,v3,c0,c1,c2,c3,hr⟩:=h3 i hi;exact ⟨v0,v1,v2,v3,c0,c1,c2,c3,hr.below hb (fun x hx=>h4 x (getD_mem_flatten hx))⟩
theorem SepK.below {base:Nat} {w w':World} {Ls:List (List (Addr × IntKind))} (h:SepK base w Ls) (hb:Below w.heap.size w w') (hl:∀ x∈Ls.flatten,x.1.block<w.heap.size):SepK base w' Ls :=
 ⟨h.nd,fun x hx=>(World.frozen?_of_block (w:=w) (hb.block _ (hl x hx))).trans (h.fr x hx),h.ge⟩
theorem getD_snocC_lt {α:Type} (l:List α) (x d:α) (i:Nat) (h:i<l.length):(l++[x]).getD i d=l.getD i d:=by rw [List.getD,List.getElem?_append_left h,List.getD]
theorem getD_snocC_eq {α:Type} (l:List α) (x d:α):(l++[x]).getD l.length d=x:=by simp [List.getD]
theorem RowK.snoc {base:Nat} {w w1:World} {d:Nat} {v v':Value} {cs:List CN} {Ls:List (List (Addr × IntKind))} {xs:List Value} (h:RowK base w d v cs Ls xs) {c:CN} {L:List (Addr × IntKind)} {v0 v1 v2 v3:Value}
    (hc:OwC w d (.agg #[v0,v1,v2,v3]) c L) (hl:∀ x∈L,x.1.block<w.heap.size) (ho:∀ x∈L,v.ownBlock≠some x.1.block)
    (T:w1.ownsRow base 37 4 v' (cs.length+1) (xs++[v0,v1,v2,v3])) (E:w.grownBy w1 v.ownBlock) (a4:v'.ownBlock=v.ownBlock∨v'.ownBlock=some w.heap.size) :
    RowK base w1 d v' (cs++[c]) (Ls++[L]) (xs++[v0,v1,v2,v3]):=by
 obtain ⟨h1,h2,h3,h4,h5⟩:=h
 have hk:∀ x∈(Ls++[L]).flatten,x.1.block<w.heap.size∧v.ownBlock≠some x.1.block:=by
  intro x hx;simp only [List.flatten_append,List.mem_append,List.flatten_cons,List.flatten_nil,List.append_nil] at hx;rcases hx with hx | hx
  · exact ⟨h4 x hx,h5 x hx⟩
  exact ⟨hl x hx,ho x hx⟩
 have F:∀ x∈(Ls++[L]).flatten,w1.heap[x.1.block]?=w.heap[x.1.block]?:=fun x hx=>E.block _ (hk x hx).1 (fun e=>(hk x hx).2 e.symm)
 have a5:xs.length=cs.length*4:=h2.1;refine ⟨by simp [h1],by simpa using T,fun i hi=>?_,fun x hx=>Nat.lt_of_lt_of_le (hk x hx).1 E.size,fun x hx=>?_⟩
 · simp only [List.length_append,List.length_cons,List.length_nil] at hi;by_cases e:i<cs.length
   · obtain ⟨u0,u1,u2,u3,c0,c1,c2,c3,hr⟩:=h3 i e;refine ⟨u0,u1,u2,u3,?_,?_,?_,?_,?_⟩
     · rw [List.getElem?_append_left (by omega)];exact c0
     · rw [List.getElem?_append_left (by omega)];exact c1
     · rw [List.getElem?_append_left (by omega)];exact c2
     · rw [List.getElem?_append_left (by omega)];exact c3
     rw [getD_snocC_lt _ _ _ _ e,getD_snocC_lt _ _ _ _ (by omega)];exact hr.keep (fun x hx=>F x (by simp only [List.flatten_append,List.mem_append];exact .inl (getD_mem_flatten hx)))
   have e':i=cs.length:=by omega
   subst e';refine ⟨v0,v1,v2,v3,?_,?_,?_,?_,?_⟩
   · rw [List.getElem?_append_right (by omega),show cs.length*4 - xs.length=0 by omega];rfl
   · rw [List.getElem?_append_right (by omega),show cs.length*4+1 - xs.length=1 by omega];rfl
   · rw [List.getElem?_append_right (by omega),show cs.length*4+2 - xs.length=2 by omega];rfl
   · rw [List.getElem?_append_right (by omega),show cs.length*4+3 - xs.length=3 by omega];rfl
   rw [getD_snocC_eq,← h1,getD_snocC_eq];exact hc.keep (fun x hx=>F x (by simp [hx]))
 have:=hk x hx;rcases a4 with e | e
 · rw [e];exact this.2
 rw [e];intro e';simp only [Option.some.injEq] at e';omega
theorem SepK.snoc {base B:Nat} {w w1:World} {d:Nat} {v:Value} {c:CN} {Ls:List (List (Addr × IntKind))} {L:List (Addr × IntKind)} {ow:Option Nat} (h:SepK base w Ls) (hL:OwnC B w d v c L) (a3:base≤B) (Z:∀ x∈Ls.flatten,x.1.block<B)
    (a0:∀ x∈Ls.flatten,x.1.block<w.heap.size) (E:w.grownBy w1 ow) (U:∀ x∈(Ls++[L]).flatten,ow≠some x.1.block):SepK base w1 (Ls++[L]):=by
 have hB:∀ x∈(Ls++[L]).flatten,x.1.block<w.heap.size∧w.frozen? x.1=false∧base≤x.1.block:=by
  intro x hx;simp only [List.flatten_append,List.mem_append,List.flatten_cons,List.flatten_nil,List.append_nil] at hx;rcases hx with hx | hx
  · exact ⟨a0 x hx,h.fr x hx,h.ge x hx⟩
  exact ⟨(hL.bl x hx).2,hL.fr x hx,Nat.le_trans a3 (hL.bl x hx).1⟩
 refine ⟨?_,fun x hx=>(World.frozen?_of_block (w:=w) (E.block _ (hB x hx).1 (fun e=>U x hx e.symm))).trans (hB x hx).2.1,fun x hx=>(hB x hx).2.2⟩;simp only [List.flatten_append,List.flatten_cons,List.flatten_nil,List.append_nil,List.map_append];rw [List.nodup_append];refine ⟨h.nd,hL.nd,fun p hp q hq e=>?_⟩;subst e;simp only [List.mem_map] at hp hq;obtain ⟨x,hx,rfl⟩:=hp;obtain ⟨y,hy,e⟩:=hq;have h1:=Z x hx;have h2:=(hL.bl y hy).1;rw [e] at h2;omega
theorem RowK.owL {base:Nat} {w:World} {d:Nat} {v:Value} {cs:List CN} {Ls:List (List (Addr × IntKind))} {xs:List Value} (h:RowK base w d v cs Ls xs) :
    ∃ a z b,v=.slice a cs.length z∧OwL (OwC w d) w a cs.length z cs b 0 (fun i=>Ls.getD i [])∧(cs.length=0∨(v.ownBlock=some b∧base≤b∧b<w.heap.size∧∀ o,w.frozen? ⟨b,o,none⟩=false)):=by
 obtain ⟨h1,h2,h3,h4,h5⟩:=h;have D:=h2;rcases h2.2 with ⟨hv,h0⟩ | ⟨g,z,cur,hv,hg,hh,O,I,a2,a1⟩
 · exact ⟨none,0,0,by rw [hv,h0],⟨rfl,⟨by omega,by omega⟩,.inl h0⟩,.inl h0⟩
 subst hv;unfold maxLen at I;refine ⟨_,z,g,rfl,⟨rfl,⟨O,I⟩,.inr ⟨rfl,fun i hi=>?_⟩⟩,.inr ⟨rfl,hg,(Array.getElem?_eq_some_iff.1 hh).1,fun o=>D.frozenAt o⟩⟩;obtain ⟨v0,v1,v2,v3,c0,c1,c2,c3,hr⟩:=h3 i hi;simp only [Nat.zero_add];refine ⟨v0,v1,v2,v3,?_,?_,?_,?_,hr⟩
 · rw [D.cellAt (i*4) (by omega)];exact c0
 · rw [D.cellAt (i*4+1) (by omega)];exact c1
 · rw [D.cellAt (i*4+2) (by omega)];exact c2
 rw [D.cellAt (i*4+3) (by omega)];exact c3
theorem OwnB.own {base:Nat} {w:World} {v:Value} {zs:List Int} (h:OwnB base w v zs) (V:∀ i,0≤zs.getD i 0∧zs.getD i 0≤255) :
    ∃ a c b,v=.slice a zs.length c∧OwB w a zs.length c zs b 0∧(zs.length=0∨(v.ownBlock=some b∧base≤b∧b<w.heap.size∧∀ o,w.frozen? ⟨b,o,none⟩=false)):=by
 have D:w.ownsRow base 5 1 v zs.length (zs.map (Value.int .u8)):=h;rcases h.2 with ⟨hv,h0⟩ | ⟨g,z,cur,hv,hg,hh,O,I,a2,a1⟩
 · exact ⟨none,0,0,by rw [hv,h0],⟨rfl,⟨by omega,by omega⟩,V,.inl h0⟩,.inl h0⟩
 subst hv;unfold maxLen at I;refine ⟨_,z,g,rfl,⟨rfl,⟨O,I⟩,V,.inr ⟨rfl,fun i hi=>?_⟩⟩,.inr ⟨rfl,hg,(Array.getElem?_eq_some_iff.1 hh).1,fun o=>D.frozenAt o⟩⟩;rw [Nat.zero_add,D.cellAt i (by omega)];simp [List.getD,hi]
theorem leafK_nodup {base:Nat} {w:World} {Ls:List (List (Addr × IntKind))} {b:Nat} (hs:SepK base w Ls) (ho:∀ x∈Ls.flatten,b≠x.1.block):∀ n,n≤Ls.length→((leafK b 0 (fun i=>Ls.getD i []) n).map (·.1)).Nodup:=by
 intro n
 induction n with
 | zero=>intro _;simp [leafK]
 | succ n ih =>
  intro hn
  have G:Ls.flatten=(Ls.take n).flatten++(Ls.getD n []++(Ls.drop (n+1)).flatten):=by
   have e1:Ls.getD n []=Ls[n]'(by omega):=by simp [List.getD,List.getElem?_eq_getElem (show n<Ls.length by omega)]
   have e2:Ls.take n++(Ls.getD n [] :: Ls.drop (n+1))=Ls:=by rw [e1,← List.drop_eq_getElem_cons (by omega),List.take_append_drop]
   rw [← List.flatten_cons,← List.flatten_append,e2]
  have N:=hs.nd;rw [G,List.map_append,List.map_append,List.nodup_append,List.nodup_append] at N;rw [leafK_succ,List.map_append,List.nodup_append];refine ⟨ih (by omega),?_,?_⟩
  · rw [List.map_cons,List.nodup_cons];refine ⟨fun hm=>?_,N.2.1.1⟩;simp only [List.mem_map] at hm;obtain ⟨x,hx,e⟩:=hm;exact ho x (getD_mem_flatten hx) (by rw [e])
  intro p hp q hq e;subst e;simp only [List.mem_map,List.mem_cons] at hp hq;obtain ⟨x,hx,rfl⟩:=hp;obtain ⟨y,hy,e⟩:=hq;obtain ⟨i,hi,hx⟩:=mem_leafK.1 hx;rcases hx with rfl | hx <;> rcases hy with rfl | hy
  · simp at e;omega
  · exact ho y (getD_mem_flatten hy) (by rw [e])
  · exact ho x (getD_mem_flatten hx) (by rw [← e])
  refine N.2.2 x.1 ?_ y.1 ?_ e.symm
  · refine List.mem_map_of_mem ?_;have:(Ls.take n).getD i []=Ls.getD i []:=by simp [List.getD,hi]
    rw [← this] at hx;exact getD_mem_flatten hx
  simp only [List.mem_append];exact .inl (List.mem_map_of_mem hy)
end

section
open Go.RowKit
theorem ownB_made (w:World) {base:Nat} (hb:base≤w.heap.size):OwnB base (w.alloc (.cells #[] 5)) (.slice (some ⟨w.heap.size,0,none⟩) 0 0) []:=World.ownsRow_made w #[] 0 hb (by unfold maxLen;omega) rfl
theorem BoxC.set3 {W:World} {b:Nat} {v0 v1 v2 v3:Value} (h:BoxC W b v0 v1 v2 v3) (v:Value):BoxC (W.setCell ⟨b,3,none⟩ v) b v0 v1 v2 v:=by
 unfold BoxC;rw [heap_setCell_same W b 3 _ _ v h];rfl
theorem BoxC.set0 {W:World} {b:Nat} {v0 v1 v2 v3:Value} (h:BoxC W b v0 v1 v2 v3) (v:Value):BoxC (W.setCell ⟨b,0,none⟩ v) b v v1 v2 v3:=by
 unfold BoxC;rw [heap_setCell_same W b 0 _ _ v h];rfl
theorem BoxC.other {W:World} {b o i:Nat} {v0 v1 v2 v3:Value} (h:BoxC W b v0 v1 v2 v3) (v:Value) (A:b≠o):BoxC (W.setCell ⟨o,i,none⟩ v) b v0 v1 v2 v3:=(Below.heap_setCell W ⟨o,i,none⟩ v b A).trans h
theorem RowK.set {base:Nat} {w:World} {d:Nat} {u:Value} {cs:List CN} {Ls:List (List (Addr × IntKind))} {xs:List Value} (h:RowK base w d u cs Ls xs) {o:Nat} (i:Nat) (v:Value) (h1:∀ x∈Ls.flatten,x.1.block≠o) (h2:u.ownBlock≠some o):RowK base (w.setCell ⟨o,i,none⟩ v) d u cs Ls xs:=by
 obtain ⟨g1,g2,g3,g4,g5⟩:=h;refine ⟨g1,?_,fun j hj=>?_,fun x hx=>by have:=g4 x hx;simpa using this,g5⟩
 · obtain ⟨q1,q2⟩:=g2;refine ⟨q1,?_⟩;rcases q2 with q | ⟨g,z,cur,rfl,hg,hh,r⟩
   · exact .inl q
   refine .inr ⟨g,z,cur,rfl,hg,?_,r⟩;rw [Below.heap_setCell w ⟨o,i,none⟩ v g (fun e=>h2 (by simp only [Value.ownBlock];rw [e]))];exact hh
 obtain ⟨v0,v1,v2,v3,c0,c1,c2,c3,hr⟩:=g3 j hj;exact ⟨v0,v1,v2,v3,c0,c1,c2,c3,hr.keep (fun x hx=>Below.heap_setCell w ⟨o,i,none⟩ v _ (h1 x (getD_mem_flatten hx)))⟩
theorem SepK.set {base:Nat} {w:World} {Ls:List (List (Addr × IntKind))} (h:SepK base w Ls) (a:Addr) (v:Value):SepK base (w.setCell a v) Ls :=
 ⟨h.nd,fun x hx=>by have:=h.fr x hx;simpa using this,h.ge⟩
theorem OwnB.setCon {base:Nat} {w:World} {u:Value} {zs:List Int} {o i:Nat} {v0 v1 v2 v3:Value} (h:OwnB base w u zs) (hb:BoxC w o v0 v1 v2 v3) (v:Value):OwnB base (w.setCell ⟨o,i,none⟩ v) u zs:=by
 obtain ⟨q1,q2⟩:=h;refine ⟨q1,?_⟩;rcases q2 with q | ⟨g,z,cur,rfl,hg,hh,r⟩
 · exact .inl q
 refine .inr ⟨g,z,cur,rfl,hg,?_,r⟩;rw [Below.heap_setCell w ⟨o,i,none⟩ v g (fun e=>by rw [show g=o from e] at hh;rw [show w.heap[o]?=_ from hb] at hh;simp at hh)];exact hh
end

section
open Go.RowKit
end

end Go.Proofs.YtocpeiaolofodaaGreat
