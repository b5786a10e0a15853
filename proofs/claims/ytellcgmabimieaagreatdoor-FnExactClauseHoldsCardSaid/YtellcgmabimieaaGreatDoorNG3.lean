/- Several texts in one: SzB, CmpB, LitTz, GrFn, OpenB, ConOpen, ClsTab, ClOpen. -/
import Derived.Test.YtellcgmabimieaaGreatDoorNG1
import Derived.Test.YtellcgmabimieaaGreatDoorNG2
import Derived.Lib.BytesEntry
import Derived.Test.YtellcgmabimieaaGreatDoorRows
import Derived.Deep.DeepCutAuto
import Derived.Deep.Strs
import Derived.Deep.Slices
import Derived.ChangeOld
import Derived.OpenShut
import Derived.ProofKit
import Derived.LaidMore
import Derived.Stop.Joined
namespace Go.Proofs.YtellcgmabimieaaGreatDoor

section
open Go.RowKit
def szRes (left:Int) (n:Nat):Int:=if left<n then -1 else left - n
theorem szByteS_any (a:Option Addr) (n o:Nat) (left:Int) (w:World) (hl:0≤left∧left≤1048576) (hn:n≤9223372036854775807) :
    Calls Tryz.prog 52 #[.slice a n o,.int .i64 left] w fun e w'=>e=.returned (.int .i64 (szRes left n))∧w'=w:=by
 obtain ⟨h0,h1⟩:=hl;by_cases h:left<n
 · have HE:Hid (szRes left n=-1):=if_pos h;go_enter Tryz.func52, Tryz.ntmps52;go_wp2;go_ret;exact ⟨ri HE.out.symm,rfl⟩
 have HE:Hid (szRes left n=left - n):=if_neg h;go_enter Tryz.func52, Tryz.ntmps52;go_wp2;go_ret;exact ⟨ri HE.out.symm,rfl⟩
end

section
open Go.RowKit
def cmpZ (xs ys:List Int):Int:=Lib.compareBytes (strOfNums xs).toList (strOfNums ys).toList
theorem bytesOf_any {a:Option Addr} {n o:Nat} {zs:List Int} {w:World} {lo hi:Nat} (h:Rd lo hi w a n o zs):(Extern.Bytes.bytesOf (.slice a n o)).run Tryz.prog w=.ok (strOfNums zs) w:=by
 rcases h.cells with h0 | ⟨b,q,rfl,_,_,hc⟩
 · subst h0;have hz:zs=[]:=List.eq_nil_of_length_eq_zero h.len;subst hz;cases a with
   | none=>rfl
   | some a=>rfl
 have hl:=Lib.run_loadBytesX (P:=Tryz.prog) w zs ⟨b,q,none⟩ .empty (fun j x hj=>by
  have z:j<zs.length:=(List.getElem?_eq_some_iff.1 hj).1;have e:(⟨b,q,none⟩:Addr).add j=⟨b,q+j,none⟩:=by unfold Addr.add;split <;> simp_all
  rw [e,hc j (by have:=h.len;omega),List.getD_eq_getElem?_getD,hj]
  rfl)
 rw [h.len] at hl
 show (Extern.Bytes.loadBytes ⟨b,q,none⟩ n .empty).run Tryz.prog w=_
 rw [hl]
 congr 1
 apply ByteArray.ext
 show (#[]:Array UInt8)++(Lib.bytesOf zs).toArray=_
 simp [Lib.bytesOf,strOfNums]
theorem compare_run {a a':Option Addr} {n o n' cap':Nat} {xs ys:List Int} {w:World} {lo hi lo' hi':Nat} (h:Rd lo hi w a n o xs) (h':Rd lo' hi' w a' n' cap' ys) :
    (Extern.BytealgCompare.compare #[.slice a n o,.slice a' n' cap']).run Tryz.prog w=.ok (.int .i64 (cmpZ xs ys)) w:=by
 change Sem.run Tryz.prog (do pure (goInt (Extern.BytealgCompare.cmp (← Extern.Bytes.bytesOf (.slice a n o)) (← Extern.Bytes.bytesOf (.slice a' n' cap'))))) w=_;simp only [Sem.run_bind,Sem.run_pure,bytesOf_any h,bytesOf_any h',Result.andThen];rw [Lib.cmp_eq];unfold cmpZ;rw [ByteArray.toList_eq,ByteArray.toList_eq];rfl
set_option maxHeartbeats 1000000 in
set_option maxRecDepth 100000 in
theorem bytesCompare_any {a a':Option Addr} {n o n' cap':Nat} {xs ys:List Int} {w:World} {lo hi lo' hi':Nat} (h:Rd lo hi w a n o xs) (h':Rd lo' hi' w a' n' cap' ys) :
    Calls Tryz.prog 98 #[.slice a n o,.slice a' n' cap'] w fun e w'=>e=.returned (.int .i64 (cmpZ xs ys))∧w'=w:=by
 have HC:Hid ((Extern.BytealgCompare.compare #[.slice a n o,.slice a' n' cap']).run Tryz.prog w=.ok (.int .i64 (cmpZ xs ys)) w):=compare_run h h';clear h h';go_enter Tryz.func98, Tryz.ntmps98;go_wp2;rw [run_callFunc_extern Tryz.func122 (by kernel_rfl) (by kernel_rfl) (by kernel_rfl) (e:=Extern.BytealgCompare.compare) (by kernel_rfl),HC.out];simp only [Result.andThen];rw [Oper.upon_value];go_wp2;go_ret;exact ⟨rfl,rfl⟩
theorem less_cmp:∀ (a b:List UInt8),(if Op.bytesLess a b=true then (-1:Int) else if Op.bytesLess b a=true then 1 else 0)=Lib.compareBytes a b
 | [],[]=>by simp [Op.bytesLess,Lib.compareBytes]
 | [],b :: ys=>by simp [Op.bytesLess,Lib.compareBytes]
 | a :: xs,[]=>by simp [Op.bytesLess,Lib.compareBytes]
 | a :: xs,b :: ys=>by
  have ih:=less_cmp xs ys;rw [Lib.compareBytes,← ih];by_cases h1:a<b
  · simp [Op.bytesLess,h1]
  by_cases h2:b<a
  · have u:¬ a=b:=fun e=>by subst e;exact h1 h2
    simp [Op.bytesLess,h1,h2,u]
  have he:a=b:=UInt8.le_antisymm (UInt8.not_lt.1 h2) (UInt8.not_lt.1 h1);subst he;simp [Op.bytesLess]
theorem less_self:∀ a:List UInt8,Op.bytesLess a a=false
 | []=>rfl
 | a :: xs=>by simp [Op.bytesLess,less_self xs,UInt8.lt_irrefl]
theorem less_tri:∀ a b:List UInt8,Op.bytesLess a b=false→(a == b)=false→Op.bytesLess b a=true
 | [],[],_,h=>by simp at h
 | [],b :: ys,h,_=>by simp [Op.bytesLess] at h
 | a :: xs,[],_,_=>by simp [Op.bytesLess]
 | a :: xs,b :: ys,h1,h2=>by
  have ih:=less_tri xs ys;by_cases h3:a<b
  · simp [Op.bytesLess,h3] at h1
  by_cases h4:b<a
  · simp [Op.bytesLess,h4]
  have he:a=b:=UInt8.le_antisymm (UInt8.not_lt.1 h4) (UInt8.not_lt.1 h3);subst he;simp [Op.bytesLess] at h1 h2 ⊢;exact ih h1 (by simpa using h2)
end

section
open Go.RowKit
def TabD (w:World):Prop:=∀ j,j<64→w.cell? ⟨2,j,none⟩=some (.int .u8 (Lib.deBruijn64tab.getD j 0:Nat))
theorem TabD.below {B:Nat} {w w':World} (h:TabD w) (hb:Below B w w') (hB:2<B):TabD w':=fun j hj=>(hb.cell (p:=⟨2,j,none⟩) hB).trans (h j hj)
theorem bits_and_u64 (a b:Nat) (ha:a<18446744073709551616) (hb:b<18446744073709551616):bits .and .u64 (a:Int) (b:Int)=((a &&& b:Nat):Int):=by
 have h1:a &&& b≤a:=Nat.and_le_left
 have e:((BitVec.ofInt 64 (a:Int)) &&& (BitVec.ofInt 64 (b:Int))).toNat=a &&& b:=by
  rw [BitVec.toNat_and,BitVec.ofInt_natCast,BitVec.ofInt_natCast,BitVec.toNat_ofNat,BitVec.toNat_ofNat,Nat.mod_eq_of_lt (by omega),Nat.mod_eq_of_lt (by omega)]
 show IntKind.u64.wrap (((BitVec.ofInt 64 (a:Int)) &&& (BitVec.ofInt 64 (b:Int))).toNat:Int)=_
 rw [e];simp [IntKind.wrap,IntKind.bits,IntKind.signed];omega
theorem wrap_u64' (n:Int):IntKind.u64.wrap n=n % 18446744073709551616:=by simp [IntKind.wrap,IntKind.signed,IntKind.bits]
theorem tz_key (x a:Nat) (hx:x<18446744073709551616) (D:x≠0) (q:x &&& (18446744073709551616 - x)=a) :
    IntKind.u64.wrap (bits BinOp.and IntKind.u64 (x:Int) (IntKind.u64.wrap (-(x:Int)))*285870213051353865) / 288230376151711744=((a*285870213051353865 % 18446744073709551616 / 288230376151711744:Nat):Int):=by
 have e1:IntKind.u64.wrap (-(x:Int))=((18446744073709551616 - x:Nat):Int):=by rw [wrap_u64'];omega
 rw [e1,bits_and_u64 x _ hx (by omega),q,wrap_u64'];omega
set_option maxRecDepth 100000 in
set_option maxHeartbeats 1000000 in
theorem tz64_core (x k u:Nat) (w:World) (D:((x:Int) == 0)=false)
    (A:IntKind.u64.wrap (bits BinOp.and IntKind.u64 (x:Int) (IntKind.u64.wrap (-(x:Int)))*285870213051353865) / 288230376151711744=(u:Int))
    (hi:u<64) (hk:k<64) (o:w.cell? ⟨2,u,none⟩=some (.int .u8 (k:Nat))) :
    Calls Tryz.prog 128 #[.int .u64 x] w fun e w'=>e=.returned (.int .i64 (k:Nat))∧w'=w:=by
 go_enter Tryz.func128, Tryz.ntmps128;go_wp2_with (simp only [A]);go_ret;exact ⟨rfl,rfl⟩
theorem tz64_any (x:Nat) (w:World) (hx:x<16777216) (h0:x≠0) (hT:TabD w) :
    Calls Tryz.prog 128 #[.int .u64 x] w fun e w'=>e=.returned (.int .i64 (Lib.ctz 64 x:Nat))∧w'=w:=by
 obtain ⟨q,hk⟩:=Lib.lowest_bit 64 x h0 (by omega);obtain ⟨hi,z⟩:=Lib.deBruijn64_at _ hk;have o:=hT _ hi;rw [z] at o;exact tz64_core x _ _ w (by simp;omega) (tz_key x _ (by omega) h0 q) hi hk o
theorem tz_any (x:Nat) (w:World) (hx:x<16777216) (h0:x≠0) (hT:TabD w) :
    Calls Tryz.prog 106 #[.int .u64 x] w fun e w'=>e=.returned (.int .i64 (Lib.ctz 64 x:Nat))∧w'=w:=by
 go_enter Tryz.func106, Tryz.ntmps106;go_wp2_with (go_at_call 128;refine (tz64_any x _ hx h0 hT).mono ?_;rintro e w' ⟨rfl,rfl⟩);go_ret;exact ⟨rfl,rfl⟩
end

section
open Go.RowKit
set_option maxHeartbeats 1000000 in
theorem l5part_any (p n:Int) (w:World) :
    Calls Tryz.prog 57 #[.agg #[.int .i64 p,.int .i64 n]] w fun e w'=>e=.returned (.bool (partB p n))∧Below w.heap.size w w':=by
 have h:Hid (Below w.heap.size w (w.alloc (.cells #[.int .i64 p,.int .i64 n] 48))):=(Below.refl _ _).alloc (Nat.le_refl _) _;go_enter Tryz.func57, Tryz.ntmps57;go_wp2
 all_goals
  go_ret;refine ⟨rb ?_,h.out⟩;clear h;rw [Bool.eq_iff_iff,partB_iff];simp;omega
theorem toPart_any (p n:Int) (w:World) :
    Calls Tryz.prog 33 #[.agg #[.int .i64 p,.int .i64 n]] w fun e w'=>e=.returned (.agg #[.int .i64 p,.int .i64 n])∧Below w.heap.size w w':=by
 have h:Hid (Below w.heap.size w (((w.alloc (.cells #[.int .i64 p,.int .i64 n] 32)).alloc (.cells #[.int .i64 p,.int .i64 n] 48)).alloc (.cells #[.int .i64 p,.int .i64 n] 48))) :=
  (((Below.refl _ _).alloc (Nat.le_refl _) _).alloc (by simp) _).alloc (by simp;omega) _
 go_enter Tryz.func33, Tryz.ntmps33;go_wp2;refine bodyPost_ret (v:=.agg #[.int .i64 p,.int .i64 n]) (by simp [results, Tryz.results33,go_sem]) rfl ⟨rfl,h.out⟩
end

section
open Go.RowKit Go.Deep Go.ChangeShapes Go.WideShapes
theorem rd_of_cells {w:World} {x:Addr} {len o:Nat} {zs:List Int} (hl:len≤o) (hm:o≤maxLen) (hz:zs.length=o) (hc:∀ i,i<zs.length→w.cell? (x.add i)=some (.int .u8 (zs.getD i 0))) (G:∀ n∈zs,(Lit.int .u8 n).wf=true) :
    Rd 0 w.heap.size w (some x) len o (zs.take len):=by
 unfold maxLen at hm;refine ⟨by simp;omega,⟨hl,hm⟩,fun i=>?_,?_⟩
 · have:=range_u8 G i;simp only [List.getD,List.getElem?_take]
   split
   · exact this
   simp
 by_cases h0:len=0
 · exact .inl h0
 obtain ⟨b,E,spot⟩:=x;have D:=hc 0 (by omega);have u:spot=none:=by simpa [Addr.add] using World.cell?_spot D
 subst u;refine .inr ⟨b,E,rfl,Nat.zero_le _,block_lt_of_cell D,fun i hi=>?_⟩;have:=hc i (by omega);simp only [List.getD,List.getElem?_take,if_pos hi];by_cases e:i=0
 · subst e;simpa [Addr.add,List.getD] using this
 simpa [Addr.add,e,List.getD] using this
theorem open_bytes {H:Type} {enc:TypeId × Value→H} {w:World} {fuel:Nat} {v:Value} {x:DataW H × List MemPlace} (h:DataW.trod enc Tryz.prog w 0 (fun _=>true) true fuel 89 [v]=some x) :
    ∃ a len o zs,v=.slice a len o∧Rd 0 w.heap.size w a len o zs:=by
 rcases open_ints Tryz.underlying89 Tryz.underlying5 (by kernel_rfl) h with ⟨q,_⟩ | ⟨x,l,c,zs,q,_,hl,hm,hz,_,z,F⟩
 · simp at q;exact ⟨none,0,0,[],q,Rd.none_of (by omega)⟩
 simp at q;exact ⟨some x,l,c,_,q,rd_of_cells hl hm (by simpa using hz) z F⟩
end

section
open Go.RowKit Go.Deep Go.ChangeShapes Go.WideShapes
theorem trod_four {H:Type} {enc:TypeId × Value→H} {P:Program} {w:World} {base:Nat} {spare:Nat→Bool} {q:Bool} {t:TypeId} {f0 f1 f2 f3:Field} {fuel:Nat} {cs:List Value} {x:DataW H × List MemPlace} (ht:P.underlying t=some (.struct #[f0,f1,f2,f3])) (h:DataW.trod enc P w base spare q fuel t cs=some x) :
    ∃ y0 y1 y2 y3 n,fuel=n+1∧cs.length=P.cellsOf t∧DataW.trod enc P w base spare q n f0.type ((cs.drop f0.offset).take (P.cellsOf f0.type))=some y0∧DataW.trod enc P w base spare q n f1.type ((cs.drop f1.offset).take (P.cellsOf f1.type))=some y1 ∧
     DataW.trod enc P w base spare q n f2.type ((cs.drop f2.offset).take (P.cellsOf f2.type))=some y2∧DataW.trod enc P w base spare q n f3.type ((cs.drop f3.offset).take (P.cellsOf f3.type))=some y3:=by
 obtain ⟨xs,n,hn,_,hl,D,hf⟩:=DataW.trod_struct ht h
 match xs,D with
 | [y0,y1,y2,y3],_=>exact ⟨y0,y1,y2,y3,n,hn,hl,by simpa using hf 0 f0 rfl,by simpa using hf 1 f1 rfl,by simpa using hf 2 f2 rfl,by simpa using hf 3 f3 rfl⟩
set_option maxRecDepth 100000 in
theorem open_con {H:Type} {enc:TypeId × Value→H} {w:World}:∀ (m fuel:Nat) (cs:List Value) (x:DataW H × List MemPlace),fuel≤m→DataW.trod enc Tryz.prog w 0 (fun _=>true) true fuel 100 cs=some x →
    ∃ v0 v1 v2 v3 c,cs=[v0,v1,v2,v3]∧RdC 0 w.heap.size w m (.agg #[v0,v1,v2,v3]) c:=by
 have c4:Tryz.prog.cellsOf 100=4:=by kernel_rfl
 have ci:Tryz.prog.cellsOf 3=1:=by kernel_rfl
 have cb:Tryz.prog.cellsOf 89=1:=by kernel_rfl
 have ck:Tryz.prog.cellsOf 27=1:=by kernel_rfl
 intro m
 induction m with
 | zero =>
  intro fuel cs x hf h;obtain ⟨_,n,hn,_⟩:=DataW.trod_struct Tryz.underlying100 h;omega
 | succ m ih =>
  intro fuel cs x hf h;obtain ⟨y0,y1,y2,y3,n,hn,hl,t0,t1,t2,t3⟩:=trod_four Tryz.underlying100 h;rw [c4] at hl
  match cs,hl with
   | [a0,a1,a2,a3],_ =>
    simp only [ci,cb,ck,List.drop_zero,List.drop_succ_cons,List.take_succ_cons,List.take_zero] at t0 t1 t2 t3;obtain ⟨k,hk,_,_⟩:=DataW.trod_int Tryz.underlying3 t0;obtain ⟨na,nn,nc,nz,U,J⟩:=open_bytes t1;obtain ⟨ra,rn,rc,rz,R,I⟩:=open_bytes t2;simp only [List.cons.injEq,and_true] at hk;subst hk U R;rcases DataW.trod_slice Tryz.underlying27 t3 with ⟨u,_⟩ | ⟨ad,len,Y,elems,rest,n',Z,u,_,_,V,L,a4,hx,_,_⟩
    · simp only [List.cons.injEq,and_true] at u;subst u;exact ⟨_,_,_,_,.mk k nz rz [],rfl,na,nn,nc,ra,rn,rc,none,0,0,rfl,J,I,⟨rfl,by omega,.inl rfl⟩⟩
    simp only [List.cons.injEq,and_true] at u;subst u;rw [c4] at hx
    have O:∀ i,i<len→∃ c:CN,∃ v0 v1 v2 v3,w.cell? (ad.add (i*4))=some v0∧w.cell? ((ad.add (i*4)).add 1)=some v1∧w.cell? ((ad.add (i*4)).add 2)=some v2∧w.cell? ((ad.add (i*4)).add 3)=some v3∧RdC 0 w.heap.size w m (.agg #[v0,v1,v2,v3]) c:=by
     intro i hi;have G:=hx i hi;rw [List.getElem?_eq_getElem (by omega)] at G;obtain ⟨cs',h1,h2⟩:=Option.bind_eq_some_iff.1 G;obtain ⟨v0,v1,v2,v3,c,E,hr⟩:=ih n' cs' _ (by omega) h2;obtain ⟨_,M,o⟩:=World.cells?_some h1;subst E;have e0:=o 0 (by omega);have e1:=o 1 (by omega);have e2:=o 2 (by omega);have e3:=o 3 (by omega);rw [show (ad.add (i*4)).add 0=ad.add (i*4) from by simp [Addr.add]] at e0;exact ⟨c,v0,v1,v2,v3,e0,e1,e2,e3,hr⟩
    obtain ⟨T,hT⟩:=choose_lt O;refine ⟨_,_,_,_,.mk k nz rz ((List.range len).map T),rfl,na,nn,nc,ra,rn,rc,some ad,len,Y,rfl,J,I,⟨by simp [CN.kids],⟨V,by unfold maxLen at L;exact L⟩,?_⟩⟩;by_cases h0:len=0
    · exact .inl h0
    obtain ⟨b,N,spot⟩:=ad;obtain ⟨_,_,_,_,q0,_⟩:=hT 0 (by omega);have z:spot=none:=by simpa [Addr.add] using World.cell?_spot q0
    subst z;have F:b<w.heap.size:=by simpa [Addr.add] using block_lt_of_cell q0
    refine .inr ⟨b,N,rfl,Nat.zero_le _,F,fun i hi=>?_⟩;obtain ⟨v0,v1,v2,v3,e0,e1,e2,e3,hr⟩:=hT i hi;have eT:(CN.kids (.mk k nz rz ((List.range len).map T))).getD i CN.zero=T i:=by simp [CN.kids,List.getD,hi]
    rw [eT];simp only [Addr.add_lit] at e0 e1 e2 e3;exact ⟨v0,v1,v2,v3,e0,e1,e2,e3,hr⟩
end

section
open Go.ChangeShapes Go.WideShapes Go.ChangeAt Go.WideMaps Go.WideElems Go.RowKit
def laid2 : List (String × DataW Unit) := [("math/bits.deBruijn32tab", Rows.laid_math_bits_deBruijn32tab), ("math/bits.deBruijn64tab", Rows.laid_math_bits_deBruijn64tab)]
theorem g64 : Tryz.prog.globalNamed "math/bits.deBruijn64tab" = some 2 := by kernel_rfl
theorem t64:(Tryz.prog.globals[2]?).map (·.type)=some 178:=by kernel_rfl
theorem tab_cells {W:World} {fuel:Nat} {cs:List Value} {p:List MemPlace} (h:DataW.trod (fun _=>()) Tryz.prog W 0 (fun _=>true) false fuel 178 cs=some (Rows.laid_math_bits_deBruijn64tab,p)):∀ j,j<64→cs[j]?=some (.int .u8 (Lib.deBruijn64tab.getD j 0:Nat)):=by
 obtain ⟨xs,m1,rfl,o,I,E,F⟩:=DataW.trod_array Tryz.underlying178 h;have c5:Tryz.prog.cellsOf 5=1:=by kernel_rfl
 simp only [Prod.mk.injEq] at o;intro j hj;have h0:=F j hj;rw [c5] at h0;simp only [Nat.mul_one] at h0;have q:j<xs.length:=by rw [E];exact hj
 rw [List.getElem?_eq_getElem q] at h0;obtain ⟨k,e1,e2,_⟩:=DataW.trod_int Tryz.underlying5 h0
 have hd:(xs.map (·.1))[j]?=some (.lit (.int .u8 (Lib.deBruijn64tab.getD j 0:Nat))):=by
  have e3:Rows.laid_math_bits_deBruijn64tab (H:=Unit)=.agg (Lib.deBruijn64tab.map fun n=>.lit (.int .u8 (n:Nat))):=rfl;rw [e3] at o;have e4:=o.1;simp only [DataW.agg.injEq] at e4;rw [← e4];have hl:j<Lib.deBruijn64tab.length:=by simpa [Lib.deBruijn64tab] using hj
  simp [List.getD_eq_getElem?_getD,List.getElem?_eq_getElem hl]
 rw [List.getElem?_map,List.getElem?_eq_getElem q] at hd;rw [e2] at hd;simp only [Option.map_some,Option.some.injEq,DataW.lit.injEq,Lit.int.injEq,true_and] at hd;subst hd;have:(cs.drop j).take 1=[.int .u8 (Lib.deBruijn64tab.getD j 0:Nat)]:=e1;have h1:=congrArg (fun l=>l[0]?) this;simpa using h1
theorem of_laid {W:World} (h:laidMetH Tryz.prog laid2 W):TabD W∧2<W.heap.size:=by
 rw [MakeChecks.laidMetH_plain _ _ _ (by kernel_rfl)] at h;obtain ⟨ps,⟨g0,t0,R,f0,p0,q0,M,L,J,N,⟨g1,t1,O,f1,p1,q1,u,D,A,G,_,_⟩,_⟩,_,_⟩:=h;obtain rfl:=Option.some.inj (g64.symm.trans u);obtain rfl:=Option.some.inj (t64.symm.trans D);have z:=tab_cells G
 have hT:TabD W:=fun j hj=>by
  have e:=World.var?_cell u A j;rw [e];have:=z j hj;simpa using this
 refine ⟨hT,?_⟩;have:=hT 0 (by omega);exact block_lt_of_cell this
theorem door_met (os:Os) (args:Array Value):laidMetH Tryz.prog laid2 ((World.doorLaid Tryz.prog 400 os).forCall (fun _ _=>0) ⟨#[],args,[]⟩).memory :=
 laidMetH_of_parts3 (fuel:=8) (laidMet_of_run' 8 (by kernel_rfl) (by kernel_rfl)) (by kernel_rfl) (by kernel_rfl)
end

section
open Go.RowKit Go.Deep Go.ChangeShapes Go.WideShapes
set_option maxRecDepth 100000 in
theorem open_part {H:Type} {enc:TypeId × Value→H} {w:World} {fuel:Nat} {cs:List Value} {y:DataW H × List MemPlace} (h:DataW.trod enc Tryz.prog w 0 (fun _=>true) true fuel 32 cs=some y) :
    ∃ p n,cs=[.int .i64 p,.int .i64 n]:=by
 have c2:Tryz.prog.cellsOf 32=2:=by kernel_rfl
 have ci:Tryz.prog.cellsOf 3=1:=by kernel_rfl
 obtain ⟨y0,y1,m,_,hl,t0,t1⟩:=trod_struct2 Tryz.underlying32 h;rw [c2] at hl
 match cs,hl with
 | [a0,a1],_ =>
  simp only [ci,List.drop_zero,List.drop_succ_cons,List.take_succ_cons,List.take_zero] at t0 t1;obtain ⟨p,hp,_,_⟩:=DataW.trod_int Tryz.underlying3 t0;obtain ⟨n,hn,_,_⟩:=DataW.trod_int Tryz.underlying3 t1;simp only [List.cons.injEq,and_true] at hp hn;exact ⟨p,n,by rw [hp,hn]⟩
set_option maxRecDepth 100000 in
theorem open_parts {H:Type} {enc:TypeId × Value→H} {w:World} {fuel:Nat} {v:Value} {x:DataW H × List MemPlace} (h:DataW.trod enc Tryz.prog w 0 (fun _=>true) true fuel 33 [v]=some x) :
    ∃ a len I xs,v=.slice a len I∧RP 0 w.heap.size w a len I xs:=by
 have c2:Tryz.prog.cellsOf 32=2:=by kernel_rfl
 rcases open_slice Tryz.underlying33 h with ⟨E,_⟩ | ⟨ad,len,I,m,n,D,Pl,E,_,hl,hm,L,_,hx⟩
 · simp at E;exact ⟨none,0,0,[],E,⟨rfl,by omega,.inl rfl⟩⟩
 simp at E;simp only [if_true] at L;subst L;rw [c2] at hx
 have O:∀ i,i<len→∃ t:Int × Int,w.cell? (ad.add (i*2))=some (.int .i64 t.1)∧w.cell? ((ad.add (i*2)).add 1)=some (.int .i64 t.2):=by
  intro i hi;obtain ⟨cs,h1,h2⟩:=hx i (by omega);obtain ⟨_,F,z⟩:=World.cells?_some h1;obtain ⟨p,q,hc⟩:=open_part h2;subst hc;have e0:=z 0 (by omega);have e1:=z 1 (by omega);rw [show (ad.add (i*2)).add 0=ad.add (i*2) from by simp [Addr.add]] at e0;exact ⟨(p,q),e0,e1⟩
 obtain ⟨T,hT⟩:=choose_lt O;refine ⟨some ad,len,m,(List.range len).map T,E,⟨by simp,⟨hl,by unfold maxLen at hm;exact hm⟩,?_⟩⟩;by_cases h0:len=0
 · exact .inl h0
 obtain ⟨b,N,spot⟩:=ad;obtain ⟨q0,_⟩:=hT 0 (by omega);have G:spot=none:=by simpa [Addr.add] using World.cell?_spot q0
 subst G;have J:b<w.heap.size:=by simpa [Addr.add] using block_lt_of_cell q0
 refine .inr ⟨b,N,rfl,Nat.zero_le _,J,fun i hi=>?_⟩;obtain ⟨e0,e1⟩:=hT i hi;have eT:((List.range len).map T).getD i (0,0)=T i:=by simp [List.getD,hi]
 rw [eT];simp only [Addr.add_lit] at e0 e1;exact ⟨e0,e1⟩
theorem trod_nine {H:Type} {enc:TypeId × Value→H} {P:Program} {w:World} {base:Nat} {spare:Nat→Bool} {o:Bool} {t:TypeId} {f0 f1 f2 f3 f4 f5 f6 f7 f8:Field} {fuel:Nat} {cs:List Value} {x:DataW H × List MemPlace} (ht:P.underlying t=some (.struct #[f0,f1,f2,f3,f4,f5,f6,f7,f8])) (h:DataW.trod enc P w base spare o fuel t cs=some x) :
    ∃ y0 y1 y2 y3 y4 y5 y6 y7 y8 n,fuel=n+1∧cs.length=P.cellsOf t∧DataW.trod enc P w base spare o n f0.type ((cs.drop f0.offset).take (P.cellsOf f0.type))=some y0∧DataW.trod enc P w base spare o n f1.type ((cs.drop f1.offset).take (P.cellsOf f1.type))=some y1∧DataW.trod enc P w base spare o n f2.type ((cs.drop f2.offset).take (P.cellsOf f2.type))=some y2∧DataW.trod enc P w base spare o n f3.type ((cs.drop f3.offset).take (P.cellsOf f3.type))=some y3∧DataW.trod enc P w base spare o n f4.type ((cs.drop f4.offset).take (P.cellsOf f4.type))=some y4∧DataW.trod enc P w base spare o n f5.type ((cs.drop f5.offset).take (P.cellsOf f5.type))=some y5∧DataW.trod enc P w base spare o n f6.type ((cs.drop f6.offset).take (P.cellsOf f6.type))=some y6∧DataW.trod enc P w base spare o n f7.type ((cs.drop f7.offset).take (P.cellsOf f7.type))=some y7∧DataW.trod enc P w base spare o n f8.type ((cs.drop f8.offset).take (P.cellsOf f8.type))=some y8:=by
 obtain ⟨xs,n,hn,_,hl,F,hf⟩:=DataW.trod_struct ht h
 match xs,F with
 | [y0,y1,y2,y3,y4,y5,y6,y7,y8],_=>exact ⟨y0,y1,y2,y3,y4,y5,y6,y7,y8,n,hn,hl,by simpa using hf 0 f0 rfl,by simpa using hf 1 f1 rfl,by simpa using hf 2 f2 rfl,by simpa using hf 3 f3 rfl,by simpa using hf 4 f4 rfl,by simpa using hf 5 f5 rfl,by simpa using hf 6 f6 rfl,by simpa using hf 7 f7 rfl,by simpa using hf 8 f8 rfl⟩
set_option maxRecDepth 100000 in
theorem open_clause {H:Type} {enc:TypeId × Value→H} {w:World} {fuel:Nat} {cs:List Value} {y:DataW H × List MemPlace} (h:DataW.trod enc Tryz.prog w 0 (fun _=>true) true fuel 35 cs=some y) :
    ∃ (x:CL) (ia:Option Addr) (im ic:Nat),cs=[.int .i64 x.kind,.int .i64 x.fn,.int .i64 x.role,.int .i64 x.above,.int .i64 x.xp,.int .i64 x.xn,.int .i64 x.yp,.int .i64 x.yn,.slice ia im ic,.int .i64 x.a,.int .i64 x.b]∧RP 0 w.heap.size w ia im ic x.inds:=by
 have ab:Tryz.prog.cellsOf 35=11:=by kernel_rfl
 have c2:Tryz.prog.cellsOf 32=2:=by kernel_rfl
 have ci:Tryz.prog.cellsOf 3=1:=by kernel_rfl
 have aa:Tryz.prog.cellsOf 33=1:=by kernel_rfl
 obtain ⟨y0,y1,y2,y3,y4,y5,y6,y7,y8,m,_,hl,t0,t1,t2,t3,t4,t5,t6,t7,t8⟩:=trod_nine Tryz.underlying35 h;rw [ab] at hl
 match cs,hl with
 | [a0,a1,a2,a3,a4,a5,a6,a7,a8,a9,a10],_ =>
  simp only [ci,c2,aa,List.drop_zero,List.drop_succ_cons,List.take_succ_cons,List.take_zero] at t0 t1 t2 t3 t4 t5 t6 t7 t8;obtain ⟨k,hk,_,_⟩:=DataW.trod_int Tryz.underlying3 t0;obtain ⟨f,M,_,_⟩:=DataW.trod_int Tryz.underlying3 t1;obtain ⟨r,hr,_,_⟩:=DataW.trod_int Tryz.underlying3 t2;obtain ⟨u,hu,_,_⟩:=DataW.trod_int Tryz.underlying3 t3;obtain ⟨xp,xn,hx⟩:=open_part t4;obtain ⟨yp,yn,hy⟩:=open_part t5;obtain ⟨ia,im,ic,xs,hs,Z⟩:=open_parts t6;obtain ⟨a,ha,_,_⟩:=DataW.trod_int Tryz.underlying3 t7;obtain ⟨b,hb,_,_⟩:=DataW.trod_int Tryz.underlying3 t8;simp only [List.cons.injEq,and_true] at hk M hr hu hx hy ha hb;obtain ⟨Y,V⟩:=hx;obtain ⟨U,R⟩:=hy;subst hk M hr hu Y V U R hs ha hb;exact ⟨⟨k,f,r,u,xp,xn,yp,yn,xs,a,b⟩,ia,im,ic,rfl,Z⟩
end

end Go.Proofs.YtellcgmabimieaaGreatDoor
