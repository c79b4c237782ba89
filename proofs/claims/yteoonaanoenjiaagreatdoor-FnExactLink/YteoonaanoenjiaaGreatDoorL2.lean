/- Several texts in one: FrC, FrD, FrE, FrF, VecB, VecC, VecD, VecE, VecH, VecI, WideT, IdA, IdB, IdC, CmA, VecF. -/
import Derived.Laws.BytesArg
import Derived.BigRegion
import Derived.Deep.DeepCutAuto
import Derived.Laws.OwnMore
import Derived.Deep.RegionWith
import Derived.OwnWalk
import Derived.Test.YteoonaanoenjiaaGreatDoorL1
namespace Go.Proofs.YteoonaanoenjiaaGreatDoor
set_option linter.unusedVariables false
set_option linter.unusedSimpArgs false
set_option maxRecDepth 100000
set_option maxHeartbeats 8000000
section
open Go.RowKit Go.Sort
def Blk(w:World)(b:Nat)(cs:List Value)(t:TypeId):Prop:=w.heap[b]? = some (.cells cs.toArray t (0,0))
variable {cs r:List Value} {b:Nat} {t:TypeId} {x0 x1 x10 x2 x3 x4 x5 x6 x7 x8 x9:Value} {w w':World}
theorem Blk.lt(h:Blk w b cs t):b<w.heap.size:=(Array.getElem?_eq_some_iff.1 h).1
theorem Blk.kept(h:Blk w b cs t)(hB:Below w.heap.size w w'):Blk w' b cs t:=(hB.block b h.lt).trans h
theorem ap(w:World)(cs:List Value)(t:TypeId):Blk (w.alloc (.cells cs.toArray t)) w.heap.size cs t:=heap_alloc_new w _
theorem Blk.alloc(h:Blk w b cs t)(o:Obj):Blk (w.alloc o) b cs t:=h.kept (ak _ _)
theorem Blk.cell(h:Blk w b cs t)(i:Nat)(v:Value)(hv:cs[i]? = some v):w.cell? ⟨b,i,none⟩=some v:=by
 rw[cell_of_row w b i _ _ _ h];simpa using hv
theorem Blk.free(h:Blk w b cs t)(i:Nat):w.frozen? ⟨b,i,none⟩=false:=frozen_of_row w b i _ _ h
theorem Blk.set(h:Blk w b cs t)(i:Nat)(v:Value):Blk (w.setCell ⟨b,i,none⟩ v) b (cs.set i v) t:=by
 have:=heap_setCell_same w b i _ _ v h;unfold Blk;rw[this];simp
theorem Blk.other(h:Blk w b cs t)(a:Addr)(v:Value)(hne:b≠a.block):Blk (w.setCell a v) b cs t:=by
 unfold Blk;rw[heap_setCell_other w a b v hne];exact h
theorem Blk.drewn(h:Blk w b cs t):Blk w.drew b cs t:=h
def pZ(w:World)(b n:Nat)(f:Nat→Int):Prop:=∀j,j<n→w.cell? ⟨b,j,none⟩=some (.int .u8 (f j))∧w.frozen? ⟨b,j,none⟩=false
theorem pZ.kept{n:Nat}{f:Nat→Int}(h:pZ w b n f)(hb:b<w.heap.size)(hB:Below w.heap.size w w'):pZ w' b n f:=fun j hj=>
 ⟨by rw[hB.cell (p:=⟨b,j,none⟩) hb];exact(h j hj).1,by rw[hB.frozen (p:=⟨b,j,none⟩) hb];exact(h j hj).2⟩
theorem pZ.drewn{n:Nat}{f:Nat→Int}(h:pZ w b n f):pZ w.drew b n f:=h
theorem pZ.congr{n:Nat}{f f':Nat→Int}(h:pZ w b n f)(e:∀j,j<n→f j=f' j):pZ w b n f':=fun j hj=>⟨by rw[(h j hj).1,e j hj],(h j hj).2⟩
theorem pZ.set{n:Nat}{f:Nat→Int}(h:pZ w b n f)(i:Nat)(hi:i<n)(v:Int):pZ (w.setCell ⟨b,i,none⟩ (.int .u8 v)) b n (fun j=>if j=i then v else f j):=fun j hj=>by
 refine⟨?_,?_⟩
 ·show _=some (Value.int .u8 (if j=i then v else f j));by_cases e:j=i
  ·subst e;rw[if_pos rfl,World.cell?_setCell_same _ _ _ (h j hj).1]
  ·rw[if_neg e,World.cell?_setCell_other _ _ _ _ (fun h=>e (by simpa using(congrArg Addr.off h).symm)),(h j hj).1]
 ·rw[←(h j hj).2];simp
theorem eP(h:Blk w b (x0 :: x1 :: x2 :: r) t):w.cell? ⟨b,0,none⟩=some x0∧w.cell? ⟨b,1,none⟩=some x1∧w.cell? ⟨b,2,none⟩=some x2:=⟨h.cell 0 _ rfl,h.cell 1 _ rfl,h.cell 2 _ rfl⟩
theorem bcs4(h:Blk w b (x0 :: x1 :: x2 :: x3 :: r) t):w.cell? ⟨b,0,none⟩=some x0∧w.cell? ⟨b,1,none⟩=some x1∧w.cell? ⟨b,2,none⟩=some x2∧w.cell? ⟨b,3,none⟩=some x3:=⟨h.cell 0 _ rfl,h.cell 1 _ rfl,h.cell 2 _ rfl,h.cell 3 _ rfl⟩
theorem gL(h:Blk w b (x0 :: x1 :: x2 :: x3 :: x4 :: r) t):w.cell? ⟨b,0,none⟩=some x0∧w.cell? ⟨b,1,none⟩=some x1∧w.cell? ⟨b,2,none⟩=some x2∧w.cell? ⟨b,3,none⟩=some x3∧w.cell? ⟨b,4,none⟩=some x4:=⟨h.cell 0 _ rfl,h.cell 1 _ rfl,h.cell 2 _ rfl,h.cell 3 _ rfl,h.cell 4 _ rfl⟩
theorem dO(h:Blk w b (x0 :: x1 :: x2 :: x3 :: x4 :: x5 :: x6 :: x7 :: x8 :: r) t):w.cell? ⟨b,0,none⟩=some x0∧w.cell? ⟨b,1,none⟩=some x1∧w.cell? ⟨b,2,none⟩=some x2∧w.cell? ⟨b,3,none⟩=some x3∧w.cell? ⟨b,4,none⟩=some x4∧w.cell? ⟨b,5,none⟩=some x5∧w.cell? ⟨b,6,none⟩=some x6∧w.cell? ⟨b,7,none⟩=some x7∧w.cell? ⟨b,8,none⟩=some x8:=⟨h.cell 0 _ rfl,h.cell 1 _ rfl,h.cell 2 _ rfl,h.cell 3 _ rfl,h.cell 4 _ rfl,h.cell 5 _ rfl,h.cell 6 _ rfl,h.cell 7 _ rfl,h.cell 8 _ rfl⟩
theorem dP(h:Blk w b (x0 :: x1 :: x2 :: x3 :: x4 :: x5 :: x6 :: x7 :: x8 :: x9 :: r) t):w.cell? ⟨b,0,none⟩=some x0∧w.cell? ⟨b,1,none⟩=some x1∧w.cell? ⟨b,2,none⟩=some x2∧w.cell? ⟨b,3,none⟩=some x3∧w.cell? ⟨b,4,none⟩=some x4∧w.cell? ⟨b,5,none⟩=some x5∧w.cell? ⟨b,6,none⟩=some x6∧w.cell? ⟨b,7,none⟩=some x7∧w.cell? ⟨b,8,none⟩=some x8∧w.cell? ⟨b,9,none⟩=some x9:=⟨h.cell 0 _ rfl,h.cell 1 _ rfl,h.cell 2 _ rfl,h.cell 3 _ rfl,h.cell 4 _ rfl,h.cell 5 _ rfl,h.cell 6 _ rfl,h.cell 7 _ rfl,h.cell 8 _ rfl,h.cell 9 _ rfl⟩
theorem dF(h:Blk w b (x0 :: x1 :: x2 :: x3 :: x4 :: x5 :: x6 :: x7 :: x8 :: x9 :: x10 :: r) t):w.cell? ⟨b,0,none⟩=some x0∧w.cell? ⟨b,1,none⟩=some x1∧w.cell? ⟨b,2,none⟩=some x2∧w.cell? ⟨b,3,none⟩=some x3∧w.cell? ⟨b,4,none⟩=some x4∧w.cell? ⟨b,5,none⟩=some x5∧w.cell? ⟨b,6,none⟩=some x6∧w.cell? ⟨b,7,none⟩=some x7∧w.cell? ⟨b,8,none⟩=some x8∧w.cell? ⟨b,9,none⟩=some x9∧w.cell? ⟨b,10,none⟩=some x10:=⟨h.cell 0 _ rfl,h.cell 1 _ rfl,h.cell 2 _ rfl,h.cell 3 _ rfl,h.cell 4 _ rfl,h.cell 5 _ rfl,h.cell 6 _ rfl,h.cell 7 _ rfl,h.cell 8 _ rfl,h.cell 9 _ rfl,h.cell 10 _ rfl⟩
theorem dh{x11:Value}(h:Blk w b (x0 :: x1 :: x2 :: x3 :: x4 :: x5 :: x6 :: x7 :: x8 :: x9 :: x10 :: x11 :: r) t):w.cell? ⟨b,0,none⟩=some x0∧w.cell? ⟨b,1,none⟩=some x1∧w.cell? ⟨b,2,none⟩=some x2∧w.cell? ⟨b,3,none⟩=some x3∧w.cell? ⟨b,4,none⟩=some x4∧w.cell? ⟨b,5,none⟩=some x5∧w.cell? ⟨b,6,none⟩=some x6∧w.cell? ⟨b,7,none⟩=some x7∧w.cell? ⟨b,8,none⟩=some x8∧w.cell? ⟨b,9,none⟩=some x9∧w.cell? ⟨b,10,none⟩=some x10∧w.cell? ⟨b,11,none⟩=some x11:=⟨h.cell 0 _ rfl,h.cell 1 _ rfl,h.cell 2 _ rfl,h.cell 3 _ rfl,h.cell 4 _ rfl,h.cell 5 _ rfl,h.cell 6 _ rfl,h.cell 7 _ rfl,h.cell 8 _ rfl,h.cell 9 _ rfl,h.cell 10 _ rfl,h.cell 11 _ rfl⟩
theorem tB(h:Blk w b cs t):w.frozen? ⟨b,0,none⟩=false∧w.frozen? ⟨b,1,none⟩=false∧w.frozen? ⟨b,2,none⟩=false:=⟨h.free 0,h.free 1,h.free 2⟩
theorem qa(h:Blk w b cs t):w.frozen? ⟨b,0,none⟩=false∧w.frozen? ⟨b,1,none⟩=false∧w.frozen? ⟨b,2,none⟩=false∧w.frozen? ⟨b,3,none⟩=false∧w.frozen? ⟨b,4,none⟩=false:=⟨h.free 0,h.free 1,h.free 2,h.free 3,h.free 4⟩
theorem kO(h:Blk w b cs t):w.frozen? ⟨b,0,none⟩=false∧w.frozen? ⟨b,1,none⟩=false∧w.frozen? ⟨b,2,none⟩=false∧w.frozen? ⟨b,3,none⟩=false∧w.frozen? ⟨b,4,none⟩=false∧w.frozen? ⟨b,5,none⟩=false∧w.frozen? ⟨b,6,none⟩=false∧w.frozen? ⟨b,7,none⟩=false∧w.frozen? ⟨b,8,none⟩=false:=⟨h.free 0,h.free 1,h.free 2,h.free 3,h.free 4,h.free 5,h.free 6,h.free 7,h.free 8⟩
theorem eB(h:Blk w b cs t):w.frozen? ⟨b,0,none⟩=false∧w.frozen? ⟨b,1,none⟩=false∧w.frozen? ⟨b,2,none⟩=false∧w.frozen? ⟨b,3,none⟩=false∧w.frozen? ⟨b,4,none⟩=false∧w.frozen? ⟨b,5,none⟩=false∧w.frozen? ⟨b,6,none⟩=false∧w.frozen? ⟨b,7,none⟩=false∧w.frozen? ⟨b,8,none⟩=false∧w.frozen? ⟨b,9,none⟩=false:=⟨h.free 0,h.free 1,h.free 2,h.free 3,h.free 4,h.free 5,h.free 6,h.free 7,h.free 8,h.free 9⟩
theorem mp(h:Blk w b cs t):w.frozen? ⟨b,0,none⟩=false∧w.frozen? ⟨b,1,none⟩=false∧w.frozen? ⟨b,2,none⟩=false∧w.frozen? ⟨b,3,none⟩=false∧w.frozen? ⟨b,4,none⟩=false∧w.frozen? ⟨b,5,none⟩=false∧w.frozen? ⟨b,6,none⟩=false∧w.frozen? ⟨b,7,none⟩=false∧w.frozen? ⟨b,8,none⟩=false∧w.frozen? ⟨b,9,none⟩=false∧w.frozen? ⟨b,10,none⟩=false:=⟨h.free 0,h.free 1,h.free 2,h.free 3,h.free 4,h.free 5,h.free 6,h.free 7,h.free 8,h.free 9,h.free 10⟩
theorem pq(h:Blk w b cs t):w.frozen? ⟨b,0,none⟩=false∧w.frozen? ⟨b,1,none⟩=false∧w.frozen? ⟨b,2,none⟩=false∧w.frozen? ⟨b,3,none⟩=false∧w.frozen? ⟨b,4,none⟩=false∧w.frozen? ⟨b,5,none⟩=false∧w.frozen? ⟨b,6,none⟩=false∧w.frozen? ⟨b,7,none⟩=false∧w.frozen? ⟨b,8,none⟩=false∧w.frozen? ⟨b,9,none⟩=false∧w.frozen? ⟨b,10,none⟩=false∧w.frozen? ⟨b,11,none⟩=false:=⟨h.free 0,h.free 1,h.free 2,h.free 3,h.free 4,h.free 5,h.free 6,h.free 7,h.free 8,h.free 9,h.free 10,h.free 11⟩
theorem SAt.c4{w:World}{b:Nat}{x y z u:Value}(h:SAt w b [x,y,z,u]):w.cell? ⟨b,0,none⟩=some x∧w.cell? ⟨b,1,none⟩=some y∧w.cell? ⟨b,2,none⟩=some z∧w.cell? ⟨b,3,none⟩=some u:=⟨h 0 x rfl,h 1 y rfl,h 2 z rfl,h 3 u rfl⟩
end
section
open Go.Value renaming int → J
open Go.IntKind renaming i64 → Z
open Go.RowKit
theorem nP{m x:Int}(h:¬(-m≤x∧x≤m)):inB m x=false:=by simpa[inB] using h
theorem nc(m x y z:Int)(w:World)(hm0:0≤m)(hm:m≤1000000):
  Calls Tryz.prog 160 #[.agg #[J Z x,J Z y,J Z z],J Z m] w fun e w'=>e=.returned (.bool (aM m x y z))∧Below w.heap.size w w':=by
 have i0:∀w:World,(Instr.index 248 (.agg #[J Z x,J Z y,J Z z]) (J Z 0)).run Tryz.prog w=.ok (J Z x) w:=fun _=>by kernel_rfl
 have i1:∀w:World,(Instr.index 248 (.agg #[J Z x,J Z y,J Z z]) (J Z 1)).run Tryz.prog w=.ok (J Z y) w:=fun _=>by kernel_rfl
 have i2:∀w:World,(Instr.index 248 (.agg #[J Z x,J Z y,J Z z]) (J Z 2)).run Tryz.prog w=.ok (J Z z) w:=fun _=>by kernel_rfl
 have hwr:wrap64 (-m) = -m:=aq (by omega) (by omega);go_enter Tryz.func160,Tryz.ntmps160;go_wp2_with fail;refine(vf x y z _).mono ?_;rintro e w1 ⟨rfl,hB1⟩;have hB:Below w.heap.size w w1:=aj (ak _ _) hB1;clear hB1;go_wp2_with fail;go_loop [9] (fun i=>∃k:Nat,k≤3∧i=J Z k∧Hid (0<k→inB m x=true)∧Hid (1<k→inB m y=true)∧Hid (2<k→inB m z=true)) (fun i=>3-(intOf i).toNat)
 case atStart=>exact⟨0,Nat.zero_le _,rfl,yz (by omega),yz (by omega),yz (by omega)⟩
 case round=>
  obtain⟨k,hk,rfl,hx,hy,hz⟩:=hrel;have hk4:k=0∨k=1∨k=2∨k=3:=by omega
  rcases hk4 with rfl | rfl | rfl | rfl
  ·by_cases q1:-m≤x
   ·by_cases q2:x≤m
    ·have HI:=yz (iy.2 ⟨q1,q2⟩);go_wp2;go_round
     case rel=>exact⟨1,by omega,rfl,yz (fun _=>yx HI),yz (by omega),yz (by omega)⟩
     case measure=>simp[intOf]
    ·have HO:=yz (nP (m:=m) (x:=x) (fun h=>q2 h.2));go_wp2;go_ret;exact⟨by simp[aM,yx HO],hB⟩
   ·have HO:=yz (nP (m:=m) (x:=x) (fun h=>q1 h.1));go_wp2;go_ret;exact⟨by simp[aM,yx HO],hB⟩
  ·by_cases q1:-m≤y
   ·by_cases q2:y≤m
    ·have HI:=yz (iy.2 ⟨q1,q2⟩);go_wp2;go_round
     case rel=>exact⟨2,by omega,rfl,yz (fun _=>yx hx (by omega)),yz (fun _=>yx HI),yz (by omega)⟩
     case measure=>simp[intOf]
    ·have HO:=yz (nP (m:=m) (x:=y) (fun h=>q2 h.2));go_wp2;go_ret;exact⟨by simp[aM,yx HO],hB⟩
   ·have HO:=yz (nP (m:=m) (x:=y) (fun h=>q1 h.1));go_wp2;go_ret;exact⟨by simp[aM,yx HO],hB⟩
  ·by_cases q1:-m≤z
   ·by_cases q2:z≤m
    ·have HI:=yz (iy.2 ⟨q1,q2⟩);go_wp2;go_round
     case rel=>exact⟨3,by omega,rfl,yz (fun _=>yx hx (by omega)),yz (fun _=>yx hy (by omega)),yz (fun _=>yx HI)⟩
     case measure=>simp[intOf]
    ·have HO:=yz (nP (m:=m) (x:=z) (fun h=>q2 h.2));go_wp2;go_ret;exact⟨by simp[aM,yx HO],hB⟩
   ·have HO:=yz (nP (m:=m) (x:=z) (fun h=>q1 h.1));go_wp2;go_ret;exact⟨by simp[aM,yx HO],hB⟩
  ·go_wp2;go_ret;exact⟨by simp[aM,yx hx (by omega),yx hy (by omega),yx hz (by omega)],hB⟩
def eqB(a1 a2 a3 b1 b2 b3:Int):Bool:=decide (a1=b1∧a2=b2∧a3=b3)
theorem ux(a1 a2 a3 b1 b2 b3:Int)(w:World):(Op.equalIn 10000 111 (.agg #[J Z a1,J Z a2,J Z a3]) (.agg #[J Z b1,J Z b2,J Z b3])).run Tryz.prog w=.ok (eqB a1 a2 a3 b1 b2 b3) w:=by
 have h:=run_equalIn_struct (P:=Tryz.prog) w 9999 111 #[J Z a1,J Z a2,J Z a3] #[J Z b1,J Z b2,J Z b3] (by kernel_rfl) (by kernel_rfl);have hf:(Tryz.prog.fieldsOf 111).toList=(Tryz.prog.fieldsOf 111).toList:=rfl;refine h.trans ?_;by_cases h1:a1=b1
 ·by_cases h2:a2=b2
  ·by_cases h3:a3=b3
   ·simp[go_sem,eqB,h1,h2,h3]
   ·simp[go_sem,eqB,h1,h2,h3]
  ·simp[go_sem,eqB,h1,h2]
 ·simp[go_sem,eqB,h1]
theorem kz(a1 a2 a3 b1 b2 b3:Int)(w:World):(binOp .neq 111 (.agg #[J Z a1,J Z a2,J Z a3]) (.agg #[J Z b1,J Z b2,J Z b3])).run Tryz.prog w=.ok (.bool (!eqB a1 a2 a3 b1 b2 b3)) w:=by
 rw[run_neq_struct,ux];rfl
theorem vS(a1 a2 a3 b1 b2 b3:Int)(w:World):(binOp .eql 111 (.agg #[J Z a1,J Z a2,J Z a3]) (.agg #[J Z b1,J Z b2,J Z b3])).run Tryz.prog w=.ok (.bool (eqB a1 a2 a3 b1 b2 b3)) w:=by
 rw[run_eql_struct,ux];rfl
theorem dg(x y z:Int)(w:World):
  Calls Tryz.prog 159 #[.agg #[J Z x,J Z y,J Z z]] w fun e w'=>e=.returned (.bool (ax x y z))∧Below w.heap.size w w':=by
 have hn:=fun w=>kz x y z 0 0 0 w;cases hz:eqB x y z 0 0 0
 ·rw[hz]at hn;have HR:Hid (ax x y z=aM 1000000 x y z):=yz (by unfold ax;rw[show iw x y z=false from hz];simp);go_enter Tryz.func159,Tryz.ntmps159;go_wp2_with fail;refine(nc 1000000 x y z _ (by omega) (by omega)).mono ?_;rintro e w1 ⟨rfl,hB1⟩;have hB:Below w.heap.size w w1:=aj (ak _ _) hB1;clear hB1;go_wp2_with fail;go_ret;exact⟨by rw[yx HR];rfl,hB⟩
 ·rw[hz]at hn;have HR:Hid (ax x y z=false):=yz (by unfold ax;rw[show iw x y z=true from hz];simp);go_enter Tryz.func159,Tryz.ntmps159;go_wp2_with fail;go_ret;exact⟨by rw[yx HR];rfl,ak _ _⟩
theorem isB(m x:Int):(decide (-m≤x)&&decide (x≤m))=inB m x:=by unfold inB;rw[Bool.decide_and]
theorem gY(m x y z:Int)(w:World)(hm0:0≤m)(hm:m≤1000000):
  Calls Tryz.prog 99 #[.agg #[J Z x,J Z y,J Z z],J Z m] w fun e w'=>e=.returned (.bool (aM m x y z))∧Below w.heap.size w w':=by
 have hwr:wrap64 (-m) = -m:=aq (by omega) (by omega);go_enter Tryz.func99,Tryz.ntmps99;go_wp2_with fail;refine(bp x (-m) m _).mono ?_;rintro e w1 ⟨rfl,rfl⟩;rw[isB];cases hx:inB m x
 ·go_wp2_with fail;go_ret;exact⟨by simp[aM,hx],ak _ _⟩
 ·go_wp2_with fail;refine(bp y (-m) m _).mono ?_;rintro e w1 ⟨rfl,rfl⟩;rw[isB];cases hy:inB m y
  ·go_wp2_with fail;go_ret;exact⟨by simp[aM,hy],ak _ _⟩
  ·go_wp2_with fail;refine(bp z (-m) m _).mono ?_;rintro e w1 ⟨rfl,rfl⟩;rw[isB];go_wp2_with fail;go_ret;exact⟨by simp[aM,hx,hy],ak _ _⟩
theorem jC(x y z:Int)(w:World):
  Calls Tryz.prog 98 #[.agg #[J Z x,J Z y,J Z z]] w fun e w'=>e=.returned (.bool (ax x y z))∧Below w.heap.size w w':=by
 have hn:=fun w=>kz x y z 0 0 0 w;go_enter Tryz.func98,Tryz.ntmps98;go_wp2_with fail;refine(gY 1000000 x y z _ (by omega) (by omega)).mono ?_;rintro e w1 ⟨rfl,hB1⟩;have hB:Below w.heap.size w w1:=aj (ak _ _) hB1;have hc:∀i:Nat,w1.cell? ⟨w.heap.size,i,none⟩=_:=fun i=>hB1.cell (p:=⟨w.heap.size,i,none⟩) (by simp);have c0:=hc 0;have c1:=hc 1;have c2:=hc 2;simp at c0 c1 c2;clear hB1 hc;cases hx:aM 1000000 x y z
 ·go_wp2_with fail;go_ret;exact⟨by simp[ax,hx],hB⟩
 ·go_wp2_with fail;go_ret;exact⟨by simp[ax,hx];rfl,hB⟩
def aD(w:World)(b:Nat)(x y z:Int):Prop:=w.cell? ⟨b,0,none⟩=some (J Z x)∧w.cell? ⟨b,1,none⟩=some (J Z y)∧w.cell? ⟨b,2,none⟩=some (J Z z)
def dE(w:World)(b:Nat):Prop:=w.frozen? ⟨b,0,none⟩=false∧w.frozen? ⟨b,1,none⟩=false∧w.frozen? ⟨b,2,none⟩=false
variable {x y z:Int} {b:Nat} {w w':World}
theorem aD.kept(h:aD w b x y z)(hb:b<w.heap.size)(hB:Below w.heap.size w w'):aD w' b x y z:=by
 obtain⟨h0,h1,h2⟩:=h;exact⟨by rw[hB.cell (p:=⟨b,0,none⟩) hb];exact h0,by rw[hB.cell (p:=⟨b,1,none⟩) hb];exact h1,by rw[hB.cell (p:=⟨b,2,none⟩) hb];exact h2⟩
theorem dE.kept(h:dE w b)(hb:b<w.heap.size)(hB:Below w.heap.size w w'):dE w' b:=by
 obtain⟨h0,h1,h2⟩:=h;exact⟨by rw[hB.frozen (p:=⟨b,0,none⟩) hb];exact h0,by rw[hB.frozen (p:=⟨b,1,none⟩) hb];exact h1,by rw[hB.frozen (p:=⟨b,2,none⟩) hb];exact h2⟩
theorem aG(w:World)(x y z:Int)(t:TypeId):aD (w.alloc (.cells #[J Z x,J Z y,J Z z] t)) w.heap.size x y z:=by
 refine⟨?_,?_,?_⟩<;>simp
theorem em(w:World)(x y z:Int)(t:TypeId):dE (w.alloc (.cells #[J Z x,J Z y,J Z z] t)) w.heap.size:=by
 refine⟨?_,?_,?_⟩<;>simp
theorem aD.alloc(h:aD w b x y z)(hb:b<w.heap.size)(o:Obj):aD (w.alloc o) b x y z:=h.kept hb (ak _ _)
theorem bT{w1:World}(h:Below w.heap.size w w1)(hb:w.heap.size≤b)(x y z:Value):Below w.heap.size w (((w1.setCell ⟨b,0,none⟩ x).setCell ⟨b,1,none⟩ y).setCell ⟨b,2,none⟩ z):=((h.setCell hb _).setCell hb _).setCell hb _
theorem EB(w:World)(a b c d:Obj):Below w.heap.size w ((((w.alloc a).alloc b).alloc c).alloc d):=(bq w a b c).alloc (by simp;omega) _
theorem vP(a1 a2 a3 b1 b2 b3:Int)(w:World):
  Calls Tryz.prog 190 #[.agg #[J Z a1,J Z a2,J Z a3],.agg #[J Z b1,J Z b2,J Z b3]] w fun e w'=>e=.returned (J Z (vO a1 a2 a3 b1 b2 b3))∧Below w.heap.size w w':=by
 go_enter Tryz.func190,Tryz.ntmps190;go_wp2_with fail;refine(dg a1 a2 a3 _).mono ?_;rintro e w1 ⟨rfl,hB1⟩;have hB:Below w.heap.size w w1:=aj (aF _ _ _) hB1;have hs:w.heap.size+2≤w1.heap.size:=by have:=hB1.size;simpa[Nat.add_assoc] using this
 have va:aD w1 w.heap.size a1 a2 a3:=((by simpa using aG w a1 a2 a3 _:aD _ w.heap.size a1 a2 a3).alloc (by simp) _).kept (by simp;omega) hB1;have vb:aD w1 (w.heap.size+1) b1 b2 b3:=(by simpa using aG (w.alloc _) b1 b2 b3 _:aD _ (w.heap.size+1) b1 b2 b3).kept (by simp) hB1;clear hB1;have hva:=va;obtain⟨ca0,ca1,ca2⟩:=va;have hvb:=vb;obtain⟨cb0,cb1,cb2⟩:=vb;cases ha:ax a1 a2 a3
 ·go_wp2_with fail;go_ret;exact⟨by simp[vO,ha],hB⟩
 ·go_wp2_with fail;refine(dg b1 b2 b3 _).mono ?_;rintro e w2 ⟨rfl,hB2⟩;have va:=hva.kept (by omega) hB2;have vb:=hvb.kept (by omega) hB2;replace hs:w.heap.size+2≤w2.heap.size:=by have:=hB2.size;omega
  replace hB:Below w.heap.size w w2:=aj hB hB2;clear hva ca0 ca1 ca2 hvb cb0 cb1 cb2;clear hB2;have hva:=va;obtain⟨ca0,ca1,ca2⟩:=va;have hvb:=vb;obtain⟨cb0,cb1,cb2⟩:=vb;cases hb:ax b1 b2 b3
  ·go_wp2_with fail;go_ret;exact⟨by simp[vO,hb],hB⟩
  ·go_wp2_with fail;refine(ph a1 a2 a3 b1 b2 b3 _).mono ?_;rintro e w3 ⟨rfl,hB3⟩;go_wp2_with fail;go_ret;exact⟨by simp[vO,ha,hb],aj hB hB3⟩
theorem us(a1 a2 a3 b1 b2 b3:Int)(w:World):
  Calls Tryz.prog 189 #[.agg #[J Z a1,J Z a2,J Z a3],.agg #[J Z b1,J Z b2,J Z b3]] w fun e w'=>e=.returned (.agg #[J Z (crI (ax a1 a2 a3&&ax b1 b2 b3) a2 a3 b2 b3),J Z (crI (ax a1 a2 a3&&ax b1 b2 b3) a3 a1 b3 b1),J Z (crI (ax a1 a2 a3&&ax b1 b2 b3) a1 a2 b1 b2)])∧Below w.heap.size w w':=by
 go_enter Tryz.func189,Tryz.ntmps189;go_wp2_with fail;refine(dg a1 a2 a3 _).mono ?_;rintro e w1 ⟨rfl,hB1⟩;have hB:Below w.heap.size w w1:=aj (bq _ _ _ _) hB1;have hs:w.heap.size+3≤w1.heap.size:=by have:=hB1.size;simpa[Nat.add_assoc] using this
 have va:aD w1 w.heap.size a1 a2 a3:=(((by simpa using aG w a1 a2 a3 _:aD _ w.heap.size a1 a2 a3).alloc (by simp) _).alloc (by simp;omega) _).kept (by simp;omega) hB1;have vb:aD w1 (w.heap.size+1) b1 b2 b3:=((by simpa using aG (w.alloc _) b1 b2 b3 _:aD _ (w.heap.size+1) b1 b2 b3).alloc (by simp) _).kept (by simp) hB1;have vr:aD w1 (w.heap.size+1+1) 0 0 0:=(by simpa using aG ((w.alloc _).alloc _) 0 0 0 _:aD _ (w.heap.size+1+1) 0 0 0).kept (by simp) hB1;have fr:dE w1 (w.heap.size+1+1):=(by simpa using em ((w.alloc _).alloc _) 0 0 0 _:dE _ (w.heap.size+1+1)).kept (by simp) hB1;clear hB1;have hva:=va;obtain⟨ca0,ca1,ca2⟩:=va;have hvb:=vb;obtain⟨cb0,cb1,cb2⟩:=vb;have hvr:=vr;have hfr:=fr;obtain⟨cr0,cr1,cr2⟩:=vr;obtain⟨fr0,fr1,fr2⟩:=fr;cases ha:ax a1 a2 a3
 ·go_wp2_with fail;exact bodyPost_ret (v:=.agg #[J Z 0,J Z 0,J Z 0]) (by simp[results,Tryz.results189,go_sem,cr0,cr1,cr2]) rfl ⟨by simp[crI,ha],bT hB (by omega) _ _ _⟩
 ·go_wp2_with fail;refine(dg b1 b2 b3 _).mono ?_;rintro e w2 ⟨rfl,hB2⟩;have va:=hva.kept (by omega) hB2;have vb:=hvb.kept (by omega) hB2;have vr:=hvr.kept (by omega) hB2;have fr:=hfr.kept (by omega) hB2;replace hs:w.heap.size+3≤w2.heap.size:=by have:=hB2.size;omega
  replace hB:Below w.heap.size w w2:=aj hB hB2;clear hva ca0 ca1 ca2 hvb cb0 cb1 cb2 hvr hfr cr0 cr1 cr2 fr0 fr1 fr2;clear hB2;have hva:=va;obtain⟨ca0,ca1,ca2⟩:=va;have hvb:=vb;obtain⟨cb0,cb1,cb2⟩:=vb;have hvr:=vr;have hfr:=fr;obtain⟨cr0,cr1,cr2⟩:=vr;obtain⟨fr0,fr1,fr2⟩:=fr;cases hb:ax b1 b2 b3
  ·go_wp2_with fail;exact bodyPost_ret (v:=.agg #[J Z 0,J Z 0,J Z 0]) (by simp[results,Tryz.results189,go_sem,cr0,cr1,cr2]) rfl ⟨by simp[crI,hb],bT hB (by omega) _ _ _⟩
  ·go_wp2_with fail;exact bodyPost_ret (v:=.agg #[J Z (crW a2 a3 b2 b3),J Z (crW a3 a1 b3 b1),J Z (crW a1 a2 b1 b2)]) (by simp[results,Tryz.results189,go_sem,cr0,cr1,cr2,crW]) rfl ⟨by simp[crI,ha,hb],bT hB (by omega) _ _ _⟩
theorem nF(a1 a2 a3 b1 b2 b3:Int)(w:World):
  Calls Tryz.prog 138 #[.agg #[J Z a1,J Z a2,J Z a3],.agg #[J Z b1,J Z b2,J Z b3]] w fun e w'=>e=.returned (.agg #[J Z (crW a2 a3 b2 b3),J Z (crW a3 a1 b3 b1),J Z (crW a1 a2 b1 b2)])∧Below w.heap.size w w':=by
 go_enter Tryz.func138,Tryz.ntmps138;go_wp2;exact bodyPost_ret (v:=.agg #[J Z (crW a2 a3 b2 b3),J Z (crW a3 a1 b3 b1),J Z (crW a1 a2 b1 b2)]) (by simp[results,Tryz.results138,go_sem,crW]) rfl ⟨rfl,bq _ _ _ _⟩
end
section
open Go.RowKit Go.Sort
theorem BG(a1 a2 a3 b1 b2 b3 c1 c2 c3:Int)(w:World):
  Calls Tryz.prog 228 #[.agg #[.int .i64 a1,.int .i64 a2,.int .i64 a3],.agg #[.int .i64 b1,.int .i64 b2,.int .i64 b3],.agg #[.int .i64 c1,.int .i64 c2,.int .i64 c3]] w fun e w'=>e=.returned (.int .i64 (tD a1 a2 a3 b1 b2 b3 c1 c2 c3))∧Below w.heap.size w w':=by
 go_enter Tryz.func228,Tryz.ntmps228;go_wp2_with fail;refine(dg a1 a2 a3 _).mono ?_;rintro e w1 ⟨rfl,hB1⟩;have hB:Below w.heap.size w w1:=aj (bq _ _ _ _) hB1;have hs:w.heap.size+3≤w1.heap.size:=by have:=hB1.size;simpa[Nat.add_assoc] using this
 have va:aD w1 w.heap.size a1 a2 a3:=(((by simpa using aG w a1 a2 a3 _:aD _ w.heap.size a1 a2 a3).alloc (by simp) _).alloc (by simp;omega) _).kept (by simp;omega) hB1;have vb:aD w1 (w.heap.size+1) b1 b2 b3:=((by simpa using aG (w.alloc _) b1 b2 b3 _:aD _ (w.heap.size+1) b1 b2 b3).alloc (by simp) _).kept (by simp) hB1;have vc:aD w1 (w.heap.size+1+1) c1 c2 c3:=(by simpa using aG ((w.alloc _).alloc _) c1 c2 c3 _:aD _ (w.heap.size+1+1) c1 c2 c3).kept (by simp) hB1;clear hB1;have hva:=va;obtain⟨ca0,ca1,ca2⟩:=va;have hvb:=vb;obtain⟨cb0,cb1,cb2⟩:=vb;have hvc:=vc;obtain⟨cc0,cc1,cc2⟩:=vc;cases ha:ax a1 a2 a3
 ·go_wp2_with fail;go_ret;exact⟨by simp[tD,ha],hB⟩
 ·go_wp2_with fail;refine(dg b1 b2 b3 _).mono ?_;rintro e w2 ⟨rfl,hB2⟩;have va:=hva.kept (by omega) hB2;have vb:=hvb.kept (by omega) hB2;have vc:=hvc.kept (by omega) hB2;replace hs:w.heap.size+3≤w2.heap.size:=by have:=hB2.size;omega
  replace hB:Below w.heap.size w w2:=aj hB hB2;clear hva ca0 ca1 ca2 hvb cb0 cb1 cb2 hvc cc0 cc1 cc2;clear hB2;have hva:=va;obtain⟨ca0,ca1,ca2⟩:=va;have hvb:=vb;obtain⟨cb0,cb1,cb2⟩:=vb;have hvc:=vc;obtain⟨cc0,cc1,cc2⟩:=vc;cases hb:ax b1 b2 b3
  ·go_wp2_with fail;go_ret;exact⟨by simp[tD,hb],hB⟩
  ·go_wp2_with fail;refine(dg c1 c2 c3 _).mono ?_;rintro e w3 ⟨rfl,hB3⟩;have va:=hva.kept (by omega) hB3;have vb:=hvb.kept (by omega) hB3;have vc:=hvc.kept (by omega) hB3;replace hs:w.heap.size+3≤w3.heap.size:=by have:=hB3.size;omega
   replace hB:Below w.heap.size w w3:=aj hB hB3;clear hva ca0 ca1 ca2 hvb cb0 cb1 cb2 hvc cc0 cc1 cc2;clear hB3;have hva:=va;obtain⟨ca0,ca1,ca2⟩:=va;have hvb:=vb;obtain⟨cb0,cb1,cb2⟩:=vb;have hvc:=vc;obtain⟨cc0,cc1,cc2⟩:=vc;cases hc:ax c1 c2 c3
   ·go_wp2_with fail;go_ret;exact⟨by simp[tD,hc],hB⟩
   ·go_wp2_with fail;clear hva hvb hvc;have HD:=yz (show tD a1 a2 a3 b1 b2 b3 c1 c2 c3=bX (crW a2 a3 b2 b3) (crW a3 a1 b3 b1) (crW a1 a2 b1 b2) c1 c2 c3 by simp[tD,ha,hb,hc]);have ka0:=cell_regrown ca0;have ka1:=cell_regrown ca1;have ka2:=cell_regrown ca2;have kb0:=cell_regrown cb0;have kb1:=cell_regrown cb1;have kb2:=cell_regrown cb2;have kc0:=cell_regrown cc0;have kc1:=cell_regrown cc1;have kc2:=cell_regrown cc2;refine bQ ?_;repeat (quiet_step (first | exact Calls.regrown_of (us a1 a2 a3 b1 b2 b3 _) | exact Calls.regrown_of (ph _ _ _ c1 c2 c3 _)))
    refine bW fun dq osq=>?_;clear ca0 ka0 ca1 ka1 ca2 ka2 cb0 kb0 cb1 kb1 cb2 kb2 cc0 kc0 cc1 kc1 cc2 kc2;go_wp2;go_ret;exact⟨by rw[yx HD];simp[crI],aj hB (below_regrown w3 dq osq)⟩
end
section
open Go.Value renaming int → J
open Go.IntKind renaming i64 → Z
open Go.RowKit Go.Sort
theorem FZ(a1 a2 a3 b1 b2 b3:Int):ez a1 a2 a3 b1 b2 b3=(eqB (crI (ax a1 a2 a3&&ax b1 b2 b3) a2 a3 b2 b3) (crI (ax a1 a2 a3&&ax b1 b2 b3) a3 a1 b3 b1) (crI (ax a1 a2 a3&&ax b1 b2 b3) a1 a2 b1 b2) 0 0 0&&decide (0<vO a1 a2 a3 b1 b2 b3)):=by
 unfold ez crI vO;cases h:(ax a1 a2 a3&&ax b1 b2 b3)
 ·simp
 ·simp[eqB,iw]
theorem jt(a1 a2 a3 b1 b2 b3:Int)(w:World):
  Calls Tryz.prog 156 #[.agg #[J Z a1,J Z a2,J Z a3],.agg #[J Z b1,J Z b2,J Z b3]] w fun e w'=>e=.returned (.bool (ez a1 a2 a3 b1 b2 b3))∧Below w.heap.size w w':=by
 have HS:=yz (FZ a1 a2 a3 b1 b2 b3);go_enter Tryz.func156,Tryz.ntmps156;go_wp2_with fail;refine(us a1 a2 a3 b1 b2 b3 _).mono ?_;rintro e w1 ⟨rfl,hB1⟩;have hB:Below w.heap.size w w1:=aj (aF _ _ _) hB1;have va:aD w1 w.heap.size a1 a2 a3:=((aG w a1 a2 a3 _).alloc (by simp) _).kept (by simp;omega) hB1;have vb:aD w1 (w.heap.size+1) b1 b2 b3:=(by simpa using aG (w.alloc _) b1 b2 b3 _:aD _ (w.heap.size+1) b1 b2 b3).kept (by simp) hB1;clear hB1;obtain⟨ca0,ca1,ca2⟩:=va;obtain⟨cb0,cb1,cb2⟩:=vb;generalize crI (ax a1 a2 a3&&ax b1 b2 b3) a2 a3 b2 b3=x at HS ⊢;generalize crI (ax a1 a2 a3&&ax b1 b2 b3) a3 a1 b3 b1=y at HS ⊢;generalize crI (ax a1 a2 a3&&ax b1 b2 b3) a1 a2 b1 b2=z at HS ⊢;have he:=fun w=>vS x y z 0 0 0 w;cases hz:eqB x y z 0 0 0
 ·rw[hz]at he HS;go_wp2_with fail;go_ret;exact⟨by rw[yx HS];rfl,hB⟩
 ·rw[hz]at he HS;go_wp2_with fail;refine(vP a1 a2 a3 b1 b2 b3 _).mono ?_;rintro e w2 ⟨rfl,hB2⟩;replace hB:=aj hB hB2;go_wp2_with fail;go_ret;exact⟨by rw[yx HS,Bool.true_and];rfl,hB⟩
theorem li(a1 a2 a3 b1 b2 b3:Int)(w:World):
  Calls Tryz.prog 101 #[.agg #[J Z a1,J Z a2,J Z a3],.agg #[J Z b1,J Z b2,J Z b3]] w fun e w'=>e=.returned (.bool (eqB (crW a2 a3 b2 b3) (crW a3 a1 b3 b1) (crW a1 a2 b1 b2) 0 0 0&&decide (0<bX a1 a2 a3 b1 b2 b3)))∧Below w.heap.size w w':=by
 go_enter Tryz.func101,Tryz.ntmps101;go_wp2_with fail;refine(nF a1 a2 a3 b1 b2 b3 _).mono ?_;rintro e w1 ⟨rfl,hB1⟩;have hB:Below w.heap.size w w1:=aj (aF _ _ _) hB1;have va:aD w1 w.heap.size a1 a2 a3:=((aG w a1 a2 a3 _).alloc (by simp) _).kept (by simp;omega) hB1;have vb:aD w1 (w.heap.size+1) b1 b2 b3:=(by simpa using aG (w.alloc _) b1 b2 b3 _:aD _ (w.heap.size+1) b1 b2 b3).kept (by simp) hB1;clear hB1;obtain⟨ca0,ca1,ca2⟩:=va;obtain⟨cb0,cb1,cb2⟩:=vb;have he:=fun w=>vS (crW a2 a3 b2 b3) (crW a3 a1 b3 b1) (crW a1 a2 b1 b2) 0 0 0 w;cases hz:eqB (crW a2 a3 b2 b3) (crW a3 a1 b3 b1) (crW a1 a2 b1 b2) 0 0 0
 ·rw[hz]at he;go_wp2_with fail;go_ret;exact⟨by rw[hz];rfl,hB⟩
 ·rw[hz]at he;go_wp2_with fail;refine(gU a1 a2 a3 b1 b2 b3 _).mono ?_;rintro e w2 ⟨rfl,hB2⟩;replace hB:=aj hB hB2;go_wp2_with fail;go_ret;exact⟨by rw[hz,Bool.true_and];rfl,hB⟩
theorem sX(x y z:Int)(w:World):
  Calls Tryz.prog 231 #[.agg #[J Z x,J Z y,J Z z]] w fun e w'=>e=.returned (J Z (bX x y z x y z))∧Below w.heap.size w w':=by
 go_enter Tryz.func231,Tryz.ntmps231;go_wp2_with fail;refine(ph x y z x y z _).mono ?_;rintro e w1 ⟨rfl,hB1⟩;have hB:Below w.heap.size w w1:=aj (ak _ _) hB1;go_wp2_with fail;go_ret;exact⟨rfl,hB⟩
theorem iR(x y z:Int)(w:World):
  Calls Tryz.prog 119 #[.agg #[J Z x,J Z y,J Z z]] w fun e w'=>e=.returned (.bool (cy x y z))∧Below w.heap.size w w':=by
 go_enter Tryz.func119,Tryz.ntmps119;go_wp2_with fail;refine(dg x y z _).mono ?_;rintro e w1 ⟨rfl,hB1⟩;have hB:Below w.heap.size w w1:=aj (ak _ _) hB1;have va:aD w1 w.heap.size x y z:=(aG w x y z _).kept (by simp) hB1;clear hB1;obtain⟨ca0,ca1,ca2⟩:=va;cases ha:ax x y z
 ·go_wp2_with fail;go_ret;exact⟨by simp[cy,ha],hB⟩
 ·go_wp2_with fail;refine(nc 1800 x y z _ (by omega) (by omega)).mono ?_;rintro e w2 ⟨rfl,hB2⟩;replace hB:=aj hB hB2;go_wp2_with fail;go_ret;exact⟨by simp[cy,ha],hB⟩
theorem go(x y z:Int)(w:World):
  Calls Tryz.prog 192 #[.agg #[J Z x,J Z y,J Z z]] w fun e w'=>e=.returned (.bool (aN x y z))∧Below w.heap.size w w':=by
 go_enter Tryz.func192,Tryz.ntmps192;go_wp2_with fail;refine(dg x y z _).mono ?_;rintro e w1 ⟨rfl,hB1⟩;have hB:Below w.heap.size w w1:=aj (ak _ _) hB1;have va:aD w1 w.heap.size x y z:=(aG w x y z _).kept (by simp) hB1;clear hB1;obtain⟨ca0,ca1,ca2⟩:=va;cases ha:ax x y z
 ·go_wp2_with fail;go_ret;exact⟨by simp[aN,ha],hB⟩
 ·go_wp2_with fail;refine(nc 10 x y z _ (by omega) (by omega)).mono ?_;rintro e w2 ⟨rfl,hB2⟩;replace hB:=aj hB hB2;go_wp2_with fail;go_ret;exact⟨by simp[aN,ha],hB⟩
theorem sM(n:Int)(w:World):
  Calls Tryz.prog 229 #[J Z n] w fun e w'=>e=.returned (J Z (qy n))∧w'=w:=by
 by_cases h:n<0
 ·have HS:=yz (show qy n=wrap64 (wrap64 (-n)*n) by unfold qy;rw[if_pos h]);go_enter Tryz.func229,Tryz.ntmps229;go_wp2;go_ret;exact⟨by rw[yx HS];rfl,rfl⟩
 ·have HS:=yz (show qy n=wrap64 (n*n) by unfold qy;rw[if_neg h]);go_enter Tryz.func229,Tryz.ntmps229;go_wp2;go_ret;exact⟨by rw[yx HS];rfl,rfl⟩
theorem oP(a b:Int)(w:World):
  Calls Tryz.prog 227 #[J Z a,J Z b] w fun e w'=>e=.returned (J Z (ip a b))∧w'=w:=by
 by_cases h:a<b
 ·have HS:=yz (show ip a b = -1 by unfold ip;rw[if_pos h]);go_enter Tryz.func227,Tryz.ntmps227;go_wp2;go_ret;exact⟨by rw[yx HS];rfl,rfl⟩
 ·by_cases h2:b<a
  ·have HS:=yz (show ip a b=1 by unfold ip;rw[if_neg h,if_pos h2]);go_enter Tryz.func227,Tryz.ntmps227;go_wp2;go_ret;exact⟨by rw[yx HS];rfl,rfl⟩
  ·have HS:=yz (show ip a b=0 by unfold ip;rw[if_neg h,if_neg h2]);go_enter Tryz.func227,Tryz.ntmps227;go_wp2;go_ret;exact⟨by rw[yx HS];rfl,rfl⟩
theorem pL(a1 a2 a3 b1 b2 b3:Int)(w:World):
  Calls Tryz.prog 230 #[.func (.func 231) #[.agg #[J Z a1,J Z a2,J Z a3]] #[],.func (.func 231) #[.agg #[J Z b1,J Z b2,J Z b3]] #[]] w fun e w'=>e=.returned (J Z (wrap64 (bX a1 a2 a3 a1 a2 a3*bX b1 b2 b3 b1 b2 b3)))∧Below w.heap.size w w':=by
 go_enter Tryz.func230,Tryz.ntmps230;go_wp2_with fail;refine(sX a1 a2 a3 _).mono ?_;rintro e w1 ⟨rfl,hB1⟩;go_wp2_with fail;refine(sX b1 b2 b3 _).mono ?_;rintro e w2 ⟨rfl,hB2⟩;go_wp2_with fail;go_ret;exact⟨rfl,aj hB1 hB2⟩
variable {x y z:Int}
theorem gv(h:cy x y z=true):ax x y z=true∧aM 1800 x y z=true:=by simpa[cy] using h
theorem fs(h:aN x y z=true):ax x y z=true∧aM 10 x y z=true:=by simpa[aN] using h
theorem Jf{a1 a2 a3 b1 b2 b3 c1 c2 c3 d1 d2 d3:Int}(ha:cy a1 a2 a3=true)(hb:cy b1 b2 b3=true)(hc:aN c1 c2 c3=true)(hd:aN d1 d2 d3=true):
  oy a1 a2 a3 b1 b2 b3 c1 c2 c3 d1 d2 d3=ip (wrap64 (qy (vO a1 a2 a3 b1 b2 b3)*wrap64 (bX c1 c2 c3 c1 c2 c3*bX d1 d2 d3 d1 d2 d3))) (wrap64 (qy (vO c1 c2 c3 d1 d2 d3)*wrap64 (bX a1 a2 a3 a1 a2 a3*bX b1 b2 b3 b1 b2 b3))):=by
 have h:=EI (gv ha).2 (gv hb).2 (fs hc).2 (fs hd).2;unfold oy vO;rw[(gv ha).1,(gv hb).1,(fs hc).1,(fs hd).1,ha,hb,hc,hd,if_pos (by rfl),if_pos (by rfl),if_pos (by rfl),h.1,h.2]
end
section
open Go.RowKit Go.Sort
theorem pK(x y z:Int)(w:World):
  Calls Tryz.prog 105 #[.agg #[.int .i64 x,.int .i64 y,.int .i64 z]] w fun e w'=>e=.returned (.bool (cy x y z))∧Below w.heap.size w w':=by
 have A0:=aG w x y z 111;have B0:=ak w (.cells #[.int .i64 x,.int .i64 y,.int .i64 z] 111);have cR:=yz (fun W=>jC x y z W);have cW:=yz (fun W=>gY 1800 x y z W (by omega) (by omega));have HW:Hid (cy x y z=(ax x y z&&aM 1800 x y z)):=yz rfl;generalize cy x y z=wv at *;generalize aM 1800 x y z=wi at *;go_enter Tryz.func105,Tryz.ntmps105;go_wp2_with fail;refine(yx cR _).mono ?_;rintro e w1 ⟨rfl,hx⟩;obtain⟨c0,c1,c2⟩:=A0.kept (World.block_lt_of_cell? _ _ A0.1) hx;have B1:=aj B0 hx;clear hx B0 A0;cases hr:ax x y z
 ·rw[hr]at HW;go_wp2_with fail;go_ret;exact⟨by rw[yx HW];rfl,B1⟩
 ·rw[hr]at HW;go_wp2_with fail;refine(yx cW _).mono ?_;rintro e w2 ⟨rfl,hx⟩;have B2:=aj B1 hx;clear hx B1;go_wp2_with fail;go_ret;exact⟨by rw[yx HW];rfl,B2⟩
end
section
open Go.Value renaming int → J
open Go.IntKind renaming i64 → Z
open Go.RowKit Go.Sort
def xv(w:World)(b o:Nat)(v:D3):Prop:=w.cell? ⟨b,o,none⟩=some (J Z v.1)∧w.cell? ⟨b,o+1,none⟩=some (J Z v.2.1)∧w.cell? ⟨b,o+2,none⟩=some (J Z v.2.2)
def bi(w:World)(a:Option Addr)(L:List D3)(n:Nat):Prop:=n=0∨∃b o,a=some ⟨b,o,none⟩∧b<w.heap.size∧∀i,i<n→xv w b (o+i*3) (vA L i)
variable {b:Nat} {a:Option Addr} {w w':World}
theorem xv.kept{o:Nat}{s:D3}(h:xv w b o s)(hb:b<w.heap.size)(hB:Below w.heap.size w w'):xv w' b o s:=by
 obtain⟨h0,h1,h2⟩:=h;exact⟨by rw[hB.cell (p:=⟨b,o,none⟩) hb];exact h0,by rw[hB.cell (p:=⟨b,o+1,none⟩) hb];exact h1,by rw[hB.cell (p:=⟨b,o+2,none⟩) hb];exact h2⟩
theorem bi.kept{L:List D3}{n:Nat}(h:bi w a L n)(hB:Below w.heap.size w w'):bi w' a L n:=by
 rcases h with h | ⟨b,o,ha,hb,hc⟩
 ·exact .inl h
 ·exact .inr ⟨b,o,ha,Nat.lt_of_lt_of_le hb hB.size,fun i hi=>(hc i hi).kept hb hB⟩
theorem bi.less{L:List D3}{n m:Nat}(h:bi w a L n)(hm:m≤n):bi w a L m:=by
 rcases h with h | ⟨b,o,ha,hb,hc⟩
 ·exact .inl (by omega)
 ·exact .inr ⟨b,o,ha,hb,fun i hi=>hc i (by omega)⟩
theorem oj{x y z:Int}(h:aD w b x y z):b<w.heap.size:=World.block_lt_of_cell? w _ h.1
theorem pG(L:List D3)(n:Nat)(x y z:Int)(a:Option Addr)(c:Nat)(w:World)(hn:n≤1048576)(hS:bi w a L n):
  Calls Tryz.prog 116 #[.agg #[J Z x,J Z y,J Z z],.slice a n c] w fun e w'=>e=.returned (.bool (eA L (x,y,z) n))∧Below w.heap.size w w':=by
 rcases hS with rfl | ⟨b,o,rfl,hb,hc⟩
 ·go_enter Tryz.func116,Tryz.ntmps116;go_wp2_with fail;refine wp_loop_rounds 1 ?_;rw[rounds_succ];go_wp2_with fail;go_ret;exact⟨rfl,ak _ _⟩
 ·have HC:=yz hc;clear hc;have V0:=yz (aG w x y z 111);have B0:=yz (ak w (.cells #[J Z x,J Z y,J Z z] 111));go_enter Tryz.func116,Tryz.ntmps116;go_wp2_with fail;go_loopw [9] (fun i wr=>∃k:Nat,k≤n∧i=J Z k∧Hid (nk L (x,y,z) k)∧Hid (Below w.heap.size w wr)∧Hid (aD wr w.heap.size x y z)) (fun i _=>n-(intOf i).toNat)
  case atStart=>exact⟨0,by omega,rfl,yz (fun j hj=>absurd hj (Nat.not_lt_zero _)),B0,V0⟩
  case round=>
   obtain⟨k,hk,rfl,HF,HB,HV⟩:=hrel;by_cases hkn:k<n
   ·obtain⟨⟨s2,s3,s4⟩,hs⟩:∃s,vA L k=s:=⟨_,rfl⟩
    have hst:=((yx HC) k hkn).kept hb (yx HB);rw[hs]at hst;obtain⟨c0,c1,c2⟩:=hst;have HS:=yz hs;clear hs;have V1:=yz (aD.alloc (yx HV) (oj (yx HV)) (.cells #[J Z s2,J Z s3,J Z s4] 111));have B1:=yz ((yx HB).alloc (yx HB).size (.cells #[J Z s2,J Z s3,J Z s4] 111));obtain⟨v0,v1,v2⟩:=yx V1;go_wp2_with fail;refine(jt x y z s2 s3 s4 _).mono ?_;rintro e w2 ⟨rfl,hx⟩;have HV2:=yz ((yx V1).kept (oj (yx V1)) hx);have HB2:=aA B1 hx;clear hx c0 c1 c2 v0 v1 v2 V1 B1 HB HV;have HR:Hid (bS (x,y,z) (vA L k)=ez x y z s2 s3 s4):=yz (by rw[yx HS];rfl);cases hq:ez x y z s2 s3 s4
    ·rw[hq]at HR;go_wp2_with fail;go_roundw
     case rel=>exact⟨k+1,by omega,by go_num,yz (qY (yx HF) (yx HR)),HB2,HV2⟩
     case measure=>simp[intOf];omega
    ·rw[hq]at HR;go_wp2_with fail;go_ret;exact⟨by rw[un hkn (yx HR)];rfl,yx HB2⟩
   ·have hkn':k=n:=by omega
    subst hkn';go_wp2_with fail;go_ret;exact⟨by rw[xy (yx HF)];rfl,yx HB⟩
theorem ft(L:List D3)(a:Option Addr)(c:Nat)(w:World)(hn:L.length≤1048576)(hcap:L.length≤c)(hc9:c≤9223372036854775807)(hS:bi w a L L.length):
  Calls Tryz.prog 75 #[.slice a L.length c] w fun e w'=>e=.returned (.bool (aL L))∧Below w.heap.size w w':=by
 obtain⟨n,hnl⟩:∃n,L.length=n:=⟨_,rfl⟩
 rw[hnl]at hn hcap hS ⊢;have HL:=yz hnl;clear hnl;by_cases h12:6<n
 ·have h12':(6:Int)<(n:Int):=by omega
  have HO:Hid (aL L=false):=yz (sV (by rw[yx HL];exact h12));clear hS;go_enter Tryz.func75,Tryz.ntmps75;go_wp2;go_ret;exact⟨by rw[yx HO];rfl,Below.refl _ _⟩
 have h12':¬(6:Int)<(n:Int):=by omega
 rcases hS with rfl | ⟨b,o,rfl,hb,hc⟩
 ·have HO:Hid (aL L=true):=yz (lW (by rw[yx HL];omega) (by rw[yx HL];intro j hj;omega));go_enter Tryz.func75,Tryz.ntmps75;go_wp2_with fail;refine wp_loop_rounds 1 ?_;rw[rounds_succ];go_wp2_with fail;go_ret;exact⟨by rw[yx HO];rfl,Below.refl _ _⟩
 have HC:=yz hc;have HS:Hid (bi w (some ⟨b,o,none⟩) L n):=yz (.inr ⟨b,o,rfl,hb,hc⟩);clear hc;go_enter Tryz.func75,Tryz.ntmps75;go_wp2_with fail;go_loopw [10] (fun i wr=>∃k:Nat,k≤n∧i=J Z k∧Hid (uX L k)∧Hid (Below w.heap.size w wr)) (fun i _=>n-(intOf i).toNat)
 case atStart=>exact⟨0,by omega,rfl,yz (fun j hj=>absurd hj (Nat.not_lt_zero _)),yz (Below.refl _ _)⟩
 case round=>
  obtain⟨k,hk,rfl,HF,HB⟩:=hrel;by_cases hkn:k<n
  ·obtain⟨⟨s2,s3,s4⟩,hs⟩:∃s,vA L k=s:=⟨_,rfl⟩
   have hst:=((yx HC) k hkn).kept hb (yx HB);rw[hs]at hst;obtain⟨c0,c1,c2⟩:=hst;have HT:=yz hs;clear hs;have B1:=yz ((yx HB).alloc (yx HB).size (.cells #[J Z s2,J Z s3,J Z s4] 111));have N1:=yz (aG wr s2 s3 s4 111);go_wp2_with fail;clear c0 c1 c2;have hb1:=yx B1;have hn1:=yx N1;generalize hwe:wr.alloc (.cells #[J Z s2,J Z s3,J Z s4] 111)=W1 at hb1 hn1 ⊢;have HB1:=yz hb1;clear hwe hb1 B1 N1;obtain⟨c0,c1,c2⟩:=hn1;have r0:=cell_regrown c0;have r1:=cell_regrown c1;have r2:=cell_regrown c2;clear c0 c1 c2;have HO:Hid (okV L k=(cy s2 s3 s4 && !eA L (s2,s3,s4) k)):=yz (by unfold okV jY;rw[yx HT]);have cW:=yz (fun W=>iR s2 s3 s4 W);have cA:=yz (fun (W:World) (hW:bi W (some ⟨b,o,none⟩) L k)=>pG L k s2 s3 s4 (some ⟨b,o,none⟩) c W (by omega) hW);have HSk:=yz (((yx HS).less (Nat.le_of_lt hkn)).kept (yx HB1));have hkc:(k:Int)≤(c:Int):=by omega
   cases hwd:cy s2 s3 s4
   ·rw[hwd]at HO cW;have HO':Hid (okV L k=false):=HO;refine bQ ?_;repeat (go_big_quiet_step (with_reducible first | exact aC cW))
    refine bW fun dq osq=>?_;have hx:=aj (yx HB1) (below_regrown W1 dq osq);generalize grow (redrawn W1 dq) osq=W2 at hx ⊢;go_wp2_with fail;go_ret;exact⟨by rw[oa (by rw[yx HL];exact hkn) (yx HO')];rfl,hx⟩
   ·rw[hwd,Bool.true_and]at HO;rw[hwd]at cW;generalize eA L (s2,s3,s4) k=am at *;refine bQ ?_;repeat (go_big_quiet_step (first | (with_reducible exact aC cW) | (with_reducible exact Calls.regrown_of (yx cA _ ((yx HSk).kept (below_regrown _ _ _))))))
    refine bW fun dq osq=>?_;have hx:=aj (yx HB1) (below_regrown W1 dq osq);generalize grow (redrawn W1 dq) osq=W2 at hx ⊢;have HB2:=yz hx;clear hx HB1 HB cW cA HSk r0 r1 r2;cases am
    ·have HO':Hid (okV L k=true):=HO;go_wp2_with fail;go_roundw
     case rel=>exact⟨k+1,by omega,by go_num,yz (yE (yx HF) (yx HO')),HB2⟩
     case measure=>simp[intOf];omega
    ·have HO':Hid (okV L k=false):=HO;go_wp2_with fail;go_ret;exact⟨by rw[oa (by rw[yx HL];exact hkn) (yx HO')];rfl,yx HB2⟩
  ·have hkn':k=n:=by omega
   have HO:Hid (aL L=true):=yz (lW (by rw[yx HL];omega) (by rw[yx HL,←hkn'];exact yx HF));go_wp2_with fail;go_ret;exact⟨by rw[yx HO];rfl,yx HB⟩
theorem tW{a1 a2 a3 b1 b2 b3:Int}(ha:ax a1 a2 a3=true)(hb:ax b1 b2 b3=true):
  (eqB (crW a2 a3 b2 b3) (crW a3 a1 b3 b1) (crW a1 a2 b1 b2) 0 0 0&&decide (0<bX a1 a2 a3 b1 b2 b3))=ez a1 a2 a3 b1 b2 b3:=by
 unfold ez;rw[ha,hb];rfl
theorem tM(p q:D3)(w:World)(hp:ax p.1 p.2.1 p.2.2=true)(hq:ax q.1 q.2.1 q.2.2=true):
  Calls Tryz.prog 101 #[.agg #[J Z p.1,J Z p.2.1,J Z p.2.2],.agg #[J Z q.1,J Z q.2.1,J Z q.2.2]] w fun e w'=>e=.returned (.bool (bS p q))∧Below w.heap.size w w':=by
 refine(li _ _ _ _ _ _ w).mono fun e w' h=>?_;rw[tW hp hq]at h;exact h
theorem iZ(L:List D3)(a:Option Addr)(c:Nat)(w:World)(hn:L.length≤1048576)(hS:bi w a L L.length):
  Calls Tryz.prog 60 #[.slice a L.length c] w fun e w'=>e=.returned (.bool (aL L))∧Below w.heap.size w w':=by
 obtain⟨n,hnl⟩:∃n,L.length=n:=⟨_,rfl⟩
 rw[hnl]at hn hS ⊢;have HL:=yz hnl;clear hnl;by_cases h12:6<n
 ·have h12':(6:Int)<(n:Int):=by omega
  have HO:Hid (aL L=false):=yz (sV (by rw[yx HL];exact h12));clear hS;go_enter Tryz.func60,Tryz.ntmps60;go_wp2;go_ret;exact⟨by rw[yx HO];rfl,Below.refl _ _⟩
 have h12':¬(6:Int)<(n:Int):=by omega
 rcases hS with rfl | ⟨b,o,rfl,hb,hc⟩
 ·have HO:Hid (aL L=true):=yz (lW (by rw[yx HL];omega) (by rw[yx HL];intro j hj;omega));go_enter Tryz.func60,Tryz.ntmps60;go_wp2_with fail;refine wp_loop_rounds 1 ?_;rw[rounds_succ];go_wp2_with fail;go_ret;exact⟨by rw[yx HO];rfl,Below.refl _ _⟩
 have HC:=yz hc;clear hc;go_enter Tryz.func60,Tryz.ntmps60;go_wp2_with fail;go_loopw [3] (fun i wr=>∃k:Nat,k≤n∧i=J Z k∧Hid (uX L k)∧Hid (Below w.heap.size w wr)) (fun i _=>n-(intOf i).toNat)
 case atStart=>exact⟨0,by omega,rfl,yz (fun j hj=>absurd hj (Nat.not_lt_zero _)),yz (Below.refl _ _)⟩
 case round=>
  obtain⟨k,hk,rfl,HF,HB⟩:=hrel;by_cases hkn:k<n
  ·have hkn2:(k:Int)<(n:Int):=by omega
   obtain⟨⟨s2,s3,s4⟩,hs⟩:∃s,vA L k=s:=⟨_,rfl⟩
   have hst:=((yx HC) k hkn).kept hb (yx HB);rw[hs]at hst;obtain⟨c0,c1,c2⟩:=hst;have HT:=yz hs;clear hs;have HO:Hid (okV L k=(cy s2 s3 s4 && !eA L (s2,s3,s4) k)):=yz (by unfold okV jY;rw[yx HT]);go_wp2_with fail;refine(pK s2 s3 s4 _).mono ?_;rintro e W2 ⟨rfl,hx⟩;have HB2:=aA HB hx;clear hx c0 c1 c2 HB;cases hwd:cy s2 s3 s4
   ·rw[hwd]at HO;have HO':Hid (okV L k=false):=HO;go_wp2_with fail;go_ret;exact⟨by rw[oa (by rw[yx HL];exact hkn) (yx HO')];rfl,yx HB2⟩
   rw[hwd,Bool.true_and]at HO;have HWD:=yz hwd;clear hwd;go_wp2_with fail;go_loopw [4] (fun i wr=>∃j:Nat,j≤k∧i=J Z j∧Hid (nk L (s2,s3,s4) j)∧Hid (Below w.heap.size w wr)) (fun i _=>k-(intOf i).toNat)
   case atStart=>exact⟨0,by omega,rfl,yz (fun j hj=>absurd hj (Nat.not_lt_zero _)),HB2⟩
   case round=>
    clear HB2;obtain⟨j,hj,rfl,HN,HB3⟩:=hrel;by_cases hjk:j<k
    ·have hjk2:(j:Int)<(k:Int):=by omega
     have hjn2:(j:Int)<(n:Int):=by omega
     have HWJ:=yz (lq (yx HF j hjk));obtain⟨⟨t2,t3,t4⟩,ht⟩:∃s,vA L j=s:=⟨_,rfl⟩
     have hst:=((yx HC) k hkn).kept hb (yx HB3);have htt:=((yx HC) j (by omega)).kept hb (yx HB3);rw[yx HT]at hst;rw[ht]at htt HWJ;obtain⟨c0,c1,c2⟩:=hst;obtain⟨d0,d1,d2⟩:=htt;have HTJ:=yz ht;clear ht
     have cS:Hid (∀W:World,Calls Tryz.prog 101 #[.agg #[J Z t2,J Z t3,J Z t4],.agg #[J Z s2,J Z s3,J Z s4]] W fun e w'=>e=.returned (.bool (bS (s2,s3,s4) (t2,t3,t4)))∧Below W.heap.size W w'):=yz (fun W=>by
      rw[wX (p:=(s2,s3,s4)) (q:=(t2,t3,t4)) (yx HWD) (yx HWJ)]
      exact tM (t2,t3,t4) (s2,s3,s4) W (fU (yx HWJ)).1 (fU (yx HWD)).1)
     have HSM:Hid (bS (s2,s3,s4) (vA L j)=bS (s2,s3,s4) (t2,t3,t4)):=yz (by rw[yx HTJ]);generalize bS (s2,s3,s4) (t2,t3,t4)=sm at *;have r0:=cell_regrown c0;have r1:=cell_regrown c1;have r2:=cell_regrown c2;have q0:=cell_regrown d0;have q1:=cell_regrown d1;have q2:=cell_regrown d2;clear c0 c1 c2 d0 d1 d2;go_wp2_with fail;refine bQ ?_;repeat (go_big_quiet_step (with_reducible first | exact aC cS))
     refine bW fun dq osq=>?_;have hx:=aj (yx HB3) (below_regrown wr dq osq);generalize grow (redrawn wr dq) osq=W4 at hx ⊢;have HB4:=yz hx;clear hx HB3 cS r0 r1 r2 q0 q1 q2;cases sm
     ·go_wp2_with fail;go_roundw
      case rel=>exact⟨j+1,by omega,by go_num,yz (qY (yx HN) (yx HSM)),HB4⟩
      case measure=>simp[intOf];omega
     ·have HO':Hid (okV L k=false):=yz (by rw[yx HO,un hjk (yx HSM)];rfl);go_wp2_with fail;go_ret;exact⟨by rw[oa (by rw[yx HL];exact hkn) (yx HO')];rfl,yx HB4⟩
    ·have hjk':j=k:=by omega
     subst hjk';have HO':Hid (okV L j=true):=yz (by rw[yx HO,xy (yx HN)];rfl);go_wp2_with fail;go_roundw
     case rel=>exact⟨j+1,by omega,by go_num,yz (yE (yx HF) (yx HO')),HB3⟩
     case measure=>simp[intOf];omega
  ·have hkn':k=n:=by omega
   have HO:Hid (aL L=true):=yz (lW (by rw[yx HL];omega) (by rw[yx HL,←hkn'];exact yx HF));go_wp2_with fail;go_ret;exact⟨by rw[yx HO];rfl,yx HB⟩
end
section
open Go.RowKit Go.Sort
def ng(w:World)(b n:Nat)(L:List D3)(k:Nat):Prop:=∃cur:Array Value,w.heap[b]? = some (.cells cur 111 (0,0))∧cur.size=n*3 ∧
 ∀j,j<k→cur[j*3]? = some (.int .i64 (vA L j).1)∧cur[j*3+1]? = some (.int .i64 (vA L j).2.1)∧cur[j*3+2]? = some (.int .i64 (vA L j).2.2)
variable {b k:Nat} {w:World}
theorem ng.lt{n:Nat}{L:List D3}(h:ng w b n L k):b<w.heap.size:=by
 obtain⟨cur,hc,_⟩:=h;exact(Array.getElem?_eq_some_iff.1 hc).1
theorem ng.kept{w':World}{n:Nat}{L:List D3}(h:ng w b n L k)(hB:Below w.heap.size w w'):ng w' b n L k:=by
 have hl:=h.lt;obtain⟨cur,hc,r⟩:=h;exact⟨cur,by rw[hB.block b hl];exact hc,r⟩
theorem ng.dirs{n:Nat}{L:List D3}(h:ng w b n L k):bi w (some ⟨b,0,none⟩) L k:=by
 have hl:=h.lt;obtain⟨cur,hc,_,hs⟩:=h;refine .inr ⟨b,0,rfl,hl,fun i hi=>?_⟩;obtain⟨h0,h1,h2⟩:=hs i hi;rw[Nat.zero_add];exact⟨by rw[cell_of_row w b _ cur _ _ hc];exact h0,by rw[cell_of_row w b _ cur _ _ hc];exact h1,by rw[cell_of_row w b _ cur _ _ hc];exact h2⟩
theorem ng.old{n i:Nat}{L:List D3}(h:ng w b n L k)(hi:i<n*3):∃v,w.cell? ⟨b,i,none⟩=some v:=by
 obtain⟨cur,hc,hn,_⟩:=h;rw[cell_of_row w b _ cur _ _ hc];exact⟨cur[i],Array.getElem?_eq_getElem (by omega)⟩
theorem ng.free{n:Nat}{L:List D3}(h:ng w b n L k)(i:Nat):w.frozen? ⟨b,i,none⟩=false:=by
 obtain⟨cur,hc,_⟩:=h;exact frozen_of_row w b i cur _ hc
def set3(w:World)(b o:Nat)(s:D3):World:=((w.setCell ⟨b,o,none⟩ (.int .i64 s.1)).setCell ⟨b,o+1,none⟩ (.int .i64 s.2.1)).setCell ⟨b,o+2,none⟩ (.int .i64 s.2.2)
theorem ng.step{n:Nat}{L:List D3}(h:ng w b n L k)(hk:k<n):ng (set3 w b (k*3) (vA L k)) b n L (k+1):=by
 obtain⟨cur,hc,hn,hs⟩:=h;have e1:=heap_setCell_same w b (k*3) cur _ (.int .i64 (vA L k).1) hc;have e2:=heap_setCell_same _ b (k*3+1) _ _ (.int .i64 (vA L k).2.1) e1;have e3:=heap_setCell_same _ b (k*3+2) _ _ (.int .i64 (vA L k).2.2) e2;refine⟨_,e3,by simpa using hn,fun j hj=>?_⟩;by_cases e:j=k
 ·subst e;refine⟨?_,?_,?_⟩<;>simp[Array.getElem?_setIfInBounds]<;>omega
 ·obtain⟨h0,h1,h2⟩:=hs j (by omega);refine⟨?_,?_,?_⟩
  ·simp only[Array.getElem?_setIfInBounds];rw[if_neg (by omega),if_neg (by omega),if_neg (by omega)];exact h0
  ·simp only[Array.getElem?_setIfInBounds];rw[if_neg (by omega),if_neg (by omega),if_neg (by omega)];exact h1
  ·simp only[Array.getElem?_setIfInBounds];rw[if_neg (by omega),if_neg (by omega),if_neg (by omega)];exact h2
end
section
open Go.Value renaming int → J
open Go.IntKind renaming i64 → Z
open Go.RowKit Go.Sort
variable {w:World}
theorem ba{B:Nat}{w1:World}(h:Below B w w1){b:Nat}(hb:B≤b)(o:Nat)(v:Value):Below B w (w1.setCell ⟨b,o,none⟩ v):=h.setCell hb v
theorem lI{b:Nat}{L:List Value}{t:TypeId}(h:Blk w b L t)(hl:L.length=11)(kind A B C D wd ht lv fo:Int)(px:ByteArray)(v:Value):Blk (((((((((((w.setCell ⟨b,0,none⟩ (J Z kind)).setCell ⟨b,1,none⟩ (J Z A)).setCell ⟨b,2,none⟩ (J Z B)).setCell ⟨b,3,none⟩ (J Z C)).setCell ⟨b,4,none⟩ (J Z D)).setCell ⟨b,5,none⟩ v).setCell ⟨b,6,none⟩ (J Z wd)).setCell ⟨b,7,none⟩ (J Z ht)).setCell ⟨b,8,none⟩ (.string px)).setCell ⟨b,9,none⟩ (J Z lv)).setCell ⟨b,10,none⟩ (J Z fo)) b [J Z kind,J Z A,J Z B,J Z C,J Z D,v,J Z wd,J Z ht,.string px,J Z lv,J Z fo] t:=by
 match L,hl with
 | [x0,x1,x2,x3,x4,x5,x6,x7,x8,x9,x10],_=>exact((((((((((h.set 0 _).set 1 _).set 2 _).set 3 _).set 4 _).set 5 _).set 6 _).set 7 _).set 8 _).set 9 _).set 10 _
end
section
open Go.Value renaming int → J
open Go.IntKind renaming i64 → Z
open Go.RowKit
theorem yO{a b:Int}(h:b≠0)(hb:-1000000≤b∧b≤1000000):wrap64 (a.tmod b)=a.tmod b∧-1000000≤a.tmod b∧a.tmod b≤1000000:=by
 have:=xo a b h;have h2:-1000000≤a.tmod b∧a.tmod b≤1000000:=by omega
 exact⟨aq (by omega) (by omega),h2⟩
theorem dy(w:World)(n:Nat):Below w.heap.size w (w.drewN n):=⟨rfl,rfl,rfl,Nat.le_refl _,fun _ _=>rfl⟩
theorem gj(a b:Int)(w:World)(ha:-1000000≤a∧a≤1000000)(hb:-1000000≤b∧b≤1000000):
  Calls Tryz.prog 158 #[J Z a,J Z b] w fun e w'=>e=.returned (J Z ((Int.gcd a b:Nat):Int))∧∃n,w'=w.drewN n:=by
 go_enter Tryz.func158,Tryz.ntmps158;go_wp2;go_loopw [0,1] (fun u v wr=>∃p q:Int,u=J Z p∧v=J Z q∧Hid (-1000000≤p∧p≤1000000)∧Hid (-1000000≤q∧q≤1000000)∧Hid (Int.gcd p q=Int.gcd a b)∧∃n,wr=w.drewN n) (fun _ v _=>(intOf v).natAbs)
 case atStart=>exact⟨a,b,rfl,rfl,yz ha,yz hb,yz rfl,0,rfl⟩
 case round=>
  obtain⟨p,q,rfl,rfl,hp,hq,hg,nd,rfl⟩:=hrel;by_cases h0:q=0
  ·subst h0;have HG:=yz (yb p);by_cases hn:p<0
   ·have HW:Hid (wrap64 (-p) = -p):=yz (by have:=yx hp;exact aq (by omega) (by omega));have HR:=yz (show ((Int.gcd a b:Nat):Int) = -p by rw[←yx hg,yx HG,if_pos hn]);go_wp2;go_ret;exact⟨by rw[yx HR];exact congrArg (fun x=>Ending.returned (Value.int .i64 x)) (yx HW),nd,rfl⟩
   ·have HR:=yz (show ((Int.gcd a b:Nat):Int)=p by rw[←yx hg,yx HG,if_neg hn]);go_wp2;go_ret;exact⟨by rw[yx HR];rfl,nd,rfl⟩
  ·have hz:(q==0)=false:=by simp[h0]
   have hr:=yO (a:=p) h0 (yx hq);have HL:=yz (xo p q h0);have HS:=yz (ya p q);obtain⟨r,hre⟩:∃r,p.tmod q=r:=⟨_,rfl⟩
   have hrw:=hr.1;have HRB:=yz hr.2;rw[hre]at hrw HRB HL HS;clear hr;go_wp2;go_region
   go_wp2;go_roundw
   case rel=>exact⟨q,r,rfl,rfl,hq,HRB,yz ((yx HS).trans (yx hg)),nd+1,rfl⟩
   case measure=>simp[intOf];exact yx HL
theorem iS(a b:Int)(w:World)(ha:-1000000≤a∧a≤1000000)(hb:-1000000≤b∧b≤1000000):
  Calls Tryz.prog 137 #[J Z a,J Z b] w fun e w'=>e=.returned (J Z ((Int.gcd a b:Nat):Int))∧∃n,w'=w.drewN n:=by
 go_enter Tryz.func137,Tryz.ntmps137;go_wp2;go_loopw [0,1] (fun u v wr=>∃p q:Int,u=J Z p∧v=J Z q∧Hid (-1000000≤p∧p≤1000000)∧Hid (-1000000≤q∧q≤1000000)∧Hid (Int.gcd p q=Int.gcd a b)∧∃n,wr=w.drewN n) (fun _ v _=>(intOf v).natAbs)
 case atStart=>exact⟨a,b,rfl,rfl,yz ha,yz hb,yz rfl,0,rfl⟩
 case round=>
  obtain⟨p,q,rfl,rfl,hp,hq,hg,nd,rfl⟩:=hrel;by_cases h0:q=0
  ·subst h0;have HG:=yz (yb p);by_cases hn:p<0
   ·have HW:Hid (wrap64 (-p) = -p):=yz (by have:=yx hp;exact aq (by omega) (by omega));have HR:=yz (show ((Int.gcd a b:Nat):Int) = -p by rw[←yx hg,yx HG,if_pos hn]);go_wp2;go_ret;exact⟨by rw[yx HR];exact congrArg (fun x=>Ending.returned (Value.int .i64 x)) (yx HW),nd,rfl⟩
   ·have HR:=yz (show ((Int.gcd a b:Nat):Int)=p by rw[←yx hg,yx HG,if_neg hn]);go_wp2;go_ret;exact⟨by rw[yx HR];rfl,nd,rfl⟩
  ·have hz:(q==0)=false:=by simp[h0]
   have hr:=yO (a:=p) h0 (yx hq);have HL:=yz (xo p q h0);have HS:=yz (ya p q);obtain⟨r,hre⟩:∃r,p.tmod q=r:=⟨_,rfl⟩
   have hrw:=hr.1;have HRB:=yz hr.2;rw[hre]at hrw HRB HL HS;clear hr;go_wp2;go_roundw
   case rel=>exact⟨q,r,rfl,rfl,hq,HRB,yz ((yx HS).trans (yx hg)),nd,rfl⟩
   case measure=>simp[intOf];exact yx HL
theorem ku(x y z:Int)(w:World)(hr:ax x y z=true):
  Calls Tryz.prog 100 #[.agg #[J Z x,J Z y,J Z z]] w fun e w'=>e=.returned (.agg #[J Z (wrap64 (x.tdiv (gI x y z))),J Z (wrap64 (y.tdiv (gI x y z))),J Z (wrap64 (z.tdiv (gI x y z)))])∧Below w.heap.size w w':=by
 obtain⟨⟨hx,hy,hz⟩,_⟩:=bC.1 hr;have hg1:=mM hx hy;have hpos:=ES hr;go_enter Tryz.func100,Tryz.ntmps100;go_wp2_with fail;go_quiet (first | (go_at_call_of 137 (Value.int IntKind.i64 x);refine Calls.quiet_of (iS x y _ hx hy)) | (go_at_call 137;refine Calls.quiet_of (iS _ z _ ?_ hz);omega))
 have hz0:(gI x y z==0)=false:=by simp;omega
 have hgi:((Int.gcd ((Int.gcd x y:Nat):Int) z:Nat):Int)=gI x y z:=rfl;rw[hgi];clear hgi;generalize hge:gI x y z=g at hpos hz0 ⊢;have HG:=yz hge;clear hge;have va:aD (((w.alloc (.cells #[J Z x,J Z y,J Z z] 111)).alloc (.cells #[J Z 0,J Z 0,J Z 0] 111)).drewN nq) w.heap.size x y z:=((aG w x y z _).alloc (by simp) _)
 have vr:aD (((w.alloc (.cells #[J Z x,J Z y,J Z z] 111)).alloc (.cells #[J Z 0,J Z 0,J Z 0] 111)).drewN nq) (w.heap.size+1) 0 0 0:=(by simpa using aG (w.alloc (.cells #[J Z x,J Z y,J Z z] 111)) 0 0 0 111:aD ((w.alloc (.cells #[J Z x,J Z y,J Z z] 111)).alloc (.cells #[J Z 0,J Z 0,J Z 0] 111)) (w.heap.size+1) 0 0 0)
 have fr:dE (((w.alloc (.cells #[J Z x,J Z y,J Z z] 111)).alloc (.cells #[J Z 0,J Z 0,J Z 0] 111)).drewN nq) (w.heap.size+1):=(by simpa using em (w.alloc (.cells #[J Z x,J Z y,J Z z] 111)) 0 0 0 111:dE ((w.alloc (.cells #[J Z x,J Z y,J Z z] 111)).alloc (.cells #[J Z 0,J Z 0,J Z 0] 111)) (w.heap.size+1))
 have hB:Below w.heap.size w (((w.alloc (.cells #[J Z x,J Z y,J Z z] 111)).alloc (.cells #[J Z 0,J Z 0,J Z 0] 111)).drewN nq):=aj (aF _ _ _) (dy _ _);generalize ((w.alloc (.cells #[J Z x,J Z y,J Z z] 111)).alloc (.cells #[J Z 0,J Z 0,J Z 0] 111)).drewN nq=w1 at va vr fr hB ⊢;obtain⟨ca0,ca1,ca2⟩:=va;obtain⟨cr0,cr1,cr2⟩:=vr;obtain⟨fr0,fr1,fr2⟩:=fr;clear hg1 hx hy hz hr;go_wp2_with fail;go_region
 go_wp2;exact bodyPost_ret (v:=.agg #[J Z (wrap64 (x.tdiv g)),J Z (wrap64 (y.tdiv g)),J Z (wrap64 (z.tdiv g))]) (by simp[results,Tryz.results100,go_sem,cr0,cr1,cr2]) rfl ⟨by rw[yx HG],(bT hB (by omega) _ _ _).drew⟩
end
end Go.Proofs.YteoonaanoenjiaaGreatDoor
