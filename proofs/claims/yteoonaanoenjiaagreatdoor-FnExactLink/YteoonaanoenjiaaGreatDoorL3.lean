/- Several texts in one: TurnA, CmB, CmC, TurnB, TurnC, SkyA, VecG, SkyB, Scope, Scan, Place. -/
import Derived.Defers
import Derived.Recover
import Derived.LaidEql
import Derived.Stop.Asserts
import Derived.RowKitTokens
import Derived.Scope
import Derived.WalkMore
import Derived.Test.YteoonaanoenjiaaGreatDoorL2
namespace Go.Proofs.YteoonaanoenjiaaGreatDoor
set_option linter.unusedVariables false
set_option linter.unusedSimpArgs false
set_option maxRecDepth 100000
set_option maxHeartbeats 8000000
section
open Go.Value renaming int → J
open Go.IntKind renaming i64 → Z
open Go.RowKit
def bd(w:World)(b:Nat)(p q r s:Int):Prop:=w.cell? ⟨b,0,none⟩=some (J Z p)∧w.cell? ⟨b,1,none⟩=some (J Z q)∧w.cell? ⟨b,2,none⟩=some (J Z r)∧w.cell? ⟨b,3,none⟩=some (J Z s)
def qU(w:World)(b:Nat):Prop:=w.frozen? ⟨b,0,none⟩=false∧w.frozen? ⟨b,1,none⟩=false∧w.frozen? ⟨b,2,none⟩=false∧w.frozen? ⟨b,3,none⟩=false
variable {p q r s:Int} {b:Nat} {w w' w1:World}
theorem bd.kept(h:bd w b p q r s)(hb:b<w.heap.size)(hB:Below w.heap.size w w'):bd w' b p q r s:=by
 obtain⟨h0,h1,h2,h3⟩:=h;exact⟨by rw[hB.cell (p:=⟨b,0,none⟩) hb];exact h0,by rw[hB.cell (p:=⟨b,1,none⟩) hb];exact h1,by rw[hB.cell (p:=⟨b,2,none⟩) hb];exact h2,by rw[hB.cell (p:=⟨b,3,none⟩) hb];exact h3⟩
theorem qU.kept(h:qU w b)(hb:b<w.heap.size)(hB:Below w.heap.size w w'):qU w' b:=by
 obtain⟨h0,h1,h2,h3⟩:=h;exact⟨by rw[hB.frozen (p:=⟨b,0,none⟩) hb];exact h0,by rw[hB.frozen (p:=⟨b,1,none⟩) hb];exact h1,by rw[hB.frozen (p:=⟨b,2,none⟩) hb];exact h2,by rw[hB.frozen (p:=⟨b,3,none⟩) hb];exact h3⟩
theorem bh(w:World)(p q r s:Int)(t:TypeId):bd (w.alloc (.cells #[J Z p,J Z q,J Z r,J Z s] t)) w.heap.size p q r s:=by
 refine⟨?_,?_,?_,?_⟩<;>simp
theorem CR(w:World)(p q r s:Int)(t:TypeId):qU (w.alloc (.cells #[J Z p,J Z q,J Z r,J Z s] t)) w.heap.size:=by
 refine⟨?_,?_,?_,?_⟩<;>simp
theorem bd.lt(h:bd w b p q r s):b<w.heap.size:=World.block_lt_of_cell? w _ h.1
theorem bd.alloc(h:bd w b p q r s)(o:Obj):bd (w.alloc o) b p q r s:=h.kept h.lt (ak _ _)
theorem qZ(h:Below w.heap.size w w1)(hb:w.heap.size≤b)(x y z u:Value):Below w.heap.size w ((((w1.setCell ⟨b,0,none⟩ x).setCell ⟨b,1,none⟩ y).setCell ⟨b,2,none⟩ z).setCell ⟨b,3,none⟩ u):=(((h.setCell hb _).setCell hb _).setCell hb _).setCell hb _
theorem ck(h:Below w.heap.size w w1)(hb:w.heap.size≤b)(x y z u v:Value):Below w.heap.size w (((((w1.setCell ⟨b,0,none⟩ x).setCell ⟨b,1,none⟩ y).setCell ⟨b,2,none⟩ z).setCell ⟨b,3,none⟩ u).setCell ⟨b,4,none⟩ v):=((((h.setCell hb _).setCell hb _).setCell hb _).setCell hb _).setCell hb _
theorem th(p q r s:Int)(w:World):
  Calls Tryz.prog 157 #[.agg #[J Z p,J Z q,J Z r,J Z s]] w fun e w'=>e=.returned (.agg #[J Z p,J Z q,J Z r,J Z s])∧Below w.heap.size w w':=by
 go_enter Tryz.func157,Tryz.ntmps157;go_wp2;exact bodyPost_ret (v:=.agg #[J Z p,J Z q,J Z r,J Z s]) (by simp[results,Tryz.results157,go_sem]) rfl ⟨rfl,aF _ _ _⟩
theorem ro(a1 a2 a3 a4 b1 b2 b3 b4:Int)(w:World):(Op.equalIn 10000 35 (.agg #[J Z a1,J Z a2,J Z a3,J Z a4]) (.agg #[J Z b1,J Z b2,J Z b3,J Z b4])).run Tryz.prog w=.ok (eqT a1 a2 a3 a4 b1 b2 b3 b4) w:=by
 have h:=run_equalIn_struct (P:=Tryz.prog) w 9999 35 #[J Z a1,J Z a2,J Z a3,J Z a4] #[J Z b1,J Z b2,J Z b3,J Z b4] (by kernel_rfl) (by kernel_rfl);refine h.trans ?_;by_cases h1:a1=b1
 ·by_cases h2:a2=b2
  ·by_cases h3:a3=b3
   ·by_cases h4:a4=b4
    ·simp[go_sem,eqT,h1,h2,h3,h4]
    ·simp[go_sem,eqT,h1,h2,h3,h4]
   ·simp[go_sem,eqT,h1,h2,h3]
  ·simp[go_sem,eqT,h1,h2]
 ·simp[go_sem,eqT,h1]
theorem Fp(a1 a2 a3 a4 b1 b2 b3 b4:Int)(w:World):(binOp .neq 35 (.agg #[J Z a1,J Z a2,J Z a3,J Z a4]) (.agg #[J Z b1,J Z b2,J Z b3,J Z b4])).run Tryz.prog w=.ok (.bool (!eqT a1 a2 a3 a4 b1 b2 b3 b4)) w:=by
 rw[run_neq_struct,ro];rfl
theorem fO(a1 a2 a3 a4 b1 b2 b3 b4:Int)(w:World):(binOp .eql 35 (.agg #[J Z a1,J Z a2,J Z a3,J Z a4]) (.agg #[J Z b1,J Z b2,J Z b3,J Z b4])).run Tryz.prog w=.ok (.bool (eqT a1 a2 a3 a4 b1 b2 b3 b4)) w:=by
 rw[run_eql_struct,ro];rfl
theorem lC(m p q r s:Int)(w:World)(hm0:0≤m)(hm:m≤1000000):
  Calls Tryz.prog 117 #[.agg #[J Z p,J Z q,J Z r,J Z s],J Z m] w fun e w'=>e=.returned (.bool (inT m p q r s))∧Below w.heap.size w w':=by
 have i0:∀w:World,(Instr.index 206 (.agg #[J Z p,J Z q,J Z r,J Z s]) (J Z 0)).run Tryz.prog w=.ok (J Z p) w:=fun _=>by kernel_rfl
 have i1:∀w:World,(Instr.index 206 (.agg #[J Z p,J Z q,J Z r,J Z s]) (J Z 1)).run Tryz.prog w=.ok (J Z q) w:=fun _=>by kernel_rfl
 have i2:∀w:World,(Instr.index 206 (.agg #[J Z p,J Z q,J Z r,J Z s]) (J Z 2)).run Tryz.prog w=.ok (J Z r) w:=fun _=>by kernel_rfl
 have i3:∀w:World,(Instr.index 206 (.agg #[J Z p,J Z q,J Z r,J Z s]) (J Z 3)).run Tryz.prog w=.ok (J Z s) w:=fun _=>by kernel_rfl
 have hwr:wrap64 (-m) = -m:=aq (by omega) (by omega);go_enter Tryz.func117,Tryz.ntmps117;go_wp2_with fail;refine(th p q r s _).mono ?_;rintro e w1 ⟨rfl,hB1⟩;have hB:Below w.heap.size w w1:=aj (ak _ _) hB1;clear hB1;go_wp2_with fail;go_loop [9] (fun i=>∃k:Nat,k≤4∧i=J Z k∧Hid (0<k→inB m p=true)∧Hid (1<k→inB m q=true)∧Hid (2<k→inB m r=true)∧Hid (3<k→inB m s=true)) (fun i=>4-(intOf i).toNat)
 case atStart=>exact⟨0,Nat.zero_le _,rfl,yz (by omega),yz (by omega),yz (by omega),yz (by omega)⟩
 case round=>
  obtain⟨k,hk,rfl,hx,hy,hz,hu⟩:=hrel;have hk5:k=0∨k=1∨k=2∨k=3∨k=4:=by omega
  rcases hk5 with rfl | rfl | rfl | rfl | rfl
  ·by_cases q1:-m≤p
   ·by_cases q2:p≤m
    ·have HI:=yz (iy.2 ⟨q1,q2⟩);go_wp2;go_round
     case rel=>exact⟨1,by omega,rfl,yz (fun _=>yx HI),yz (by omega),yz (by omega),yz (by omega)⟩
     case measure=>simp[intOf]
    ·have HO:=yz (nP (m:=m) (x:=p) (fun h=>q2 h.2));go_wp2;go_ret;exact⟨by simp[inT,yx HO],hB⟩
   ·have HO:=yz (nP (m:=m) (x:=p) (fun h=>q1 h.1));go_wp2;go_ret;exact⟨by simp[inT,yx HO],hB⟩
  ·by_cases q1:-m≤q
   ·by_cases q2:q≤m
    ·have HI:=yz (iy.2 ⟨q1,q2⟩);go_wp2;go_round
     case rel=>exact⟨2,by omega,rfl,yz (fun _=>yx hx (by omega)),yz (fun _=>yx HI),yz (by omega),yz (by omega)⟩
     case measure=>simp[intOf]
    ·have HO:=yz (nP (m:=m) (x:=q) (fun h=>q2 h.2));go_wp2;go_ret;exact⟨by simp[inT,yx HO],hB⟩
   ·have HO:=yz (nP (m:=m) (x:=q) (fun h=>q1 h.1));go_wp2;go_ret;exact⟨by simp[inT,yx HO],hB⟩
  ·by_cases q1:-m≤r
   ·by_cases q2:r≤m
    ·have HI:=yz (iy.2 ⟨q1,q2⟩);go_wp2;go_round
     case rel=>exact⟨3,by omega,rfl,yz (fun _=>yx hx (by omega)),yz (fun _=>yx hy (by omega)),yz (fun _=>yx HI),yz (by omega)⟩
     case measure=>simp[intOf]
    ·have HO:=yz (nP (m:=m) (x:=r) (fun h=>q2 h.2));go_wp2;go_ret;exact⟨by simp[inT,yx HO],hB⟩
   ·have HO:=yz (nP (m:=m) (x:=r) (fun h=>q1 h.1));go_wp2;go_ret;exact⟨by simp[inT,yx HO],hB⟩
  ·by_cases q1:-m≤s
   ·by_cases q2:s≤m
    ·have HI:=yz (iy.2 ⟨q1,q2⟩);go_wp2;go_round
     case rel=>exact⟨4,by omega,rfl,yz (fun _=>yx hx (by omega)),yz (fun _=>yx hy (by omega)),yz (fun _=>yx hz (by omega)),yz (fun _=>yx HI)⟩
     case measure=>simp[intOf]
    ·have HO:=yz (nP (m:=m) (x:=s) (fun h=>q2 h.2));go_wp2;go_ret;exact⟨by simp[inT,yx HO],hB⟩
   ·have HO:=yz (nP (m:=m) (x:=s) (fun h=>q1 h.1));go_wp2;go_ret;exact⟨by simp[inT,yx HO],hB⟩
  ·go_wp2;go_ret;exact⟨by simp[inT,yx hx (by omega),yx hy (by omega),yx hz (by omega),yx hu (by omega)],hB⟩
end
section
open Go.Value renaming int → J
open Go.IntKind renaming i64 → Z
open Go.RowKit Go.Sort
def ce(b:Addr)(w:World):Prop:=w.cell? ⟨0,0,none⟩=some (.iface 309 (.pointer (some b)))
variable {b:Addr} {w:World}
theorem ce.lt(h:ce b w):0<w.heap.size:=World.block_lt_of_cell? w _ h
theorem ce.kept{w':World}(h:ce b w)(hB:Below w.heap.size w w'):ce b w':=by
 unfold ce;rw[hB.cell (p:=⟨0,0,none⟩) h.lt];exact h
def ey(b:Addr):Ending:=.panicked [{ v:=.iface 309 (.pointer (some b)),recovered:=false }]
theorem ea(w:World):Calls Tryz.prog 73 #[.bool true] w fun e w'=>e=.returned (.tuple #[])∧w'=w:=by
 go_enter Tryz.func73,Tryz.ntmps73;go_wp2;go_end0
 exact⟨rfl,rfl⟩
theorem dZ(p:Addr)(w:World)(h:ce p w):Calls Tryz.prog 73 #[.bool false] w fun e w'=>e=ey p∧w'=w:=by
 unfold ce at h;go_enter Tryz.func73,Tryz.ntmps73;go_wp2;exact⟨rfl,rfl,rfl⟩
def km(a b a' b':Int)(s s':ByteArray):Bool:=decide (a=a')&&decide (b=b')&&decide (s.toList=s'.toList)
theorem xQ(a b a' b':Int)(s s':ByteArray)(w:World):(Op.equalIn 10000 43 (.agg #[J Z a,J Z b,.string s]) (.agg #[J Z a',J Z b',.string s'])).run Tryz.prog w=.ok (km a b a' b' s s') w:=by
 have h:=run_equalIn_struct (P:=Tryz.prog) w 9999 43 #[J Z a,J Z b,.string s] #[J Z a',J Z b',.string s'] (by kernel_rfl) (by kernel_rfl);refine h.trans ?_;by_cases h1:a=a'
 ·by_cases h2:b=b'
  ·by_cases h3:s.toList=s'.toList
   ·simp[go_sem,km,h1,h2,h3]
   ·simp[go_sem,km,h1,h2,h3]
  ·simp[go_sem,km,h1,h2]
 ·simp[go_sem,km,h1]
theorem iH(a b a' b':Int)(s s':ByteArray)(w:World):(binOp .eql 43 (.agg #[J Z a,J Z b,.string s]) (.agg #[J Z a',J Z b',.string s'])).run Tryz.prog w=.ok (.bool (km a b a' b' s s')) w:=by
 rw[run_eql_struct,xQ];rfl
theorem oz(a a':Option Addr)(n m c c':Nat)(w:World)(hne:n≠m):
  Calls Tryz.prog 120 #[.slice a n c,.slice a' m c'] w fun e w'=>e=.returned (.bool false)∧Below w.heap.size w w':=by
 have h:¬(n:Int)=(m:Int):=by omega
 go_enter Tryz.func120,Tryz.ntmps120;go_wp2_with fail;go_ret;exact⟨rfl,Below.refl _ _⟩
theorem kg(L:List D3)(a a':Option Addr)(n c c':Nat)(w:World)(hn:n≤1048576)(hS:bi w a L n)(hS':bi w a' L n):
  Calls Tryz.prog 120 #[.slice a n c,.slice a' n c'] w fun e w'=>e=.returned (.bool true)∧Below w.heap.size w w':=by
 rcases hS with rfl | ⟨b,o,rfl,hb,hc⟩
 ·go_enter Tryz.func120,Tryz.ntmps120;go_wp2_with fail;refine wp_loop_rounds 1 ?_;rw[rounds_succ];go_wp2_with fail;go_ret;exact⟨rfl,Below.refl _ _⟩
 rcases hS' with rfl | ⟨b',o',rfl,hb',hc'⟩
 ·go_enter Tryz.func120,Tryz.ntmps120;go_wp2_with fail;refine wp_loop_rounds 1 ?_;rw[rounds_succ];go_wp2_with fail;go_ret;exact⟨rfl,Below.refl _ _⟩
 have HC:=yz hc;have HC':=yz hc';clear hc hc';go_enter Tryz.func120,Tryz.ntmps120;go_wp2_with fail;go_loopw [13] (fun i wr=>∃k:Nat,k≤n∧i=J Z k∧Hid (Below w.heap.size w wr)) (fun i _=>n-(intOf i).toNat)
 case atStart=>exact⟨0,by omega,rfl,yz (Below.refl _ _)⟩
 case round=>
  obtain⟨k,hk,rfl,HB⟩:=hrel;by_cases hkn:k<n
  ·have hkn2:(k:Int)<(n:Int):=by omega
   obtain⟨c0,c1,c2⟩:=((yx HC) k hkn).kept hb (yx HB);obtain⟨d0,d1,d2⟩:=((yx HC') k hkn).kept hb' (yx HB);generalize (vA L k).1=x0 at *;generalize (vA L k).2.1=x1 at *;generalize (vA L k).2.2=x2 at *;have r0:=cell_regrown c0;have r1:=cell_regrown c1;have r2:=cell_regrown c2;have t0:=cell_regrown d0;have t1:=cell_regrown d1;have t2:=cell_regrown d2
   have hq:∀W:World,(binOp .neq 111 (.agg #[J Z x0,J Z x1,J Z x2]) (.agg #[J Z x0,J Z x1,J Z x2])).run Tryz.prog W=.ok (.bool false) W:=fun W=>by
    rw[kz];simp[eqB]
   clear c0 c1 c2 d0 d1 d2;go_wp2_with fail;refine bQ ?_;repeat (go_big_quiet_step (fail))
   refine bW fun dq osq=>?_;have hx:=aj (yx HB) (below_regrown wr dq osq);generalize grow (redrawn wr dq) osq=W2 at hx ⊢;have HB2:=yz hx;clear hx HB r0 r1 r2 t0 t1 t2;go_wp2_with fail;go_roundw
   case rel=>exact⟨k+1,by omega,by go_num,HB2⟩
   case measure=>simp[intOf];omega
  ·have hkn':k=n:=by omega
   subst hkn';go_wp2_with fail;go_ret;exact⟨rfl,yx HB⟩
def iW(c d:Cm)(q:Bool):Bool:=decide (c.kind=d.kind)&&eqT c.A c.B c.C c.D d.A d.B d.C d.D&&q&&km c.wd c.ht d.wd d.ht c.px d.px&&decide (c.lv=d.lv)&&decide (c.fo=d.fo)
theorem fW(kind' A' B' C' D' wd' ht' lv' fo' kind A B C D wd ht lv fo:Int)(px' px:ByteArray)(S' S:List D3)(a a':Option Addr)(n m c c':Nat)(q:Bool)(w:World)
  (hq:∀W:World,Below w.heap.size w W→Calls Tryz.prog 120 #[.slice a' m c',.slice a n c] W fun e w'=>e=.returned (.bool q)∧Below W.heap.size W w') :
  Calls Tryz.prog 79 #[.agg #[J Z kind',J Z A',J Z B',J Z C',J Z D',.slice a' m c',J Z wd',J Z ht',.string px',J Z lv',J Z fo'],.agg #[J Z kind,J Z A,J Z B,J Z C,J Z D,.slice a n c,J Z wd,J Z ht,.string px,J Z lv,J Z fo]] w fun e w'=>e=.returned (.bool (iW ⟨kind',A',B',C',D',S',wd',ht',px',lv',fo'⟩ ⟨kind,A,B,C,D,S,wd,ht,px,lv,fo⟩ q))∧Below w.heap.size w w':=by
 have B0:=yz (aF w (.cells #[J Z kind',J Z A',J Z B',J Z C',J Z D',.slice a' m c',J Z wd',J Z ht',.string px',J Z lv',J Z fo'] 45) (.cells #[J Z kind,J Z A,J Z B,J Z C,J Z D,.slice a n c,J Z wd,J Z ht,.string px,J Z lv,J Z fo] 45));have A0:=yz ((ap w [J Z kind',J Z A',J Z B',J Z C',J Z D',.slice a' m c',J Z wd',J Z ht',.string px',J Z lv',J Z fo'] 45).alloc (.cells #[J Z kind,J Z A,J Z B,J Z C,J Z D,.slice a n c,J Z wd,J Z ht,.string px,J Z lv,J Z fo] 45));have U0:=yz (by simpa using ap (w.alloc (.cells #[J Z kind',J Z A',J Z B',J Z C',J Z D',.slice a' m c',J Z wd',J Z ht',.string px',J Z lv',J Z fo'] 45)) [J Z kind,J Z A,J Z B,J Z C,J Z D,.slice a n c,J Z wd,J Z ht,.string px,J Z lv,J Z fo] 45:Blk ((w.alloc (.cells #[J Z kind',J Z A',J Z B',J Z C',J Z D',.slice a' m c',J Z wd',J Z ht',.string px',J Z lv',J Z fo'] 45)).alloc (.cells #[J Z kind,J Z A,J Z B,J Z C,J Z D,.slice a n c,J Z wd,J Z ht,.string px,J Z lv,J Z fo] 45)) (w.heap.size+1) [J Z kind,J Z A,J Z B,J Z C,J Z D,.slice a n c,J Z wd,J Z ht,.string px,J Z lv,J Z fo] 45);have cQ:=yz (hq _ (yx B0));clear hq;obtain⟨y1,e1⟩:∃y,decide (kind'=kind)=y:=⟨_,rfl⟩
 obtain⟨y2,e2⟩:∃y,eqT A' B' C' D' A B C D=y:=⟨_,rfl⟩
 obtain⟨y4,e4⟩:∃y,km wd' ht' wd ht px' px=y:=⟨_,rfl⟩
 obtain⟨y5,e5⟩:∃y,decide (lv'=lv)=y:=⟨_,rfl⟩
 obtain⟨y6,e6⟩:∃y,decide (fo'=fo)=y:=⟨_,rfl⟩
 have HO:Hid (iW ⟨kind',A',B',C',D',S',wd',ht',px',lv',fo'⟩ ⟨kind,A,B,C,D,S,wd,ht,px,lv,fo⟩ q=(y1&&y2&&q&&y4&&y5&&y6)):=yz (by unfold iW;dsimp only;rw[e1,e2,e4,e5,e6]);have x1:(kind'==kind)=y1:=by rw[←e1];rfl
 have x5:(lv'==lv)=y5:=by rw[←e5];rfl
 have x6:(fo'==fo)=y6:=by rw[←e6];rfl
 have x2:∀W:World,(binOp .eql 35 (.agg #[J Z A',J Z B',J Z C',J Z D']) (.agg #[J Z A,J Z B,J Z C,J Z D])).run Tryz.prog W=.ok (.bool y2) W:=fun W=>by rw[fO,e2]
 have x4:∀W:World,(binOp .eql 43 (.agg #[J Z wd',J Z ht',.string px']) (.agg #[J Z wd,J Z ht,.string px])).run Tryz.prog W=.ok (.bool y4) W:=fun W=>by rw[iH,e4]
 clear e1 e2 e4 e5 e6;cases y1
 ·go_enter Tryz.func79,Tryz.ntmps79;go_wp2_with fail;go_ret;exact⟨by rw[yx HO];rfl,yx B0⟩
 cases y2
 ·go_enter Tryz.func79,Tryz.ntmps79;go_wp2_with fail;go_ret;exact⟨by rw[yx HO];rfl,yx B0⟩
 go_enter Tryz.func79,Tryz.ntmps79;go_wp2_with fail;refine(yx cQ).mono ?_;rintro e w1 ⟨rfl,hx⟩;have A1:=an A0 hx;have U1:=an U0 hx;have B1:=aA B0 hx;clear hx A0 U0 B0 cQ;have q0:=dF (yx A1);have u0:=dF (yx U1);cases q
 ·go_wp2_with fail;go_ret;exact⟨by rw[yx HO];rfl,yx B1⟩
 cases y4
 ·go_wp2_with fail;go_ret;exact⟨by rw[yx HO];rfl,yx B1⟩
 cases y5
 ·go_wp2_with fail;go_ret;exact⟨by rw[yx HO];rfl,yx B1⟩
 go_wp2_with fail;go_ret;exact⟨by rw[yx HO];simp,yx B1⟩
theorem nR(w:World):Calls Tryz.prog 250 #[.agg #[]] w fun e w'=>e=.returned (.agg #[J Z 1,J Z 0,J Z 0,J Z 0,J Z 0,.slice none 0 0,J Z 0,J Z 0,.string ⟨#[]⟩,J Z 0,J Z 0])∧Below w.heap.size w w':=by
 go_enter Tryz.func250,Tryz.ntmps250;go_wp2;exact bodyPost_ret (v:=.agg #[J Z 1,J Z 0,J Z 0,J Z 0,J Z 0,.slice none 0 0,J Z 0,J Z 0,.string ⟨#[]⟩,J Z 0,J Z 0]) (by simp[results,Tryz.results250,go_sem]) rfl ⟨rfl,aF _ _ _⟩
theorem pF(A B C D:Int)(w:World):Calls Tryz.prog 252 #[.agg #[J Z A,J Z B,J Z C,J Z D]] w fun e w'=>e=.returned (.agg #[J Z 2,J Z A,J Z B,J Z C,J Z D,.slice none 0 0,J Z 0,J Z 0,.string ⟨#[]⟩,J Z 0,J Z 0])∧Below w.heap.size w w':=by
 go_enter Tryz.func252,Tryz.ntmps252;go_wp2;exact bodyPost_ret (v:=.agg #[J Z 2,J Z A,J Z B,J Z C,J Z D,.slice none 0 0,J Z 0,J Z 0,.string ⟨#[]⟩,J Z 0,J Z 0]) (by simp[results,Tryz.results252,go_sem]) rfl ⟨rfl,aF _ _ _⟩
theorem pM(a:Option Addr)(n c:Nat)(w:World):Calls Tryz.prog 254 #[.agg #[.slice a n c]] w fun e w'=>e=.returned (.agg #[J Z 3,J Z 0,J Z 0,J Z 0,J Z 0,.slice a n c,J Z 0,J Z 0,.string ⟨#[]⟩,J Z 0,J Z 0])∧Below w.heap.size w w':=by
 go_enter Tryz.func254,Tryz.ntmps254;go_wp2;exact bodyPost_ret (v:=.agg #[J Z 3,J Z 0,J Z 0,J Z 0,J Z 0,.slice a n c,J Z 0,J Z 0,.string ⟨#[]⟩,J Z 0,J Z 0]) (by simp[results,Tryz.results254,go_sem]) rfl ⟨rfl,aF _ _ _⟩
theorem nz(wd ht lv fo:Int)(px:ByteArray)(w:World):Calls Tryz.prog 256 #[.agg #[J Z wd,J Z ht,.string px,J Z lv,J Z fo]] w fun e w'=>e=.returned (.agg #[J Z 4,J Z 0,J Z 0,J Z 0,J Z 0,.slice none 0 0,J Z wd,J Z ht,.string px,J Z lv,J Z fo])∧Below w.heap.size w w':=by
 go_enter Tryz.func256,Tryz.ntmps256;go_wp2;exact bodyPost_ret (v:=.agg #[J Z 4,J Z 0,J Z 0,J Z 0,J Z 0,.slice none 0 0,J Z wd,J Z ht,.string px,J Z lv,J Z fo]) (by simp[results,Tryz.results256,go_sem]) rfl ⟨rfl,aF _ _ _⟩
theorem Fd(lv:Int)(w:World):Calls Tryz.prog 77 #[J Z lv] w fun e w'=>e=.returned (.bool (bE 0 255 lv))∧w'=w:=by
 by_cases h:0≤lv
 ·go_enter Tryz.func77,Tryz.ntmps77;go_wp2;go_ret;exact⟨by simp[bE,h],rfl⟩
 ·go_enter Tryz.func77,Tryz.ntmps77;go_wp2;go_ret;exact⟨by rw[lA (by omega)];rfl,rfl⟩
theorem Fc(lv:Int)(w:World):Calls Tryz.prog 78 #[J Z lv] w fun e w'=>e=.returned (.bool (bE 1 40 lv))∧w'=w:=by
 by_cases h:1≤lv
 ·go_enter Tryz.func78,Tryz.ntmps78;go_wp2;go_ret;exact⟨by simp[bE,h],rfl⟩
 ·go_enter Tryz.func78,Tryz.ntmps78;go_wp2;go_ret;exact⟨by rw[lA (by omega)];rfl,rfl⟩
end
section
open Go.Value renaming int → J
open Go.IntKind renaming i64 → Z
open Go.RowKit
theorem mF(m a b c d:Int)(w:World)(hm0:0≤m)(hm:m≤1000000):
  Calls Tryz.prog 102 #[.agg #[J Z a,J Z b,J Z c,J Z d],J Z m] w fun e w'=>e=.returned (.bool (inT m a b c d))∧Below w.heap.size w w':=by
 have hwr:wrap64 (-m) = -m:=aq (by omega) (by omega);go_enter Tryz.func102,Tryz.ntmps102;go_wp2_with fail;refine(bp a (-m) m _).mono ?_;rintro e w1 ⟨rfl,rfl⟩;rw[isB];cases ha:inB m a
 ·go_wp2_with fail;go_ret;exact⟨by simp[inT,ha],ak _ _⟩
 ·go_wp2_with fail;refine(bp b (-m) m _).mono ?_;rintro e w1 ⟨rfl,rfl⟩;rw[isB];cases hb:inB m b
  ·go_wp2_with fail;go_ret;exact⟨by simp[inT,hb],ak _ _⟩
  ·go_wp2_with fail;refine(bp c (-m) m _).mono ?_;rintro e w1 ⟨rfl,rfl⟩;rw[isB];cases hc:inB m c
   ·go_wp2_with fail;go_ret;exact⟨by simp[inT,hc],ak _ _⟩
   ·go_wp2_with fail;refine(bp d (-m) m _).mono ?_;rintro e w1 ⟨rfl,rfl⟩;rw[isB];go_wp2_with fail;go_ret;exact⟨by simp[inT,ha,hb,hc],ak _ _⟩
variable {b c d:Int}
theorem fT_0{a:Int}(h:a≠0):fT a b c d=a:=by unfold fT;rw[if_pos h]
theorem fT_1(h:b≠0):fT 0 b c d=b:=by unfold fT;rw[if_neg (by simp),if_pos h]
theorem fT_2(h:c≠0):fT 0 0 c d=c:=by unfold fT;rw[if_neg (by simp),if_neg (by simp),if_pos h]
theorem fT_3:fT 0 0 0 d=d:=by unfold fT;rw[if_neg (by simp),if_neg (by simp),if_neg (by simp)]
theorem kv(a b c d:Int)(w:World):
  Calls Tryz.prog 103 #[.agg #[J Z a,J Z b,J Z c,J Z d]] w fun e w'=>e=.returned (J Z (fT a b c d))∧Below w.heap.size w w':=by
 go_enter Tryz.func103,Tryz.ntmps103;go_wp2_with fail;go_loop [4] (fun i=>∃k:Nat,k≤4∧i=J Z k∧Hid (0<k→a=0)∧Hid (1<k→b=0)∧Hid (2<k→c=0)∧Hid (3<k→d=0)) (fun i=>4-(intOf i).toNat)
 case atStart=>exact⟨0,Nat.zero_le _,rfl,yz (by omega),yz (by omega),yz (by omega),yz (by omega)⟩
 case round=>
  obtain⟨k,hk,rfl,hx,hy,hz,hu⟩:=hrel;have hk5:k=0∨k=1∨k=2∨k=3∨k=4:=by omega
  rcases hk5 with rfl | rfl | rfl | rfl | rfl
  ·have _u:=hk;by_cases h:a=0
   ·subst h;clear hx hy hz hu;go_wp2;go_round
    case rel=>exact⟨1,by omega,rfl,yz (by simp),yz (by omega),yz (by omega),yz (by omega)⟩
    case measure=>simp[intOf]
   ·have HF:Hid (fT a b c d=a):=yz (fT_0 h);clear hx hy hz hu;go_wp2;go_ret;exact⟨by rw[yx HF];rfl,aF _ _ _⟩
  ·have e0:=yx hx (by omega);subst e0;by_cases h:b=0
   ·subst h;clear hx hy hz hu;go_wp2;go_round
    case rel=>exact⟨2,by omega,rfl,yz (by simp),yz (by simp),yz (by omega),yz (by omega)⟩
    case measure=>simp[intOf]
   ·have HF:Hid (fT 0 b c d=b):=yz (fT_1 h);clear hx hy hz hu;go_wp2;go_ret;exact⟨by rw[yx HF];rfl,aF _ _ _⟩
  ·have e0:=yx hx (by omega);have e1:=yx hy (by omega);subst e0 e1;by_cases h:c=0
   ·subst h;clear hx hy hz hu;go_wp2;go_round
    case rel=>exact⟨3,by omega,rfl,yz (by simp),yz (by simp),yz (by simp),yz (by omega)⟩
    case measure=>simp[intOf]
   ·have HF:Hid (fT 0 0 c d=c):=yz (fT_2 h);clear hx hy hz hu;go_wp2;go_ret;exact⟨by rw[yx HF];rfl,aF _ _ _⟩
  ·have e0:=yx hx (by omega);have e1:=yx hy (by omega);have e2:=yx hz (by omega);subst e0 e1 e2;by_cases h:d=0
   ·subst h;clear hx hy hz hu;go_wp2;go_round
    case rel=>exact⟨4,by omega,rfl,yz (by simp),yz (by simp),yz (by simp),yz (by simp)⟩
    case measure=>simp[intOf]
   ·have HF:Hid (fT 0 0 0 d=d):=yz fT_3;clear hx hy hz hu;go_wp2;go_ret;exact⟨by rw[yx HF];rfl,aF _ _ _⟩
  ·have e0:=yx hx (by omega);have e1:=yx hy (by omega);have e2:=yx hz (by omega);have e3:=yx hu (by omega);subst e0 e1 e2 e3;clear hx hy hz hu;go_wp2;go_ret;exact⟨by rw[fT_3];rfl,aF _ _ _⟩
theorem rT(a b c d:Int)(w:World)(h:inT 1000 a b c d=true):
  Calls Tryz.prog 104 #[.agg #[J Z a,J Z b,J Z c,J Z d]] w fun e w'=>e=.returned (J Z (gT a b c d))∧Below w.heap.size w w':=by
 obtain⟨ha,hb,hc,hd⟩:=dx.1 h;have hg1:=mM ha hb;have hg2:=mM hc hd;go_enter Tryz.func104,Tryz.ntmps104;go_wp2_with fail;go_quiet (first | (go_at_call_of 137 (Value.int IntKind.i64 a);refine Calls.quiet_of (iS a b _ (by omega) (by omega))) | (go_at_call_of 137 (Value.int IntKind.i64 c);refine Calls.quiet_of (iS c d _ (by omega) (by omega))) | (go_at_call 137;refine Calls.quiet_of (iS _ _ _ ?_ ?_)<;>omega))
 go_wp2;go_ret;exact⟨rfl,aj (ak _ _) (dy _ _)⟩
theorem cp(a b c d:Int)(w:World):
  Calls Tryz.prog 59 #[.agg #[J Z a,J Z b,J Z c,J Z d]] w fun e w'=>e=.returned (.bool (aE a b c d))∧Below w.heap.size w w':=by
 go_enter Tryz.func59,Tryz.ntmps59;go_wp2_with fail;refine(mF 5 a b c d _ (by omega) (by omega)).mono ?_;rintro e w1 ⟨rfl,hB1⟩;have va:bd w1 w.heap.size a b c d:=(bh w a b c d _).kept (by simp) hB1;have hB:Below w.heap.size w w1:=aj (ak _ _) hB1;clear hB1;have hva:=va;obtain⟨c0,c1,c2,c3⟩:=va;cases h5:inT 5 a b c d
 ·go_wp2_with fail;go_ret;exact⟨by simp[aE,h5],hB⟩
 ·go_wp2_with fail;refine(kv a b c d _).mono ?_;rintro e w2 ⟨rfl,hB2⟩;have va:=hva.kept hva.lt hB2;replace hB:=aj hB hB2;clear hB2 hva c0 c1 c2 c3;have hva:=va;obtain⟨c0,c1,c2,c3⟩:=va;by_cases hf:0<fT a b c d
  ·go_wp2_with fail;refine(rT a b c d _ (yh h5 (by omega))).mono ?_;rintro e w3 ⟨rfl,hB3⟩;replace hB:=aj hB hB3;go_wp2_with fail;go_ret;exact⟨by rw[aE,h5,decide_eq_true hf];rfl,hB⟩
  ·have HN:=yz (decide_eq_false hf);go_wp2_with fail;go_ret;exact⟨by rw[aE,h5,yx HN];rfl,hB⟩
end
section
open Go.Value renaming int → J
open Go.IntKind renaming i64 → Z
open Go.RowKit Go.Sort
def ptT(a b c d:Int):Nat→Int
 | 0=>a
 | 1=>b
 | 2=>c
 | _=>d
def gS4(a b c d:Int):Nat→Int
 | 0=>0
 | k+1=>((Int.gcd (gS4 a b c d k) (ptT a b c d k):Nat):Int)
def fS4(a b c d:Int):Nat→Int
 | 0=>0
 | k+1=>if fS4 a b c d k=0 then ptT a b c d k else fS4 a b c d k
variable {a b c d:Int} {k:Nat}
theorem sA{m:Int}(h:inT m a b c d=true)(k:Nat):-m≤ptT a b c d k∧ptT a b c d k≤m:=by
 obtain⟨h1,h2,h3,h4⟩:=dx.1 h
 match k with
 | 0=>exact h1
 | 1=>exact h2
 | 2=>exact h3
 | _+3=>exact h4
theorem oF(h:inT 1000 a b c d=true)(k:Nat):-1000000≤gS4 a b c d k∧gS4 a b c d k≤1000000:=by
 have:0≤gS4 a b c d k∧gS4 a b c d k≤1000:=by
  induction k with
  | zero=>exact⟨by show (0:Int)≤0;omega,by show (0:Int)≤1000;omega⟩
  | succ k ih=>exact mM (m:=1000) (by omega) (sA h k)
 omega
theorem Hk(a b c d:Int):fS4 a b c d 4=fT a b c d:=by
 unfold fT;by_cases h1:a=0
 ·by_cases h2:b=0
  ·by_cases h3:c=0
   ·simp[fS4,ptT,h1,h2,h3]
   ·simp[fS4,ptT,h1,h2,h3]
  ·simp[fS4,ptT,h1,h2]
 ·simp[fS4,ptT,h1]
theorem BJ(h:fS4 a b c d k=0):fS4 a b c d (k+1)=ptT a b c d k:=by
 show (if fS4 a b c d k=0 then ptT a b c d k else fS4 a b c d k)=_;rw[if_pos h]
theorem BI(h:fS4 a b c d k≠0):fS4 a b c d (k+1)=fS4 a b c d k:=by
 show (if fS4 a b c d k=0 then ptT a b c d k else fS4 a b c d k)=_;rw[if_neg h]
theorem pQ(a b c d:Int)(w:World)(h:inT 1000 a b c d=true)(hz:¬(a=0∧b=0∧c=0∧d=0)):
  Calls Tryz.prog 118 #[.agg #[J Z a,J Z b,J Z c,J Z d]] w fun e w'=>e=.returned (.agg #[J Z (a.tdiv (sT a b c d)),J Z (b.tdiv (sT a b c d)),J Z (c.tdiv (sT a b c d)),J Z (d.tdiv (sT a b c d))])∧Below w.heap.size w w':=by
 have i0:∀w:World,(Instr.index 206 (.agg #[J Z a,J Z b,J Z c,J Z d]) (J Z 0)).run Tryz.prog w=.ok (J Z a) w:=fun _=>by kernel_rfl
 have i1:∀w:World,(Instr.index 206 (.agg #[J Z a,J Z b,J Z c,J Z d]) (J Z 1)).run Tryz.prog w=.ok (J Z b) w:=fun _=>by kernel_rfl
 have i2:∀w:World,(Instr.index 206 (.agg #[J Z a,J Z b,J Z c,J Z d]) (J Z 2)).run Tryz.prog w=.ok (J Z c) w:=fun _=>by kernel_rfl
 have i3:∀w:World,(Instr.index 206 (.agg #[J Z a,J Z b,J Z c,J Z d]) (J Z 3)).run Tryz.prog w=.ok (J Z d) w:=fun _=>by kernel_rfl
 have HI:=yz h;have HZ:=yz hz;have HW:Hid (∀(x s:Int),-1000≤x∧x≤1000→wrap64 (x.tdiv s)=x.tdiv s):=yz (fun x s hx=>by have:=Ct (s:=s) hx;exact aq (by omega) (by omega));clear h hz;go_enter Tryz.func118,Tryz.ntmps118;go_wp2_with fail;refine(th a b c d _).mono ?_;rintro e w1 ⟨rfl,hB1⟩;have va:bd w1 w.heap.size a b c d:=((bh w a b c d _).alloc _).kept (by simp;omega) hB1;have vr:bd w1 (w.heap.size+1) 0 0 0 0:=(by simpa using bh (w.alloc _) 0 0 0 0 _:bd _ (w.heap.size+1) 0 0 0 0).kept (by simp) hB1;have fr:qU w1 (w.heap.size+1):=(by simpa using CR (w.alloc _) 0 0 0 0 _:qU _ (w.heap.size+1)).kept (by simp) hB1;have hB:Below w.heap.size w w1:=aj (aF _ _ _) hB1;clear hB1;have Va:=yz va;have Vr:=yz vr;have Fr:=yz fr;have HB:=yz hB;clear va vr fr hB;go_wp2_with fail;go_loopw [3,4,9] (fun u f i wr=>∃(k n:Nat),k≤4∧i=J Z k∧u=J Z (gS4 a b c d k)∧f=J Z (fS4 a b c d k)∧wr=w1.drewN n) (fun _ _ i _=>4-(intOf i).toNat)
 case atStart=>exact⟨0,0,by omega,rfl,rfl,rfl,rfl⟩
 case round=>
  obtain⟨k,n,hk,rfl,rfl,rfl,rfl⟩:=hrel;have hk5:k=0∨k=1∨k=2∨k=3∨k=4:=by omega
  rcases hk5 with rfl | rfl | rfl | rfl | rfl
  ·go_wp2_with fail;refine(gj _ a _ (oF (yx HI) 0) (by have:=sA (yx HI) 0;simp only[ptT]at this;omega)).mono ?_;rintro e w3 ⟨rfl,m,rfl⟩;have hg:((Int.gcd (gS4 a b c d 0) a:Nat):Int)=gS4 a b c d 1:=rfl;rw[hg];clear hg;by_cases hf:fS4 a b c d 0=0
   ·have HF:=yz (BJ hf);rw[hf];clear hf;go_wp2_with fail;go_roundw
    case rel=>exact⟨1,n+m,by omega,rfl,rfl,by rw[yx HF];rfl,by simp⟩
    case measure=>simp[intOf]
   ·have HF:=yz (BI hf);have hb:(fS4 a b c d 0==0)=false:=by simpa using hf
    clear hf;go_wp2_with fail;go_roundw
    case rel=>exact⟨1,n+m,by omega,rfl,rfl,by rw[yx HF],by simp⟩
    case measure=>simp[intOf]
  ·go_wp2_with fail;refine(gj _ b _ (oF (yx HI) 1) (by have:=sA (yx HI) 1;simp only[ptT]at this;omega)).mono ?_;rintro e w3 ⟨rfl,m,rfl⟩;have hg:((Int.gcd (gS4 a b c d 1) b:Nat):Int)=gS4 a b c d 2:=rfl;rw[hg];clear hg;by_cases hf:fS4 a b c d 1=0
   ·have HF:=yz (BJ hf);rw[hf];clear hf;go_wp2_with fail;go_roundw
    case rel=>exact⟨2,n+m,by omega,rfl,rfl,by rw[yx HF];rfl,by simp⟩
    case measure=>simp[intOf]
   ·have HF:=yz (BI hf);have hb:(fS4 a b c d 1==0)=false:=by simpa using hf
    clear hf;go_wp2_with fail;go_roundw
    case rel=>exact⟨2,n+m,by omega,rfl,rfl,by rw[yx HF],by simp⟩
    case measure=>simp[intOf]
  ·go_wp2_with fail;refine(gj _ c _ (oF (yx HI) 2) (by have:=sA (yx HI) 2;simp only[ptT]at this;omega)).mono ?_;rintro e w3 ⟨rfl,m,rfl⟩;have hg:((Int.gcd (gS4 a b c d 2) c:Nat):Int)=gS4 a b c d 3:=rfl;rw[hg];clear hg;by_cases hf:fS4 a b c d 2=0
   ·have HF:=yz (BJ hf);rw[hf];clear hf;go_wp2_with fail;go_roundw
    case rel=>exact⟨3,n+m,by omega,rfl,rfl,by rw[yx HF];rfl,by simp⟩
    case measure=>simp[intOf]
   ·have HF:=yz (BI hf);have hb:(fS4 a b c d 2==0)=false:=by simpa using hf
    clear hf;go_wp2_with fail;go_roundw
    case rel=>exact⟨3,n+m,by omega,rfl,rfl,by rw[yx HF],by simp⟩
    case measure=>simp[intOf]
  ·go_wp2_with fail;refine(gj _ d _ (oF (yx HI) 3) (by have:=sA (yx HI) 3;simp only[ptT]at this;omega)).mono ?_;rintro e w3 ⟨rfl,m,rfl⟩;have hg:((Int.gcd (gS4 a b c d 3) d:Nat):Int)=gS4 a b c d 4:=rfl;rw[hg];clear hg;by_cases hf:fS4 a b c d 3=0
   ·have HF:=yz (BJ hf);rw[hf];clear hf;go_wp2_with fail;go_roundw
    case rel=>exact⟨4,n+m,by omega,rfl,rfl,by rw[yx HF];rfl,by simp⟩
    case measure=>simp[intOf]
   ·have HF:=yz (BI hf);have hb:(fS4 a b c d 3==0)=false:=by simpa using hf
    clear hf;go_wp2_with fail;go_roundw
    case rel=>exact⟨4,n+m,by omega,rfl,rfl,by rw[yx HF],by simp⟩
    case measure=>simp[intOf]
  ·have hg:gS4 a b c d 4=gT a b c d:=rF a b c d;rw[hg,Hk];clear hg i0 i1 i2 i3;have hw:wrap64 (-gT a b c d) = -gT a b c d:=by have:=oF (yx HI) 4;rw[show gS4 a b c d 4=gT a b c d from rF a b c d]at this;exact aq (by omega) (by omega)
   have HE:Hid (∀g,g=sT a b c d→Value.agg #[J Z (wrap64 (a.tdiv g)),J Z (wrap64 (b.tdiv g)),J Z (wrap64 (c.tdiv g)),J Z (wrap64 (d.tdiv g))]=.agg #[J Z (a.tdiv (sT a b c d)),J Z (b.tdiv (sT a b c d)),J Z (c.tdiv (sT a b c d)),J Z (d.tdiv (sT a b c d))]):=yz (by
    rintro g rfl;obtain⟨x1,x2,x3,x4⟩:=dx.1 (yx HI)
    rw[yx HW _ _ x1,yx HW _ _ x2,yx HW _ _ x3,yx HW _ _ x4])
   have HN:Hid (sT a b c d≠0):=yz (IT (yx HZ));have va:bd (w1.drewN n) w.heap.size a b c d:=yx Va;have vr:bd (w1.drewN n) (w.heap.size+1) 0 0 0 0:=yx Vr;have fr:qU (w1.drewN n) (w.heap.size+1):=yx Fr;have hB:Below w.heap.size w (w1.drewN n):=aj (yx HB) (dy _ _);clear Va Vr Fr HB HW HI HZ;by_cases hf:fT a b c d<0
   ·have hs:sT a b c d = -gT a b c d:=by unfold sT;rw[if_pos hf]
    have HG:=yz hs.symm;rw[hs]at HN;go_wp2_with fail;rw[hw];generalize -gT a b c d=g at HN HG ⊢;clear hw hs hf;have hne:g≠0:=yx HN;have hz0:(g==0)=false:=by simpa using hne
    generalize w1.drewN n=w3 at va vr fr hB ⊢;obtain⟨ca0,ca1,ca2,ca3⟩:=va;obtain⟨cr0,cr1,cr2,cr3⟩:=vr;obtain⟨fr0,fr1,fr2,fr3⟩:=fr;go_region
    go_wp2;exact bodyPost_ret (v:=_) (by simp[results,Tryz.results118,go_sem,cr0,cr1,cr2,cr3]) rfl ⟨congrArg _ (yx HE g (yx HG)),(qZ hB (by omega) _ _ _ _).drew⟩
   ·have hs:sT a b c d=gT a b c d:=by unfold sT;rw[if_neg hf]
    have HG:=yz hs.symm;rw[hs]at HN;go_wp2_with fail;generalize gT a b c d=g at HN HG ⊢;clear hw hs hf;have hne:g≠0:=yx HN;have hz0:(g==0)=false:=by simpa using hne
    generalize w1.drewN n=w3 at va vr fr hB ⊢;obtain⟨ca0,ca1,ca2,ca3⟩:=va;obtain⟨cr0,cr1,cr2,cr3⟩:=vr;obtain⟨fr0,fr1,fr2,fr3⟩:=fr;go_region
    go_wp2;exact bodyPost_ret (v:=_) (by simp[results,Tryz.results118,go_sem,cr0,cr1,cr2,cr3]) rfl ⟨congrArg _ (yx HE g (yx HG)),(qZ hB (by omega) _ _ _ _).drew⟩
theorem lG(h:je a b c d=false):¬(a=0∧b=0∧c=0∧d=0):=fun e=>by rw[md.2 e]at h;exact absurd h (by decide)
theorem yQ(h:je a b c d=true):aE a b c d=false:=by
 cases hr:aE a b c d
 ·rfl
 ·exact absurd (md.1 h) (oU hr)
theorem bO(a b c d:Int)(w:World):
  Calls Tryz.prog 74 #[.agg #[J Z a,J Z b,J Z c,J Z d]] w fun e w'=>e=.returned (.bool (aE a b c d))∧Below w.heap.size w w':=by
 have hn:=fun w=>Fp a b c d 0 0 0 0 w;have va0:=bh w a b c d 35;have hB0:=ak w (.cells #[J Z a,J Z b,J Z c,J Z d] 35);cases hz:eqT a b c d 0 0 0 0
 ·rw[hz]at hn;have HZ:=yz (lG (show je a b c d=false from hz));cases h5:inT 5 a b c d
  ·have HR:Hid (aE a b c d=false):=yz (by rw[aE,h5];rfl);have cW:=yz (fun W=>(lC 5 a b c d W (by omega) (by omega)).mono (fun e w' h=>(⟨by rw[h.1,h5],h.2⟩:e=.returned (.bool false)∧Below W.heap.size W w')));clear h5 hz;go_enter Tryz.func74,Tryz.ntmps74;go_wp2_with fail;generalize w.alloc (.cells #[J Z a,J Z b,J Z c,J Z d] 35)=w1 at va0 hB0 ⊢;obtain⟨c0,c1,c2,c3⟩:=va0;have k0:=cell_regrown c0;have k1:=cell_regrown c1;have k2:=cell_regrown c2;have k3:=cell_regrown c3;refine bQ ?_;repeat (quiet_step (exact Calls.regrown_of (yx cW _)))
   refine bW fun dq osq=>?_;clear c0 c1 c2 c3 k0 k1 k2 k3 hn;go_wp2;go_ret;exact⟨by rw[yx HR];rfl,aj hB0 (below_regrown w1 dq osq)⟩
  ·have HR:=yz (tV (yx HZ));have HT:Hid (aE a b c d=(decide (0<fT a b c d)&&decide (gT a b c d=1))):=yz (by rw[aE,h5,Bool.true_and]);have cW:=yz (fun W=>(lC 5 a b c d W (by omega) (by omega)).mono (fun e w' h=>(⟨by rw[h.1,h5],h.2⟩:e=.returned (.bool true)∧Below W.heap.size W w')));have cR:=yz (fun W=>pQ a b c d W (yh h5 (by omega)) (yx HZ));have he:=fun w=>fO a b c d (a.tdiv (sT a b c d)) (b.tdiv (sT a b c d)) (c.tdiv (sT a b c d)) (d.tdiv (sT a b c d)) w;rw[yx HR]at he;clear h5 hz HZ HR;go_enter Tryz.func74,Tryz.ntmps74;go_wp2_with fail;generalize w.alloc (.cells #[J Z a,J Z b,J Z c,J Z d] 35)=w1 at va0 hB0 ⊢;obtain⟨c0,c1,c2,c3⟩:=va0;have k0:=cell_regrown c0;have k1:=cell_regrown c1;have k2:=cell_regrown c2;have k3:=cell_regrown c3;refine bQ ?_;repeat (quiet_step (with_reducible first | exact aC cW | exact aC cR))
   refine bW fun dq osq=>?_;clear c0 c1 c2 c3 k0 k1 k2 k3 hn he;go_wp2;go_ret;exact⟨by rw[yx HT];rfl,aj hB0 (below_regrown w1 dq osq)⟩
 ·rw[hz]at hn;have HR:=yz (yQ (show je a b c d=true from hz));clear hz;go_enter Tryz.func74,Tryz.ntmps74;go_wp2_with fail;generalize w.alloc (.cells #[J Z a,J Z b,J Z c,J Z d] 35)=w1 at va0 hB0 ⊢;obtain⟨c0,c1,c2,c3⟩:=va0;have k0:=cell_regrown c0;have k1:=cell_regrown c1;have k2:=cell_regrown c2;have k3:=cell_regrown c3;refine bQ ?_;repeat (quiet_step (fail))
  refine bW fun dq osq=>?_;clear c0 c1 c2 c3 k0 k1 k2 k3 hn;go_wp2;go_ret;exact⟨by rw[yx HR];rfl,aj hB0 (below_regrown w1 dq osq)⟩
end
section
open Go.RowKit Go.Extern.Stop Go.Stop Go.Extern
theorem Fe(v:Value)(w:World):(Extern.ReflectliteType.typeOf #[.iface 309 v]).run Tryz.prog w=.ok (.iface 251 (.agg #[.pointer (some ⟨3,309,none⟩)])) w:=by kernel_rfl
theorem wl(w:World):(callFunc 265 #[.agg #[.pointer (some ⟨3,309,none⟩)]]).run Tryz.prog w=.ok (Next.value (.bool true)) w:=
 (@run_callFunc_extern Tryz.prog 265 _ (Extern.ReflectliteType.method fun t => do Extern.Rtype.noPackHeld "Comparable" t; pure (.bool (← typeInfo t).comparable)) Tryz.func265 (by kernel_rfl) (by kernel_rfl) (by kernel_rfl) (by kernel_rfl) _ w).trans (by kernel_rfl)
theorem mO (v : Value) (w : World) : (Go.method 441 251 v "Comparable").run Tryz.prog w = .ok (265, v) w := by kernel_rfl
theorem Jn:(Tryz.prog.info? 309).map (·.comparable)=some true:=by kernel_rfl
theorem Jp:(Tryz.prog.info? 329).map (·.size)=some 1:=by kernel_rfl
theorem Kb(v:Value)(xT:TypeId)(w:World):(Instr.typeAssert (.iface 215 v) xT 253 true).run Tryz.prog w=.ok (.tuple #[.nilIface,.bool false]) w:=run_typeAssert_lacksB Tryz.underlying253 (by kernel_rfl) (by kernel_rfl) v xT w
theorem Ae(v:Value)(xT:TypeId)(w:World):(Instr.typeAssert (.iface 215 v) xT 256 true).run Tryz.prog w=.ok (.tuple #[.iface 215 v,.bool true]) w:=run_typeAssert_hasB Tryz.underlying256 (by kernel_rfl) v xT w
theorem wC (v : Value) (w : World) : (Go.method 441 215 v "Unwrap").run Tryz.prog w = .ok (259, v) w := by kernel_rfl
def bm(b:Addr)(w:World):Prop:=w.cell? ⟨1,0,none⟩=some (.iface 309 (.pointer (some b)))
variable {b:Addr} {w:World}
theorem bm.lt(h:bm b w):1<w.heap.size:=World.block_lt_of_cell? w _ h
theorem bm.kept{w':World}(h:bm b w)(hB:Below w.heap.size w w'):bm b w':=by
 unfold bm;rw[hB.cell (p:=⟨1,0,none⟩) h.lt];exact h
theorem Jq(b:Addr)(w:World):
  Calls Tryz.prog 126 #[.nilIface,.iface 309 (.pointer (some b))] w fun e w'=>e=.returned (.bool false)∧w'=w:=by
 have hn:=run_eql_iface_nil_left (P:=Tryz.prog) w 309 (.pointer (some b)) Tryz.underlying129;go_enter Tryz.func126,Tryz.ntmps126;go_wp2;go_ret;exact⟨rfl,rfl⟩
theorem Bi(why:ByteArray)(b:Addr)(w:World)(h:bm b w):
  Calls Tryz.prog 259 #[.agg #[.string why]] w fun e w'=>e=.returned (.iface 309 (.pointer (some b)))∧Below w.heap.size w w':=by
 have h':bm b (w.alloc (.cells #[.string why] 215)):=h.kept (ak _ _);unfold bm at h';go_enter Tryz.func259,Tryz.ntmps259;go_wp2;go_ret;exact⟨rfl,ak _ _⟩
theorem Ff(why:ByteArray)(b:Addr)(w:World)(h:bm b w):
  Calls Tryz.prog 126 #[.iface 215 (.agg #[.string why]),.iface 309 (.pointer (some b))] w fun e w'=>e=.returned (.bool true)∧Below w.heap.size w w':=by
 obtain⟨i,hi,hcmp⟩:=Option.map_eq_some_iff.1 Jn;obtain⟨j,hj,hjs⟩:=Option.map_eq_some_iff.1 Jp;have h8:=@run_callFunc_extern Tryz.prog 161 _ Extern.ReflectliteType.typeOf Tryz.func161 (by kernel_rfl) (by kernel_rfl) (by kernel_rfl) (by kernel_rfl);have tT:=Fe;have cT:=wl;have mR:=mO;have nW:=Kb;have uW:=Ae;have mU:=wC;have heq:=fun w=>run_eql_iface_ptr_same (P:=Tryz.prog) w b Tryz.underlying129 Tryz.underlying309 hi hcmp hj;have hty:=fun w=>run_eql_iface_types (P:=Tryz.prog) 215 309 (.agg #[.string why]) (.pointer (some b)) Tryz.underlying129 (by decide) w;have HE:=yz h;clear h;go_enter Tryz.func126,Tryz.ntmps126;go_wp2;refine wp_loop_rounds 2 ?_;rw[rounds_succ];go_wp2_with (go_at_call 259;refine(Bi why b _ (yx HE)).mono ?_;rintro e w1 ⟨rfl,hx⟩);rw[rounds_succ];go_wp2;go_ret;exact⟨rfl,hx⟩
end
section
open Go.Value renaming int → J
open Go.IntKind renaming i64 → Z
open Go.RowKit
def gS(x y z:Int):Nat→Int
 | 0=>0
 | 1=>((Int.gcd 0 x:Nat):Int)
 | 2=>((Int.gcd ((Int.gcd 0 x:Nat):Int) y:Nat):Int)
 | _=>((Int.gcd ((Int.gcd ((Int.gcd 0 x:Nat):Int) y:Nat):Int) z:Nat):Int)
theorem ET{x y z:Int}(k:Nat)(h:(-1000000≤x∧x≤1000000)∧(-1000000≤y∧y≤1000000)∧(-1000000≤z∧z≤1000000)):-1000000≤gS x y z k∧gS x y z k≤1000000:=by
 have h1:=mM (a:=0) (m:=1000000) (by omega) h.1;have h2:=mM (m:=1000000) (a:=((Int.gcd 0 x:Nat):Int)) (by omega) h.2.1;have h3:=mM (m:=1000000) (a:=((Int.gcd ((Int.gcd 0 x:Nat):Int) y:Nat):Int)) (by omega) h.2.2
 match k with
 | 0=>exact⟨by show (-1000000:Int)≤0;omega,by show (0:Int)≤1000000;omega⟩
 | 1=>exact⟨by show (-1000000:Int)≤((Int.gcd 0 x:Nat):Int);omega,h1.2⟩
 | 2=>exact⟨by show (-1000000:Int)≤((Int.gcd ((Int.gcd 0 x:Nat):Int) y:Nat):Int);omega,h2.2⟩
 | k+3=>exact⟨by show (-1000000:Int)≤((Int.gcd ((Int.gcd ((Int.gcd 0 x:Nat):Int) y:Nat):Int) z:Nat):Int);omega,h3.2⟩
theorem oR(a1 a2 a3:Int)(w:World):
  Calls Tryz.prog 188 #[.agg #[J Z a1,J Z a2,J Z a3]] w fun e w'=>e=.returned (.agg #[J Z (prI (ax a1 a2 a3) (gI a1 a2 a3) a1),J Z (prI (ax a1 a2 a3) (gI a1 a2 a3) a2),J Z (prI (ax a1 a2 a3) (gI a1 a2 a3) a3)])∧Below w.heap.size w w':=by
 go_enter Tryz.func188,Tryz.ntmps188;go_wp2_with fail;refine(dg a1 a2 a3 _).mono ?_;rintro e w1 ⟨rfl,hB1⟩;have hB:Below w.heap.size w w1:=aj (aF _ _ _) hB1;have hs:w.heap.size+2≤w1.heap.size:=by have:=hB1.size;simpa[Nat.add_assoc] using this
 have va:aD w1 w.heap.size a1 a2 a3:=((by simpa using aG w a1 a2 a3 _:aD _ w.heap.size a1 a2 a3).alloc (by simp) _).kept (by simp;omega) hB1;have vr:aD w1 (w.heap.size+1) 0 0 0:=(by simpa using aG (w.alloc _) 0 0 0 _:aD _ (w.heap.size+1) 0 0 0).kept (by simp) hB1;have fr:dE w1 (w.heap.size+1):=(by simpa using em (w.alloc _) 0 0 0 _:dE _ (w.heap.size+1)).kept (by simp) hB1;clear hB1;have hva:=va;obtain⟨ca0,ca1,ca2⟩:=va;have hvr:=vr;have hfr:=fr;obtain⟨cr0,cr1,cr2⟩:=vr;obtain⟨fr0,fr1,fr2⟩:=fr;cases ha:ax a1 a2 a3
 ·go_wp2_with fail;exact bodyPost_ret (v:=.agg #[J Z 0,J Z 0,J Z 0]) (by simp[results,Tryz.results188,go_sem,cr0,cr1,cr2]) rfl ⟨by simp[prI,ha],bT hB (by omega) _ _ _⟩
 ·go_wp2_with fail;refine(vf a1 a2 a3 _).mono ?_;rintro e w2 ⟨rfl,hB2⟩;have va:=hva.kept (by omega) hB2;have vr:=hvr.kept (by omega) hB2;have fr:=hfr.kept (by omega) hB2;replace hs:w.heap.size+2≤w2.heap.size:=by have:=hB2.size;omega
  replace hB:Below w.heap.size w w2:=aj hB hB2;clear hB2 hva hvr hfr ca0 ca1 ca2 cr0 cr1 cr2 fr0 fr1 fr2;have i0:∀w:World,(Instr.index 248 (.agg #[J Z a1,J Z a2,J Z a3]) (J Z 0)).run Tryz.prog w=.ok (J Z a1) w:=fun _=>by kernel_rfl
  have i1:∀w:World,(Instr.index 248 (.agg #[J Z a1,J Z a2,J Z a3]) (J Z 1)).run Tryz.prog w=.ok (J Z a2) w:=fun _=>by kernel_rfl
  have i2:∀w:World,(Instr.index 248 (.agg #[J Z a1,J Z a2,J Z a3]) (J Z 2)).run Tryz.prog w=.ok (J Z a3) w:=fun _=>by kernel_rfl
  have HR:=yz (bC.1 ha).1;have HP:=yz (ES ha);go_wp2_with fail;go_loopw [3,12] (fun u i wr=>∃(k n:Nat),k≤3∧i=J Z k∧u=J Z (gS a1 a2 a3 k)∧wr=w2.drewN n) (fun _ i _=>3-(intOf i).toNat)
  case atStart=>exact⟨0,0,by omega,rfl,rfl,rfl⟩
  case round=>
   obtain⟨k,n,hk,rfl,rfl,rfl⟩:=hrel;have hk4:k=0∨k=1∨k=2∨k=3:=by omega
   rcases hk4 with rfl | rfl | rfl | rfl
   ·go_wp2_with fail;refine(gj _ a1 _ (ET 0 (yx HR)) (yx HR).1).mono ?_;rintro e w3 ⟨rfl,m,rfl⟩;go_wp2_with fail;go_roundw
    case rel=>exact⟨1,n+m,by omega,rfl,rfl,by simp⟩
    case measure=>simp[intOf]
   ·go_wp2_with fail;refine(gj _ a2 _ (ET 1 (yx HR)) (yx HR).2.1).mono ?_;rintro e w3 ⟨rfl,m,rfl⟩;go_wp2_with fail;go_roundw
    case rel=>exact⟨2,n+m,by omega,rfl,rfl,by simp⟩
    case measure=>simp[intOf]
   ·go_wp2_with fail;refine(gj _ a3 _ (ET 2 (yx HR)) (yx HR).2.2).mono ?_;rintro e w3 ⟨rfl,m,rfl⟩;go_wp2_with fail;go_roundw
    case rel=>exact⟨3,n+m,by omega,rfl,rfl,by simp⟩
    case measure=>simp[intOf]
   ·have hgs:gS a1 a2 a3 3=gI a1 a2 a3:=CX a1 a2 a3;rw[hgs];clear hgs;have hpos:=yx HP;have hz0:(gI a1 a2 a3==0)=false:=by simp;omega
    generalize hge:gI a1 a2 a3=g at hpos hz0 ⊢;have HG:=yz hge;clear hge i0 i1 i2;have va':aD (w2.drewN n) w.heap.size a1 a2 a3:=va;have vr':aD (w2.drewN n) (w.heap.size+1) 0 0 0:=vr;have fr':dE (w2.drewN n) (w.heap.size+1):=fr;have hB':Below w.heap.size w (w2.drewN n):=aj hB (dy _ _);clear va vr fr hB hs;go_wp2_with fail;generalize w2.drewN n=w3 at va' vr' fr' hB' ⊢;obtain⟨ca0,ca1,ca2⟩:=va';obtain⟨cr0,cr1,cr2⟩:=vr';obtain⟨fr0,fr1,fr2⟩:=fr';go_region
    go_wp2;exact bodyPost_ret (v:=.agg #[J Z (wrap64 (a1.tdiv g)),J Z (wrap64 (a2.tdiv g)),J Z (wrap64 (a3.tdiv g))]) (by simp[results,Tryz.results188,go_sem,cr0,cr1,cr2]) rfl ⟨by rw[yx HG];simp[prI,ha],(bT hB' (by omega) _ _ _).drew⟩
def jy(w:World)(b o:Nat)(s:St):Prop:=w.cell? ⟨b,o,none⟩=some (J Z s.1)∧w.cell? ⟨b,o+1,none⟩=some (J Z s.2.1)∧w.cell? ⟨b,o+2,none⟩=some (J Z s.2.2.1)∧w.cell? ⟨b,o+3,none⟩=some (J Z s.2.2.2)
def aH(w:World)(a:Option Addr)(L:List St)(n:Nat):Prop:=n=0∨∃b o,a=some ⟨b,o,none⟩∧b<w.heap.size∧∀i,i<n→jy w b (o+i*4) (stA L i)
variable {b:Nat} {a:Option Addr} {w w':World}
theorem jy.kept{o:Nat}{s:St}(h:jy w b o s)(hb:b<w.heap.size)(hB:Below w.heap.size w w'):jy w' b o s:=by
 obtain⟨h0,h1,h2,h3⟩:=h;exact⟨by rw[hB.cell (p:=⟨b,o,none⟩) hb];exact h0,by rw[hB.cell (p:=⟨b,o+1,none⟩) hb];exact h1,by rw[hB.cell (p:=⟨b,o+2,none⟩) hb];exact h2,by rw[hB.cell (p:=⟨b,o+3,none⟩) hb];exact h3⟩
theorem aH.kept{L:List St}{n:Nat}(h:aH w a L n)(hB:Below w.heap.size w w'):aH w' a L n:=by
 rcases h with h | ⟨b,o,ha,hb,hc⟩
 ·exact .inl h
 ·exact .inr ⟨b,o,ha,Nat.lt_of_lt_of_le hb hB.size,fun i hi=>(hc i hi).kept hb hB⟩
theorem vlt{x y z:Int}(h:aD w b x y z):b<w.heap.size:=World.block_lt_of_cell? w _ h.1
theorem aH.less{L:List St}{n m:Nat}(h:aH w a L n)(hm:m≤n):aH w a L m:=by
 rcases h with h | ⟨b,o,ha,hb,hc⟩
 ·exact .inl (by omega)
 ·exact .inr ⟨b,o,ha,hb,fun i hi=>hc i (by omega)⟩
theorem pI(L:List St)(n:Nat)(x y z:Int)(a:Option Addr)(c:Nat)(w:World)(hn:n≤1048576)(hS:aH w a L n):
  Calls Tryz.prog 193 #[.agg #[J Z x,J Z y,J Z z],.slice a n c] w fun e w'=>e=.returned (.bool (fw L (0,x,y,z) n))∧Below w.heap.size w w':=by
 rcases hS with rfl | ⟨b,o,rfl,hb,hc⟩
 ·go_enter Tryz.func193,Tryz.ntmps193;go_wp2_with fail;refine wp_loop_rounds 1 ?_;rw[rounds_succ];go_wp2_with fail;go_ret;exact⟨rfl,ak _ _⟩
 ·have HC:=yz hc;clear hc;have V0:=yz (aG w x y z 111);have B0:=yz (ak w (.cells #[J Z x,J Z y,J Z z] 111));go_enter Tryz.func193,Tryz.ntmps193;go_wp2_with fail;go_loopw [9] (fun i wr=>∃k:Nat,k≤n∧i=J Z k∧Hid (oE L (0,x,y,z) k)∧Hid (Below w.heap.size w wr)∧Hid (aD wr w.heap.size x y z)) (fun i _=>n-(intOf i).toNat)
  case atStart=>exact⟨0,by omega,rfl,yz (fun j hj=>absurd hj (Nat.not_lt_zero _)),B0,V0⟩
  case round=>
   obtain⟨k,hk,rfl,HF,HB,HV⟩:=hrel;by_cases hkn:k<n
   ·obtain⟨⟨s1,s2,s3,s4⟩,hs⟩:∃s,stA L k=s:=⟨_,rfl⟩
    have hst:=((yx HC) k hkn).kept hb (yx HB);rw[hs]at hst;obtain⟨c0,c1,c2,c3⟩:=hst;have HS:=yz hs;clear hs;have V1:=yz (aD.alloc (yx HV) (vlt (yx HV)) (.cells #[J Z s1,J Z s2,J Z s3,J Z s4] 113));have B1:=yz ((yx HB).alloc (yx HB).size (.cells #[J Z s1,J Z s2,J Z s3,J Z s4] 113));obtain⟨v0,v1,v2⟩:=yx V1;go_wp2_with fail;refine(jt x y z s2 s3 s4 _).mono ?_;rintro e w2 ⟨rfl,hx⟩;have HV2:=yz ((yx V1).kept (vlt (yx V1)) hx);have HB2:=aA B1 hx;clear hx c0 c1 c2 c3 v0 v1 v2 V1 B1 HB HV;have HR:Hid (pR (0,x,y,z) (stA L k)=ez x y z s2 s3 s4):=yz (by rw[yx HS];rfl);cases hq:ez x y z s2 s3 s4
    ·rw[hq]at HR;go_wp2_with fail;go_roundw
     case rel=>exact⟨k+1,by omega,by go_num,yz (uD (yx HF) (yx HR)),HB2,HV2⟩
     case measure=>simp[intOf];omega
    ·rw[hq]at HR;go_wp2_with fail;go_ret;exact⟨by rw[vu hkn (yx HR)];rfl,yx HB2⟩
   ·have hkn':k=n:=by omega
    subst hkn';go_wp2_with fail;go_ret;exact⟨by rw[tf (yx HF)];rfl,yx HB⟩
end
section
open Go
def rR(J:Nat→Act→World→Prop)(Q:Exit→Act→World→Prop):Exit→Act→World→Prop
 | .goto l,a,w=>J l a w
 | e,a,w=>Q e a w
section
variable {P:Program} {a:Act} {w:World} {Q:Exit→Act→World→Prop}
theorem wY{c:Code}(J:Nat→Act→World→Prop)(m:Nat→Act→World→Nat)
  (first:c.wp P (rR J Q) a w)
  (pass:∀l a w,J l a w→∃rest,findLabel c l=some rest∧rest.wp P (rR (fun l' a' w'=>J l' a' w'∧m l' a' w'<m l a w) Q) a w):(Code.scope c).wp P Q a w:=by
 intro b k cs
 have key:∀n l a w,m l a w=n→J l a w→∀rest,findLabel c l=some rest→∃e a' w',Q e a' w'∧Arrives P (lone (b.at a (.code rest :: .inScope c :: k)) cs w) b k cs e a' w':=by
  intro n
  induction n using Nat.strongRecOn with
  | _ n ih=>
   intro l a w hn hJ rest hr;obtain⟨rest',hf,hp⟩:=pass l a w hJ;obtain rfl:rest'=rest:=Option.some.inj (hf.symm.trans hr);obtain⟨e,a1,w1,hq,harr⟩:=hp b (.inScope c :: k) cs;cases e with
   | normal=>exact⟨.normal,a1,w1,hq,Steps.trans harr (.one step_inScope)⟩
   | exit id=>exact⟨.exit id,a1,w1,hq,fun k' hk=>harr k' (by simp[exitTo,hk])⟩
   | goto l'=>
    obtain⟨hJ',hlt⟩:=hq;obtain⟨rest2,hf2,_⟩:=pass l' a1 w1 hJ';have hg:gotoIn l' (.inScope c :: k)=some (.code rest2 :: .inScope c :: k):=by simp[gotoIn,hf2]
    obtain⟨e2,a2,w2,hq2,harr2⟩:=ih _ (by omega) l' a1 w1 rfl hJ' rest2 hf2;exact⟨e2,a2,w2,hq2,.of_steps (harr _ hg) harr2⟩
   | ret=>exact⟨_,a1,w1,hq,harr⟩
   | panic ch=>exact⟨_,a1,w1,hq,harr⟩
   | outgrown=>exact⟨_,a1,w1,hq,harr⟩
 obtain⟨e,a1,w1,hq,harr⟩:=first b (.inScope c :: k) cs
 cases e with
 | normal=>exact⟨.normal,a1,w1,hq,.head step_scope (Steps.trans harr (.one step_inScope))⟩
 | exit id=>exact⟨.exit id,a1,w1,hq,fun k' hk=>.head step_scope (harr k' (by simp[exitTo,hk]))⟩
 | goto l'=>
  obtain⟨rest2,hf2,_⟩:=pass l' a1 w1 hq;have hg:gotoIn l' (.inScope c :: k)=some (.code rest2 :: .inScope c :: k):=by simp[gotoIn,hf2]
  obtain⟨e2,a2,w2,hq2,harr2⟩:=key _ l' a1 w1 rfl hq rest2 hf2;exact⟨e2,a2,w2,hq2,.of_steps (.head step_scope (harr _ hg)) harr2⟩
 | ret=>exact⟨_,a1,w1,hq,.of_steps (.one step_scope) harr⟩
 | panic ch=>exact⟨_,a1,w1,hq,.of_steps (.one step_scope) harr⟩
 | outgrown=>exact⟨_,a1,w1,hq,.of_steps (.one step_scope) harr⟩
end
end
section
open Go.RowKit
def de(s:ByteArray)(p:Nat):Nat→Nat→Nat→Except Int (Nat×Nat)
 | 0,_,_=>.error 3
 | k+1,i,u=>
  if s.size≤p+i then .error 4
  else if i=9∧1<dc s (p+i) then .error 3
  else if dc s (p+i)<128 then
   (if dc s (p+i)=0∧0<i then .error 3 else .ok (u+dc s (p+i) % 128*2 ^ (7*i),p+i+1))
  else de s p k (i+1) (u+dc s (p+i) % 128*2 ^ (7*i))
def unf(u:Nat):Int:=if u % 2=1 then -((u / 2:Nat):Int)-1 else ((u / 2:Nat):Int)
theorem vD(u:Nat)(h:u<18446744073709551616):-9223372036854775808≤unf u∧unf u≤9223372036854775807:=by
 unfold unf;split<;>omega
variable {s:ByteArray} {i k p u:Nat}
theorem mX(h:s.size≤p+i):de s p (k+1) i u=.error 4:=by rw[de,if_pos h]
theorem sL(h:p+i<s.size)(h9:i=9)(hc:1<s[p+i].toNat):de s p (k+1) i u=.error 3:=by
 rw[de,if_neg (by omega),if_pos ⟨h9,by rw[dX h];exact hc⟩]
theorem lV(h:p+i<s.size)(h9:i=9→s[p+i].toNat≤1)(hc:s[p+i].toNat<128):
  de s p (k+1) i u=if s[p+i].toNat=0∧0<i then .error 3 else .ok (u+s[p+i].toNat % 128*2 ^ (7*i),p+i+1):=by
 rw[de,if_neg (by omega),dX h,if_neg (by intro ⟨a,b⟩;have:=h9 a;omega),if_pos hc]
theorem oX(h:p+i<s.size)(h9:i<9)(hc:¬s[p+i].toNat<128):
  de s p (k+1) i u=de s p k (i+1) (u+s[p+i].toNat % 128*2 ^ (7*i)):=by
 rw[de,if_neg (by omega),dX h,if_neg (by omega),if_neg hc]
theorem jv(u c i:Nat)(hu:u<2 ^ (7*i)):u+c % 128*2 ^ (7*i)<2 ^ (7*(i+1)):=by
 have h1:c % 128≤127:=by omega
 have h2:c % 128*2 ^ (7*i)≤127*2 ^ (7*i):=Nat.mul_le_mul_right _ h1;have h3:2 ^ (7*(i+1))=128*2 ^ (7*i):=by rw[show 7*(i+1)=7+7*i by omega,Nat.pow_add]
 omega
theorem IR(h:i≤9):2 ^ (7*i)≤9223372036854775808:=by
 have:2 ^ (7*i)≤2 ^ 63:=Nat.pow_le_pow_right (by omega) (by omega);simpa using this
theorem iJ(u c i:Nat)(hi:i≤9)(hu:u<2 ^ (7*i))(h9:i=9→c≤1):u+c % 128*2 ^ (7*i)<18446744073709551616:=by
 by_cases h:i=9
 ·subst h;have:=h9 rfl;have h1:c % 128≤1:=by omega
  have h2:c % 128*2 ^ (7*9)≤1*2 ^ (7*9):=Nat.mul_le_mul_right _ h1;have:(2:Nat) ^ (7*9)=9223372036854775808:=by decide
  omega
 ·have h1:=jv u c i hu;have h2:2 ^ (7*(i+1))≤2 ^ 63:=Nat.pow_le_pow_right (by omega) (by omega);have:(2:Nat) ^ 63=9223372036854775808:=by decide
  omega
theorem on(m:Int):IntKind.u64.wrap m=m % 18446744073709551616:=by simp[IntKind.wrap,IntKind.bits,IntKind.signed]
theorem qI(u c i:Nat)(hi:i≤9)(hu:u<2 ^ (7*i))(hc:c<256)(h9:i=9→c≤1):
  bits .or .u64 (u:Int) (IntKind.u64.wrap (IntKind.u64.wrap (bits .and .u8 (c:Int) 127)*2 ^ (7*i)))=((u+c % 128*2 ^ (7*i):Nat):Int):=by
 have hb:=iJ u c i hi hu h9
 have ha:bits .and .u8 (c:Int) 127=((c % 128:Nat):Int):=by
  have h:=u8_and_nat c 127 hc (by omega);rw[nat_mask7]at h;exact h
 have hw1:IntKind.u64.wrap ((c % 128:Nat):Int)=((c % 128:Nat):Int):=by rw[on];omega
 have hp:((c % 128:Nat):Int)*2 ^ (7*i)=((c % 128*2 ^ (7*i):Nat):Int):=by push_cast;rfl
 rw[ha,hw1,hp];have hlt:c % 128*2 ^ (7*i)<18446744073709551616:=by omega
 have hw2:IntKind.u64.wrap ((c % 128*2 ^ (7*i):Nat):Int)=((c % 128*2 ^ (7*i):Nat):Int):=by
  rw[on];generalize c % 128*2 ^ (7*i)=x at *;omega
 rw[hw2,u64_or_nat _ _ (by omega) hlt,Nat.or_comm,nat_join (7*i) _ _ (by simp) hu,Nat.add_comm]
theorem FI(c:Nat)(hc:c<256):bits .or .u64 0 (IntKind.u64.wrap (IntKind.u64.wrap (bits .and .u8 (c:Int) 127)))=((c % 128:Nat):Int):=by
 have h:=qI 0 c 0 (by omega) (by simp) hc (by omega);simpa using h
theorem FJ(u c:Nat)(hu:u<2 ^ (7*9))(hc:c<256)(h9:c≤1):
  bits .or .u64 (u:Int) (IntKind.u64.wrap (IntKind.u64.wrap (bits .and .u8 (c:Int) 127)*9223372036854775808))=((u+c % 128*2 ^ (7*9):Nat):Int):=by
 have h:=qI u c 9 (by omega) hu hc (fun _=>h9);rw[show ((2:Int) ^ (7*9))=9223372036854775808 by decide]at h;exact h
end
section
open Go.Value renaming int → J
open Go.IntKind renaming i64 → Z
open Go.RowKit
variable {b:Nat} {X:Prop} {t:TypeId} {w w1 wn wx wy:World}
theorem aD.lt'{x y z:Int}(h:aD w b x y z):b<w.heap.size:=World.block_lt_of_cell? w _ h.1
theorem zh(hx:Below wx.heap.size wx wn)(h:X∧Below w1.heap.size w1 wx):Below w1.heap.size w1 wn:=aj h.2 hx
def Cz(w:World)(b:Nat):Prop:=aD w b 0 0 0∧dE w b
theorem Jy(hx:Below (wy.alloc (.cells #[J Z 0,J Z 0,J Z 0] t)).heap.size (wy.alloc (.cells #[J Z 0,J Z 0,J Z 0] t)) wn):Cz wn wy.heap.size:=
 ⟨(aG wy 0 0 0 t).kept (by simp) hx,(em wy 0 0 0 t).kept (by simp) hx⟩
theorem Hx(hx:Below ((wy.alloc (.cells #[J Z 0,J Z 0,J Z 0] t)).drew).heap.size ((wy.alloc (.cells #[J Z 0,J Z 0,J Z 0] t)).drew) wn):Cz wn wy.heap.size:=
 ⟨(show aD (wy.alloc (.cells #[J Z 0,J Z 0,J Z 0] t)).drew wy.heap.size 0 0 0 from aG wy 0 0 0 t).kept (by simp) hx,(show dE (wy.alloc (.cells #[J Z 0,J Z 0,J Z 0] t)).drew wy.heap.size from em wy 0 0 0 t).kept (by simp) hx⟩
theorem Ht(h:Cz wx b)(hx:Below wx.heap.size wx wn):Cz wn b:=⟨h.1.kept (aD.lt' h.1) hx,h.2.kept (aD.lt' h.1) hx⟩
theorem kD(h:Below w1.heap.size w1 wx)(o:Obj):Below w1.heap.size w1 (wx.alloc o):=h.alloc h.size _
theorem Bk(h:Cz w b)(x y z:Int):aD (((w.setCell ⟨b,0,none⟩ (J Z x)).setCell ⟨b,1,none⟩ (J Z y)).setCell ⟨b,2,none⟩ (J Z z)) b x y z:=by
 obtain⟨⟨h0,h1,h2⟩,_⟩:=h;refine⟨?_,?_,?_⟩<;>simp[go_sem,h0,h1,h2]
theorem pp(h:Below w1.heap.size w1 wx)(hb:w1.heap.size≤b)(x y z:Value):Below w1.heap.size w1 (((wx.setCell ⟨b,0,none⟩ x).setCell ⟨b,1,none⟩ y).setCell ⟨b,2,none⟩ z):=((h.setCell hb _).setCell hb _).setCell hb _
theorem vp(h:X∧Below w1.heap.size w1 wx)(o:Obj):Below w1.heap.size w1 (wx.alloc o):=h.2.alloc h.2.size _
theorem zm(h:X∧Below w1.heap.size w1 wx)(hb:w1.heap.size≤b)(x y z:Value):Below w1.heap.size w1 (((wx.setCell ⟨b,0,none⟩ x).setCell ⟨b,1,none⟩ y).setCell ⟨b,2,none⟩ z):=((h.2.setCell hb _).setCell hb _).setCell hb _
end
end Go.Proofs.YteoonaanoenjiaaGreatDoor
