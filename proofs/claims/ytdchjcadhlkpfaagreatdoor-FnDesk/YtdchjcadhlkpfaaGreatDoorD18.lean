/- Several texts in one: TurnS. -/
import Derived.Test.YtdchjcadhlkpfaaGreatDoorD7
import Derived.Test.YtdchjcadhlkpfaaGreatDoorD4
namespace Go.Proofs.YtdchjcadhlkpfaaGreatDoor
set_option linter.unusedVariables false
set_option linter.unusedSimpArgs false
set_option maxRecDepth 100000
set_option maxHeartbeats 8000000
section
open Go.Value renaming int → J
open Go.IntKind renaming i64 → Z
open Go.RowKit Go.Sort
theorem sX(w:World)(k:UInt8):(convert 22 9 (.slice (some ⟨w.heap.size,0,none⟩) 1 1)).run Tryz.prog (w.alloc (.cells #[.int .u8 (k.toNat:Int)] 5))=.ok (.string ⟨#[k]⟩) (w.alloc (.cells #[.int .u8 (k.toNat:Int)] 5)):=
 li w 5 #[.int .u8 (k.toNat:Int)] ⟨#[k]⟩ (by simp[Lib.byteCells]) 1
theorem Da(w:World):
  Calls Tryz.prog 37 #[J Z 0] w fun e w'=>e=.returned (.string ⟨#[48]⟩)∧Below w.heap.size w w':=by
 go_enter Tryz.func37,Tryz.ntmps37;go_wp2_with fail;go_ret;exact⟨rfl,Below.refl _ _⟩
theorem Db(w:World):
  Calls Tryz.prog 37 #[J Z 1] w fun e w'=>e=.returned (.string ⟨#[49]⟩)∧Below w.heap.size w w':=by
 go_enter Tryz.func37,Tryz.ntmps37;go_wp2_with fail;go_loopw [0,4] (fun u s wr=>(u=J Z 1∧s=.string ⟨#[]⟩∧wr=w)∨(u=J Z 0∧s=.string ⟨#[49]⟩∧Hid (Below w.heap.size w wr))) (fun u _ _=>(intOf u).toNat)
 case atStart=>exact .inl ⟨rfl,rfl,rfl⟩
 case round=>
  rcases hrel with ⟨rfl,rfl,rfl⟩ | ⟨rfl,rfl,HB⟩
  ·have hcv:(convert 22 9 (.slice (some ⟨wr.heap.size,0,none⟩) 1 1)).run Tryz.prog (wr.alloc (.cells #[.int .u8 49] 5))=.ok (.string ⟨#[49]⟩) (wr.alloc (.cells #[.int .u8 49] 5)):=sX wr 49;go_wp2;go_roundw
   case rel=>exact .inr ⟨rfl,rfl,yz (an _ _)⟩
   case measure=>simp[intOf]
  ·go_wp2;go_ret;exact⟨rfl,yy HB⟩
theorem Dc(w:World):
  Calls Tryz.prog 37 #[J Z 2] w fun e w'=>e=.returned (.string ⟨#[50]⟩)∧Below w.heap.size w w':=by
 go_enter Tryz.func37,Tryz.ntmps37;go_wp2_with fail;go_loopw [0,4] (fun u s wr=>(u=J Z 2∧s=.string ⟨#[]⟩∧wr=w)∨(u=J Z 0∧s=.string ⟨#[50]⟩∧Hid (Below w.heap.size w wr))) (fun u _ _=>(intOf u).toNat)
 case atStart=>exact .inl ⟨rfl,rfl,rfl⟩
 case round=>
  rcases hrel with ⟨rfl,rfl,rfl⟩ | ⟨rfl,rfl,HB⟩
  ·have hcv:(convert 22 9 (.slice (some ⟨wr.heap.size,0,none⟩) 1 1)).run Tryz.prog (wr.alloc (.cells #[.int .u8 50] 5))=.ok (.string ⟨#[50]⟩) (wr.alloc (.cells #[.int .u8 50] 5)):=sX wr 50;go_wp2;go_roundw
   case rel=>exact .inr ⟨rfl,rfl,yz (an _ _)⟩
   case measure=>simp[intOf]
  ·go_wp2;go_ret;exact⟨rfl,yy HB⟩
theorem Dd(w:World):
  Calls Tryz.prog 37 #[J Z 3] w fun e w'=>e=.returned (.string ⟨#[51]⟩)∧Below w.heap.size w w':=by
 go_enter Tryz.func37,Tryz.ntmps37;go_wp2_with fail;go_loopw [0,4] (fun u s wr=>(u=J Z 3∧s=.string ⟨#[]⟩∧wr=w)∨(u=J Z 0∧s=.string ⟨#[51]⟩∧Hid (Below w.heap.size w wr))) (fun u _ _=>(intOf u).toNat)
 case atStart=>exact .inl ⟨rfl,rfl,rfl⟩
 case round=>
  rcases hrel with ⟨rfl,rfl,rfl⟩ | ⟨rfl,rfl,HB⟩
  ·have hcv:(convert 22 9 (.slice (some ⟨wr.heap.size,0,none⟩) 1 1)).run Tryz.prog (wr.alloc (.cells #[.int .u8 51] 5))=.ok (.string ⟨#[51]⟩) (wr.alloc (.cells #[.int .u8 51] 5)):=sX wr 51;go_wp2;go_roundw
   case rel=>exact .inr ⟨rfl,rfl,yz (an _ _)⟩
   case measure=>simp[intOf]
  ·go_wp2;go_ret;exact⟨rfl,yy HB⟩
theorem De(w:World):
  Calls Tryz.prog 37 #[J Z 4] w fun e w'=>e=.returned (.string ⟨#[52]⟩)∧Below w.heap.size w w':=by
 go_enter Tryz.func37,Tryz.ntmps37;go_wp2_with fail;go_loopw [0,4] (fun u s wr=>(u=J Z 4∧s=.string ⟨#[]⟩∧wr=w)∨(u=J Z 0∧s=.string ⟨#[52]⟩∧Hid (Below w.heap.size w wr))) (fun u _ _=>(intOf u).toNat)
 case atStart=>exact .inl ⟨rfl,rfl,rfl⟩
 case round=>
  rcases hrel with ⟨rfl,rfl,rfl⟩ | ⟨rfl,rfl,HB⟩
  ·have hcv:(convert 22 9 (.slice (some ⟨wr.heap.size,0,none⟩) 1 1)).run Tryz.prog (wr.alloc (.cells #[.int .u8 52] 5))=.ok (.string ⟨#[52]⟩) (wr.alloc (.cells #[.int .u8 52] 5)):=sX wr 52;go_wp2;go_roundw
   case rel=>exact .inr ⟨rfl,rfl,yz (an _ _)⟩
   case measure=>simp[intOf]
  ·go_wp2;go_ret;exact⟨rfl,yy HB⟩
theorem Df(w:World):
  Calls Tryz.prog 37 #[J Z 5] w fun e w'=>e=.returned (.string ⟨#[53]⟩)∧Below w.heap.size w w':=by
 go_enter Tryz.func37,Tryz.ntmps37;go_wp2_with fail;go_loopw [0,4] (fun u s wr=>(u=J Z 5∧s=.string ⟨#[]⟩∧wr=w)∨(u=J Z 0∧s=.string ⟨#[53]⟩∧Hid (Below w.heap.size w wr))) (fun u _ _=>(intOf u).toNat)
 case atStart=>exact .inl ⟨rfl,rfl,rfl⟩
 case round=>
  rcases hrel with ⟨rfl,rfl,rfl⟩ | ⟨rfl,rfl,HB⟩
  ·have hcv:(convert 22 9 (.slice (some ⟨wr.heap.size,0,none⟩) 1 1)).run Tryz.prog (wr.alloc (.cells #[.int .u8 53] 5))=.ok (.string ⟨#[53]⟩) (wr.alloc (.cells #[.int .u8 53] 5)):=sX wr 53;go_wp2;go_roundw
   case rel=>exact .inr ⟨rfl,rfl,yz (an _ _)⟩
   case measure=>simp[intOf]
  ·go_wp2;go_ret;exact⟨rfl,yy HB⟩
theorem qQ(n:Int)(w:World)(h0:0≤n)(h5:n≤5):
  Calls Tryz.prog 37 #[J Z n] w fun e w'=>e=.returned (.string ⟨#[d8 n]⟩)∧Below w.heap.size w w':=by
 have h:n=0∨n=1∨n=2∨n=3∨n=4∨n=5:=by omega
 rcases h with rfl | rfl | rfl | rfl | rfl | rfl
 ·exact Da w
 ·exact Db w
 ·exact Dc w
 ·exact Dd w
 ·exact De w
 ·exact Df w
theorem ke(n:Int)(w:World)(h:-5≤n∧n≤5):
  Calls Tryz.prog 63 #[J Z n] w fun e w'=>e=.returned (.string ⟨(dig n).toArray⟩)∧Below w.heap.size w w':=by
 by_cases hn:n<0
 ·have hw:wrap64 (-n) = -n:=au (by omega) (by omega);have HD:Hid ((dig n).toArray = #[45,d8 (-n)]):=yz (by unfold dig;rw[if_pos hn]);go_enter Tryz.func63,Tryz.ntmps63;go_wp2_with fail;refine(qQ (-n) _ (by omega) (by omega)).mono ?_;rintro e w1 ⟨rfl,hx⟩;go_wp2_with fail;go_ret;exact⟨by rw[yy HD,←Ct 45 [d8 (-n)]];rfl,hx⟩
 ·have HD:Hid ((dig n).toArray = #[d8 n]):=yz (by unfold dig;rw[if_neg hn]);go_enter Tryz.func63,Tryz.ntmps63;go_wp2_with fail;refine(qQ n _ (by omega) (by omega)).mono ?_;rintro e w1 ⟨rfl,hx⟩;go_wp2_with fail;go_ret;exact⟨by rw[yy HD];rfl,hx⟩
theorem it(a b c d:Int)(w:World):
  Calls Tryz.prog 38 #[.agg #[J Z a,J Z b,J Z c,J Z d]] w fun e w'=>e=.returned (.string (cy a b c d))∧Below w.heap.size w w':=by
 go_enter Tryz.func38,Tryz.ntmps38;go_wp2_with fail;refine(bu a b c d _).mono ?_;rintro e w1 ⟨rfl,hx⟩;have va:aJ w1 w.heap.size a b c d:=(aP w a b c d _).kept (by simp) hx;have hB:Below w.heap.size w w1:=ak (an _ _) hx;clear hx;cases hr:aD a b c d
 ·have HR:=yz (vJ hr);go_wp2_with fail;go_ret;exact⟨by rw[yy HR];rfl,hB⟩
 ·have HR:=yz (qd hr);have HI:=yz (bU.1 (bg.1 hr).1);clear hr;have hva:=va;obtain⟨c0,c1,c2,c3⟩:=va;have k0:=cell_regrown c0;have k1:=cell_regrown c1;have k2:=cell_regrown c2;have k3:=cell_regrown c3;have ca:=yz (fun W=>ke a W (yy HI).1);have cb:=yz (fun W=>ke b W (yy HI).2.1);have cc:=yz (fun W=>ke c W (yy HI).2.2.1);have cd:=yz (fun W=>ke d W (yy HI).2.2.2);have HT:Hid ((((((⟨(dig a).toArray⟩ ++ ⟨#[44]⟩) ++ ⟨(dig b).toArray⟩) ++ ⟨#[44]⟩) ++ ⟨(dig c).toArray⟩) ++ ⟨#[44]⟩) ++ ⟨(dig d).toArray⟩=(⟨(ft a b c d).toArray⟩:ByteArray)):=yz (by apply ByteArray.ext;simp[ft]);have l1:=iW a;have l2:=iW b;have l3:=iW c;have l4:=iW d;have e1:(⟨(dig a).toArray⟩:ByteArray).size=(dig a).length:=rfl;have e2:(⟨(dig b).toArray⟩:ByteArray).size=(dig b).length:=rfl;have e3:(⟨(dig c).toArray⟩:ByteArray).size=(dig c).length:=rfl;have e4:(⟨(dig d).toArray⟩:ByteArray).size=(dig d).length:=rfl;have e5:(⟨#[44]⟩:ByteArray).size=1:=rfl;generalize (⟨(dig a).toArray⟩:ByteArray)=sa at *;generalize (⟨(dig b).toArray⟩:ByteArray)=sb at *;generalize (⟨(dig c).toArray⟩:ByteArray)=sc at *;generalize (⟨(dig d).toArray⟩:ByteArray)=sd at *;have hk:sa.size≤2∧sb.size≤2∧sc.size≤2∧sd.size≤2:=by omega
  clear l1 l2 l3 l4 e1 e2 e3 e4;have z1:¬9223372036854775807<sa.size+1:=by omega
  have z2:¬9223372036854775807<sa.size+1+sb.size:=by omega
  have z3:¬9223372036854775807<sa.size+1+sb.size+1:=by omega
  have z4:¬9223372036854775807<sa.size+1+sb.size+1+sc.size:=by omega
  have z5:¬9223372036854775807<sa.size+1+sb.size+1+sc.size+1:=by omega
  have z6:¬9223372036854775807<sa.size+1+sb.size+1+sc.size+1+sd.size:=by omega
  have HU:Hid (cy a b c d=sa ++ (⟨#[44]⟩:ByteArray) ++ sb ++ (⟨#[44]⟩:ByteArray) ++ sc ++ (⟨#[44]⟩:ByteArray) ++ sd):=yz (by rw[yy HR,←yy HT]);clear hk e5 HT HR;go_wp2_with fail;refine dg ?_;repeat (quiet_step (with_reducible first | exact aO ca | exact aO cb | exact aO cc | exact aO cd))
  refine dv fun dq osq=>?_;clear c0 c1 c2 c3 k0 k1 k2 k3 ca cb cc cd z1 z2 z3 z4 z5 z6;go_wp2;go_ret;exact⟨by rw[yy HU];rfl,ak hB (below_regrown w1 dq osq)⟩
end
end Go.Proofs.YtdchjcadhlkpfaaGreatDoor
