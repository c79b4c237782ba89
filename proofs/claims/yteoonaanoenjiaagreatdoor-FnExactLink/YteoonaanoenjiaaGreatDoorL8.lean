/- Several texts in one: TurnF. -/
import Derived.Test.YteoonaanoenjiaaGreatDoorL3
namespace Go.Proofs.YteoonaanoenjiaaGreatDoor
set_option linter.unusedVariables false
set_option linter.unusedSimpArgs false
set_option maxRecDepth 100000
set_option maxHeartbeats 8000000
section
open Go.Value renaming int → J
open Go.IntKind renaming i64 → Z
open Go.RowKit Go.Sort
variable {a b c d x y z:Int}
theorem Bt(h:apR a b c d x y z=false):Value.agg #[J Z (apI (apR a b c d x y z) (apX a b c d x y z)),J Z (apI (apR a b c d x y z) (apY a b c d x y z)),J Z (apI (apR a b c d x y z) (apZ a b c d x y z))]=Value.agg #[J Z 0,J Z 0,J Z 0]:=by
 rw[h];rfl
theorem GT(h:apR a b c d x y z=true):Value.agg #[J Z (apI (apR a b c d x y z) (apX a b c d x y z)),J Z (apI (apR a b c d x y z) (apY a b c d x y z)),J Z (apI (apR a b c d x y z) (apZ a b c d x y z))]=Value.agg #[J Z (apX a b c d x y z),J Z (apY a b c d x y z),J Z (apZ a b c d x y z)]:=by
 rw[h];rfl
theorem qT(h:cy x y z=true):aM 1800 x y z=true:=by unfold cy at h;rw[Bool.and_eq_true]at h;exact h.2
theorem ws(a b c d x y z:Int)(w:World)(ht:inT 5 a b c d=true)(hv:aM 1800 x y z=true):
  Calls Tryz.prog 176 #[.agg #[J Z a,J Z b,J Z c,J Z d],.agg #[J Z x,J Z y,J Z z]] w fun e w'=>e=.returned (.agg #[J Z (apX a b c d x y z),J Z (apY a b c d x y z),J Z (apZ a b c d x y z)])∧Below w.heap.size w w':=by
 have HX:=yz (IB ht hv);have HY:=yz (IC ht hv);have HZ:=yz (ID ht hv);clear ht hv;go_enter Tryz.func176,Tryz.ntmps176;go_wp2;rw[yx HX,yx HY,yx HZ];exact bodyPost_ret (v:=.agg #[J Z (apX a b c d x y z),J Z (apY a b c d x y z),J Z (apZ a b c d x y z)]) (by simp[results,Tryz.results176,go_sem]) rfl ⟨rfl,bq _ _ _ _⟩
theorem CD(a b c d x y z:Int)(w:World):
  Calls Tryz.prog 200 #[.agg #[J Z a,J Z b,J Z c,J Z d],.agg #[J Z x,J Z y,J Z z]] w fun e w'=>e=.returned (.agg #[J Z (apI (apR a b c d x y z) (apX a b c d x y z)),J Z (apI (apR a b c d x y z) (apY a b c d x y z)),J Z (apI (apR a b c d x y z) (apZ a b c d x y z))])∧Below w.heap.size w w':=by
 go_enter Tryz.func200,Tryz.ntmps200;go_wp2_with fail;refine(bO a b c d _).mono ?_;rintro e w1 ⟨rfl,hx⟩;have va:bd w1 w.heap.size a b c d:=(((bh w a b c d _).alloc _).alloc _).kept (by simp;omega) hx;have vv:aD w1 (w.heap.size+1) x y z:=((by simpa using aG (w.alloc _) x y z _:aD _ (w.heap.size+1) x y z).alloc (by simp) _).kept (by simp) hx;have vr:aD w1 (w.heap.size+1+1) 0 0 0:=(by simpa using aG ((w.alloc _).alloc _) 0 0 0 _:aD _ (w.heap.size+1+1) 0 0 0).kept (by simp) hx;have fr:dE w1 (w.heap.size+1+1):=(by simpa using em ((w.alloc _).alloc _) 0 0 0 _:dE _ (w.heap.size+1+1)).kept (by simp) hx;have hs:w.heap.size+2<w1.heap.size:=by have:=hx.size;simp at this;omega
 have hB:Below w.heap.size w w1:=aj (bq _ _ _ _) hx;clear hx;cases h1:aE a b c d
 ·have HR:=yz (Bt (a:=a) (b:=b) (c:=c) (d:=d) (x:=x) (y:=y) (z:=z) (by rw[apR,h1];rfl));obtain⟨cr0,cr1,cr2⟩:=vr;obtain⟨fr0,fr1,fr2⟩:=fr;go_wp2_with fail;exact bodyPost_ret (v:=.agg #[J Z 0,J Z 0,J Z 0]) (by simp[results,Tryz.results200,go_sem,cr0,cr1,cr2]) rfl ⟨by rw[yx HR],bT hB (by omega) _ _ _⟩
 ·have wa:=va;have wv:=vv;obtain⟨ca0,ca1,ca2,ca3⟩:=wa;obtain⟨cv0,cv1,cv2⟩:=wv;go_wp2_with fail;clear ca0 ca1 ca2 ca3 cv0 cv1 cv2;refine(iR x y z _).mono ?_;rintro e w2 ⟨rfl,hx⟩;replace va:=va.kept (by omega) hx;replace vv:=vv.kept (by omega) hx;replace vr:=vr.kept (by omega) hx;replace fr:=fr.kept (by omega) hx;replace hB:=aj hB hx;replace hs:w.heap.size+2<w2.heap.size:=by have:=hx.size;omega
  clear hx;cases h2:cy x y z
  ·have HR:=yz (Bt (a:=a) (b:=b) (c:=c) (d:=d) (x:=x) (y:=y) (z:=z) (by rw[apR,h1,h2];rfl));obtain⟨cr0,cr1,cr2⟩:=vr;obtain⟨fr0,fr1,fr2⟩:=fr;go_wp2_with fail;exact bodyPost_ret (v:=.agg #[J Z 0,J Z 0,J Z 0]) (by simp[results,Tryz.results200,go_sem,cr0,cr1,cr2]) rfl ⟨by rw[yx HR],bT hB (by omega) _ _ _⟩
  ·have wa:=va;have wv:=vv;obtain⟨ca0,ca1,ca2,ca3⟩:=wa;obtain⟨cv0,cv1,cv2⟩:=wv;have HR:=yz (GT (a:=a) (b:=b) (c:=c) (d:=d) (x:=x) (y:=y) (z:=z) (by rw[apR,h1,h2];rfl));have HX:=yz (IB (du.1 h1).1 (qT h2));have HY:=yz (IC (du.1 h1).1 (qT h2));have HZ:=yz (ID (du.1 h1).1 (qT h2));obtain⟨cr0,cr1,cr2⟩:=vr;obtain⟨fr0,fr1,fr2⟩:=fr;clear va vv h1 h2;go_wp2;go_quiet (fail)
   go_wp2;go_quiet (fail)
   go_wp2;go_quiet (fail)
   go_wp2;rw[yx HX,yx HY,yx HZ];exact bodyPost_ret (v:=.agg #[J Z (apX a b c d x y z),J Z (apY a b c d x y z),J Z (apZ a b c d x y z)]) (by simp[results,Tryz.results200,go_sem,cr0,cr1,cr2]) rfl ⟨by rw[yx HR],bT (aj hB (dy _ _)) (by omega) _ _ _⟩
end
end Go.Proofs.YteoonaanoenjiaaGreatDoor
