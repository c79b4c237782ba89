/- Several texts in one: BlD. -/
import Derived.Test.YteoonaanoenjiaaGreatDoorL32
namespace Go.Proofs.YteoonaanoenjiaaGreatDoor
set_option linter.unusedVariables false
set_option linter.unusedSimpArgs false
set_option maxRecDepth 100000
set_option maxHeartbeats 8000000
section
open Go.Value renaming int → J
open Go.IntKind renaming i64 → Z
open Go.RowKit Go.Sort
def eL(wd ht x y:Int):Bool:=decide (0≤x∧x<wd∧0≤y∧y<ht)
theorem Dh(wd ht:Int)(s:ByteArray)(x y:Int)(w:World):
  Calls Tryz.prog 208 #[.agg #[J Z wd,J Z ht,.string s],.agg #[J Z x,J Z y]] w fun e w'=>e=.returned (.bool (eL wd ht x y))∧Below w.heap.size w w':=by
 by_cases h1:0≤x
 case neg=>
  have HV:Hid (eL wd ht x y=false):=yz (decide_eq_false (by omega));go_enter Tryz.func208,Tryz.ntmps208;go_wp2_with fail;go_ret;exact⟨by rw[yx HV];rfl,aF _ _ _⟩
 by_cases h2:x<wd
 case neg=>
  have HV:Hid (eL wd ht x y=false):=yz (decide_eq_false (by omega));go_enter Tryz.func208,Tryz.ntmps208;go_wp2_with fail;go_ret;exact⟨by rw[yx HV];rfl,aF _ _ _⟩
 by_cases h3:0≤y
 case neg=>
  have HV:Hid (eL wd ht x y=false):=yz (decide_eq_false (by omega));go_enter Tryz.func208,Tryz.ntmps208;go_wp2_with fail;go_ret;exact⟨by rw[yx HV];rfl,aF _ _ _⟩
 have HV:Hid (eL wd ht x y=decide (y<ht)):=yz (by unfold eL;simp[h1,h2,h3]);go_enter Tryz.func208,Tryz.ntmps208;go_wp2_with fail;go_ret;exact⟨by rw[yx HV];rfl,aF _ _ _⟩
theorem uQ(wd ht:Nat)(s:ByteArray)(x y:Nat)(w:World)(hw:wd≤16)(hh:ht≤12)(hs:s.size=wd*ht)(hx:x<wd)(hy:y<ht):
  Calls Tryz.prog 209 #[.agg #[J Z wd,J Z ht,.string s],.agg #[J Z x,J Z y]] w fun e w'=>e=.returned (J Z (dc s (y*wd+x):Nat))∧Below w.heap.size w w':=by
 have hi:y*wd+x<s.size:=by
  rw[hs];have:=Nat.mul_le_mul_left wd (show y+1≤ht by omega);rw[Nat.mul_add,Nat.mul_one,Nat.mul_comm wd y]at this;omega
 obtain⟨i,hie⟩:∃i,i=y*wd+x:=⟨_,rfl⟩
 obtain⟨m,hme⟩:∃m,m=y*wd:=⟨_,rfl⟩
 have hm:(y:Int)*(wd:Int)=(m:Int):=by rw[hme];exact(Int.natCast_mul _ _).symm
 have hmi:(m:Int)+(x:Int)=(i:Int):=by omega
 have hmb:m≤192:=by rw[hme];have:=Nat.mul_le_mul (show y≤12 by omega) hw;omega
 rw[←hie]at hi ⊢;have hi2:(i:Int)<(s.size:Int):=by omega
 have hi0:(0:Int)≤(i:Int):=by omega
 have HB:=yz (dX hi);have hwn:wrap64 (s[i].toNat:Int)=((dc s i:Nat):Int):=by rw[dX hi];exact aq (by omega) (by have:=s[i].toNat_lt;omega)
 have HWN:=yz hwn;clear hie hme hs hwn;go_enter Tryz.func209,Tryz.ntmps209;go_wp2_with fail;go_ret;exact⟨by rw[←yx HWN];rfl,aF _ _ _⟩
def kI(wd ht x y:Int):Bool:=decide (x=0) || decide (x=wd-1) || decide (y=0) || decide (y=ht-1)
theorem zI(wd ht:Int)(s:ByteArray)(x y:Int)(w:World)(h1:1≤wd)(h2:wd≤16)(h3:1≤ht)(h4:ht≤12):
  Calls Tryz.prog 220 #[.agg #[J Z wd,J Z ht,.string s],.agg #[J Z x,J Z y]] w fun e w'=>e=.returned (.bool (kI wd ht x y))∧Below w.heap.size w w':=by
 by_cases k1:x=0
 ·have kb:(x==0)=true:=by simp[k1]
  have HV:Hid (kI wd ht x y=true):=yz (by unfold kI;simp[k1]);clear k1;go_enter Tryz.func220,Tryz.ntmps220;go_wp2_with fail;go_ret;exact⟨by rw[yx HV];rfl,aF _ _ _⟩
 have kb1:(x==0)=false:=by simp[k1]
 by_cases k2:x=wd-1
 ·have kb:(x==wd-1)=true:=by simp[k2]
  have HV:Hid (kI wd ht x y=true):=yz (by unfold kI;simp[k2]);clear k2;go_enter Tryz.func220,Tryz.ntmps220;go_wp2_with fail;go_ret;exact⟨by rw[yx HV];rfl,aF _ _ _⟩
 have kb2:(x==wd-1)=false:=by simp[k2]
 by_cases k3:y=0
 ·have kb:(y==0)=true:=by simp[k3]
  have HV:Hid (kI wd ht x y=true):=yz (by unfold kI;simp[k3]);clear k3;go_enter Tryz.func220,Tryz.ntmps220;go_wp2_with fail;go_ret;exact⟨by rw[yx HV];rfl,aF _ _ _⟩
 have kb3:(y==0)=false:=by simp[k3]
 have HV:Hid (kI wd ht x y=decide (y=ht-1)):=yz (by unfold kI;simp[k1,k2,k3]);go_enter Tryz.func220,Tryz.ntmps220;go_wp2_with fail;go_ret;exact⟨by rw[yx HV];rfl,aF _ _ _⟩
theorem zM(x y:Nat)(w:World)(hx:x≤16)(hy:y≤12):
  Calls Tryz.prog 221 #[.agg #[J Z x,J Z y]] w fun e w'=>e=.returned (.agg #[J Z ((x:Int)-1),J Z y,J Z ((x:Int)+1),J Z y,J Z x,J Z ((y:Int)-1),J Z x,J Z ((y:Int)+1)])∧Below w.heap.size w w':=by
 go_enter Tryz.func221,Tryz.ntmps221;go_wp2_with fail;exact bodyPost_ret (v:=.agg #[J Z ((x:Int)-1),J Z y,J Z ((x:Int)+1),J Z y,J Z x,J Z ((y:Int)-1),J Z x,J Z ((y:Int)+1)]) (by simp[results,Tryz.results221,go_sem]) rfl ⟨rfl,aF _ _ _⟩
def cg(w:World)(tb wd ht:Nat)(T:Nat→Bool):Prop:=∃g:Nat→Bool,bI w 282 tb 192 (fun j=>.bool (g j))∧∀x y,x<wd→y<ht→g (y*16+x)=T (y*wd+x)
variable {tb:Nat} {T:Nat→Bool} {w:World}
theorem cg.kept{w':World}{wd ht:Nat}(h:cg w tb wd ht T)(hB:Below w.heap.size w w'):cg w' tb wd ht T:=by
 obtain⟨g,hr,hg⟩:=h;exact⟨g,hr.kept hB,hg⟩
theorem cg.drewn{wd ht:Nat}(h:cg w tb wd ht T):cg w.drew tb wd ht T:=by
 obtain⟨g,hr,hg⟩:=h;exact⟨g,hr.drewn,hg⟩
theorem cg.lt{wd ht:Nat}(h:cg w tb wd ht T):tb<w.heap.size:=by
 obtain⟨g,hr,hg⟩:=h;exact hr.lt
theorem BP{wd x y x' y':Nat}(hx:x<wd)(hx':x'<wd)(h:y*wd+x=y'*wd+x'):x=x'∧y=y':=by
 have e1:(y*wd+x) % wd=x:=by rw[Nat.mul_comm,Nat.mul_add_mod];exact Nat.mod_eq_of_lt hx
 have e2:(y'*wd+x') % wd=x':=by rw[Nat.mul_comm,Nat.mul_add_mod];exact Nat.mod_eq_of_lt hx'
 have hxx:x=x':=by rw[←e1,h,e2]
 refine⟨hxx,?_⟩;have:y*wd=y'*wd:=by omega
 exact Nat.eq_of_mul_eq_mul_right (by omega) this
theorem cg.set{wd ht:Nat}(h:cg w tb wd ht T)(hw:wd≤16){x y:Nat}(hx:x<wd)(hy:y<ht):cg (w.setCell ⟨tb,y*16+x,none⟩ (.bool true)) tb wd ht (mark T (y*wd+x)):=by
 obtain⟨g,hr,hg⟩:=h;refine⟨fun j=>if j=y*16+x then true else g j,(hr.set (y*16+x) (.bool true)).congr (fun j _=>by by_cases e:j=y*16+x<;>simp[e]),fun x' y' hx' hy'=>?_⟩;unfold mark;by_cases e:y'*16+x'=y*16+x
 ·obtain⟨e1,e2⟩:=BP (wd:=16) (by omega) (by omega) e;subst e1 e2;simp
 ·have e':¬y'*wd+x'=y*wd+x:=fun h=>by
   obtain⟨e1,e2⟩:=BP hx' hx h;subst e1 e2;exact e rfl
  simp only[if_neg e,if_neg e'];exact hg x' y' hx' hy'
def GQ(w:World)(fb:Nat)(wd ht:Int)(s:ByteArray):Prop:=Blk w fb [J Z wd,J Z ht,.string s] 43
theorem zr(x y tb wd ht:Nat)(T:Nat→Bool)(w:World)(hw:wd≤16)(hh:ht≤12)(hx:x<wd)(hy:y<ht)(hT:cg w tb wd ht T):
  Calls Tryz.prog 210 #[.agg #[J Z x,J Z y],.pointer (some ⟨tb,0,none⟩)] w fun e w'=>e=.returned (.tuple #[])∧cg w' tb wd ht (mark T (y*wd+x))∧w.grownBy w' (some tb):=by
 have A0:=ap w [J Z x,J Z y] 284;have B0:=ak w (.cells #[J Z x,J Z y] 284);have T0:=hT.kept B0;have lt:=hT.lt;have hx1:(x:Int)<16:=by omega
 have hy1:(y:Int)<12:=by omega
 go_enter Tryz.func210,Tryz.ntmps210;go_wp2_with fail;generalize w.alloc (.cells #[J Z (x:Int),J Z (y:Int)] 284)=W0 at A0 B0 T0 ⊢;have c0:=A0.cell 0 _ rfl;have c1:=A0.cell 1 _ rfl;obtain⟨g,hr,hg⟩:=T0;have d0:=hr.cell (j:=y*16+x) (by omega);have df:=hr.free (y*16+x);have HT2:=yz (cg.set (T:=T) ⟨g,hr,hg⟩ hw hx hy);have HG2:Hid (w.grownBy (W0.setCell ⟨tb,y*16+x,none⟩ (.bool true)) (some tb)):=yz (Ho (⟨B0.os,B0.tape,B0.output,B0.size,fun k hk _=>B0.block k hk⟩:w.grownBy W0 (some tb)) _ _);clear hr hg B0 A0;go_region
 go_wp2_with fail;go_end0
 exact⟨rfl,cg.drewn (yx HT2),⟨(yx HG2).os,(yx HG2).tape,(yx HG2).output,(yx HG2).size,(yx HG2).block⟩⟩
def tR(wd ht:Nat)(s:ByteArray)(lv:Int)(T:Nat→Bool)(x y:Int):Bool:=eL wd ht x y&&kQ (ic wd ht s lv) T (y.toNat*wd+x.toNat)
theorem nG(x y:Int)(fb lb tb wd ht:Nat)(s:ByteArray)(lv:Int)(T:Nat→Bool)(w:World)(hw:wd≤16)(hh:ht≤12)(hs:s.size=wd*ht)(hF:GQ w fb wd ht s)(hL:Blk w lb [J Z lv] 2)(hT:cg w tb wd ht T):
  Calls Tryz.prog 207 #[.agg #[J Z x,J Z y],.pointer (some ⟨fb,0,none⟩),.pointer (some ⟨lb,0,none⟩),.pointer (some ⟨tb,0,none⟩)] w fun e w'=>e=.returned (.bool (tR wd ht s lv T x y))∧Below w.heap.size w w':=by
 have A0:=ap w [J Z x,J Z y] 284;have B0:=ak w (.cells #[J Z x,J Z y] 284);have F0:=Blk.kept hF B0;have L0:=Blk.kept hL B0;have T0:=hT.kept B0;go_enter Tryz.func207,Tryz.ntmps207;go_wp2_with fail;generalize w.alloc (.cells #[J Z x,J Z y] 284)=W0 at A0 B0 F0 L0 T0 ⊢;clear hF hL hT;have c0:=cell_regrown (A0.cell 0 _ rfl);have c1:=cell_regrown (A0.cell 1 _ rfl);have f0:=cell_regrown (F0.cell 0 _ rfl);have f1:=cell_regrown (F0.cell 1 _ rfl);have f2:=cell_regrown (F0.cell 2 _ rfl);have l0:=cell_regrown (L0.cell 0 _ rfl);have cH:=yz (fun W=>Dh wd ht s x y W);cases hb:eL wd ht x y
 ·rw[hb]at cH;have HV:Hid (tR wd ht s lv T x y=false):=yz (by unfold tR;rw[hb];rfl);clear hb;refine bQ ?_;repeat (go_big_quiet_step (with_reducible first | exact aC cH))
  refine bW fun dq osq=>?_;have hx:=aj B0 (below_regrown W0 dq osq);go_wp2_with fail;go_ret;exact⟨by rw[yx HV];rfl,hx⟩
 ·rw[hb]at cH;obtain⟨h1,h2,h3,h4⟩:=of_decide_eq_true hb;obtain⟨xn,hxn⟩:=Int.eq_ofNat_of_zero_le h1;obtain⟨yn,hyn⟩:=Int.eq_ofNat_of_zero_le h3;subst hxn hyn;have HV:Hid (tR wd ht s lv T xn yn=kQ (ic wd ht s lv) T (yn*wd+xn)):=yz (by unfold tR;rw[hb];rfl);clear hb;have cL:=yz (fun W=>uQ wd ht s xn yn W hw hh hs (by omega) (by omega));obtain⟨g,hr,hg⟩:=T0;have d0:=hr.cell (j:=yn*16+xn) (by omega);have hgt:=hg xn yn (by omega) (by omega);have q0:=cell_regrown d0;have HLP:Hid (kQ (ic wd ht s lv) T (yn*wd+xn)=(decide (lv<((dc s (yn*wd+xn):Nat):Int)) && !g (yn*16+xn))):=yz (by rw[hgt];rfl);clear hr hg hgt d0;generalize kQ (ic wd ht s lv) T (yn*wd+xn)=lit at *;generalize g (yn*16+xn)=t at *;generalize dc s (yn*wd+xn)=bn at *;have hx1:(xn:Int)<16:=by omega
  have hy1:(yn:Int)<12:=by omega
  by_cases hlt:lv<(bn:Int)
  ·have hd:decide (lv<(bn:Int))=true:=decide_eq_true hlt;have HV2:Hid (tR wd ht s lv T xn yn = !t):=yz (by rw[yx HV,yx HLP,hd,Bool.true_and]);refine bQ ?_;repeat (go_big_quiet_step (with_reducible first | exact aC cH | exact aC cL))
   refine bW fun dq osq=>?_;have hx:=aj B0 (below_regrown W0 dq osq);go_wp2_with fail;go_ret;exact⟨by rw[yx HV2];rfl,hx⟩
  ·have hd:decide (lv<(bn:Int))=false:=decide_eq_false hlt;have HV2:Hid (tR wd ht s lv T xn yn=false):=yz (by rw[yx HV,yx HLP,hd,Bool.false_and]);refine bQ ?_;repeat (go_big_quiet_step (with_reducible first | exact aC cH | exact aC cL))
   refine bW fun dq osq=>?_;have hx:=aj B0 (below_regrown W0 dq osq);go_wp2_with fail;go_ret;exact⟨by rw[yx HV2];rfl,hx⟩
end
end Go.Proofs.YteoonaanoenjiaaGreatDoor
