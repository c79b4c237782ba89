/- Several texts in one: LkF. -/
import Derived.Test.YtdchjcadhlkpfaaGreatDoorD36
namespace Go.Proofs.YtdchjcadhlkpfaaGreatDoor
set_option linter.unusedVariables false
set_option linter.unusedSimpArgs false
set_option maxRecDepth 100000
set_option maxHeartbeats 8000000
section
open Go.Value renaming int → J
open Go.IntKind renaming i64 → Z
open Go.RowKit Go.Sort
theorem vE(L:List St)(S:List D3)(lim mode A B C D coast fr:Int)(ad:Option Addr)(c:Nat)(br:Option Addr)(dr:Nat)(w:World)(hn:L.length≤1048576)(hn2:S.length≤1048576)(hS:aZ w ad L L.length)(hD:dh w br S S.length)(hb:∀y,ad=some y→y.block<w.heap.size)(hB:∀y,br=some y→y.block<w.heap.size)(hdr:S.length≤dr)(hd9:dr≤9223372036854775807):
  Calls Tryz.prog 53 #[.agg #[.slice ad L.length c,J Z lim,J Z mode,J Z A,J Z B,J Z C,J Z D,J Z coast,J Z fr],.slice br S.length dr] w fun e w'=>pA w' w.heap.size (dP ⟨L,lim,mode,A,B,C,D,coast,fr⟩ S) (ei ⟨L,lim,mode,A,B,C,D,coast,fr⟩ S) e∧Below w.heap.size w w':=by
 have B0:=yz (aX w (.cells #[.slice ad L.length c,J Z lim,J Z mode,J Z A,J Z B,J Z C,J Z D,J Z coast,J Z fr] 45) (.cells #[.slice none 0 0,J Z 0,J Z 0,J Z 0,J Z 0,J Z 0,J Z 0,J Z 0,J Z 0,J Z 0] 47));have A0:=yz ((aq w [.slice ad L.length c,J Z lim,J Z mode,J Z A,J Z B,J Z C,J Z D,J Z coast,J Z fr] 45).alloc (.cells #[.slice none 0 0,J Z 0,J Z 0,J Z 0,J Z 0,J Z 0,J Z 0,J Z 0,J Z 0,J Z 0] 47));have R0:=yz (by simpa using aq (w.alloc (.cells #[.slice ad L.length c,J Z lim,J Z mode,J Z A,J Z B,J Z C,J Z D,J Z coast,J Z fr] 45)) [.slice none 0 0,J Z 0,J Z 0,J Z 0,J Z 0,J Z 0,J Z 0,J Z 0,J Z 0,J Z 0] 47:Blk ((w.alloc (.cells #[.slice ad L.length c,J Z lim,J Z mode,J Z A,J Z B,J Z C,J Z D,J Z coast,J Z fr] 45)).alloc (.cells #[.slice none 0 0,J Z 0,J Z 0,J Z 0,J Z 0,J Z 0,J Z 0,J Z 0,J Z 0,J Z 0] 47)) (w.heap.size+1) [.slice none 0 0,J Z 0,J Z 0,J Z 0,J Z 0,J Z 0,J Z 0,J Z 0,J Z 0,J Z 0] 47);have S0:=yz (hS.kept (yy B0));have D0:=yz (hD.kept (yy B0));have hl0:w.heap.size+1+1≤((w.alloc (.cells #[.slice ad L.length c,J Z lim,J Z mode,J Z A,J Z B,J Z C,J Z D,J Z coast,J Z fr] 45)).alloc (.cells #[.slice none 0 0,J Z 0,J Z 0,J Z 0,J Z 0,J Z 0,J Z 0,J Z 0,J Z 0,J Z 0] 47)).heap.size:=by simp
 clear hS hD;by_cases hbig:400<S.length
 ·have HO:=yz (xo (t:=⟨L,lim,mode,A,B,C,D,coast,fr⟩) hbig);have hb':(400:Int)<(S.length:Int):=by omega
  clear hbig;go_enter Tryz.func53,Tryz.ntmps53;go_wp2_with fail;refine(dZ 2 _).mono ?_;rintro e wz ⟨rfl,hx⟩;have Rz:=ap R0 hx;have Bz:=ax B0 hx;clear hx;have r0:=gC (yy Rz);have g0:=gD (yy Rz);go_wp2_with fail;clear r0 g0;refine bodyPost_ret (v:=.agg #[.slice none 0 0,J Z 0,J Z 0,J Z 0,J Z 0,J Z 0,J Z 0,J Z 0,J Z 0,J Z 2]) ?_ rfl ⟨?_,?_⟩
  ·exact jF _ _ (w.heap.size+1) _ 0 0 0 0 0 0 0 0 2 rfl (dM (bH (yy Rz) rfl _ 0 0 0 0 0 0 0 0 2))
  ·rw[(yy HO).1,(yy HO).2];exact ce _ _ _
  ·iterate 10 (refine aG ?_ (show w.heap.size≤w.heap.size+1 by omega) _ _)
   exact yy Bz
 have hb':¬(400:Int)<(S.length:Int):=by omega
 have cR:=yz (jn L lim mode A B C D coast fr ad c _ hn (yy S0));go_enter Tryz.func53,Tryz.ntmps53;go_wp2_with fail;refine(yy cR).mono ?_;rintro e w1 ⟨rfl,hx⟩;have A1:=ap A0 hx;have R1:=ap R0 hx;have S1:=ap S0 hx;have D1:=ap D0 hx;have B1:=ax B0 hx;have hl1:=hx.size;clear hx cR A0 R0 S0 D0 B0;cases hk:aH ⟨L,lim,mode,A,B,C,D,coast,fr⟩
 ·have HO:=yz (nt (t:=⟨L,lim,mode,A,B,C,D,coast,fr⟩) (S:=S) hbig (by rw[hk];rfl));clear hk;go_wp2_with fail;refine(dZ 1 _).mono ?_;rintro e wz ⟨rfl,hx⟩;have Rz:=ap R1 hx;have Bz:=ax B1 hx;clear hx;have r0:=gC (yy Rz);have g0:=gD (yy Rz);go_wp2_with fail;clear r0 g0;refine bodyPost_ret (v:=.agg #[.slice none 0 0,J Z 0,J Z 0,J Z 0,J Z 0,J Z 0,J Z 0,J Z 0,J Z 0,J Z 1]) ?_ rfl ⟨?_,?_⟩
  ·exact jF _ _ (w.heap.size+1) _ 0 0 0 0 0 0 0 0 1 rfl (dM (bH (yy Rz) rfl _ 0 0 0 0 0 0 0 0 1))
  ·rw[(yy HO).1,(yy HO).2];exact ce _ _ _
  ·iterate 10 (refine aG ?_ (show w.heap.size≤w.heap.size+1 by omega) _ _)
   exact yy Bz
 go_wp2_with fail;refine(iH S br dr _ hn2 (yy D1)).mono ?_;rintro e w2 ⟨rfl,hx⟩;have A2:=ap A1 hx;have R2:=ap R1 hx;have S2:=ap S1 hx;have D2:=ap D1 hx;have B2:=ax B1 hx;have hl2:=hx.size;clear hx A1 R1 S1 D1 B1;cases hp:ba S
 ·have HO:=yz (nt (t:=⟨L,lim,mode,A,B,C,D,coast,fr⟩) (S:=S) hbig (by rw[hp];simp));clear hk hp;go_wp2_with fail;refine(dZ 1 _).mono ?_;rintro e wz ⟨rfl,hx⟩;have Rz:=ap R2 hx;have Bz:=ax B2 hx;clear hx;have r0:=gC (yy Rz);have g0:=gD (yy Rz);go_wp2_with fail;clear r0 g0;refine bodyPost_ret (v:=.agg #[.slice none 0 0,J Z 0,J Z 0,J Z 0,J Z 0,J Z 0,J Z 0,J Z 0,J Z 0,J Z 1]) ?_ rfl ⟨?_,?_⟩
  ·exact jF _ _ (w.heap.size+1) _ 0 0 0 0 0 0 0 0 1 rfl (dM (bH (yy Rz) rfl _ 0 0 0 0 0 0 0 0 1))
  ·rw[(yy HO).1,(yy HO).2];exact ce _ _ _
  ·iterate 10 (refine aG ?_ (show w.heap.size≤w.heap.size+1 by omega) _ _)
   exact yy Bz
 obtain⟨hsk,hmd,hrt,hco,hfr⟩:=pn hk;dsimp only at hsk hmd hrt hco hfr;by_cases hf:fr=1000000
 ·have HO:=yz (tG (t:=⟨L,lim,mode,A,B,C,D,coast,fr⟩) (S:=S) hbig hk hp hf);have hf':(1000000:Int)≤fr:=by omega
  clear hk hp hsk hmd hrt hco hfr;have q0:=fR (yy A2);go_wp2_with fail;clear q0;refine(dZ 9 _).mono ?_;rintro e wz ⟨rfl,hx⟩;have Rz:=ap R2 hx;have Bz:=ax B2 hx;clear hx;have r0:=gC (yy Rz);have g0:=gD (yy Rz);go_wp2_with fail;clear r0 g0;refine bodyPost_ret (v:=.agg #[.slice none 0 0,J Z 0,J Z 0,J Z 0,J Z 0,J Z 0,J Z 0,J Z 0,J Z 0,J Z 9]) ?_ rfl ⟨?_,?_⟩
  ·exact jF _ _ (w.heap.size+1) _ 0 0 0 0 0 0 0 0 9 rfl (dM (bH (yy Rz) rfl _ 0 0 0 0 0 0 0 0 9))
  ·rw[(yy HO).1,(yy HO).2];exact ce _ _ _
  ·iterate 10 (refine aG ?_ (show w.heap.size≤w.heap.size+1 by omega) _ _)
   exact yy Bz
 have HO:=yz (xp (t:=⟨L,lim,mode,A,B,C,D,coast,fr⟩) (S:=S) hbig hk hp hf);have hf':¬(1000000:Int)≤fr:=by omega
 have cK:=yz (wY L S lim mode A B C D coast fr ad c br dr w2 hn hdr hd9 (yy S2) (yy D2) (fun y e=>by have:=hb y e;omega) (fun y e=>by have:=hB y e;omega) hsk hp hmd hrt hco.1 hco.2 hfr.1 hfr.2);obtain⟨lr,hlr⟩:∃z,dO ⟨L,lim,mode,A,B,C,D,coast,fr⟩ S=z:=⟨_,rfl⟩
 have HL:=yz (Af ⟨L,lim,mode,A,B,C,D,coast,fr⟩ S);rw[hlr]at HO HL cK;obtain⟨L2,lim2,mode2,A2',B2',C2,D2',coast2,fr2⟩:=lr;dsimp only at HL;clear hk hp hlr hsk hmd hrt hco hfr hf;have q0:=fR (yy A2);go_wp2_with fail;clear q0;refine(yy cK).mono ?_;rintro e w3 ⟨⟨a,cap,he,hC⟩,hx⟩;dsimp only at he hC;have hL3:L2=L:=yy HL;subst hL3;subst he;have C5:=yz (hC.low (B':=w.heap.size+1+1) (by omega));have R5:=ap R2 hx;have B5:=ax B2 hx;clear hx hC R2 B2 A2 S2 D2 cK;have r0:=gC (yy R5);have g0:=gD (yy R5);go_wp2_with fail;clear r0 g0;refine bodyPost_ret (v:=.agg #[.slice a L2.length cap,J Z lim2,J Z mode2,J Z A2',J Z B2',J Z C2,J Z D2',J Z coast2,J Z fr2,J Z 0]) ?_ rfl ⟨?_,?_⟩
 ·exact jF _ _ (w.heap.size+1) _ lim2 mode2 A2' B2' C2 D2' coast2 fr2 0 rfl (dM (bH (yy R5) rfl _ lim2 mode2 A2' B2' C2 D2' coast2 fr2 0))
 ·rw[(yy HO).1,(yy HO).2];refine⟨a,cap,rfl,?_⟩;refine aC.low (B:=w.heap.size+1+1) ?_ (by omega);iterate 10 (refine aC.far ?_ (Nat.lt_succ_self (w.heap.size+1)) _ _)
  exact yy C5
 ·iterate 10 (refine aG ?_ (show w.heap.size≤w.heap.size+1 by omega) _ _)
  exact yy B5
end
end Go.Proofs.YtdchjcadhlkpfaaGreatDoor
