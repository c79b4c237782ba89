/- Several texts in one: LkD. -/
import Derived.Test.YtdchjcadhlkpfaaGreatDoorD33
import Derived.Test.YtdchjcadhlkpfaaGreatDoorD34
namespace Go.Proofs.YtdchjcadhlkpfaaGreatDoor
set_option linter.unusedVariables false
set_option linter.unusedSimpArgs false
set_option maxRecDepth 100000
set_option maxHeartbeats 8000000
section
open Go.Value renaming int → J
open Go.IntKind renaming i64 → Z
open Go.RowKit Go.Sort
def dP(t:Tk)(S:List D3):Tk:=if 400<S.length then fO else if (aH t&&ba S)=true then (if t.fr=1000000 then fO else dO t S) else fO
def ei(t:Tk)(S:List D3):Int:=if 400<S.length then 2 else if (aH t&&ba S)=true then (if t.fr=1000000 then 9 else 0) else 1
theorem xo{t:Tk}{S:List D3}(h:400<S.length):dP t S=fO∧ei t S=2:=by unfold dP ei;rw[if_pos h,if_pos h];exact⟨rfl,rfl⟩
theorem nt{t:Tk}{S:List D3}(h:¬400<S.length)(h1:(aH t&&ba S)=false):dP t S=fO∧ei t S=1:=by unfold dP ei;rw[if_neg h,if_neg h,h1];exact⟨rfl,rfl⟩
theorem tG{t:Tk}{S:List D3}(h:¬400<S.length)(h1:aH t=true)(h2:ba S=true)(h3:t.fr=1000000):dP t S=fO∧ei t S=9:=by unfold dP ei;rw[if_neg h,if_neg h,h1,h2,if_pos h3,if_pos h3];exact⟨rfl,rfl⟩
theorem xp{t:Tk}{S:List D3}(h:¬400<S.length)(h1:aH t=true)(h2:ba S=true)(h3:t.fr≠1000000):dP t S=dO t S∧ei t S=0:=by unfold dP ei;rw[if_neg h,if_neg h,h1,h2,if_neg h3,if_neg h3];exact⟨rfl,rfl⟩
theorem El(t:Tk):(bt t).L=t.L:=by
 unfold bt;split
 ·rfl
 ·split<;>rfl
theorem Af(t:Tk)(S:List D3):(dO t S).L=t.L:=by
 unfold dO;split
 ·rfl
 ·split
  ·rfl
  ·rw[El]
theorem pn{t:Tk}(h:aH t=true):bc t.L=true∧(t.mode=0∨t.mode=1∨t.mode=2)∧(t.mode≠0→aD t.A t.B t.C t.D=true)∧(0≤t.coast∧t.coast≤5)∧(0≤t.fr∧t.fr≤1000000):=by
 unfold aH nj at h;simp only[Bool.and_eq_true]at h;obtain⟨⟨⟨hs,hl⟩,hf⟩,hm⟩:=h;rw[nO]at hl hf;unfold jd at hm;split at hm
 ·rename_i h0
  simp only[Bool.and_eq_true,decide_eq_true_eq]at hm;exact⟨hs,.inl h0,fun h=>absurd h0 h,by omega,hf⟩
 ·split at hm
  ·rename_i h0
   simp only[Bool.and_eq_true,decide_eq_true_eq]at hm;exact⟨hs,.inr (.inl h0),fun _=>hm.1,by omega,hf⟩
  ·split at hm
   ·rename_i h0
    simp only[Bool.and_eq_true,nO]at hm;exact⟨hs,.inr (.inr h0),fun _=>hm.1,by omega,hf⟩
   ·cases hm
variable {w:World}
theorem bH{b:Nat}{L:List Value}{t:TypeId}(h:Blk w b L t)(hl:L.length=10)(v:Value)(lim mode A B C D coast fr code:Int):Blk ((((((((((w.setCell ⟨b,0,none⟩ v).setCell ⟨b,1,none⟩ (J Z lim)).setCell ⟨b,2,none⟩ (J Z mode)).setCell ⟨b,3,none⟩ (J Z A)).setCell ⟨b,4,none⟩ (J Z B)).setCell ⟨b,5,none⟩ (J Z C)).setCell ⟨b,6,none⟩ (J Z D)).setCell ⟨b,7,none⟩ (J Z coast)).setCell ⟨b,8,none⟩ (J Z fr)).setCell ⟨b,9,none⟩ (J Z code)) b [v,J Z lim,J Z mode,J Z A,J Z B,J Z C,J Z D,J Z coast,J Z fr,J Z code] t:=by
 match L,hl with
 | [x0,x1,x2,x3,x4,x5,x6,x7,x8,x9],_=>exact(((((((((h.set 0 _).set 1 _).set 2 _).set 3 _).set 4 _).set 5 _).set 6 _).set 7 _).set 8 _).set 9 _
theorem dM{b:Nat}{t:TypeId}{v:Value}{lim mode A B C D coast fr code:Int}(h:Blk w b [v,J Z lim,J Z mode,J Z A,J Z B,J Z C,J Z D,J Z coast,J Z fr,J Z code] t):TkO w b v lim mode A B C D coast fr code:=⟨⟨h.cell 0 _ rfl,h.cell 1 _ rfl,h.cell 2 _ rfl,h.cell 3 _ rfl,h.cell 4 _ rfl,h.cell 5 _ rfl,h.cell 6 _ rfl,h.cell 7 _ rfl,h.cell 8 _ rfl⟩,h.cell 9 _ rfl⟩
theorem uC(L:List St)(S:List D3)(lim mode A B C D coast fr:Int)(ad:Option Addr)(c:Nat)(br:Option Addr)(dr:Nat)(p:Addr)(w:World)(hn:L.length≤1048576)(hn2:S.length≤1048576)(hS:aZ w ad L L.length)(hD:dh w br S S.length)(hb:∀y,ad=some y→y.block<w.heap.size)(hB:∀y,br=some y→y.block<w.heap.size)(hcap:L.length≤c)(hc9:c≤9223372036854775807)(hcap2:S.length≤dr)(hd9:dr≤9223372036854775807)(hE:bE p w):
  Calls Tryz.prog 136 #[.agg #[.slice ad L.length c,J Z lim,J Z mode,J Z A,J Z B,J Z C,J Z D,J Z coast,J Z fr],.slice br S.length dr] w fun e w'=>pA w' w.heap.size (dP ⟨L,lim,mode,A,B,C,D,coast,fr⟩ S) (ei ⟨L,lim,mode,A,B,C,D,coast,fr⟩ S) e∧Below w.heap.size w w':=by
 have B0:=yz (aX w (.cells #[.slice ad L.length c,J Z lim,J Z mode,J Z A,J Z B,J Z C,J Z D,J Z coast,J Z fr] 45) (.cells #[.slice none 0 0,J Z 0,J Z 0,J Z 0,J Z 0,J Z 0,J Z 0,J Z 0,J Z 0,J Z 0] 47));have A0:=yz ((aq w [.slice ad L.length c,J Z lim,J Z mode,J Z A,J Z B,J Z C,J Z D,J Z coast,J Z fr] 45).alloc (.cells #[.slice none 0 0,J Z 0,J Z 0,J Z 0,J Z 0,J Z 0,J Z 0,J Z 0,J Z 0,J Z 0] 47));have R0:=yz (by simpa using aq (w.alloc (.cells #[.slice ad L.length c,J Z lim,J Z mode,J Z A,J Z B,J Z C,J Z D,J Z coast,J Z fr] 45)) [.slice none 0 0,J Z 0,J Z 0,J Z 0,J Z 0,J Z 0,J Z 0,J Z 0,J Z 0,J Z 0] 47:Blk ((w.alloc (.cells #[.slice ad L.length c,J Z lim,J Z mode,J Z A,J Z B,J Z C,J Z D,J Z coast,J Z fr] 45)).alloc (.cells #[.slice none 0 0,J Z 0,J Z 0,J Z 0,J Z 0,J Z 0,J Z 0,J Z 0,J Z 0,J Z 0] 47)) (w.heap.size+1) [.slice none 0 0,J Z 0,J Z 0,J Z 0,J Z 0,J Z 0,J Z 0,J Z 0,J Z 0,J Z 0] 47);have S0:=yz (hS.kept (yy B0));have D0:=yz (hD.kept (yy B0));have E0:=yz (hE.kept (yy B0));have hl0:=(yy B0).size;have hB0:∀y,br=some y→y.block<(w.alloc (.cells #[.slice ad L.length c,J Z lim,J Z mode,J Z A,J Z B,J Z C,J Z D,J Z coast,J Z fr] 45)).heap.size+1:=fun y e=>by have:=hB y e;simp;omega
 clear hS hD hE hB0;by_cases hbig:400<S.length
 ·have HO:=yz (xo (t:=⟨L,lim,mode,A,B,C,D,coast,fr⟩) hbig);have hb':(400:Int)<(S.length:Int):=by omega
  clear hbig;go_enter Tryz.func136,Tryz.ntmps136;go_wp2;refine bodyPost_ret (v:=.agg #[.slice none 0 0,J Z 0,J Z 0,J Z 0,J Z 0,J Z 0,J Z 0,J Z 0,J Z 0,J Z 2]) (by simp[results,Tryz.results136,go_sem]) rfl ⟨?_,aX _ _ _⟩;rw[(yy HO).1,(yy HO).2];exact ce _ _ _
 have hb':¬(400:Int)<(S.length:Int):=by omega
 have cR:=yz (gO L lim mode A B C D coast fr ad c p _ hn hcap hc9 (yy S0) (yy E0));go_enter Tryz.func136,Tryz.ntmps136;go_wp2_with fail;refine(yy cR).mono ?_;rintro e w1 ⟨rfl,hx⟩;have A1:=ap A0 hx;have R1:=ap R0 hx;have S1:=ap S0 hx;have D1:=ap D0 hx;have E1:=ap E0 hx;have B1:=ax B0 hx;have hl1:=hx.size;clear hx cR A0 R0 S0 D0 E0 B0;cases hk:aH ⟨L,lim,mode,A,B,C,D,coast,fr⟩
 ·have HO:=yz (nt (t:=⟨L,lim,mode,A,B,C,D,coast,fr⟩) (S:=S) hbig (by rw[hk];rfl));clear hk;have r0:=gC (yy R1);have g0:=gD (yy R1);go_wp2_with fail;clear r0 g0;refine bodyPost_ret (v:=.agg #[.slice none 0 0,J Z 0,J Z 0,J Z 0,J Z 0,J Z 0,J Z 0,J Z 0,J Z 0,J Z 1]) ?_ rfl ⟨?_,?_⟩
  ·exact lB _ _ (w.heap.size+1) _ 0 0 0 0 0 0 0 0 1 rfl (dM (bH (yy R1) rfl _ 0 0 0 0 0 0 0 0 1))
  ·rw[(yy HO).1,(yy HO).2];exact ce _ _ _
  ·iterate 10 (refine aG ?_ (show w.heap.size≤w.heap.size+1 by omega) _ _)
   exact yy B1
 go_wp2_with fail;refine(gx S br dr _ hn2 hcap2 hd9 (yy D1)).mono ?_;rintro e w2 ⟨rfl,hx⟩;have A2:=ap A1 hx;have R2:=ap R1 hx;have S2:=ap S1 hx;have D2:=ap D1 hx;have E2:=ap E1 hx;have B2:=ax B1 hx;have hl2:=hx.size;clear hx A1 R1 S1 D1 E1 B1;cases hp:ba S
 ·have HO:=yz (nt (t:=⟨L,lim,mode,A,B,C,D,coast,fr⟩) (S:=S) hbig (by rw[hp];simp));clear hk hp;have r0:=gC (yy R2);have g0:=gD (yy R2);go_wp2_with fail;clear r0 g0;refine bodyPost_ret (v:=.agg #[.slice none 0 0,J Z 0,J Z 0,J Z 0,J Z 0,J Z 0,J Z 0,J Z 0,J Z 0,J Z 1]) ?_ rfl ⟨?_,?_⟩
  ·exact lB _ _ (w.heap.size+1) _ 0 0 0 0 0 0 0 0 1 rfl (dM (bH (yy R2) rfl _ 0 0 0 0 0 0 0 0 1))
  ·rw[(yy HO).1,(yy HO).2];exact ce _ _ _
  ·iterate 10 (refine aG ?_ (show w.heap.size≤w.heap.size+1 by omega) _ _)
   exact yy B2
 by_cases hf:fr=1000000
 ·have HO:=yz (tG (t:=⟨L,lim,mode,A,B,C,D,coast,fr⟩) (S:=S) hbig hk hp hf);clear hk hp;have q0:=fR (yy A2);have r0:=gC (yy R2);have g0:=gD (yy R2);go_wp2_with fail;clear r0 g0;refine bodyPost_ret (v:=.agg #[.slice none 0 0,J Z 0,J Z 0,J Z 0,J Z 0,J Z 0,J Z 0,J Z 0,J Z 0,J Z 9]) ?_ rfl ⟨?_,?_⟩
  ·exact lB _ _ (w.heap.size+1) _ 0 0 0 0 0 0 0 0 9 rfl (dM (bH (yy R2) rfl _ 0 0 0 0 0 0 0 0 9))
  ·rw[(yy HO).1,(yy HO).2];exact ce _ _ _
  ·iterate 10 (refine aG ?_ (show w.heap.size≤w.heap.size+1 by omega) _ _)
   exact yy B2
 have HO:=yz (xp (t:=⟨L,lim,mode,A,B,C,D,coast,fr⟩) (S:=S) hbig hk hp hf);have HL:=yz (Af ⟨L,lim,mode,A,B,C,D,coast,fr⟩ S);obtain⟨hsk,hmd,_,hco,hfr⟩:=pn hk;dsimp only at hsk hmd hco hfr;have cW:=yz (fun W h=>kr L lim mode A B C D coast fr ad c W hn h);have cA:=yz (fun (W:World) (a:Option Addr) (cap:Nat) h1 h2 h3 h4 h5 h6 h7=>uS L S lim mode A B C D coast fr a br cap dr p W hn h1 h2 hn2 hcap2 hd9 h3 h4 h5 h6 h7 hmd hco.1 hco.2 hfr.1 hfr.2);obtain⟨lr,hlr⟩:∃z,dO ⟨L,lim,mode,A,B,C,D,coast,fr⟩ S=z:=⟨_,rfl⟩
 rw[hlr]at HO HL cA;obtain⟨L2,lim2,mode2,A2',B2',C2,D2',coast2,fr2⟩:=lr;unfold tkV at cA;dsimp only at cA HL;clear hk hp hlr hsk hmd hco hfr;have q0:=fR (yy A2);go_wp2_with fail;clear q0;refine(yy cW _ (yy S2)).mono ?_;rintro e w3 ⟨a,cap,rfl,hC,hx⟩;have C3:=yz (hC.low (B':=w.heap.size+1+1) (by omega));have hcm:=hC.capMax;have hab:∀y,a=some y→y.block<w3.heap.size:=fun y e=>(hC.block y e).2;have R3:=ap R2 hx;have D3:=ap D2 hx;have E3:=ap E2 hx;have B3:=ax B2 hx;have hl3:=hx.size;clear hx hC A2 R2 S2 D2 E2 B2 cW;have hm8:maxLen≤9223372036854775807:=by decide +kernel
 go_wp2_with fail;refine(yy cA _ a cap hcm.1 (Nat.le_trans hcm.2 hm8) (yy C3).stars (yy D3) hab (fun y e=>by have:=hB y e;omega) (yy E3)).mono ?_;rintro e w4 ⟨rfl,hx⟩;have C4:=ap C3 hx;have R4:=ap R3 hx;have B4:=ax B3 hx;clear hx C3 R3 B3 D3 E3 cA;go_wp2_with fail;refine(nY lim2 mode2 A2' B2' C2 D2' coast2 fr2 a L.length cap _).mono ?_;rintro e w5 ⟨rfl,hx⟩;have C5:=ap C4 hx;have R5:=ap R4 hx;have B5:=ax B4 hx;clear hx C4 R4 B4;have r0:=gC (yy R5);have g0:=gD (yy R5);go_wp2_with fail;clear r0 g0;have hL2:L2=L:=yy HL;refine bodyPost_ret (v:=.agg #[.slice a L.length cap,J Z lim2,J Z mode2,J Z A2',J Z B2',J Z C2,J Z D2',J Z coast2,J Z fr2,J Z 0]) ?_ rfl ⟨?_,?_⟩
 ·exact lB _ _ (w.heap.size+1) _ lim2 mode2 A2' B2' C2 D2' coast2 fr2 0 rfl (dM (bH (yy R5) rfl _ lim2 mode2 A2' B2' C2 D2' coast2 fr2 0))
 ·rw[(yy HO).1,(yy HO).2];subst hL2;refine⟨a,cap,rfl,?_⟩;refine aC.low (B:=w.heap.size+1+1) ?_ (by omega);iterate 10 (refine aC.far ?_ (Nat.lt_succ_self (w.heap.size+1)) _ _)
  exact yy C5
 ·iterate 10 (refine aG ?_ (show w.heap.size≤w.heap.size+1 by omega) _ _)
  exact yy B5
end
end Go.Proofs.YtdchjcadhlkpfaaGreatDoor
